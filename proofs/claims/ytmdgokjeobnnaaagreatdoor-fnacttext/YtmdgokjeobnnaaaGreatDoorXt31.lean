/- Part 31 of what the proof rests on. No condition but those that a theorem names. -/
import Derived.Test.YtmdgokjeobnnaaaGreatDoorXt18
import Derived.Test.YtmdgokjeobnnaaaGreatDoorXt19
import Derived.Test.YtmdgokjeobnnaaaGreatDoorXt28
import Derived.Test.YtmdgokjeobnnaaaGreatDoorXt29
import Derived.Test.YtmdgokjeobnnaaaGreatDoorXt30
set_option maxHeartbeats 8000000
set_option maxRecDepth 100000
namespace Go.Proofs.YtmdgokjeobnnaaaGreatDoor
open Go.ChangeShapes Go.WideShapes Go.ChangeAt Go.RowKit Go.Sort Go.Proofs.Tryz
set_option linter.unusedVariables false
set_option linter.unusedSimpArgs false
set_option maxRecDepth 100000
structure Hp (w W:World) (a0 a1 a2 a3 a4:Option Addr) (p0 p1 p2 p3 p4:Nat) (m:Z7) (k who a b:Int):Prop where
 v:Smy W (.slice a0 m.rm.length p0) (.slice a1 m.gd.length p1) (.slice a2 m.sm.length p2) (.slice a3 m.dk.length p3) (.slice a4 m.pc.length p4) m
 s:Blk W w.heap.size 40 (S6 a0 p0 a1 p1 a2 p2 a3 p3 a4 p4 m)
 t:Blk W (w.heap.size+1) 25 #[.int .i64 k,.int .i64 who,.int .i64 a,.int .i64 b]
 r:Blk W (w.heap.size+1+1) 40 E6
 y:Below w.heap.size w W
theorem Hp.next {w W W':World} {a0 a1 a2 a3 a4:Option Addr} {p0 p1 p2 p3 p4:Nat} {m:Z7} {k who a b:Int} (h:Hid (Hp w W a0 a1 a2 a3 a4 p0 p1 p2 p3 p4 m k who a b)) (hb:Below W.heap.size W W'):Hid (Hp w W' a0 a1 a2 a3 a4 p0 p1 p2 p3 p4 m k who a b):=
 Z9 ⟨(uh h).v.below hb,(uh h).s.below hb (uh h).s.lt,(uh h).t.below hb (uh h).t.lt,(uh h).r.below hb (uh h).r.lt,(uh h).y.trans (hb.mono (uh h).y.size)⟩
theorem Hp.new {w:World} {a0 a1 a2 a3 a4:Option Addr} {p0 p1 p2 p3 p4:Nat} {m:Z7} (k who a b:Int) (h:Smy w (.slice a0 m.rm.length p0) (.slice a1 m.gd.length p1) (.slice a2 m.sm.length p2) (.slice a3 m.dk.length p3) (.slice a4 m.pc.length p4) m):∃ W,((w.alloc (.cells (S6 a0 p0 a1 p1 a2 p2 a3 p3 a4 p4 m) 40)).alloc (.cells #[.int .i64 k,.int .i64 who,.int .i64 a,.int .i64 b] 25)).alloc (.cells E6 40)=W/\Hid (Hp w W a0 a1 a2 a3 a4 p0 p1 p2 p3 p4 m k who a b):=by
 have BB:=(((Z2 w.heap.size w).alloc (Z3 _) (.cells (S6 a0 p0 a1 p1 a2 p2 a3 p3 a4 p4 m) 40)).alloc (by simp) (.cells #[.int .i64 k,.int .i64 who,.int .i64 a,.int .i64 b] 25)).alloc (by simp;omega) (.cells E6 40);have k1:=(Blk.new (w.alloc (.cells (S6 a0 p0 a1 p1 a2 p2 a3 p3 a4 p4 m) 40)) 25 #[.int .i64 k,.int .i64 who,.int .i64 a,.int .i64 b]).alloc (.cells E6 40);have k2:=Blk.new ((w.alloc (.cells (S6 a0 p0 a1 p1 a2 p2 a3 p3 a4 p4 m) 40)).alloc (.cells #[.int .i64 k,.int .i64 who,.int .i64 a,.int .i64 b] 25)) 40 E6;rw [XX] at k1;rw [XX,XX] at k2;exact ⟨_,rfl,Z9 ⟨h.below BB,((Blk.new w _ _).alloc _).alloc _,k1,k2,BB⟩⟩
theorem GQ {w:World} {v0 v1 v2 v3 v4:Value} {m:Z7} (h:Smy w v0 v1 v2 v3 v4 m):Calls prog 102 #[.agg #[v0,v1,v2,v3,v4,.int .i64 m.now]] w fun e w'=>UF w.heap.size XG 3 e w'/\Below w.heap.size w w':=by
 refine ck (Qs h) fun w2 hb=> ?_;exact ⟨⟨_,_,_,_,_,[],rfl,TN _ _⟩,hb⟩
theorem Iq {w:World} {v0 v1 v2 v3 v4:Value} {m:Z7} (h:Smy w v0 v1 v2 v3 v4 m) (hok:ZJ m=true):Calls prog 117 #[.agg #[v0,v1,v2,v3,v4,.int .i64 m.now]] w fun e w'=>GN w.heap.size m e w'/\Below w.heap.size w w':=by
 refine (XU h (OK (ZI hok))).mono ?_;rintro e w2 ⟨y0,y1,y2,y3,y4,oq,rfl,ho,hb⟩;exact ⟨⟨_,_,_,_,_,oq,rfl,ho⟩,hb⟩
theorem gm {f:Nat} {args:Array Value} {w:World} {n:Nat} {X:Z7 × Int} {M:Z7} {cd:Int} (h:Calls prog f args w fun e w'=>UF n X.1 X.2 e w'/\Below n w w') (he:X=(M,cd)):Calls prog f args w fun e w'=>UF n M cd e w'/\Below n w w':=by subst he;exact h
theorem gl {f:Nat} {args:Array Value} {w:World} {n:Nat} {X M:Z7} (h:Calls prog f args w fun e w'=>GN n X e w'/\Below n w w') (he:X=M):Calls prog f args w fun e w'=>GN n M e w'/\Below n w w':=by subst he;exact h
theorem LC {m:Z7} (hok:ZJ m=false) (k who a b:Int):ZD m k who a b=(XG,3):=by unfold ZD;rw [hok];rfl
theorem QY {w:World} {v0 v1 v2 v3 v4:Value} {m:Z7} (k who a b:Int) (h:Smy w v0 v1 v2 v3 v4 m) :
  Calls prog 78 #[.agg #[v0,v1,v2,v3,v4,.int .i64 m.now],.agg #[.int .i64 k,.int .i64 who,.int .i64 a,.int .i64 b]] w fun e w'=>UF w.heap.size (ZD m k who a b).1 (ZD m k who a b).2 e w'/\Below w.heap.size w w':=by
 obtain ⟨Y,hY⟩:=ZE (ZD m k who a b);rw [hY];obtain ⟨M,cd⟩:=Y;have HY:=Z9 hY;have Hv:=Z9 h;obtain ⟨q,hq⟩:=ZE (ZJ m);have Hq:=Z9 hq;obtain ⟨a0,p0,a1,p1,a2,p2,a3,p3,a4,p4,rfl,rfl,rfl,rfl,rfl,_,_,_,_,_,_,_,_,_,_⟩:=h.five;clear h hY hq;go_enter func78,ntmps78;go_wp2_with fail;obtain ⟨W,hW,H⟩:=Hp.new k who a b (uh Hv);rw [hW];clear hW Hv;refine ck (Tv (uh Hq) (uh H).v) fun w1 hb=> ?_;replace H:=Hp.next H hb;clear hb;have hn:q=false\/(q=true/\(k<1\/14<k))\/(q=true/\(k=1\/k=2\/k=3\/k=4\/k=5\/k=6\/k=7\/k=8\/k=9\/k=10\/k=11\/k=12\/k=13\/k=14)):=by cases q<;>simp;omega
 rcases hn with rfl | ⟨rfl,hk⟩ | ⟨rfl,rfl | rfl | rfl | rfl | rfl | rfl | rfl | rfl | rfl | rfl | rfl | rfl | rfl | rfl⟩
 rotate_left;have Hk:=Z9 hk;have hne:∀ j:Int,1<=j->j<=14->(k ==j)=false/\decide (k=j)=false:=fun j _ _=>⟨beq_eq_false_iff_ne.mpr (by have:=uh Hk;omega),Ya (by have:=uh Hk;omega)⟩
 obtain ⟨n1,m1⟩:=hne 1 (by decide) (by decide);obtain ⟨n2,m2⟩:=hne 2 (by decide) (by decide);obtain ⟨n3,m3⟩:=hne 3 (by decide) (by decide);obtain ⟨n4,m4⟩:=hne 4 (by decide) (by decide);obtain ⟨n5,m5⟩:=hne 5 (by decide) (by decide);obtain ⟨n6,m6⟩:=hne 6 (by decide) (by decide);obtain ⟨n7,m7⟩:=hne 7 (by decide) (by decide);obtain ⟨n8,m8⟩:=hne 8 (by decide) (by decide);obtain ⟨n9,m9⟩:=hne 9 (by decide) (by decide);obtain ⟨n10,m10⟩:=hne 10 (by decide) (by decide);obtain ⟨n11,m11⟩:=hne 11 (by decide) (by decide);obtain ⟨n12,m12⟩:=hne 12 (by decide) (by decide);obtain ⟨n13,m13⟩:=hne 13 (by decide) (by decide);obtain ⟨n14,m14⟩:=hne 14 (by decide) (by decide);obtain ⟨hM,hC⟩:=Prod.mk.inj ((RT (uh Hq) (uh Hk) who a b).symm.trans (uh HY));have HM:=Z9 hM;have HC:=Z9 hC.symm;clear hne hM hC hk;rotate_left 13;obtain ⟨hM,hC⟩:=Prod.mk.inj ((Nn (uh Hq) who a b).symm.trans (uh HY));have HM:=Z9 hM;have HC:=Z9 hC.symm;clear hM hC
 all_goals
  obtain ⟨c0,c1,c2,c3,c4,c5⟩:=(uh H).s.c6;have d0:=(uh H).t.cell (i:=0) rfl;have d1:=(uh H).t.cell (i:=1) rfl;have d2:=(uh H).t.cell (i:=2) rfl;have d3:=(uh H).t.cell (i:=3) rfl;go_wp2_with fail;clear c0 c1 c2 c3 c4 c5 d0 d1 d2 d3
  first
  | refine (gl (Iq (uh H).v (uh Hq)) (uh HM)).mono ?_
  | refine (gl (SB (uh H).v) (uh HM)).mono ?_
  | refine (gm (GQ (uh H).v) ((LC (uh Hq) k who a b).symm.trans (uh HY))).mono ?_
  | refine (gm (O2 a b (-1) (uh H).v) ((K0 (uh Hq) who a b).symm.trans (uh HY))).mono ?_
  | refine (gm (O3 who (uh H).v) ((K6 (uh Hq) who a b).symm.trans (uh HY))).mono ?_
  | refine (gm (O4 who (uh H).v) ((K7 (uh Hq) who a b).symm.trans (uh HY))).mono ?_
  | refine (gm (PZ who (uh H).v) ((K8 (uh Hq) who a b).symm.trans (uh HY))).mono ?_
  | refine (gm (Q9 who a (uh H).v) ((La (uh Hq) who a b).symm.trans (uh HY))).mono ?_
  | refine (gm (RA who a (uh H).v) ((Lb (uh Hq) who a b).symm.trans (uh HY))).mono ?_
  | refine (gm (RD who a b (uh H).v) ((Lc (uh Hq) who a b).symm.trans (uh HY))).mono ?_
  | refine (gm (QX a (uh H).v) ((Ld (uh Hq) who a b).symm.trans (uh HY))).mono ?_
  | refine (gm (Q7 a (uh H).v) ((Le (uh Hq) who a b).symm.trans (uh HY))).mono ?_
  | refine (gm (Rc a (uh H).v) ((Nk (uh Hq) who a b).symm.trans (uh HY))).mono ?_
  | refine (gm (RC a b (uh H).v) ((Nl (uh Hq) who a b).symm.trans (uh HY))).mono ?_
  | refine (gm (X:=(Lt m,0)) (LL (uh H).v (uh Hq)) ((Nm (uh Hq) who a b).symm.trans (uh HY))).mono ?_
  | refine (gm (Nx who a (uh H).v (uh Hq)) ((Np (uh Hq) who a b).symm.trans (uh HY))).mono ?_
  rintro e w2 ⟨⟨y0,y1,y2,y3,y4,oq,rfl,ho⟩,hb⟩;have k9:=ho.smy;obtain ⟨b0,q0,b1,q1,b2,q2,b3,q3,b4,q4,rfl,rfl,rfl,rfl,rfl,_,_,_,_,_,_,_,_,_,_⟩:=k9.five;have HO:=Z9 (ho.mono (show w.heap.size+3<=w1.heap.size by have:=(uh H).r.lt;omega));clear ho k9;replace H:=Hp.next H hb;clear hb;have o0:=(uh H).r.cell (i:=0) rfl;have f0:=(uh H).r.free 0;have o1:=(uh H).r.cell (i:=1) rfl;have f1:=(uh H).r.free 1;have o2:=(uh H).r.cell (i:=2) rfl;have f2:=(uh H).r.free 2;have o3:=(uh H).r.cell (i:=3) rfl;have f3:=(uh H).r.free 3;have o4:=(uh H).r.cell (i:=4) rfl;have f4:=(uh H).r.free 4;have o5:=(uh H).r.cell (i:=5) rfl;have f5:=(uh H).r.free 5;go_wp2_with fail
  (try have hC:=uh HC)
  refine Zz (v:= .tuple #[.agg (S6 b0 q0 b1 q1 b2 q2 b3 q3 b4 q4 M),.int .i64 cd]) (by simp [results,results78,go_sem, *]) rfl ⟨⟨_,_,_,_,_,oq,rfl,?_⟩,?_⟩
  ·refine FullSmy.mono (n₀:=w.heap.size+3) ?_ (by omega)
   iterate 6 (refine FullSmy.set ?_ _ _ _ (by omega))
   exact uh HO
  ·iterate 6 (refine YU ?_ (by show _<=w.heap.size+1+1;omega) _)
   exact (uh H).y
open Draw (St Off Row Cur)
set_option maxRecDepth 100000
structure Dbox (a:Option Addr) (len cap bc n₁:Nat) (w0 w:World) (M:Z7) (u0 u1 u2 u3 u4:Value) (rq:List (Z5 × Value)):Prop where
 st:St a len cap bc w
 off:Off bc w0 w
 ok:ZJ M=true
 full:FullSmy n₁ w u0 u1 u2 u3 u4 M rq
 lo:bc<n₁
 hi:n₁<=w0.heap.size
 kb:Blk w w0.heap.size 40 #[u0,u1,u2,u3,u4,.int .i64 M.now]
 kr:Blk w (w0.heap.size+1) 40 E6
 own:∀ k,WE u0 u1 u2 u3 u4 rq k->k ≠ w0.heap.size/\k ≠ w0.heap.size+1
 bl:bc<w0.heap.size
section
variable {a : Option Addr} {len cap bc n₁ : Nat} {w0 w w' : World} {M : Z7} {u0 u1 u2 u3 u4 : Value} {rq : List (Z5 × Value)}
theorem Dbox.step (h:Dbox a len cap bc n₁ w0 w M u0 u1 u2 u3 u4 rq) (hs:St a len cap bc w') (ho:Off bc w w'):Dbox a len cap bc n₁ w0 w' M u0 u1 u2 u3 u4 rq:=
 have hb:=h.bl
 ⟨hs,h.off.trans ho,h.ok,h.full.away ho h.lo,h.lo,h.hi,h.kb.away ho (by omega),h.kr.away ho (by omega),h.own,h.bl⟩
theorem Dbox.below (h:Dbox a len cap bc n₁ w0 w M u0 u1 u2 u3 u4 rq) (hb:Below w.heap.size w w'):Dbox a len cap bc n₁ w0 w' M u0 u1 u2 u3 u4 rq:=
 h.step (YY h.st (hb.mono (Xs h.st))) (TK hb)
theorem Dbox.put (h:Dbox a len cap bc n₁ w0 w M u0 u1 u2 u3 u4 rq) {n:Nat} {z0 z1 z2 z3 z4:Value} {M1:Z7} {zq:List (Z5 × Value)} (hf:FullSmy n w z0 z1 z2 z3 z4 M1 zq) (hn:w0.heap.size+2<=n) (hok:ZJ M1=true) :
  Dbox a len cap bc n₁ w0 ((((((w.setCell ⟨w0.heap.size,0,none⟩ z0).setCell ⟨w0.heap.size,1,none⟩ z1).setCell ⟨w0.heap.size,2,none⟩ z2).setCell ⟨w0.heap.size,3,none⟩ z3).setCell ⟨w0.heap.size,4,none⟩ z4).setCell ⟨w0.heap.size,5,none⟩ (.int .i64 M1.now)) M1 z0 z1 z2 z3 z4 zq:=by
 have hb:=h.bl;have hown:∀ k,WE z0 z1 z2 z3 z4 zq k->k ≠ w0.heap.size/\k ≠ w0.heap.size+1:=fun k e=>by have:=(hf.own e).1;omega
 have hh:=h.hi;refine ⟨?_,?_,hok,?_,h.lo,h.hi,?_,?_,hown,h.bl⟩
 ·iterate 6 (refine St.newer ?_ hb _ _)
  exact h.st
 ·iterate 6 (refine Off.newer ?_ (Z3 _) _ _)
  exact h.off
 ·iterate 6 (refine FullSmy.set_off ?_ (fun k e=>(hown k e).1) _ _)
  exact hf.mono (by omega)
 ·exact (((((h.kb.set 0 z0).set 1 z1).set 2 z2).set 3 z3).set 4 z4).set 5 _
 ·iterate 6 (refine Blk.other ?_ (by show w0.heap.size+1 ≠ w0.heap.size;omega) _)
  exact h.kr
end
theorem JD (a:Option Addr) (len cap bc:Nat) {w:World} {n₁:Nat} {v0 v1 v2 v3 v4:Value} {m:Z7} {qs:List (Z5 × Value)} (hs:St a len cap bc w) (hf:FullSmy n₁ w v0 v1 v2 v3 v4 m qs) (hn:bc<n₁) (hn2:n₁<=w.heap.size) (hok:ZJ m=true) (most:Int) (h0:0<most) (h1:most<=1000) :
  Calls prog 57 #[.pointer (some ⟨bc,0,none⟩),.agg #[v0,v1,v2,v3,v4,.int .i64 m.now],.int .i64 most] w fun e w'=> ∃ M u0 u1 u2 u3 u4 rq,e= .returned (.agg #[u0,u1,u2,u3,u4,.int .i64 M.now])/\ZJ M=true/\FullSmy n₁ w' u0 u1 u2 u3 u4 M rq/\St a len cap bc w'/\Off bc w w':=by
 have Hs:=Z9 hs;have HF:=Z9 hf;have hbc:=Xs hs;have h:=hf.smy;obtain ⟨a0,p0,a1,p1,a2,p2,a3,p3,a4,p4,rfl,rfl,rfl,rfl,rfl,_,_,_,_,_,_,_,_,_,_⟩:=h.five;clear h hs hf;have Hok:=Z9 hok;clear hok
 have D0:Hid (Dbox a len cap bc n₁ w ((w.alloc (.cells (S6 a0 p0 a1 p1 a2 p2 a3 p3 a4 p4 m) 40)).alloc (.cells E6 40)) m (.slice a0 m.rm.length p0) (.slice a1 m.gd.length p1) (.slice a2 m.sm.length p2) (.slice a3 m.dk.length p3) (.slice a4 m.pc.length p4) qs):=Z9 ⟨((uh Hs).alloc _).alloc _,((Off.refl _ _).alloc _).alloc _,uh Hok,(((uh HF).below ((ba _ _))).below ((ba _ _))),hn,hn2,(Blk.new w _ _).alloc _,by
  have k:=Blk.new (w.alloc (.cells (S6 a0 p0 a1 p1 a2 p2 a3 p3 a4 p4 m) 40)) 40 E6;rw [XX] at k
  exact k,fun k e=>by have:=((uh HF).own e).2;omega,hbc⟩
 clear Hs HF Hok;go_enter func57,ntmps57;go_wp2_with fail;generalize (w.alloc (.cells (S6 a0 p0 a1 p1 a2 p2 a3 p3 a4 p4 m) 40)).alloc (.cells E6 40)=W at *;refine (Draw.below_any a len cap bc most h0 (by omega) _ (uh D0).st).mono ?_;rintro e w1 ⟨y,rfl,y0,y1,s9,p9⟩;replace D0:=Z9 ((uh D0).step s9 p9);clear s9 p9;go_wp2_with fail
 go_loopw [7] (fun i wr=> ∃ (k:Nat) (M:Z7) (u0 u1 u2 u3 u4:Value) (rq:List (Z5 × Value)),k<=1000/\i= .int .i64 k/\Dbox a len cap bc n₁ w wr M (u0) (u1) (u2) (u3) (u4) rq) (fun i _=>(intOf i).toNat)
 case atStart=>exact ⟨y.toNat,m,_,_,_,_,_,qs,by omega,by rw [show ((y.toNat:Nat):Int)=y by omega],uh D0⟩
 case round=>
  obtain ⟨k,M,u0,u1,u2,u3,u4,rq,hk1,rfl,hD⟩:=hrel;have h:=hD.full.smy;obtain ⟨b0,q0,b1,q1,b2,q2,b3,q3,b4,q4,rfl,rfl,rfl,rfl,rfl,_,_,_,_,_,_,_,_,_,_⟩:=h.five;have HD:=Z9 hD;clear h hD D0;by_cases hk0:0<k
  ·
   have hlo:=ZI (uh HD).ok;have g2:=YF hlo;have g3':=WY hlo;have g3:1<=M.dk.length:=by obtain ⟨j,hj,_⟩:=hlo.openD;omega
   have g4:1<=M.pc.length:=Sr hlo
   have g4':M.pc.length<=3:=by
    rw [Xc hlo];have hd:=hlo.head;unfold YI at hd;simp only [ZR,YV] at hd;exact (Zo hd.1).2.1
   have g1:M.gd.length<=6:=by
    have hd:=hlo.head;unfold YI at hd;simp only [ZR,YV] at hd;exact (Xg hd.2.1).2
   have G1:=Z9 g1;have G2:=Z9 g2;have G3:=Z9 g3;have G3':=Z9 g3';have G4:=Z9 g4;have G4':=Z9 g4';clear hlo g1 g2 g3 g3' g4 g4';obtain ⟨c0,c1,c2,c3,c4,c5⟩:=(uh HD).kb.c6;go_wp2_with fail
   go_region_with (first
    | (go_at_call 31;refine (RQ a len cap bc _ _ _ _ _ _ _ _ _ _ _ _ _ _ _ _ (uh G1) (uh G2) (uh G3) (uh G3') (uh G4) (uh G4') _ ?_).mono ?_;exact Tm (uh HD).st;rintro e w5 ⟨kk,who,aa,bb,rfl,_,s9,p9⟩;have HD5:=Z9 ((uh HD).step s9 (Uk p9));have y0:=(uh HD5).kb.cell (i:=0) (v:= .slice b0 M.rm.length q0) rfl;have y1:=(uh HD5).kb.cell (i:=1) (v:= .slice b1 M.gd.length q1) rfl;have y2:=(uh HD5).kb.cell (i:=2) (v:= .slice b2 M.sm.length q2) rfl;have y3:=(uh HD5).kb.cell (i:=3) (v:= .slice b3 M.dk.length q3) rfl;have y4:=(uh HD5).kb.cell (i:=4) (v:= .slice b4 M.pc.length q4) rfl;have y5:=(uh HD5).kb.cell (i:=5) (v:= .int .i64 M.now) rfl;clear s9 p9)
    | (go_at_call 78;go_loud (refine (QY kk who aa bb ?_).mono ?_;exact (uh HD5).full.smy;have hright:=OO (uh HD5).ok kk who aa bb;generalize ZD M kk who aa bb=Y at *;obtain ⟨M1,cd⟩:=Y;rintro e w6 ⟨⟨z0,z1,z2,z3,z4,zq,rfl,ho⟩,hb⟩;dsimp only at ho hright ⊢;have k6:=ho.smy;obtain ⟨d0,r0,rfl,_,_⟩:=IsRooms.shape k6.rm;obtain ⟨d1,r1,rfl,_,_⟩:=IsRec.shape k6.gd;obtain ⟨d2,r2,rfl,_,_⟩:=IsRec.shape k6.sm;obtain ⟨d3,r3,rfl,_,_⟩:=IsRec.shape k6.dk;obtain ⟨d4,r4,rfl,_,_⟩:=IsRec.shape k6.pc;have hz5:w.heap.size+2<=w5.heap.size:=(by have:=(uh HD5).kr.lt;omega);have HP:=Z9 (((uh HD5).below hb).put ho hz5 hright);have D6:=Z9 ((uh HD5).below hb);have o0:=(uh D6).kb.cell (i:=0) (v:= .slice b0 M.rm.length q0) rfl;have f0:=(uh D6).kb.free 0;have o1:=(uh D6).kb.cell (i:=1) (v:= .slice b1 M.gd.length q1) rfl;have f1:=(uh D6).kb.free 1;have o2:=(uh D6).kb.cell (i:=2) (v:= .slice b2 M.sm.length q2) rfl;have f2:=(uh D6).kb.free 2;have o3:=(uh D6).kb.cell (i:=3) (v:= .slice b3 M.dk.length q3) rfl;have f3:=(uh D6).kb.free 3;have o4:=(uh D6).kb.cell (i:=4) (v:= .slice b4 M.pc.length q4) rfl;have f4:=(uh D6).kb.free 4;have o5:=(uh D6).kb.cell (i:=5) (v:= .int .i64 M.now) rfl;have f5:=(uh D6).kb.free 5;clear ho hb k6 hright)))
   all_goals
    go_wp2_with fail;go_roundw
    case rel=>exact ⟨k-1,_,_,_,_,_,_,_,by omega,by rw [show ((k:Int)-1)=((k-1:Nat):Int) by omega],by first | exact uh HP | exact (uh HP).below (Z2 _ _).drew⟩
    case measure=>exact ms
  ·
   obtain rfl:k=0:=by omega
   have c0:=(uh HD).kb.cell (i:=0) (v:= .slice b0 M.rm.length q0) rfl;have o0:=(uh HD).kr.cell (i:=0) (v:= .slice none 0 0) rfl;have f0:=(uh HD).kr.free 0;have c1:=(uh HD).kb.cell (i:=1) (v:= .slice b1 M.gd.length q1) rfl;have o1:=(uh HD).kr.cell (i:=1) (v:= .slice none 0 0) rfl;have f1:=(uh HD).kr.free 1;have c2:=(uh HD).kb.cell (i:=2) (v:= .slice b2 M.sm.length q2) rfl;have o2:=(uh HD).kr.cell (i:=2) (v:= .slice none 0 0) rfl;have f2:=(uh HD).kr.free 2;have c3:=(uh HD).kb.cell (i:=3) (v:= .slice b3 M.dk.length q3) rfl;have o3:=(uh HD).kr.cell (i:=3) (v:= .slice none 0 0) rfl;have f3:=(uh HD).kr.free 3;have c4:=(uh HD).kb.cell (i:=4) (v:= .slice b4 M.pc.length q4) rfl;have o4:=(uh HD).kr.cell (i:=4) (v:= .slice none 0 0) rfl;have f4:=(uh HD).kr.free 4;have c5:=(uh HD).kb.cell (i:=5) (v:= .int .i64 M.now) rfl;have o5:=(uh HD).kr.cell (i:=5) (v:= .int .i64 0) rfl;have f5:=(uh HD).kr.free 5;go_wp2_with fail;refine Zz (v:= .agg (S6 b0 q0 b1 q1 b2 q2 b3 q3 b4 q4 M)) (by simp [results,results57,go_sem, *]) rfl ⟨M,_,_,_,_,_,rq,rfl,(uh HD).ok,?_,?_,?_⟩
   ·iterate 6 (refine FullSmy.set_off ?_ (fun k e=>((uh HD).own k e).2) _ _)
    exact (uh HD).full
   ·iterate 6 (refine St.newer ?_ (by omega) _ _)
    exact (uh HD).st
   ·iterate 6 (refine Off.newer ?_ (by omega) _ _)
    exact (uh HD).off
end Go.Proofs.YtmdgokjeobnnaaaGreatDoor
namespace Go.Proofs.YtmdgokjeobnnaaaGreatDoor
open Go.ChangeShapes Go.WideShapes Go.ChangeAt Go.RowKit Go.Sort Go.Proofs.Tryz
open Draw (St Off Row Cur)
set_option linter.unusedVariables false
set_option linter.unusedSimpArgs false
set_option maxRecDepth 100000
theorem FullSmy.newG {n₀ bc B:Nat} {w w':World} {v0 v1 v2 v3 v4 g:Value} {m:Z7} {qs:List (Z5 × Value)} {gs:List Zy} (h:FullSmy n₀ w v0 v1 v2 v3 v4 m qs) (ho:Off bc w w') (hb:bc<n₀) (hg:GuildsAt B w' g gs) (hB:w.heap.size<=B) (hn:n₀<=B):FullSmy n₀ w' v0 g v2 v3 v4 { m with gd:=gs } qs:=by
 have h':=h.away ho hb;have hgb:∀ b,g.ownBlock=some b->w.heap.size<=b:=fun b e=>XA hB (RecAt.lt hg e).1;have hol:∀ b,WE v0 v1 v2 v3 v4 qs b->b<w.heap.size:=fun b e=>(h.own e).2;refine ⟨h'.hall,h'.rm,RecAt.mono hg hn,h'.sm,h'.dk,h'.pc,⟨fun b e e'=> ?_,fun q hq b e e'=> ?_⟩,h'.h2,h'.h3,h'.h4,fun b e e'=> ?_,fun b e e'=> ?_,fun b e e'=> ?_,h'.a23,h'.a24,h'.a34⟩
 ·have:=hgb b e;have:=hol b (.inl e');omega
 ·have:=hgb b e;have:=hol b (.inr (.inl ⟨q,hq,e'⟩));omega
 ·have:=hgb b e;have:=hol b (.inr (.inr (.inr (.inl e'))));omega
 ·have:=hgb b e;have:=hol b (.inr (.inr (.inr (.inr (.inl e')))));omega
 ·have:=hgb b e;have:=hol b (.inr (.inr (.inr (.inr (.inr e')))));omega
theorem Nu (a:Option Addr) (len cap bc:Nat) (w:World) (hs:St a len cap bc w) :
  Calls prog 39 #[.pointer (some ⟨bc,0,none⟩)] w fun e w'=> ∃ M u0 u1 u2 u3 u4 rq,e= .returned (.agg #[u0,u1,u2,u3,u4,.int .i64 M.now])/\ZJ M=true/\FullSmy (w.heap.size+1) w' u0 u1 u2 u3 u4 M rq/\St a len cap bc w'/\Off bc w w':=by
 have Hs:=Z9 hs;have hbc:=Xs hs;clear hs;go_enter func39,ntmps39;go_wp2_with fail;have kr:Hid (Blk (w.alloc (.cells E6 40)) w.heap.size 40 E6):=Z9 (Blk.new _ _ _);have HO:Hid (Off bc w (w.alloc (.cells E6 40))):=Z9 ((Off.refl _ _).alloc _);replace Hs:Hid (St a len cap bc (w.alloc (.cells E6 40))):=Z9 ((uh Hs).alloc _);have hzW:w.heap.size+1<=(w.alloc (.cells E6 40)).heap.size:=by simp
 generalize w.alloc (.cells E6 40)=W at *;refine (LQ a len cap bc _ (uh Hs)).mono ?_;rintro e w1 ⟨v,qs,rfl,hh,hown,s9,p9⟩;have HI:=Z9 hown.rm;have Hh:=Z9 hh;replace kr:=Z9 ((uh kr).away p9 (by omega));replace HO:=Z9 ((uh HO).trans p9);replace Hs:=Z9 s9;have hz1:w.heap.size+1<=w1.heap.size:=XA hzW p9.size;obtain ⟨ha,hc,rfl⟩:=hown.shape;clear hh hown s9 p9 hzW;obtain ⟨rs,hrs⟩:=ZE (qs.map (·.1));have hrl:qs.length=rs.length:=by rw [<-hrs];simp
 rw [hrs] at HI Hh;rw [hrl] at HI ⊢;clear hrs hrl;go_wp2_with fail;refine (Tk (uh HI)).mono ?_;rw [show J7 rs=VF rs by unfold J7;rw [uh Hh];rfl];rintro e w2 ⟨⟨z0,z1,z2,z3,z4,zq,rfl,ho⟩,hb⟩;have k6:=ho.smy;obtain ⟨d0,r0,d1,r1,d2,r2,d3,r3,d4,r4,rfl,rfl,rfl,rfl,rfl,_,_,_,_,_,_,_,_,_,_⟩:=k6.five;have HN:=Z9 (ho.mono hz1);have LN:Hid (∀ k,WE (.slice d0 (VF rs).rm.length r0) (.slice d1 (VF rs).gd.length r1) (.slice d2 (VF rs).sm.length r2) (.slice d3 (VF rs).dk.length r3) (.slice d4 (VF rs).pc.length r4) zq k->k<w2.heap.size):=Z9 (fun k e=>(ho.own e).2);have Hr:=Z9 (fun gs hg=>NI (rs:=rs) gs (uh Hh) hg);replace kr:=bl kr hb;replace HO:=Z9 ((uh HO).trans (TK hb));replace Hs:=Z9 (YY (uh Hs) (hb.mono (Xs (uh Hs))));have hz2:w.heap.size+1<=w2.heap.size:=XA hz1 hb.size;clear ho hb k6 HI Hh;generalize VF rs=N at *;go_upto_region 2 with fail;obtain ⟨W2,hW2,hb,km⟩:=YW w2 40 (S6 d0 r0 d1 r1 d2 r2 d3 r3 d4 r4 N);replace kr:=bl kr hb;replace HO:=Z9 ((uh HO).trans (TK hb));replace Hs:=Z9 (YY (uh Hs) (hb.mono (Xs (uh Hs))));replace HN:=Z9 ((uh HN).below hb);clear hb;rw [hW2];clear hW2;generalize w2.heap.size=mb at *;go_wp2_with fail;refine (OR a len cap bc _ (uh Hs)).mono ?_;rintro e w3 ⟨gv,gs,rfl,hgs,hG⟩;have hmw:=(uh km).lt;have HG:=Z9 ((uh HN).newG hG.off (by omega) hG.row (Z3 _) (by omega));have LG:Hid (∀ k,gv.ownBlock=some k->mb<k):=Z9 (fun k e=>by have:=(RecAt.lt hG.row e).1;omega);replace kr:=Z9 ((uh kr).away hG.off (by omega));replace km:=Z9 ((uh km).away hG.off (by omega));replace HO:=Z9 ((uh HO).trans hG.off);replace Hs:=Z9 hG.st;obtain ⟨ga,gc,rfl⟩:=RecAt.shape hG.row;have hok:=uh Hr gs hgs;have Hok:=Z9 hok;clear hG hgs hmw HN Hr hok;have x1:=(uh km).cell (i:=1) (v:= .slice d1 N.gd.length r1) rfl;have f1:=(uh km).free 1;go_upto_region 3 with fail;clear x1 f1
 have hofm:∀ k,WE (.slice d0 N.rm.length r0) (.slice ga gs.length gc) (.slice d2 N.sm.length r2) (.slice d3 N.dk.length r3) (.slice d4 N.pc.length r4) zq k->k ≠ mb:=fun k e=>by
  rcases e with e | e | e | e | e | e
  ·have:=uh LN k (.inl e);omega
  ·have:=uh LN k (.inr (.inl e));omega
  ·have:=uh LG k e;omega
  ·have:=uh LN k (.inr (.inr (.inr (.inl e))));omega
  ·have:=uh LN k (.inr (.inr (.inr (.inr (.inl e)))));omega
  ·have:=uh LN k (.inr (.inr (.inr (.inr (.inr e)))));omega
 replace HG:Hid (FullSmy (w.heap.size+1) (w3.setCell ⟨mb,1,none⟩ (.slice ga gs.length gc)) (.slice d0 N.rm.length r0) (.slice ga gs.length gc) (.slice d2 N.sm.length r2) (.slice d3 N.dk.length r3) (.slice d4 N.pc.length r4) { N with gd:=gs } zq):=Z9 ((uh HG).set_off hofm _ _);replace km:Hid (Blk (w3.setCell ⟨mb,1,none⟩ (.slice ga gs.length gc)) mb 40 #[.slice d0 N.rm.length r0,.slice ga gs.length gc,.slice d2 N.sm.length r2,.slice d3 N.dk.length r3,.slice d4 N.pc.length r4,.int .i64 N.now]):=Z9 ((uh km).set 1 _);replace kr:Hid (Blk (w3.setCell ⟨mb,1,none⟩ (.slice ga gs.length gc)) w.heap.size 40 E6):=Z9 ((uh kr).other (a:=⟨mb,1,none⟩) (by show w.heap.size ≠ mb;omega) _);replace HO:Hid (Off bc w (w3.setCell ⟨mb,1,none⟩ (.slice ga gs.length gc))):=Z9 (Off.newer (uh HO) (by omega) _ _);replace Hs:Hid (St a len cap bc (w3.setCell ⟨mb,1,none⟩ (.slice ga gs.length gc))):=Z9 (St.newer (uh Hs) (by omega) _ _);clear LN LG hofm;generalize w3.setCell ⟨mb,1,none⟩ (.slice ga gs.length gc)=W3 at *;obtain ⟨x0,x1,x2,x3,x4,x5⟩:=(uh km).c6;have hz3:w.heap.size+1<=W3.heap.size:=by have:=(uh kr).lt;omega
 go_wp2_with fail;clear x0 x1 x2 x3 x4 x5;refine (JD a len cap bc (m:={ N with gd:=gs }) (uh Hs) (uh HG) (by omega) hz3 (uh Hok) 40 (by omega) (by omega)).mono ?_;rintro e w4 ⟨M,u0,u1,u2,u3,u4,rq,rfl,ok4,hf4,s9,p9⟩;have k6:=hf4.smy;obtain ⟨b0,q0,b1,q1,b2,q2,b3,q3,b4,q4,rfl,rfl,rfl,rfl,rfl,_,_,_,_,_,_,_,_,_,_⟩:=k6.five;have HF:=Z9 hf4;have Hok4:=Z9 ok4;replace kr:=Z9 ((uh kr).away p9 (by omega));replace HO:=Z9 ((uh HO).trans p9);replace Hs:=Z9 s9;clear hf4 ok4 s9 p9 k6 HG km Hok;obtain ⟨o0,o1,o2,o3,o4,o5⟩:=(uh kr).c6;obtain ⟨f0,f1,f2,f3,f4,f5⟩:=(uh kr).f6;go_wp2_with fail;refine Zz (v:= .agg (S6 b0 q0 b1 q1 b2 q2 b3 q3 b4 q4 M)) (by simp [results,results39,go_sem, *]) rfl ⟨M,_,_,_,_,_,rq,rfl,uh Hok4,?_,?_,?_⟩
 ·iterate 6 (refine FullSmy.set_off ?_ (fun k e=>by have:=((uh HF).own e).1;omega) _ _)
  exact uh HF
 ·iterate 6 (refine St.newer ?_ (by omega) _ _)
  exact uh Hs
 ·iterate 6 (refine Off.newer ?_ (by omega) _ _)
  exact uh HO
end Go.Proofs.YtmdgokjeobnnaaaGreatDoor
