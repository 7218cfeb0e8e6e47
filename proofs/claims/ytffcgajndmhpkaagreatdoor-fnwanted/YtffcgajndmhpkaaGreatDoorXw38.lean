/- Part 38 of what the proof rests on. No condition but those that a theorem names. -/
import Derived.Test.YtffcgajndmhpkaaGreatDoorXw33
import Derived.Test.YtffcgajndmhpkaaGreatDoorXw34
import Derived.Test.YtffcgajndmhpkaaGreatDoorXw35
import Derived.Test.YtffcgajndmhpkaaGreatDoorXw37
import Derived.Lib.ItoaNum
import Derived.Lib.ItoaLen
import Derived.Lib.AtoiTie
import Derived.Lib.ParseIntBTie
import Derived.Lib.SplitLaws
import Derived.Lib.Join
set_option maxHeartbeats 8000000
set_option maxRecDepth 100000
namespace Go.Proofs.YtffcgajndmhpkaaGreatDoor
open Go.ChangeShapes Go.WideShapes Go.ChangeAt Go.RowKit Go.Sort
set_option linter.unusedVariables false
set_option linter.unusedSimpArgs false
set_option maxRecDepth 100000
structure Hp (w W:World) (a0 a1 a2 a3 a4:Option Addr) (p0 p1 p2 p3 p4:Nat) (m:Z4) (k who a b:Int):Prop where
 v:Smy W (.slice a0 m.rooms.length p0) (.slice a1 m.guilds.length p1) (.slice a2 m.smiths.length p2) (.slice a3 m.desks.length p3) (.slice a4 m.paces.length p4) m
 s:Blk W w.heap.size 32 (S6 a0 p0 a1 p1 a2 p2 a3 p3 a4 p4 m)
 t:Blk W (w.heap.size+1) 219 #[.int .i64 k,.int .i64 who,.int .i64 a,.int .i64 b]
 r:Blk W (w.heap.size+1+1) 32 E6
 y:Below w.heap.size w W
theorem Hp.next {w W W':World} {a0 a1 a2 a3 a4:Option Addr} {p0 p1 p2 p3 p4:Nat} {m:Z4} {k who a b:Int} (h:Hid (Hp w W a0 a1 a2 a3 a4 p0 p1 p2 p3 p4 m k who a b)) (hb:Below W.heap.size W W'):Hid (Hp w W' a0 a1 a2 a3 a4 p0 p1 p2 p3 p4 m k who a b):=
 Z9 ⟨(uh h).v.below hb,(uh h).s.below hb (uh h).s.lt,(uh h).t.below hb (uh h).t.lt,(uh h).r.below hb (uh h).r.lt,(uh h).y.trans (hb.mono (uh h).y.size)⟩
theorem Hp.new {w:World} {a0 a1 a2 a3 a4:Option Addr} {p0 p1 p2 p3 p4:Nat} {m:Z4} (k who a b:Int) (h:Smy w (.slice a0 m.rooms.length p0) (.slice a1 m.guilds.length p1) (.slice a2 m.smiths.length p2) (.slice a3 m.desks.length p3) (.slice a4 m.paces.length p4) m):∃ W,((w.alloc (.cells (S6 a0 p0 a1 p1 a2 p2 a3 p3 a4 p4 m) 32)).alloc (.cells #[.int .i64 k,.int .i64 who,.int .i64 a,.int .i64 b] 219)).alloc (.cells E6 32)=W/\Hid (Hp w W a0 a1 a2 a3 a4 p0 p1 p2 p3 p4 m k who a b):=by
 have BB:=(((Below.refl w.heap.size w).alloc (Nat.le_refl _) (.cells (S6 a0 p0 a1 p1 a2 p2 a3 p3 a4 p4 m) 32)).alloc (by simp) (.cells #[.int .i64 k,.int .i64 who,.int .i64 a,.int .i64 b] 219)).alloc (by simp;omega) (.cells E6 32)
 have k1:=(Blk.new (w.alloc (.cells (S6 a0 p0 a1 p1 a2 p2 a3 p3 a4 p4 m) 32)) 219 #[.int .i64 k,.int .i64 who,.int .i64 a,.int .i64 b]).alloc (.cells E6 32)
 have k2:=Blk.new ((w.alloc (.cells (S6 a0 p0 a1 p1 a2 p2 a3 p3 a4 p4 m) 32)).alloc (.cells #[.int .i64 k,.int .i64 who,.int .i64 a,.int .i64 b] 219)) 32 E6
 rw [World.size_alloc] at k1
 rw [World.size_alloc,World.size_alloc] at k2
 exact ⟨_,rfl,Z9 ⟨h.below BB,((Blk.new w _ _).alloc _).alloc _,k1,k2,BB⟩⟩
theorem Co {w:World} {v0 v1 v2 v3 v4:Value} {m:Z4} (h:Smy w v0 v1 v2 v3 v4 m):Calls Tryz.prog 38 #[.agg #[v0,v1,v2,v3,v4,.int .i64 m.now]] w fun e w'=>TC w.heap.size YJ 3 e w'/\Below w.heap.size w w':=by
 refine ck (Yy h) fun w2 hb=> ?_
 exact ⟨⟨_,_,_,_,_,[],rfl,Y1 _ _⟩,hb⟩
theorem C0 {w:World} {v0 v1 v2 v3 v4:Value} {m:Z4} (h:Smy w v0 v1 v2 v3 v4 m) (hok:ZP m=true):Calls Tryz.prog 39 #[.agg #[v0,v1,v2,v3,v4,.int .i64 m.now]] w fun e w'=>Cm w.heap.size m e w'/\Below w.heap.size w w':=by
 refine (YE h (XJ (ZY hok))).mono ?_
 rintro e w2 ⟨y0,y1,y2,y3,y4,oq,rfl,ho,hb⟩
 exact ⟨⟨_,_,_,_,_,oq,rfl,ho⟩,hb⟩
theorem gm {f:Nat} {args:Array Value} {w:World} {n:Nat} {X:Z4 × Int} {M:Z4} {cd:Int} (h:Calls Tryz.prog f args w fun e w'=>TC n X.1 X.2 e w'/\Below n w w') (he:X=(M,cd)):Calls Tryz.prog f args w fun e w'=>TC n M cd e w'/\Below n w w':=by subst he;exact h
theorem gl {f:Nat} {args:Array Value} {w:World} {n:Nat} {X M:Z4} (h:Calls Tryz.prog f args w fun e w'=>Cm n X e w'/\Below n w w') (he:X=M):Calls Tryz.prog f args w fun e w'=>Cm n M e w'/\Below n w w':=by subst he;exact h
theorem GI {m:Z4} (hok:ZP m=false) (k who a b:Int):ZB m k who a b=(YJ,3):=by unfold ZB;rw [hok];rfl
theorem OR {w:World} {v0 v1 v2 v3 v4:Value} {m:Z4} (k who a b:Int) (h:Smy w v0 v1 v2 v3 v4 m) :
  Calls Tryz.prog 197 #[.agg #[v0,v1,v2,v3,v4,.int .i64 m.now],.agg #[.int .i64 k,.int .i64 who,.int .i64 a,.int .i64 b]] w fun e w'=>TC w.heap.size (ZB m k who a b).1 (ZB m k who a b).2 e w'/\Below w.heap.size w w':=by
 obtain ⟨Y,hY⟩:∃ y,ZB m k who a b=y:=⟨_,rfl⟩
 rw [hY]
 obtain ⟨M,cd⟩:=Y
 have HY:=Z9 hY
 have Hv:=Z9 h
 obtain ⟨q,hq⟩:∃ q,ZP m=q:=⟨_,rfl⟩
 have Hq:=Z9 hq
 obtain ⟨a0,p0,a1,p1,a2,p2,a3,p3,a4,p4,rfl,rfl,rfl,rfl,rfl,_,_,_,_,_,_,_,_,_,_⟩:=h.five
 clear h hY hq
 go_enter Tryz.func197,Tryz.ntmps197
 go_wp2_with fail
 obtain ⟨W,hW,H⟩:=Hp.new k who a b (uh Hv)
 rw [hW]
 clear hW Hv
 refine ck (XX (uh Hq) (uh H).v) fun w1 hb=> ?_
 replace H:=Hp.next H hb
 clear hb
 have hn:q=false\/(q=true/\(k<1\/14<k))\/(q=true/\(k=1\/k=2\/k=3\/k=4\/k=5\/k=6\/k=7\/k=8\/k=9\/k=10\/k=11\/k=12\/k=13\/k=14)):=by cases q<;>simp;omega
 rcases hn with rfl | ⟨rfl,hk⟩ | ⟨rfl,rfl | rfl | rfl | rfl | rfl | rfl | rfl | rfl | rfl | rfl | rfl | rfl | rfl | rfl⟩
 rotate_left
 have Hk:=Z9 hk
 have hne:∀ j:Int,1<=j->j<=14->(k ==j)=false/\decide (k=j)=false:=fun j _ _=>⟨beq_eq_false_iff_ne.mpr (by have:=uh Hk;omega),decide_eq_false (by have:=uh Hk;omega)⟩
 obtain ⟨n1,m1⟩:=hne 1 (by decide) (by decide)
 obtain ⟨n2,m2⟩:=hne 2 (by decide) (by decide)
 obtain ⟨n3,m3⟩:=hne 3 (by decide) (by decide)
 obtain ⟨n4,m4⟩:=hne 4 (by decide) (by decide)
 obtain ⟨n5,m5⟩:=hne 5 (by decide) (by decide)
 obtain ⟨n6,m6⟩:=hne 6 (by decide) (by decide)
 obtain ⟨n7,m7⟩:=hne 7 (by decide) (by decide)
 obtain ⟨n8,m8⟩:=hne 8 (by decide) (by decide)
 obtain ⟨n9,m9⟩:=hne 9 (by decide) (by decide)
 obtain ⟨n10,m10⟩:=hne 10 (by decide) (by decide)
 obtain ⟨n11,m11⟩:=hne 11 (by decide) (by decide)
 obtain ⟨n12,m12⟩:=hne 12 (by decide) (by decide)
 obtain ⟨n13,m13⟩:=hne 13 (by decide) (by decide)
 obtain ⟨n14,m14⟩:=hne 14 (by decide) (by decide)
 obtain ⟨hM,hC⟩:=Prod.mk.inj ((PU (uh Hq) (uh Hk) who a b).symm.trans (uh HY))
 have HM:=Z9 hM
 have HC:=Z9 hC.symm
 clear hne hM hC hk
 rotate_left 13
 obtain ⟨hM,hC⟩:=Prod.mk.inj ((JA (uh Hq) who a b).symm.trans (uh HY))
 have HM:=Z9 hM
 have HC:=Z9 hC.symm
 clear hM hC
 all_goals
  obtain ⟨c0,c1,c2,c3,c4,c5⟩:=(uh H).s.c6
  have d0:=(uh H).t.cell (i:=0) rfl
  have d1:=(uh H).t.cell (i:=1) rfl
  have d2:=(uh H).t.cell (i:=2) rfl
  have d3:=(uh H).t.cell (i:=3) rfl
  go_wp2_with fail
  clear c0 c1 c2 c3 c4 c5 d0 d1 d2 d3
  first
  | refine (gl (C0 (uh H).v (uh Hq)) (uh HM)).mono ?_
  | refine (gl (QT (uh H).v) (uh HM)).mono ?_
  | refine (gm (Co (uh H).v) ((GI (uh Hq) k who a b).symm.trans (uh HY))).mono ?_
  | refine (gm (LZ a b (-1) (uh H).v) ((FT (uh Hq) who a b).symm.trans (uh HY))).mono ?_
  | refine (gm (L5 who (uh H).v) ((FU (uh Hq) who a b).symm.trans (uh HY))).mono ?_
  | refine (gm (L6 who (uh H).v) ((FV (uh Hq) who a b).symm.trans (uh HY))).mono ?_
  | refine (gm (Ns who (uh H).v) ((FW (uh Hq) who a b).symm.trans (uh HY))).mono ?_
  | refine (gm (OZ who a (uh H).v) ((FX (uh Hq) who a b).symm.trans (uh HY))).mono ?_
  | refine (gm (PA who a (uh H).v) ((FY (uh Hq) who a b).symm.trans (uh HY))).mono ?_
  | refine (gm (PC who a b (uh H).v) ((FZ (uh Hq) who a b).symm.trans (uh HY))).mono ?_
  | refine (gm (OQ a (uh H).v) ((F0 (uh Hq) who a b).symm.trans (uh HY))).mono ?_
  | refine (gm (OX a (uh H).v) ((F4 (uh Hq) who a b).symm.trans (uh HY))).mono ?_
  | refine (gm (O4 a (uh H).v) ((Jw (uh Hq) who a b).symm.trans (uh HY))).mono ?_
  | refine (gm (Ty a b (uh H).v) ((Jy (uh Hq) who a b).symm.trans (uh HY))).mono ?_
  | refine (gm (X:=(Gq m,0)) (GV (uh H).v (uh Hq)) ((Jz (uh Hq) who a b).symm.trans (uh HY))).mono ?_
  | refine (gm (JM who a (uh H).v (uh Hq)) ((JB (uh Hq) who a b).symm.trans (uh HY))).mono ?_
  rintro e w2 ⟨⟨y0,y1,y2,y3,y4,oq,rfl,ho⟩,hb⟩
  have k9:=ho.smy
  obtain ⟨b0,q0,b1,q1,b2,q2,b3,q3,b4,q4,rfl,rfl,rfl,rfl,rfl,_,_,_,_,_,_,_,_,_,_⟩:=k9.five
  have HO:=Z9 (ho.mono (show w.heap.size+3<=w1.heap.size by have:=(uh H).r.lt;omega))
  clear ho k9
  replace H:=Hp.next H hb
  clear hb
  have o0:=(uh H).r.cell (i:=0) rfl
  have f0:=(uh H).r.free 0
  have o1:=(uh H).r.cell (i:=1) rfl
  have f1:=(uh H).r.free 1
  have o2:=(uh H).r.cell (i:=2) rfl
  have f2:=(uh H).r.free 2
  have o3:=(uh H).r.cell (i:=3) rfl
  have f3:=(uh H).r.free 3
  have o4:=(uh H).r.cell (i:=4) rfl
  have f4:=(uh H).r.free 4
  have o5:=(uh H).r.cell (i:=5) rfl
  have f5:=(uh H).r.free 5
  go_wp2_with fail
  (try have hC:=uh HC)
  refine bodyPost_ret (v:= .tuple #[.agg (S6 b0 q0 b1 q1 b2 q2 b3 q3 b4 q4 M),.int .i64 cd]) (by simp [results,Tryz.results197,go_sem, *]) rfl ⟨⟨_,_,_,_,_,oq,rfl,?_⟩,?_⟩
  ·refine FullSmy.mono (n₀:=w.heap.size+3) ?_ (by omega)
   iterate 6 (refine FullSmy.set ?_ _ _ _ (by omega))
   exact uh HO
  ·iterate 6 (refine Below.setCell ?_ (by show _<=w.heap.size+1+1;omega) _)
   exact (uh H).y
open Draw (St Off Row Cur)
set_option maxRecDepth 100000
structure Dbox (a:Option Addr) (len cap bc n₁:Nat) (w0 w:World) (M:Z4) (u0 u1 u2 u3 u4:Value) (rq:List (Z2 × Value)):Prop where
 st:St a len cap bc w
 off:Off bc w0 w
 ok:ZP M=true
 full:FullSmy n₁ w u0 u1 u2 u3 u4 M rq
 lo:bc<n₁
 hi:n₁<=w0.heap.size
 kb:Blk w w0.heap.size 32 #[u0,u1,u2,u3,u4,.int .i64 M.now]
 kr:Blk w (w0.heap.size+1) 32 E6
 own:∀ k,WW u0 u1 u2 u3 u4 rq k->k ≠ w0.heap.size/\k ≠ w0.heap.size+1
 bl:bc<w0.heap.size
section
variable {a : Option Addr} {len cap bc n₁ : Nat} {w0 w w' : World} {M : Z4} {u0 u1 u2 u3 u4 : Value} {rq : List (Z2 × Value)}
theorem Dbox.step (h:Dbox a len cap bc n₁ w0 w M u0 u1 u2 u3 u4 rq) (hs:St a len cap bc w') (ho:Off bc w w'):Dbox a len cap bc n₁ w0 w' M u0 u1 u2 u3 u4 rq:=
 have hb:=h.bl
 ⟨hs,h.off.trans ho,h.ok,h.full.away ho h.lo,h.lo,h.hi,h.kb.away ho (by omega),h.kr.away ho (by omega),h.own,h.bl⟩
theorem Dbox.below (h:Dbox a len cap bc n₁ w0 w M u0 u1 u2 u3 u4 rq) (hb:Below w.heap.size w w'):Dbox a len cap bc n₁ w0 w' M u0 u1 u2 u3 u4 rq:=
 h.step (Yd h.st (hb.mono (Xc h.st))) (Sl hb)
theorem Dbox.put (h:Dbox a len cap bc n₁ w0 w M u0 u1 u2 u3 u4 rq) {n:Nat} {z0 z1 z2 z3 z4:Value} {M1:Z4} {zq:List (Z2 × Value)} (hf:FullSmy n w z0 z1 z2 z3 z4 M1 zq) (hn:w0.heap.size+2<=n) (hok:ZP M1=true) :
  Dbox a len cap bc n₁ w0 ((((((w.setCell ⟨w0.heap.size,0,none⟩ z0).setCell ⟨w0.heap.size,1,none⟩ z1).setCell ⟨w0.heap.size,2,none⟩ z2).setCell ⟨w0.heap.size,3,none⟩ z3).setCell ⟨w0.heap.size,4,none⟩ z4).setCell ⟨w0.heap.size,5,none⟩ (.int .i64 M1.now)) M1 z0 z1 z2 z3 z4 zq:=by
 have hb:=h.bl
 have hown:∀ k,WW z0 z1 z2 z3 z4 zq k->k ≠ w0.heap.size/\k ≠ w0.heap.size+1:=fun k e=>by have:=(hf.own e).1;omega
 have hh:=h.hi
 refine ⟨?_,?_,hok,?_,h.lo,h.hi,?_,?_,hown,h.bl⟩
 ·iterate 6 (refine St.newer ?_ hb _ _)
  exact h.st
 ·iterate 6 (refine Off.newer ?_ (Nat.le_refl _) _ _)
  exact h.off
 ·iterate 6 (refine FullSmy.set_off ?_ (fun k e=>(hown k e).1) _ _)
  exact hf.mono (by omega)
 ·exact (((((h.kb.set 0 z0).set 1 z1).set 2 z2).set 3 z3).set 4 z4).set 5 _
 ·iterate 6 (refine Blk.other ?_ (by show w0.heap.size+1 ≠ w0.heap.size;omega) _)
  exact h.kr
end
theorem Eu (a:Option Addr) (len cap bc:Nat) {w:World} {n₁:Nat} {v0 v1 v2 v3 v4:Value} {m:Z4} {qs:List (Z2 × Value)} (hs:St a len cap bc w) (hf:FullSmy n₁ w v0 v1 v2 v3 v4 m qs) (hn:bc<n₁) (hn2:n₁<=w.heap.size) (hok:ZP m=true) (most:Int) (h0:0<most) (h1:most<=1000) :
  Calls Tryz.prog 139 #[.pointer (some ⟨bc,0,none⟩),.agg #[v0,v1,v2,v3,v4,.int .i64 m.now],.int .i64 most] w fun e w'=> ∃ M u0 u1 u2 u3 u4 rq,e= .returned (.agg #[u0,u1,u2,u3,u4,.int .i64 M.now])/\ZP M=true/\FullSmy n₁ w' u0 u1 u2 u3 u4 M rq/\St a len cap bc w'/\Off bc w w':=by
 have Hs:=Z9 hs
 have HF:=Z9 hf
 have hbc:=Xc hs
 have h:=hf.smy
 obtain ⟨a0,p0,a1,p1,a2,p2,a3,p3,a4,p4,rfl,rfl,rfl,rfl,rfl,_,_,_,_,_,_,_,_,_,_⟩:=h.five
 clear h hs hf
 have Hok:=Z9 hok
 clear hok
 have D0:Hid (Dbox a len cap bc n₁ w ((w.alloc (.cells (S6 a0 p0 a1 p1 a2 p2 a3 p3 a4 p4 m) 32)).alloc (.cells E6 32)) m (.slice a0 m.rooms.length p0) (.slice a1 m.guilds.length p1) (.slice a2 m.smiths.length p2) (.slice a3 m.desks.length p3) (.slice a4 m.paces.length p4) qs):=Z9 ⟨((uh Hs).alloc _).alloc _,((Off.refl _ _).alloc _).alloc _,uh Hok,(((uh HF).below ((ba _ _))).below ((ba _ _))),hn,hn2,(Blk.new w _ _).alloc _,by
  have k:=Blk.new (w.alloc (.cells (S6 a0 p0 a1 p1 a2 p2 a3 p3 a4 p4 m) 32)) 32 E6
  rw [World.size_alloc] at k
  exact k,fun k e=>by have:=((uh HF).own e).2;omega,hbc⟩
 clear Hs HF Hok
 go_enter Tryz.func139,Tryz.ntmps139
 go_wp2_with fail
 generalize (w.alloc (.cells (S6 a0 p0 a1 p1 a2 p2 a3 p3 a4 p4 m) 32)).alloc (.cells E6 32)=W at *
 refine (Draw.below_any a len cap bc most h0 (by omega) _ (uh D0).st).mono ?_
 rintro e w1 ⟨y,rfl,y0,y1,s9,p9⟩
 replace D0:=Z9 ((uh D0).step s9 p9)
 clear s9 p9
 go_wp2_with fail
 go_loopw [7] (fun i wr=> ∃ (k:Nat) (M:Z4) (u0 u1 u2 u3 u4:Value) (rq:List (Z2 × Value)),k<=1000/\i= .int .i64 k/\Dbox a len cap bc n₁ w wr M (u0) (u1) (u2) (u3) (u4) rq) (fun i _=>(intOf i).toNat)
 case atStart=>exact ⟨y.toNat,m,_,_,_,_,_,qs,by omega,by rw [show ((y.toNat:Nat):Int)=y by omega],uh D0⟩
 case round=>
  obtain ⟨k,M,u0,u1,u2,u3,u4,rq,hk1,rfl,hD⟩:=hrel
  have h:=hD.full.smy
  obtain ⟨b0,q0,b1,q1,b2,q2,b3,q3,b4,q4,rfl,rfl,rfl,rfl,rfl,_,_,_,_,_,_,_,_,_,_⟩:=h.five
  have HD:=Z9 hD
  clear h hD D0
  by_cases hk0:0<k
  ·
   have hlo:=ZY (uh HD).ok
   have g2:=Zk hlo
   have g3':=WG hlo
   have g3:1<=M.desks.length:=by obtain ⟨j,hj,_⟩:=hlo.openD;omega
   have g4:1<=M.paces.length:=QF hlo
   have g4':M.paces.length<=3:=by
    rw [XC hlo]
    have hd:=hlo.head
    unfold Y2 at hd
    simp only [Bool.and_eq_true,decide_eq_true_eq] at hd
    exact (Zy hd.1).2.1
   have g1:M.guilds.length<=6:=by
    have hd:=hlo.head
    unfold Y2 at hd
    simp only [Bool.and_eq_true,decide_eq_true_eq] at hd
    exact (Wj hd.2.1).2
   have G1:=Z9 g1
   have G2:=Z9 g2
   have G3:=Z9 g3
   have G3':=Z9 g3'
   have G4:=Z9 g4
   have G4':=Z9 g4'
   clear hlo g1 g2 g3 g3' g4 g4'
   obtain ⟨c0,c1,c2,c3,c4,c5⟩:=(uh HD).kb.c6
   go_wp2_with fail
   go_region_with (first
    | (go_at_call 198;refine (Jm a len cap bc _ _ _ _ _ _ _ _ _ _ _ _ _ _ _ _ (uh G1) (uh G2) (uh G3) (uh G3') (uh G4) (uh G4') _ ?_).mono ?_;exact Sz (uh HD).st;rintro e w5 ⟨kk,who,aa,bb,rfl,s9,p9⟩;have HD5:=Z9 ((uh HD).step s9 (Ta p9));have y0:=(uh HD5).kb.cell (i:=0) (v:= .slice b0 M.rooms.length q0) rfl;have y1:=(uh HD5).kb.cell (i:=1) (v:= .slice b1 M.guilds.length q1) rfl;have y2:=(uh HD5).kb.cell (i:=2) (v:= .slice b2 M.smiths.length q2) rfl;have y3:=(uh HD5).kb.cell (i:=3) (v:= .slice b3 M.desks.length q3) rfl;have y4:=(uh HD5).kb.cell (i:=4) (v:= .slice b4 M.paces.length q4) rfl;have y5:=(uh HD5).kb.cell (i:=5) (v:= .int .i64 M.now) rfl;clear s9 p9)
    | (go_at_call 197;go_loud (refine (OR kk who aa bb ?_).mono ?_;exact (uh HD5).full.smy;have hright:=LA (uh HD5).ok kk who aa bb;generalize ZB M kk who aa bb=Y at *;obtain ⟨M1,cd⟩:=Y;rintro e w6 ⟨⟨z0,z1,z2,z3,z4,zq,rfl,ho⟩,hb⟩;dsimp only at ho hright ⊢;have k6:=ho.smy;obtain ⟨d0,r0,rfl,_,_⟩:=IsRooms.shape k6.rooms;obtain ⟨d1,r1,rfl,_,_⟩:=IsRec.shape k6.guilds;obtain ⟨d2,r2,rfl,_,_⟩:=IsRec.shape k6.smiths;obtain ⟨d3,r3,rfl,_,_⟩:=IsRec.shape k6.desks;obtain ⟨d4,r4,rfl,_,_⟩:=IsRec.shape k6.paces;have hz5:w.heap.size+2<=w5.heap.size:=(by have:=(uh HD5).kr.lt;omega);have HP:=Z9 (((uh HD5).below hb).put ho hz5 hright);have D6:=Z9 ((uh HD5).below hb);have o0:=(uh D6).kb.cell (i:=0) (v:= .slice b0 M.rooms.length q0) rfl;have f0:=(uh D6).kb.free 0;have o1:=(uh D6).kb.cell (i:=1) (v:= .slice b1 M.guilds.length q1) rfl;have f1:=(uh D6).kb.free 1;have o2:=(uh D6).kb.cell (i:=2) (v:= .slice b2 M.smiths.length q2) rfl;have f2:=(uh D6).kb.free 2;have o3:=(uh D6).kb.cell (i:=3) (v:= .slice b3 M.desks.length q3) rfl;have f3:=(uh D6).kb.free 3;have o4:=(uh D6).kb.cell (i:=4) (v:= .slice b4 M.paces.length q4) rfl;have f4:=(uh D6).kb.free 4;have o5:=(uh D6).kb.cell (i:=5) (v:= .int .i64 M.now) rfl;have f5:=(uh D6).kb.free 5;clear ho hb k6 hright)))
   all_goals
    go_wp2_with fail
    go_roundw
    case rel=>exact ⟨k-1,_,_,_,_,_,_,_,by omega,by rw [show ((k:Int)-1)=((k-1:Nat):Int) by omega],by first | exact uh HP | exact (uh HP).below (Below.refl _ _).drew⟩
    case measure=>exact ms
  ·
   obtain rfl:k=0:=by omega
   have c0:=(uh HD).kb.cell (i:=0) (v:= .slice b0 M.rooms.length q0) rfl
   have o0:=(uh HD).kr.cell (i:=0) (v:= .slice none 0 0) rfl
   have f0:=(uh HD).kr.free 0
   have c1:=(uh HD).kb.cell (i:=1) (v:= .slice b1 M.guilds.length q1) rfl
   have o1:=(uh HD).kr.cell (i:=1) (v:= .slice none 0 0) rfl
   have f1:=(uh HD).kr.free 1
   have c2:=(uh HD).kb.cell (i:=2) (v:= .slice b2 M.smiths.length q2) rfl
   have o2:=(uh HD).kr.cell (i:=2) (v:= .slice none 0 0) rfl
   have f2:=(uh HD).kr.free 2
   have c3:=(uh HD).kb.cell (i:=3) (v:= .slice b3 M.desks.length q3) rfl
   have o3:=(uh HD).kr.cell (i:=3) (v:= .slice none 0 0) rfl
   have f3:=(uh HD).kr.free 3
   have c4:=(uh HD).kb.cell (i:=4) (v:= .slice b4 M.paces.length q4) rfl
   have o4:=(uh HD).kr.cell (i:=4) (v:= .slice none 0 0) rfl
   have f4:=(uh HD).kr.free 4
   have c5:=(uh HD).kb.cell (i:=5) (v:= .int .i64 M.now) rfl
   have o5:=(uh HD).kr.cell (i:=5) (v:= .int .i64 0) rfl
   have f5:=(uh HD).kr.free 5
   go_wp2_with fail
   refine bodyPost_ret (v:= .agg (S6 b0 q0 b1 q1 b2 q2 b3 q3 b4 q4 M)) (by simp [results,Tryz.results139,go_sem, *]) rfl ⟨M,_,_,_,_,_,rq,rfl,(uh HD).ok,?_,?_,?_⟩
   ·iterate 6 (refine FullSmy.set_off ?_ (fun k e=>((uh HD).own k e).2) _ _)
    exact (uh HD).full
   ·iterate 6 (refine St.newer ?_ (by omega) _ _)
    exact (uh HD).st
   ·iterate 6 (refine Off.newer ?_ (by omega) _ _)
    exact (uh HD).off
end Go.Proofs.YtffcgajndmhpkaaGreatDoor
namespace Go.Proofs.YtffcgajndmhpkaaGreatDoor.Draw
open Go.ChangeShapes Go.WideShapes Go.ChangeAt Go.RowKit
set_option linter.unusedVariables false
theorem Bm (p q r:Value) (k:IntKind) (j:Nat) (hj:j<3) (hp:∃ v:Int,p= .int k v) (hq:∃ v:Int,q= .int k v) (hr:∃ v:Int,r= .int k v) :
  ∃ v:Int,(#[p,q,r]:Array Value)[j]?=some (.int k v):=by
 obtain ⟨_,rfl⟩:=hp;obtain ⟨_,rfl⟩:=hq;obtain ⟨_,rfl⟩:=hr
 match j,hj with
 | 0,_=>exact ⟨_,rfl⟩
 | 1,_=>exact ⟨_,rfl⟩
 | 2,_=>exact ⟨_,rfl⟩
theorem drawForce_any (a:Option Addr) (len cap bc:Nat) (w:World) (hs:St a len cap bc w) :
  Calls Tryz.prog 141 #[.pointer (some ⟨bc,0,none⟩)] w fun e w'=> ∃ x:Int,e= .returned (.int .i64 x)/\St a len cap bc w'/\Off bc w w':=by
 have Hs:=Z9 hs
 clear hs
 go_enter Tryz.func141,Tryz.ntmps141
 go_wp2_with fail
 refine (once_any a len cap bc 8 (by omega) (by omega) _ (uh Hs)).mono ?_
 rintro e w1 ⟨b,rfl,s1,o1⟩
 have Hs1:=Z9 s1
 have Ho1:=Z9 o1
 have hb:=s1.cur.1
 clear s1 o1
 cases b
 ·go_wp2_with fail
  refine (below_any a len cap bc 1025 (by omega) (by omega) _ (uh Hs1)).mono ?_
  rintro e w2 ⟨x,rfl,x0,x1,s2,o2⟩
  have Hs2:=Z9 s2
  have Ho2:=Z9 o2
  clear s2 o2
  go_wp2_with fail
  go_ret
  exact ⟨_,rfl,uh Hs2,(uh Ho1).trans (uh Ho2)⟩
 ·go_wp2_with fail
  refine (below_any a len cap bc 3 (by omega) (by omega) _ ((uh Hs1).alloc _)).mono ?_
  rintro e w2 ⟨x,rfl,x0,x1,s2,o2⟩
  have hsz:w1.heap.size<w2.heap.size:=by have:=o2.size;simp at this;omega
  obtain ⟨v,hv⟩:=Bm (.int .i64 (-1)) (.int .i64 1024) (.int .i64 1025) .i64 x.toNat (by omega) ⟨_,rfl⟩ ⟨_,rfl⟩ ⟨_,rfl⟩
  have hcell:w2.cell? ⟨w1.heap.size,x.toNat,none⟩=some (.int .i64 v):=by
   rw [o2.cell (p:=⟨w1.heap.size,x.toNat,none⟩) (by simp) (by simp;omega),World.cell?_alloc_at _ _ _ _ rfl];exact hv
  clear hv
  have Hs2:=Z9 s2
  have Ho2:=Z9 o2
  clear s2 o2
  go_wp2_with fail
  go_ret
  exact ⟨_,rfl,uh Hs2,(uh Ho1).trans (((Off.refl _ _).alloc _).trans (uh Ho2))⟩
end Go.Proofs.YtffcgajndmhpkaaGreatDoor.Draw
namespace Go.Proofs.YtffcgajndmhpkaaGreatDoor
open Go.ChangeShapes Go.WideShapes Go.ChangeAt Go.RowKit Go.Sort
open Draw (St Off Row Cur)
set_option linter.unusedVariables false
theorem Gl:PI 88 3 (.agg #[.int .i64 0,.int .i64 0,.int .i64 0]) Xk:=
 ⟨ED,rfl,XZ,by omega,by omega,fun x u hu=>by
  unfold Xk at hu
  simp only [List.mem_cons,List.not_mem_nil,or_false] at hu
  rcases hu with rfl | rfl | rfl<;>rfl⟩
theorem N5 {w:World} (x0 x1 x2:Int) {g c:Nat} (hg:g=w.heap.size) (hc:1<=c) (hc2:c<=4000):Yg (w.alloc (.cells #[.int .i64 x0,.int .i64 x1,.int .i64 x2] 88)) (.slice (some ⟨g,0,none⟩) 1 c) [(x0,x1,x2)]:=
 V6 (e:=88) (enc:=Xk) (x0,x1,x2) hg hc hc2
theorem RecAt.away {α:Type} {t k:Nat} {enc:α->List Value} {n₀ bc:Nat} {w w':World} {v:Value} {xs:List α} (h:RecAt t k enc n₀ w v xs) (ho:Off bc w w') (hb:bc<n₀):RecAt t k enc n₀ w' v xs:=
 h.same fun i hi=>ho.block i (h.lt hi).2 (by have:=(h.lt hi).1;omega)
structure Gbox (a:Option Addr) (len cap bc:Nat) (w0 w:World) (v:Value) (ps:List ZF):Prop where
 st:St a len cap bc w
 off:Off bc w0 w
 gt:bc<w0.heap.size
 row:GuildsAt w0.heap.size w v ps
section
variable {a : Option Addr} {len cap bc : Nat} {w0 w w' : World} {v : Value} {ps : List ZF}
theorem Gbox.step (h:Gbox a len cap bc w0 w v ps) (hs:St a len cap bc w') (ho:Off bc w w'):Gbox a len cap bc w0 w' v ps:=⟨hs,h.off.trans ho,h.gt,RecAt.away h.row ho h.gt⟩
theorem Gbox.alloc (h:Gbox a len cap bc w0 w v ps) (o:Obj):Gbox a len cap bc w0 (w.alloc o) v ps:=h.step (h.st.alloc _) ((Off.refl _ _).alloc _)
theorem Gbox.grown (h:Gbox a len cap bc w0 w v ps) {v':Value} {qs:List ZF} (hg:w.grownBy w' v.ownBlock) (hr:GuildsAt w0.heap.size w' v' qs):Gbox a len cap bc w0 w' v' qs:=by
 have hk:∀ k,v.ownBlock=some k->w0.heap.size<=k:=fun k e=>(RecAt.lt h.row e).1
 have h1:=h.gt
 have h2:=h.off.size
 have hb:Below w0.heap.size w w':=(Below.refl _ _).grown hg h2 hk
 exact ⟨Yd h.st (hb.mono (by omega)),Uo h.off hb,h.gt,hr⟩
end
theorem G5 (a:Option Addr) (len cap bc:Nat) (w:World) (hs:St a len cap bc w) :
  Calls Tryz.prog 138 #[.pointer (some ⟨bc,0,none⟩)] w fun e w'=> ∃ v ps,e= .returned v/\ps.length<=4/\Gbox a len cap bc w w' v ps:=by
 have Hs:=Z9 hs
 have hbc:=Xc hs
 clear hs
 go_enter Tryz.func138,Tryz.ntmps138
 go_wp2_with fail
 have HE:Hid (GuildsAt w.heap.size (w.alloc (.cells #[] 88)) (.slice (some ⟨w.heap.size,0,none⟩) 0 0) []):=Z9 (Zd rfl (Nat.le_refl _))
 refine (Draw.below_any a len cap bc 5 (by omega) (by omega) _ ((uh Hs).alloc _)).mono ?_
 rintro e w1 ⟨n,rfl,n0,n1,s1,o1⟩
 have HG1:Hid (Gbox a len cap bc w w1 (.slice (some ⟨w.heap.size,0,none⟩) 0 0) []):=Z9 (Gbox.step ⟨(uh Hs).alloc _,(Off.refl _ _).alloc _,hbc,uh HE⟩ s1 o1)
 clear s1 o1 HE
 go_wp2_with fail
 go_loopw [3,4] (fun s i wr=> ∃ (k:Nat) (ps:List ZF),ps.length+k<=4/\i= .int .i64 k/\Gbox a len cap bc w wr s ps) (fun _ i _=>(intOf i).toNat)
 case atStart=>exact ⟨n.toNat,[],by simp;omega,by rw [show ((n.toNat:Nat):Int)=n by omega],uh HG1⟩
 case round=>
  obtain ⟨k,ps,hk,rfl,hG⟩:=hrel
  obtain ⟨ra,rcap,rfl⟩:=RecAt.shape hG.row
  have HG:=Z9 hG
  clear hG
  by_cases hk0:0<k
  ·go_wp2_with fail
   refine (Draw.below_any a len cap bc 600 (by omega) (by omega) _ (uh HG).st).mono ?_
   rintro e w2 ⟨low,rfl,l0,l1,s2,o2⟩
   have HG2:=Z9 ((uh HG).step s2 o2)
   clear s2 o2 HG
   go_wp2_with fail
   refine (Draw.below_any a len cap bc _ (by omega) (by omega) _ (uh HG2).st).mono ?_
   rintro e w3 ⟨ab,rfl,a0,a1,s3,o3⟩
   have HG3:=Z9 ((uh HG2).step s3 o3)
   clear s3 o3 HG2
   go_wp2_with fail
   refine (Draw.from_any a len cap bc low 1024 (by omega) (by omega) (by omega) _ (uh HG3).st).mono ?_
   rintro e w4 ⟨hi,rfl,h0,h1,s4,o4⟩
   have HG4:=Z9 ((uh HG3).step s4 o4)
   have hsz:=(uh HG4).off.size
   clear s4 o4 HG3
   go_wp2_with (at_builtin;refine ZO Gl rfl (.tmp 15) (.tmp 27) 27 Tryz.underlying27 rfl w.heap.size _ _ ps [(ab-1,low,hi)] rfl rfl ((uh HG4).alloc _).row (N5 _ _ _ rfl (Nat.le_refl _) (by omega)) (by simp;omega) (by simp;omega) ?_;intro v' w5 hown hgrow hat)
   have HG5:=Z9 (((uh HG4).alloc _).grown hgrow hown)
   clear hown hgrow hat
   go_wp2_with fail
   go_roundw
   case rel=>exact ⟨k-1,ps++[(ab-1,low,hi)],by simp;omega,by rw [show ((k:Int)-1)=((k-1:Nat):Int) by omega],uh HG5⟩
   case measure=>exact ms
  ·obtain rfl:k=0:=by omega
   go_wp2_with fail
   go_ret
   exact ⟨_,ps,rfl,by omega,uh HG⟩
end Go.Proofs.YtffcgajndmhpkaaGreatDoor
namespace Go.Proofs.YtffcgajndmhpkaaGreatDoor
open Go.ChangeShapes Go.WideShapes Go.ChangeAt Go.RowKit Go.Sort
open Draw (St Off Row Cur)
set_option linter.unusedVariables false
theorem Jv {ps:List ZF} {ab low hi:Int} (h:Zw ps=true) (hl:ps.length<=5) (a0:0<=ab) (a1:ab<(ps.length:Int)+1) (l0:0<=low) (l1:low<=hi) (h1:hi<=1024):Zw (ps++[(ab-1,low,hi)])=true:=by
 obtain ⟨hu,_⟩:=Wj h
 unfold Zw
 rw [List.length_append]
 show (UY _ (ps.length+1) && decide (ps.length+1<=6))=true
 rw [decide_eq_true (by omega),Bool.and_true,RZ]
 have hsame:UY (ps++[(ab-1,low,hi)]) ps.length=true:=by
  unfold UY
  refine List.all_eq_true.2 fun j hj=> ?_
  have hj':=List.mem_range.1 hj
  rw [Wn,if_neg (by omega)]
  exact KO hu hj'
 rw [hsame,Wn,if_pos rfl,Bool.true_and]
 unfold XQ YG
 simp only [Bool.and_eq_true,decide_eq_true_eq]
 exact ⟨Zv (by omega) (by omega),⟨Zv l0 (by omega),Zv (by omega) h1⟩,l1⟩
theorem LI (a:Option Addr) (len cap bc:Nat) (w:World) (hs:St a len cap bc w) :
  Calls Tryz.prog 138 #[.pointer (some ⟨bc,0,none⟩)] w fun e w'=> ∃ v ps,e= .returned v/\Zw ps=true/\Gbox a len cap bc w w' v ps:=by
 have Hs:=Z9 hs
 have hbc:=Xc hs
 clear hs
 go_enter Tryz.func138,Tryz.ntmps138
 go_wp2_with fail
 have HE:Hid (GuildsAt w.heap.size (w.alloc (.cells #[] 88)) (.slice (some ⟨w.heap.size,0,none⟩) 0 0) []):=Z9 (Zd rfl (Nat.le_refl _))
 refine (Draw.below_any a len cap bc 5 (by omega) (by omega) _ ((uh Hs).alloc _)).mono ?_
 rintro e w1 ⟨n,rfl,n0,n1,s1,o1⟩
 have HG1:Hid (Gbox a len cap bc w w1 (.slice (some ⟨w.heap.size,0,none⟩) 0 0) []):=Z9 (Gbox.step ⟨(uh Hs).alloc _,(Off.refl _ _).alloc _,hbc,uh HE⟩ s1 o1)
 clear s1 o1 HE
 go_wp2_with fail
 go_loopw [3,4] (fun s i wr=> ∃ (k:Nat) (ps:List ZF),ps.length+k<=4/\Zw ps=true/\i= .int .i64 k/\Gbox a len cap bc w wr s ps) (fun _ i _=>(intOf i).toNat)
 case atStart=>exact ⟨n.toNat,[],by simp;omega,rfl,by rw [show ((n.toNat:Nat):Int)=n by omega],uh HG1⟩
 case round=>
  obtain ⟨k,ps,hk,hgs,rfl,hG⟩:=hrel
  have Hgs:=Z9 hgs
  clear hgs
  obtain ⟨ra,rcap,rfl⟩:=RecAt.shape hG.row
  have HG:=Z9 hG
  clear hG
  by_cases hk0:0<k
  ·go_wp2_with fail
   refine (Draw.below_any a len cap bc 600 (by omega) (by omega) _ (uh HG).st).mono ?_
   rintro e w2 ⟨low,rfl,l0,l1,s2,o2⟩
   have HG2:=Z9 ((uh HG).step s2 o2)
   clear s2 o2 HG
   go_wp2_with fail
   refine (Draw.below_any a len cap bc _ (by omega) (by omega) _ (uh HG2).st).mono ?_
   rintro e w3 ⟨ab,rfl,a0,a1,s3,o3⟩
   have HG3:=Z9 ((uh HG2).step s3 o3)
   clear s3 o3 HG2
   go_wp2_with fail
   refine (Draw.from_any a len cap bc low 1024 (by omega) (by omega) (by omega) _ (uh HG3).st).mono ?_
   rintro e w4 ⟨hi,rfl,h0,h1,s4,o4⟩
   have HG4:=Z9 ((uh HG3).step s4 o4)
   have hsz:=(uh HG4).off.size
   clear s4 o4 HG3
   go_wp2_with (at_builtin;refine ZO Gl rfl (.tmp 15) (.tmp 27) 27 Tryz.underlying27 rfl w.heap.size _ _ ps [(ab-1,low,hi)] rfl rfl ((uh HG4).alloc _).row (N5 _ _ _ rfl (Nat.le_refl _) (by omega)) (by simp;omega) (by simp;omega) ?_;intro v' w5 hown hgrow hat)
   have HG5:=Z9 (((uh HG4).alloc _).grown hgrow hown)
   clear hown hgrow hat
   go_wp2_with fail
   go_roundw
   case rel=>exact ⟨k-1,ps++[(ab-1,low,hi)],by simp;omega,Jv (uh Hgs) (by omega) (by omega) (by omega) (by omega) (by omega) (by omega),by rw [show ((k:Int)-1)=((k-1:Nat):Int) by omega],uh HG5⟩
   case measure=>exact ms
  ·obtain rfl:k=0:=by omega
   go_wp2_with fail
   go_ret
   exact ⟨_,ps,rfl,uh Hgs,uh HG⟩
open Go.Lib
abbrev Txt:=List UInt8
def Zg (c:UInt8) (cur:Txt):Txt->List Txt
 | []=>[cur]
 | x::r=>if x=c then cur::Zg c [] r else Zg c (cur++[x]) r
def Zl (c:UInt8) (l:Txt):List Txt:=Zg c [] l
theorem VJ (c:UInt8) (cur r:Txt):Zg c cur (c::r)=cur::Zg c [] r:=by simp [Zg]
theorem VK {c x:UInt8} (h:x ≠ c) (cur r:Txt):Zg c cur (x::r)=Zg c (cur++[x]) r:=by simp [Zg,h]
theorem XD (c:UInt8):∀ (l cur:Txt),1<=(Zg c cur l).length/\(Zg c cur l).length<=l.length+1
 | [],cur=>by simp [Zg]
 | x::r,cur=>by
  by_cases h:x=c
  ·subst h;rw [VJ];have:=XD x r [];simp;omega
  ·rw [VK h];have:=XD c r (cur++[x]);simp;omega
theorem MK (c:UInt8) (l:Txt):Zl c l ≠ []:=fun h=>by have:=(XD c l []).1;unfold Zl at h;rw [h] at this;simp at this
theorem Vn (c:UInt8):∀ (l cur:Txt),∀ p ∈ Zg c cur l,p.length<=cur.length+l.length
 | [],cur,p,hp=>by simp [Zg] at hp;subst hp;simp
 | x::r,cur,p,hp=>by
  by_cases h:x=c
  ·subst h;rw [VJ] at hp
   rcases List.mem_cons.1 hp with rfl | hp
   ·simp
   ·have:=Vn x r [] p hp;simp at this ⊢;omega
  ·rw [VK h] at hp;have:=Vn c r _ p hp;simp at this ⊢;omega
theorem R8 (sep x:Txt) (r:List Txt):joinTail sep (x::r)=sep++x++joinTail sep r:=by simp [joinTail]
theorem U9 (c:UInt8):∀ (l cur:Txt),join (Zg c cur l) [c]=cur++l
 | [],cur=>by simp [Zg,join_one]
 | x::r,cur=>by
  by_cases h:x=c
  ·subst h
   rw [VJ,join_cons]
   have ih:=U9 x r []
   cases hs:Zg x [] r with
   | nil=>have:=(XD x r []).1;rw [hs] at this;simp at this
   | cons p q=>rw [hs,join_cons] at ih;rw [R8];simp at ih ⊢;rw [ih]
  ·rw [VK h,U9 c r];simp
def YB (l:Txt):Option Int:=
 match l with
 | []=>none
 | c::r=>if c=45 then (if r=[]\/9<r.length\/r.head?=some 48 then none else (decFrom 0 r).map fun n:Nat=> -(n:Int))
  else if 9<(c::r).length\/(c=48/\r ≠ []) then none else (decFrom 0 (c::r)).map fun n:Nat=>(n:Int)
theorem J4 {d:Nat} (h:d<10):(UInt8.ofNat (48+d)).toNat=48+d:=by simp;omega
theorem NS {b:UInt8} {d:Nat} (h:digitVal b=some d):d<10/\b=UInt8.ofNat (48+d):=by
 obtain ⟨h1,h2,h3⟩:=digitVal_eq h
 refine ⟨by omega,?_⟩
 apply UInt8.toNat_inj.1
 rw [J4 (by omega)];omega
theorem NR {a d:Nat} (ha:0<a) (hd:d<10):decDigits (a*10+d)=decDigits a++[UInt8.ofNat (48+d)]:=by
 rw [decDigits,dif_neg (by omega),show (a*10+d) / 10=a by omega,show (a*10+d)%10=d by omega]
theorem SH:∀ (r:Txt) (a n:Nat),0<a->decFrom a r=some n->decDigits n=decDigits a++r/\a<=n
 | [],a,n,_,h=>by simp [decFrom] at h;subst h;simp
 | b::r,a,n,ha,h=>by
  unfold decFrom at h
  cases hd:digitVal b with
  | none=>rw [hd] at h;cases h
  | some d=>
   rw [hd] at h
   obtain ⟨h1,h2⟩:=NS hd
   have ih:=SH r (a*10+d) n (by omega) h
   rw [ih.1,NR ha h1,h2];simp;omega
theorem Ts {b:UInt8} {r:Txt} {n:Nat} (h:decFrom 0 (b::r)=some n) (hb:b ≠ 48\/r=[]):decDigits n=b::r/\(b ≠ 48->0<n):=by
 unfold decFrom at h
 cases hd:digitVal b with
 | none=>rw [hd] at h;cases h
 | some d=>
  rw [hd] at h
  obtain ⟨h1,h2⟩:=NS hd
  simp at h
  by_cases h0:d=0
  ·subst h0
   have hb48:b=48:=by rw [h2];rfl
   rcases hb with hb | rfl
   ·exact absurd hb48 hb
   ·simp [decFrom] at h;subst h;subst hb48;exact ⟨by rw [decDigits_one (by decide)];rfl,fun h=>absurd rfl h⟩
  ·have:=SH r d n (by omega) h
   rw [this.1,decDigits_one h1,h2];simp;intro _;omega
theorem TX {l:Txt} {v:Int} (h:YB l=some v):l=itoa v/\ -999999999<=v/\v<=999999999:=by
 unfold YB at h
 split at h
 ·cases h
 ·rename_i c r
  split at h
  ·rename_i hc
   split at h
   ·cases h
   ·rename_i hr
    simp only [not_or] at hr
    obtain ⟨n,hn,rfl⟩:=Option.map_eq_some_iff.1 h
    cases r with
    | nil=>exact absurd rfl hr.1
    | cons b r=>
     have hb:b ≠ 48:=fun e=>hr.2.2 (by simp [e])
     have hw:=Ts hn (.inl hb)
     have hlt:=decFrom_lt _ _ _ hn
     have:n<10 ^ 9:=Nat.lt_of_lt_of_le (by simpa using hlt) (Nat.pow_le_pow_right (by decide) (by have:=hr.2.1;simp at this ⊢;omega))
     have h3:(10:Nat) ^ 9=1000000000:=by decide
     have hp:=hw.2 hb
     refine ⟨?_,by omega,by omega⟩
     unfold itoa
     rw [if_pos (by omega),show (-(n:Int)).natAbs=n by omega,hw.1,hc]
  ·rename_i hc
   split at h
   ·cases h
   ·rename_i hr
    simp only [not_or] at hr
    obtain ⟨n,hn,rfl⟩:=Option.map_eq_some_iff.1 h
    have hb:c ≠ 48\/r=[]:=by
     by_cases e:c=48
     ·exact .inr (Classical.byContradiction fun hne=>hr.2 ⟨e,hne⟩)
     ·exact .inl e
    have hw:=Ts hn hb
    have hlt:=decFrom_lt _ _ _ hn
    have:n<10 ^ 9:=Nat.lt_of_lt_of_le (by simpa using hlt) (Nat.pow_le_pow_right (by decide) (by have:=hr.1;simp at this ⊢;omega))
    have h3:(10:Nat) ^ 9=1000000000:=by decide
    refine ⟨?_,by omega,by omega⟩
    unfold itoa
    rw [if_neg (by omega),show ((n:Int)).toNat=n by omega,hw.1]
def YM (l:Txt):Option Z6:=
 match Zl 58 l with
 | [a,b]=>(YB a).bind fun f=>(YB b).bind fun k=>some (f,k)
 | _=>none
def Za (l:Txt):Option Z2:=
 match Zl 32 l with
 | []=>none
 | a::ws=>(YB a).bind fun n=>(ws.mapM YM).bind fun ps=>some (n,ps)
def YW (l:Txt):Option (List Z2):=((Zl 47 l).mapM Za).bind fun rs=>if Zh rs=true then some rs else none
def Rw (p:Z6):Txt:=itoa p.1++58::itoa p.2
def Rx (r:Z2):Txt:=join (itoa r.1::r.2.map Rw) [32]
def KA (rs:List Z2):Txt:=if Zh rs=true then join (rs.map Rx) [47] else []
theorem Nj {l:Txt} {p:Z6} (h:YM l=some p):Rw p=l:=by
 unfold YM at h
 split at h
 ·rename_i a b hs
  obtain ⟨f,hf,h⟩:=Option.bind_eq_some_iff.1 h
  obtain ⟨k,hk,h⟩:=Option.bind_eq_some_iff.1 h
  cases h
  have hj:=U9 58 l []
  unfold Zl at hs
  rw [hs,join_cons,R8] at hj
  unfold Rw
  rw [<-(TX hf).1,<-(TX hk).1]
  simpa [joinTail] using hj
 ·cases h
theorem Qy {α β:Type} {f:α->Option β} {g:β->α} : ∀ (l:List α) (ps:List β),l.mapM f=some ps->(∀ x p,f x=some p->g p=x)->ps.map g=l
 | [],ps,h,_=>by simp at h;subst h;rfl
 | x::l,ps,h,hg=>by
  rw [List.mapM_cons] at h
  obtain ⟨p,hp,h⟩:=Option.bind_eq_some_iff.1 h
  obtain ⟨q,hq,h⟩:=Option.bind_eq_some_iff.1 h
  cases h
  simp [hg x p hp,Qy l q hq hg]
theorem Nk {l:Txt} {r:Z2} (h:Za l=some r):Rx r=l:=by
 unfold Za at h
 split at h
 ·cases h
 ·rename_i a ws hs
  obtain ⟨n,hn,h⟩:=Option.bind_eq_some_iff.1 h
  obtain ⟨ps,hp,h⟩:=Option.bind_eq_some_iff.1 h
  cases h
  have hj:=U9 32 l []
  unfold Zl at hs
  rw [hs] at hj
  unfold Rx
  rw [<-(TX hn).1,Qy (g:=Rw) _ _ hp (fun x p=>Nj)]
  simpa using hj
theorem Ng {l:Txt} {rs:List Z2} (h:YW l=some rs):Zh rs=true/\KA rs=l:=by
 unfold YW at h
 obtain ⟨rs',hr,h⟩:=Option.bind_eq_some_iff.1 h
 split at h
 ·rename_i hb
  cases h
  refine ⟨hb,?_⟩
  unfold KA
  rw [if_pos hb,Qy (g:=Rx) _ _ hr (fun x p=>Nk)]
  have hj:=U9 47 l []
  simpa [Zl] using hj
 ·cases h
end Go.Proofs.YtffcgajndmhpkaaGreatDoor
