/- Part 18 of what the proof rests on. No condition but those that a theorem names. -/
import Derived.Test.YtamgfpdahadnfaaGreatDoorXc22
import Derived.Test.YtamgfpdahadnfaaGreatDoorXc14
import Derived.Test.YtamgfpdahadnfaaGreatDoorXc17
import Derived.Lib.ItoaNum
import Derived.Lib.ItoaLen
import Derived.Lib.AtoiTie
import Derived.Lib.ParseIntBTie
import Derived.Lib.SplitLaws
import Derived.Lib.Join
set_option maxHeartbeats 8000000
set_option maxRecDepth 100000
namespace Go.Proofs.YtamgfpdahadnfaaGreatDoor
open Go.ChangeShapes Go.WideShapes Go.ChangeAt Go.RowKit Go.Sort
set_option linter.unusedVariables false
set_option linter.unusedSimpArgs false
theorem GI {w:World} {v0 v1 v2 v3 v4:Value} {m:Z6} (who:Int) (gu:Int) (h:Smy w v0 v1 v2 v3 v4 m) (hok:ZJ m=true) :
  Calls Tryz.prog 258 #[.agg #[v0,v1,v2,v3,v4,.int .i64 m.now],.int .i64 who,.int .i64 gu] w fun e w'=>S5 w.heap.size (QI m who gu).1 (QI m who gu).2 e w'/\Below w.heap.size w w':=by
 obtain ⟨X,hX⟩:∃ x,QI m who gu=x:=⟨_,rfl⟩
 rw [hX];have HX:=Z9 hX;clear hX;have Hv0:=Z9 h;obtain ⟨a0,p0,a1,p1,a2,p2,a3,p3,a4,p4,rfl,rfl,rfl,rfl,rfl,_,_,_,_,_,_,_,_,_,_⟩:=h.five;clear h;have Hok:=Z9 hok;clear hok;go_enter Tryz.func258,Tryz.ntmps258;go_wp2_with fail;have kb:Hid (Blk ((w.alloc (.cells (S6 a0 p0 a1 p1 a2 p2 a3 p3 a4 p4 m) 32)).alloc (.cells E6 32)) w.heap.size 32 (S6 a0 p0 a1 p1 a2 p2 a3 p3 a4 p4 m)):=Z9 ((Blk.new w _ _).alloc _)
 have kr:Hid (Blk ((w.alloc (.cells (S6 a0 p0 a1 p1 a2 p2 a3 p3 a4 p4 m) 32)).alloc (.cells E6 32)) (w.heap.size+1) 32 E6):=Z9 (by
  have k:=Blk.new (w.alloc (.cells (S6 a0 p0 a1 p1 a2 p2 a3 p3 a4 p4 m) 32)) 32 E6;rw [Y1] at k
  exact k)
 have BB:Hid (Below w.heap.size w ((w.alloc (.cells (S6 a0 p0 a1 p1 a2 p2 a3 p3 a4 p4 m) 32)).alloc (.cells E6 32))):=Z9 (((ba _ _)).alloc (by simp) _);have Hv:=Z9 ((uh Hv0).below (uh BB));clear Hv0;generalize (w.alloc (.cells (S6 a0 p0 a1 p1 a2 p2 a3 p3 a4 p4 m) 32)).alloc (.cells E6 32)=w1 at *;have hlo:=ZR (uh Hok);have HLo:=Z9 hlo;have HFew:=Z9 (Xn hlo);clear hlo;have hWs:w.heap.size+2<=w1.heap.size:=by have:=(uh kr).lt;omega
 refine (XR (uh Hv) (uh HFew)).mono ?_;rintro e w2 ⟨y0,y1,y2,y3,y4,oq,rfl,ho,hb⟩;have k9:=ho.smy;obtain ⟨b0,q0,b1,q1,b2,q2,b3,q3,b4,q4,rfl,rfl,rfl,rfl,rfl,_,_,_,_,_,_,_,_,_,_⟩:=k9.five;clear k9;replace kb:=bl kb hb;replace kr:=bl kr hb;replace Hv:=Z9 ((uh Hv).below hb);replace BB:=bt BB hb;have HO:=Z9 (ho.mono hWs);have LO:Hid (∀ k,Wa (.slice b0 m.rm.length q0) (.slice b1 m.gd.length q1) (.slice b2 m.sm.length q2) (.slice b3 m.dk.length q3) (.slice b4 m.pc.length q4) oq k->w.heap.size+2<=k/\k<w2.heap.size):=Z9 (fun k e=>(uh HO).own e);have hsz9:=hb.size;clear ho hb;go_upto_region 2 with fail;obtain ⟨W2,hW2,hba,ko⟩:=YP w2 32 (S6 b0 q0 b1 q1 b2 q2 b3 q3 b4 q4 m);replace kb:=bl kb hba;replace kr:=bl kr hba;replace Hv:=Z9 ((uh Hv).below hba);replace HO:=Z9 ((uh HO).below hba);replace BB:=bt BB hba;have hob:w.heap.size+2<=w2.heap.size:=XO hWs hsz9;clear hba hsz9 hWs;rw [hW2];clear hW2;generalize w2.heap.size=ob at *;obtain ⟨qw,hqw⟩:∃ q,WL m who=q:=⟨_,rfl⟩
 have Hqw:=Z9 hqw;clear hqw;obtain ⟨c0,c1,c2,c3,c4,c5⟩:=(uh kb).c6;go_wp2_with fail;clear c0 c1 c2 c3 c4 c5;refine ck (U8 (uh Hqw) (uh Hv)) fun w3 hb=> ?_;replace kb:=bl kb hb;replace kr:=bl kr hb;replace Hv:=Z9 ((uh Hv).below hb);replace HO:=Z9 ((uh HO).below hb);replace ko:=bl ko hb;replace BB:=bt BB hb;clear hb;cases qw
 ·
  obtain ⟨x0,x1,x2,x3,x4,x5⟩:=(uh ko).c6;obtain ⟨o0,o1,o2,o3,o4,o5⟩:=(uh kr).c6;obtain ⟨f0,f1,f2,f3,f4,f5⟩:=(uh kr).f6;go_wp2_with fail;have hX0:X=(m,1):=by rw [<-uh HX];unfold QI;rw [uh Hqw];rfl
  exact ZS (v:= .tuple #[.agg (S6 b0 q0 b1 q1 b2 q2 b3 q3 b4 q4 m),.int .i64 1]) (by simp [results,Tryz.results258,go_sem, *]) rfl (Zb hX0 rfl (uh HO) (uh BB))
 obtain ⟨k,rfl,hk,hs0⟩:=XS (uh Hqw);have hk1:(k:Int)<(m.sm.length:Int):=by omega
 obtain ⟨qg,hqg⟩:∃ q,inB gu (-1) ((m.gd.length:Int)-1)=q:=⟨_,rfl⟩
 have Hqg:=Z9 hqg;clear hqg;have hgl:=(uh HFew).gd;have c1:=(uh kb).cell (i:=1) (v:= .slice a1 m.gd.length p1) rfl;go_wp2_with fail;refine (ZV _ _ _ _).mono ?_;rw [uh Hqg];rintro e w9 ⟨rfl,hw9⟩;subst w9;clear c1;cases qg
 ·
  obtain ⟨x0,x1,x2,x3,x4,x5⟩:=(uh ko).c6;obtain ⟨o0,o1,o2,o3,o4,o5⟩:=(uh kr).c6;obtain ⟨f0,f1,f2,f3,f4,f5⟩:=(uh kr).f6;go_wp2_with fail;have hX0:X=(m,3):=by rw [<-uh HX];unfold QI;rw [uh Hqw];simp only [if_true];rw [uh Hqg];rfl
  exact ZS (v:= .tuple #[.agg (S6 b0 q0 b1 q1 b2 q2 b3 q3 b4 q4 m),.int .i64 3]) (by simp [results,Tryz.results258,go_sem, *]) rfl (Zb hX0 rfl (uh HO) (uh BB))
 obtain ⟨g2,hga,_,_,hc2,hz2⟩:=RecAt.view ZT (by omega) (uh HO).sm rfl (by omega);cases hga;have hg2o:=(uh LO g2 (.inr (.inr (.inr (.inl rfl)))))
 have x2:=(uh ko).cell (i:=2) (v:= .slice (some ⟨g2,0,none⟩) m.sm.length q2) rfl;have s0:=hc2 k hk 4 _ rfl;have f0:=hz2 (k*11+4);have hp0:=(uh HO).putS rfl (j:=k) (i:=4) hk (by omega) (.int .i64 gu) (OU (Z8 m.sm k) gu) rfl;have HP:=Z9 hp0;clear hc2 hz2 HO hp0;go_upto_region 7 with fail;clear s0 f0 x2;replace ko:Hid (Blk ((w3).setCell ⟨g2,k*11+4,none⟩ (.int .i64 gu)) ob 32 (S6 b0 q0 b1 q1 (some ⟨g2,0,none⟩) q2 b3 q3 b4 q4 m)):=Z9 ((uh ko).other (a:=⟨g2,k*11+4,none⟩) (by show ob ≠ g2;omega) (.int .i64 gu));replace kr:Hid (Blk ((w3).setCell ⟨g2,k*11+4,none⟩ (.int .i64 gu)) (w.heap.size+1) 32 E6):=Z9 ((uh kr).other (a:=⟨g2,k*11+4,none⟩) (by show w.heap.size+1 ≠ g2;omega) (.int .i64 gu));replace BB:Hid (Below w.heap.size w ((w3).setCell ⟨g2,k*11+4,none⟩ (.int .i64 gu))):=Z9 ((uh BB).setCell (p:=⟨g2,k*11+4,none⟩) (by show w.heap.size<=g2;omega) (.int .i64 gu));clear kb Hv;generalize (w3).setCell ⟨g2,k*11+4,none⟩ (.int .i64 gu)=W3 at *;have hfw:=uh HFew;go_wp2_with fail;refine (UX (m:=setS m k (OU (Z8 m.sm k) gu)) (uh ko) (uh HP) (fun k e=>by have:=(uh LO k e).2;omega) (uh kr) (uh BB) (by show (m.sm.set k _).length<=800;have:=hfw.sm;simp;omega) hfw.dk).mono ?_;clear kr BB;rintro e w4 ⟨rfl,HF9,kr,BB⟩;obtain ⟨o0,o1,o2,o3,o4,o5⟩:=(uh kr).c6;obtain ⟨f0,f1,f2,f3,f4,f5⟩:=(uh kr).f6;go_wp2_with fail;have hX0:X=(ZM (setS m k (OU (Z8 m.sm k) gu)),0):=by rw [<-uh HX];unfold QI;rw [uh Hqw];simp only [if_true,Zy];rw [uh Hqg];rfl
 have hnow:(ZM (setS m k (OU (Z8 m.sm k) gu))).now=m.now:=(ZH _ _).2.2.2.1;exact ZS (v:= .tuple #[.agg (S6 b0 q0 b1 q1 (some ⟨g2,0,none⟩) q2 b3 q3 b4 q4 m),.int .i64 0]) (by simp [results,Tryz.results258,go_sem,setS,TK,Yb,pushS, *]) rfl (Zb hX0 hnow (uh HF9) (uh BB))
set_option maxRecDepth 100000
structure Hp (w W:World) (a0 a1 a2 a3 a4:Option Addr) (p0 p1 p2 p3 p4:Nat) (m:Z6) (k who a b:Int):Prop where
 v:Smy W (.slice a0 m.rm.length p0) (.slice a1 m.gd.length p1) (.slice a2 m.sm.length p2) (.slice a3 m.dk.length p3) (.slice a4 m.pc.length p4) m
 s:Blk W w.heap.size 32 (S6 a0 p0 a1 p1 a2 p2 a3 p3 a4 p4 m)
 t:Blk W (w.heap.size+1) 190 #[.int .i64 k,.int .i64 who,.int .i64 a,.int .i64 b]
 r:Blk W (w.heap.size+1+1) 32 E6
 y:Below w.heap.size w W
theorem Hp.next {w W W':World} {a0 a1 a2 a3 a4:Option Addr} {p0 p1 p2 p3 p4:Nat} {m:Z6} {k who a b:Int} (h:Hid (Hp w W a0 a1 a2 a3 a4 p0 p1 p2 p3 p4 m k who a b)) (hb:Below W.heap.size W W'):Hid (Hp w W' a0 a1 a2 a3 a4 p0 p1 p2 p3 p4 m k who a b):=
 Z9 ⟨(uh h).v.below hb,(uh h).s.below hb (uh h).s.lt,(uh h).t.below hb (uh h).t.lt,(uh h).r.below hb (uh h).r.lt,(uh h).y.trans (hb.mono (uh h).y.size)⟩
theorem Hp.new {w:World} {a0 a1 a2 a3 a4:Option Addr} {p0 p1 p2 p3 p4:Nat} {m:Z6} (k who a b:Int) (h:Smy w (.slice a0 m.rm.length p0) (.slice a1 m.gd.length p1) (.slice a2 m.sm.length p2) (.slice a3 m.dk.length p3) (.slice a4 m.pc.length p4) m):∃ W,((w.alloc (.cells (S6 a0 p0 a1 p1 a2 p2 a3 p3 a4 p4 m) 32)).alloc (.cells #[.int .i64 k,.int .i64 who,.int .i64 a,.int .i64 b] 190)).alloc (.cells E6 32)=W/\Hid (Hp w W a0 a1 a2 a3 a4 p0 p1 p2 p3 p4 m k who a b):=by
 have BB:=(((ZZ w.heap.size w).alloc (Z1 _) (.cells (S6 a0 p0 a1 p1 a2 p2 a3 p3 a4 p4 m) 32)).alloc (by simp) (.cells #[.int .i64 k,.int .i64 who,.int .i64 a,.int .i64 b] 190)).alloc (by simp;omega) (.cells E6 32);have k1:=(Blk.new (w.alloc (.cells (S6 a0 p0 a1 p1 a2 p2 a3 p3 a4 p4 m) 32)) 190 #[.int .i64 k,.int .i64 who,.int .i64 a,.int .i64 b]).alloc (.cells E6 32);have k2:=Blk.new ((w.alloc (.cells (S6 a0 p0 a1 p1 a2 p2 a3 p3 a4 p4 m) 32)).alloc (.cells #[.int .i64 k,.int .i64 who,.int .i64 a,.int .i64 b] 190)) 32 E6;rw [Y1] at k1;rw [Y1,Y1] at k2;exact ⟨_,rfl,Z9 ⟨h.below BB,((Blk.new w _ _).alloc _).alloc _,k1,k2,BB⟩⟩
theorem zt {w:World} {v0 v1 v2 v3 v4:Value} {m:Z6} (h:Smy w v0 v1 v2 v3 v4 m):Calls Tryz.prog 46 #[.agg #[v0,v1,v2,v3,v4,.int .i64 m.now]] w fun e w'=>S5 w.heap.size Ye 3 e w'/\Below w.heap.size w w':=by
 refine ck (XV h) fun w2 hb=> ?_;exact ⟨⟨_,_,_,_,_,[],rfl,YM _ _⟩,hb⟩
theorem Af {w:World} {v0 v1 v2 v3 v4:Value} {m:Z6} (h:Smy w v0 v1 v2 v3 v4 m) (hok:ZJ m=true):Calls Tryz.prog 47 #[.agg #[v0,v1,v2,v3,v4,.int .i64 m.now]] w fun e w'=>zn w.heap.size m e w'/\Below w.heap.size w w':=by
 refine (XR h (Xn (ZR hok))).mono ?_;rintro e w2 ⟨y0,y1,y2,y3,y4,oq,rfl,ho,hb⟩;exact ⟨⟨_,_,_,_,_,oq,rfl,ho⟩,hb⟩
theorem gm {f:Nat} {args:Array Value} {w:World} {n:Nat} {X:Z6 × Int} {M:Z6} {cd:Int} (h:Calls Tryz.prog f args w fun e w'=>S5 n X.1 X.2 e w'/\Below n w w') (he:X=(M,cd)):Calls Tryz.prog f args w fun e w'=>S5 n M cd e w'/\Below n w w':=by subst he;exact h
theorem gl {f:Nat} {args:Array Value} {w:World} {n:Nat} {X M:Z6} (h:Calls Tryz.prog f args w fun e w'=>zn n X e w'/\Below n w w') (he:X=M):Calls Tryz.prog f args w fun e w'=>zn n M e w'/\Below n w w':=by subst he;exact h
theorem Eo {m:Z6} (hok:ZJ m=false) (k who a b:Int):Zm m k who a b=(Ye,3):=by unfold Zm;rw [hok];rfl
theorem M8 {w:World} {v0 v1 v2 v3 v4:Value} {m:Z6} (k who a b:Int) (h:Smy w v0 v1 v2 v3 v4 m) :
  Calls Tryz.prog 207 #[.agg #[v0,v1,v2,v3,v4,.int .i64 m.now],.agg #[.int .i64 k,.int .i64 who,.int .i64 a,.int .i64 b]] w fun e w'=>S5 w.heap.size (Zm m k who a b).1 (Zm m k who a b).2 e w'/\Below w.heap.size w w':=by
 obtain ⟨Y,hY⟩:∃ y,Zm m k who a b=y:=⟨_,rfl⟩
 rw [hY];obtain ⟨M,cd⟩:=Y;have HY:=Z9 hY;have Hv:=Z9 h;obtain ⟨q,hq⟩:∃ q,ZJ m=q:=⟨_,rfl⟩
 have Hq:=Z9 hq;obtain ⟨a0,p0,a1,p1,a2,p2,a3,p3,a4,p4,rfl,rfl,rfl,rfl,rfl,_,_,_,_,_,_,_,_,_,_⟩:=h.five;clear h hY hq;go_enter Tryz.func207,Tryz.ntmps207;go_wp2_with fail;obtain ⟨W,hW,H⟩:=Hp.new k who a b (uh Hv);rw [hW];clear hW Hv;refine ck (Xt (uh Hq) (uh H).v) fun w1 hb=> ?_;replace H:=Hp.next H hb;clear hb;have hn:q=false\/(q=true/\(k<1\/14<k))\/(q=true/\(k=1\/k=2\/k=3\/k=4\/k=5\/k=6\/k=7\/k=8\/k=9\/k=10\/k=11\/k=12\/k=13\/k=14)):=by cases q<;>simp;omega
 rcases hn with rfl | ⟨rfl,hk⟩ | ⟨rfl,rfl | rfl | rfl | rfl | rfl | rfl | rfl | rfl | rfl | rfl | rfl | rfl | rfl | rfl⟩
 rotate_left;have Hk:=Z9 hk;have hne:∀ j:Int,1<=j->j<=14->(k ==j)=false/\decide (k=j)=false:=fun j _ _=>⟨beq_eq_false_iff_ne.mpr (by have:=uh Hk;omega),XE (by have:=uh Hk;omega)⟩
 obtain ⟨n1,m1⟩:=hne 1 (by decide) (by decide);obtain ⟨n2,m2⟩:=hne 2 (by decide) (by decide);obtain ⟨n3,m3⟩:=hne 3 (by decide) (by decide);obtain ⟨n4,m4⟩:=hne 4 (by decide) (by decide);obtain ⟨n5,m5⟩:=hne 5 (by decide) (by decide);obtain ⟨n6,m6⟩:=hne 6 (by decide) (by decide);obtain ⟨n7,m7⟩:=hne 7 (by decide) (by decide);obtain ⟨n8,m8⟩:=hne 8 (by decide) (by decide);obtain ⟨n9,m9⟩:=hne 9 (by decide) (by decide);obtain ⟨n10,m10⟩:=hne 10 (by decide) (by decide);obtain ⟨n11,m11⟩:=hne 11 (by decide) (by decide);obtain ⟨n12,m12⟩:=hne 12 (by decide) (by decide);obtain ⟨n13,m13⟩:=hne 13 (by decide) (by decide);obtain ⟨n14,m14⟩:=hne 14 (by decide) (by decide);obtain ⟨hM,hC⟩:=Prod.mk.inj ((Ok (uh Hq) (uh Hk) who a b).symm.trans (uh HY));have HM:=Z9 hM;have HC:=Z9 hC.symm;clear hne hM hC hk;rotate_left 13;obtain ⟨hM,hC⟩:=Prod.mk.inj ((Gu (uh Hq) who a b).symm.trans (uh HY));have HM:=Z9 hM;have HC:=Z9 hC.symm;clear hM hC
 all_goals
  obtain ⟨c0,c1,c2,c3,c4,c5⟩:=(uh H).s.c6;have d0:=(uh H).t.cell (i:=0) rfl;have d1:=(uh H).t.cell (i:=1) rfl;have d2:=(uh H).t.cell (i:=2) rfl;have d3:=(uh H).t.cell (i:=3) rfl;go_wp2_with fail;clear c0 c1 c2 c3 c4 c5 d0 d1 d2 d3
  first
  | refine (gl (Af (uh H).v (uh Hq)) (uh HM)).mono ?_
  | refine (gl (Pj (uh H).v) (uh HM)).mono ?_
  | refine (gm (zt (uh H).v) ((Eo (uh Hq) k who a b).symm.trans (uh HY))).mono ?_
  | refine (gm (P2 a b (-1) (uh H).v) ((Du (uh Hq) who a b).symm.trans (uh HY))).mono ?_
  | refine (gm (JQ who (uh H).v) ((Dv (uh Hq) who a b).symm.trans (uh HY))).mono ?_
  | refine (gm (P7 who (uh H).v) ((Dw (uh Hq) who a b).symm.trans (uh HY))).mono ?_
  | refine (gm (Lx who (uh H).v) ((Dx (uh Hq) who a b).symm.trans (uh HY))).mono ?_
  | refine (gm (Nh who a (uh H).v) ((Dy (uh Hq) who a b).symm.trans (uh HY))).mono ?_
  | refine (gm (NX who a (uh H).v) ((Dz (uh Hq) who a b).symm.trans (uh HY))).mono ?_
  | refine (gm (N5 who a b (uh H).v) ((DA (uh Hq) who a b).symm.trans (uh HY))).mono ?_
  | refine (gm (M7 a (uh H).v) ((DC (uh Hq) who a b).symm.trans (uh HY))).mono ?_
  | refine (gm (Nf a (uh H).v) ((DD (uh Hq) who a b).symm.trans (uh HY))).mono ?_
  | refine (gm (Nj a (uh H).v) ((Gr (uh Hq) who a b).symm.trans (uh HY))).mono ?_
  | refine (gm (NZ a b (uh H).v) ((Gs (uh Hq) who a b).symm.trans (uh HY))).mono ?_
  | refine (gm (X:=(D3 m,0)) (Ez (uh H).v (uh Hq)) ((Gt (uh Hq) who a b).symm.trans (uh HY))).mono ?_
  | refine (gm (GI who a (uh H).v (uh Hq)) ((Gv (uh Hq) who a b).symm.trans (uh HY))).mono ?_
  rintro e w2 ⟨⟨y0,y1,y2,y3,y4,oq,rfl,ho⟩,hb⟩;have k9:=ho.smy;obtain ⟨b0,q0,b1,q1,b2,q2,b3,q3,b4,q4,rfl,rfl,rfl,rfl,rfl,_,_,_,_,_,_,_,_,_,_⟩:=k9.five;have HO:=Z9 (ho.mono (show w.heap.size+3<=w1.heap.size by have:=(uh H).r.lt;omega));clear ho k9;replace H:=Hp.next H hb;clear hb;have o0:=(uh H).r.cell (i:=0) rfl;have f0:=(uh H).r.free 0;have o1:=(uh H).r.cell (i:=1) rfl;have f1:=(uh H).r.free 1;have o2:=(uh H).r.cell (i:=2) rfl;have f2:=(uh H).r.free 2;have o3:=(uh H).r.cell (i:=3) rfl;have f3:=(uh H).r.free 3;have o4:=(uh H).r.cell (i:=4) rfl;have f4:=(uh H).r.free 4;have o5:=(uh H).r.cell (i:=5) rfl;have f5:=(uh H).r.free 5;go_wp2_with fail
  (try have hC:=uh HC)
  refine ZS (v:= .tuple #[.agg (S6 b0 q0 b1 q1 b2 q2 b3 q3 b4 q4 M),.int .i64 cd]) (by simp [results,Tryz.results207,go_sem, *]) rfl ⟨⟨_,_,_,_,_,oq,rfl,?_⟩,?_⟩
  ·refine FullSmy.mono (n₀:=w.heap.size+3) ?_ (by omega)
   iterate 6 (refine FullSmy.set ?_ _ _ _ (by omega))
   exact uh HO
  ·iterate 6 (refine YO ?_ (by show _<=w.heap.size+1+1;omega) _)
   exact (uh H).y
open Draw (St Off Row Cur)
set_option maxRecDepth 100000
structure Dbox (a:Option Addr) (len cap bc n₁:Nat) (w0 w:World) (M:Z6) (u0 u1 u2 u3 u4:Value) (rq:List (ZX × Value)):Prop where
 st:St a len cap bc w
 off:Off bc w0 w
 ok:ZJ M=true
 full:FullSmy n₁ w u0 u1 u2 u3 u4 M rq
 lo:bc<n₁
 hi:n₁<=w0.heap.size
 kb:Blk w w0.heap.size 32 #[u0,u1,u2,u3,u4,.int .i64 M.now]
 kr:Blk w (w0.heap.size+1) 32 E6
 own:∀ k,Wa u0 u1 u2 u3 u4 rq k->k ≠ w0.heap.size/\k ≠ w0.heap.size+1
 bl:bc<w0.heap.size
section
variable {a : Option Addr} {len cap bc n₁ : Nat} {w0 w w' : World} {M : Z6} {u0 u1 u2 u3 u4 : Value} {rq : List (ZX × Value)}
theorem Dbox.step (h:Dbox a len cap bc n₁ w0 w M u0 u1 u2 u3 u4 rq) (hs:St a len cap bc w') (ho:Off bc w w'):Dbox a len cap bc n₁ w0 w' M u0 u1 u2 u3 u4 rq:=
 have hb:=h.bl
 ⟨hs,h.off.trans ho,h.ok,h.full.away ho h.lo,h.lo,h.hi,h.kb.away ho (by omega),h.kr.away ho (by omega),h.own,h.bl⟩
theorem Dbox.below (h:Dbox a len cap bc n₁ w0 w M u0 u1 u2 u3 u4 rq) (hb:Below w.heap.size w w'):Dbox a len cap bc n₁ w0 w' M u0 u1 u2 u3 u4 rq:=
 h.step (Xz h.st (hb.mono (Wy h.st))) (VP hb)
theorem Dbox.put (h:Dbox a len cap bc n₁ w0 w M u0 u1 u2 u3 u4 rq) {n:Nat} {z0 z1 z2 z3 z4:Value} {M1:Z6} {zq:List (ZX × Value)} (hf:FullSmy n w z0 z1 z2 z3 z4 M1 zq) (hn:w0.heap.size+2<=n) (hok:ZJ M1=true) :
  Dbox a len cap bc n₁ w0 ((((((w.setCell ⟨w0.heap.size,0,none⟩ z0).setCell ⟨w0.heap.size,1,none⟩ z1).setCell ⟨w0.heap.size,2,none⟩ z2).setCell ⟨w0.heap.size,3,none⟩ z3).setCell ⟨w0.heap.size,4,none⟩ z4).setCell ⟨w0.heap.size,5,none⟩ (.int .i64 M1.now)) M1 z0 z1 z2 z3 z4 zq:=by
 have hb:=h.bl;have hown:∀ k,Wa z0 z1 z2 z3 z4 zq k->k ≠ w0.heap.size/\k ≠ w0.heap.size+1:=fun k e=>by have:=(hf.own e).1;omega
 have hh:=h.hi;refine ⟨?_,?_,hok,?_,h.lo,h.hi,?_,?_,hown,h.bl⟩
 ·iterate 6 (refine St.newer ?_ hb _ _)
  exact h.st
 ·iterate 6 (refine Off.newer ?_ (Z1 _) _ _)
  exact h.off
 ·iterate 6 (refine FullSmy.set_off ?_ (fun k e=>(hown k e).1) _ _)
  exact hf.mono (by omega)
 ·exact (((((h.kb.set 0 z0).set 1 z1).set 2 z2).set 3 z3).set 4 z4).set 5 _
 ·iterate 6 (refine Blk.other ?_ (by show w0.heap.size+1 ≠ w0.heap.size;omega) _)
  exact h.kr
end
theorem BZ (a:Option Addr) (len cap bc:Nat) {w:World} {n₁:Nat} {v0 v1 v2 v3 v4:Value} {m:Z6} {qs:List (ZX × Value)} (hs:St a len cap bc w) (hf:FullSmy n₁ w v0 v1 v2 v3 v4 m qs) (hn:bc<n₁) (hn2:n₁<=w.heap.size) (hok:ZJ m=true) (most:Int) (h0:0<most) (h1:most<=1000) :
  Calls Tryz.prog 150 #[.pointer (some ⟨bc,0,none⟩),.agg #[v0,v1,v2,v3,v4,.int .i64 m.now],.int .i64 most] w fun e w'=> ∃ M u0 u1 u2 u3 u4 rq,e= .returned (.agg #[u0,u1,u2,u3,u4,.int .i64 M.now])/\ZJ M=true/\FullSmy n₁ w' u0 u1 u2 u3 u4 M rq/\St a len cap bc w'/\Off bc w w':=by
 have Hs:=Z9 hs;have HF:=Z9 hf;have hbc:=Wy hs;have h:=hf.smy;obtain ⟨a0,p0,a1,p1,a2,p2,a3,p3,a4,p4,rfl,rfl,rfl,rfl,rfl,_,_,_,_,_,_,_,_,_,_⟩:=h.five;clear h hs hf;have Hok:=Z9 hok;clear hok
 have D0:Hid (Dbox a len cap bc n₁ w ((w.alloc (.cells (S6 a0 p0 a1 p1 a2 p2 a3 p3 a4 p4 m) 32)).alloc (.cells E6 32)) m (.slice a0 m.rm.length p0) (.slice a1 m.gd.length p1) (.slice a2 m.sm.length p2) (.slice a3 m.dk.length p3) (.slice a4 m.pc.length p4) qs):=Z9 ⟨((uh Hs).alloc _).alloc _,((Off.refl _ _).alloc _).alloc _,uh Hok,(((uh HF).below ((ba _ _))).below ((ba _ _))),hn,hn2,(Blk.new w _ _).alloc _,by
  have k:=Blk.new (w.alloc (.cells (S6 a0 p0 a1 p1 a2 p2 a3 p3 a4 p4 m) 32)) 32 E6;rw [Y1] at k
  exact k,fun k e=>by have:=((uh HF).own e).2;omega,hbc⟩
 clear Hs HF Hok;go_enter Tryz.func150,Tryz.ntmps150;go_wp2_with fail;generalize (w.alloc (.cells (S6 a0 p0 a1 p1 a2 p2 a3 p3 a4 p4 m) 32)).alloc (.cells E6 32)=W at *;refine (Draw.below_any a len cap bc most h0 (by omega) _ (uh D0).st).mono ?_;rintro e w1 ⟨y,rfl,y0,y1,s9,p9⟩;replace D0:=Z9 ((uh D0).step s9 p9);clear s9 p9;go_wp2_with fail
 go_loopw [7] (fun i wr=> ∃ (k:Nat) (M:Z6) (u0 u1 u2 u3 u4:Value) (rq:List (ZX × Value)),k<=1000/\i= .int .i64 k/\Dbox a len cap bc n₁ w wr M (u0) (u1) (u2) (u3) (u4) rq) (fun i _=>(intOf i).toNat)
 case atStart=>exact ⟨y.toNat,m,_,_,_,_,_,qs,by omega,by rw [show ((y.toNat:Nat):Int)=y by omega],uh D0⟩
 case round=>
  obtain ⟨k,M,u0,u1,u2,u3,u4,rq,hk1,rfl,hD⟩:=hrel;have h:=hD.full.smy;obtain ⟨b0,q0,b1,q1,b2,q2,b3,q3,b4,q4,rfl,rfl,rfl,rfl,rfl,_,_,_,_,_,_,_,_,_,_⟩:=h.five;have HD:=Z9 hD;clear h hD D0;by_cases hk0:0<k
  ·
   have hlo:=ZR (uh HD).ok;have g2:=YS hlo;have g3':=Xi hlo;have g3:1<=M.dk.length:=by obtain ⟨j,hj,_⟩:=hlo.openD;omega
   have g4:1<=M.pc.length:=O8 hlo
   have g4':M.pc.length<=3:=by
    rw [VV hlo];have hd:=hlo.head;unfold YA at hd;simp only [ZP,Y0] at hd;exact (Zl hd.1).2.1
   have g1:M.gd.length<=6:=by
    have hd:=hlo.head;unfold YA at hd;simp only [ZP,Y0] at hd;exact (Vo hd.2.1).2
   have G1:=Z9 g1;have G2:=Z9 g2;have G3:=Z9 g3;have G3':=Z9 g3';have G4:=Z9 g4;have G4':=Z9 g4';clear hlo g1 g2 g3 g3' g4 g4';obtain ⟨c0,c1,c2,c3,c4,c5⟩:=(uh HD).kb.c6;go_wp2_with fail
   go_region_with (first
    | (go_at_call 208;refine (Gh a len cap bc _ _ _ _ _ _ _ _ _ _ _ _ _ _ _ _ (uh G1) (uh G2) (uh G3) (uh G3') (uh G4) (uh G4') _ ?_).mono ?_;exact Rd (uh HD).st;rintro e w5 ⟨kk,who,aa,bb,rfl,s9,p9⟩;have HD5:=Z9 ((uh HD).step s9 (RM p9));have y0:=(uh HD5).kb.cell (i:=0) (v:= .slice b0 M.rm.length q0) rfl;have y1:=(uh HD5).kb.cell (i:=1) (v:= .slice b1 M.gd.length q1) rfl;have y2:=(uh HD5).kb.cell (i:=2) (v:= .slice b2 M.sm.length q2) rfl;have y3:=(uh HD5).kb.cell (i:=3) (v:= .slice b3 M.dk.length q3) rfl;have y4:=(uh HD5).kb.cell (i:=4) (v:= .slice b4 M.pc.length q4) rfl;have y5:=(uh HD5).kb.cell (i:=5) (v:= .int .i64 M.now) rfl;clear s9 p9)
    | (go_at_call 207;go_loud (refine (M8 kk who aa bb ?_).mono ?_;exact (uh HD5).full.smy;have hright:=Jo (uh HD5).ok kk who aa bb;generalize Zm M kk who aa bb=Y at *;obtain ⟨M1,cd⟩:=Y;rintro e w6 ⟨⟨z0,z1,z2,z3,z4,zq,rfl,ho⟩,hb⟩;dsimp only at ho hright ⊢;have k6:=ho.smy;obtain ⟨d0,r0,rfl,_,_⟩:=IsRooms.shape k6.rm;obtain ⟨d1,r1,rfl,_,_⟩:=IsRec.shape k6.gd;obtain ⟨d2,r2,rfl,_,_⟩:=IsRec.shape k6.sm;obtain ⟨d3,r3,rfl,_,_⟩:=IsRec.shape k6.dk;obtain ⟨d4,r4,rfl,_,_⟩:=IsRec.shape k6.pc;have hz5:w.heap.size+2<=w5.heap.size:=(by have:=(uh HD5).kr.lt;omega);have HP:=Z9 (((uh HD5).below hb).put ho hz5 hright);have D6:=Z9 ((uh HD5).below hb);have o0:=(uh D6).kb.cell (i:=0) (v:= .slice b0 M.rm.length q0) rfl;have f0:=(uh D6).kb.free 0;have o1:=(uh D6).kb.cell (i:=1) (v:= .slice b1 M.gd.length q1) rfl;have f1:=(uh D6).kb.free 1;have o2:=(uh D6).kb.cell (i:=2) (v:= .slice b2 M.sm.length q2) rfl;have f2:=(uh D6).kb.free 2;have o3:=(uh D6).kb.cell (i:=3) (v:= .slice b3 M.dk.length q3) rfl;have f3:=(uh D6).kb.free 3;have o4:=(uh D6).kb.cell (i:=4) (v:= .slice b4 M.pc.length q4) rfl;have f4:=(uh D6).kb.free 4;have o5:=(uh D6).kb.cell (i:=5) (v:= .int .i64 M.now) rfl;have f5:=(uh D6).kb.free 5;clear ho hb k6 hright)))
   all_goals
    go_wp2_with fail;go_roundw
    case rel=>exact ⟨k-1,_,_,_,_,_,_,_,by omega,by rw [show ((k:Int)-1)=((k-1:Nat):Int) by omega],by first | exact uh HP | exact (uh HP).below (ZZ _ _).drew⟩
    case measure=>exact ms
  ·
   obtain rfl:k=0:=by omega
   have c0:=(uh HD).kb.cell (i:=0) (v:= .slice b0 M.rm.length q0) rfl;have o0:=(uh HD).kr.cell (i:=0) (v:= .slice none 0 0) rfl;have f0:=(uh HD).kr.free 0;have c1:=(uh HD).kb.cell (i:=1) (v:= .slice b1 M.gd.length q1) rfl;have o1:=(uh HD).kr.cell (i:=1) (v:= .slice none 0 0) rfl;have f1:=(uh HD).kr.free 1;have c2:=(uh HD).kb.cell (i:=2) (v:= .slice b2 M.sm.length q2) rfl;have o2:=(uh HD).kr.cell (i:=2) (v:= .slice none 0 0) rfl;have f2:=(uh HD).kr.free 2;have c3:=(uh HD).kb.cell (i:=3) (v:= .slice b3 M.dk.length q3) rfl;have o3:=(uh HD).kr.cell (i:=3) (v:= .slice none 0 0) rfl;have f3:=(uh HD).kr.free 3;have c4:=(uh HD).kb.cell (i:=4) (v:= .slice b4 M.pc.length q4) rfl;have o4:=(uh HD).kr.cell (i:=4) (v:= .slice none 0 0) rfl;have f4:=(uh HD).kr.free 4;have c5:=(uh HD).kb.cell (i:=5) (v:= .int .i64 M.now) rfl;have o5:=(uh HD).kr.cell (i:=5) (v:= .int .i64 0) rfl;have f5:=(uh HD).kr.free 5;go_wp2_with fail;refine ZS (v:= .agg (S6 b0 q0 b1 q1 b2 q2 b3 q3 b4 q4 M)) (by simp [results,Tryz.results150,go_sem, *]) rfl ⟨M,_,_,_,_,_,rq,rfl,(uh HD).ok,?_,?_,?_⟩
   ·iterate 6 (refine FullSmy.set_off ?_ (fun k e=>((uh HD).own k e).2) _ _)
    exact (uh HD).full
   ·iterate 6 (refine St.newer ?_ (by omega) _ _)
    exact (uh HD).st
   ·iterate 6 (refine Off.newer ?_ (by omega) _ _)
    exact (uh HD).off
end Go.Proofs.YtamgfpdahadnfaaGreatDoor
namespace Go.Proofs.YtamgfpdahadnfaaGreatDoor.Draw
open Go.ChangeShapes Go.WideShapes Go.ChangeAt Go.RowKit
set_option linter.unusedVariables false
theorem yl (p q r:Value) (k:IntKind) (j:Nat) (hj:j<3) (hp:∃ v:Int,p= .int k v) (hq:∃ v:Int,q= .int k v) (hr:∃ v:Int,r= .int k v) :
  ∃ v:Int,(#[p,q,r]:Array Value)[j]?=some (.int k v):=by
 obtain ⟨_,rfl⟩:=hp;obtain ⟨_,rfl⟩:=hq;obtain ⟨_,rfl⟩:=hr
 match j,hj with
 | 0,_=>exact ⟨_,rfl⟩
 | 1,_=>exact ⟨_,rfl⟩
 | 2,_=>exact ⟨_,rfl⟩
theorem drawForce_any (a:Option Addr) (len cap bc:Nat) (w:World) (hs:St a len cap bc w) :
  Calls Tryz.prog 73 #[.pointer (some ⟨bc,0,none⟩)] w fun e w'=> ∃ x:Int,e= .returned (.int .i64 x)/\St a len cap bc w'/\Off bc w w':=by
 have Hs:=Z9 hs;clear hs;go_enter Tryz.func73,Tryz.ntmps73;go_wp2_with fail;refine (once_any a len cap bc 8 (by omega) (by omega) _ (uh Hs)).mono ?_;rintro e w1 ⟨b,rfl,s1,o1⟩;have Hs1:=Z9 s1;have Ho1:=Z9 o1;have hb:=s1.cur.1;clear s1 o1;cases b
 ·go_wp2_with fail
  refine (below_any a len cap bc 1025 (by omega) (by omega) _ (uh Hs1)).mono ?_;rintro e w2 ⟨x,rfl,x0,x1,s2,o2⟩;have Hs2:=Z9 s2;have Ho2:=Z9 o2;clear s2 o2;go_wp2_with fail;go_ret;exact ⟨_,rfl,uh Hs2,(uh Ho1).trans (uh Ho2)⟩
 ·go_wp2_with fail
  refine (below_any a len cap bc 3 (by omega) (by omega) _ ((uh Hs1).alloc _)).mono ?_;rintro e w2 ⟨x,rfl,x0,x1,s2,o2⟩;have hsz:w1.heap.size<w2.heap.size:=by have:=o2.size;simp at this;omega
  obtain ⟨v,hv⟩:=yl (.int .i64 (-1)) (.int .i64 1024) (.int .i64 1025) .i64 x.toNat (by omega) ⟨_,rfl⟩ ⟨_,rfl⟩ ⟨_,rfl⟩
  have hcell:w2.cell? ⟨w1.heap.size,x.toNat,none⟩=some (.int .i64 v):=by
   rw [o2.cell (p:=⟨w1.heap.size,x.toNat,none⟩) (by simp) (by simp;omega),World.cell?_alloc_at _ _ _ _ rfl];exact hv
  clear hv;have Hs2:=Z9 s2;have Ho2:=Z9 o2;clear s2 o2;go_wp2_with fail;go_ret;exact ⟨_,rfl,uh Hs2,(uh Ho1).trans (((Off.refl _ _).alloc _).trans (uh Ho2))⟩
end Go.Proofs.YtamgfpdahadnfaaGreatDoor.Draw
namespace Go.Proofs.YtamgfpdahadnfaaGreatDoor
open Go.ChangeShapes Go.WideShapes Go.ChangeAt Go.RowKit Go.Sort
open Draw (St Off Row Cur)
set_option linter.unusedVariables false
theorem DX:Ob 75 3 (.agg #[.int .i64 0,.int .i64 0,.int .i64 0]) Wj:=
 ⟨Cg,rfl,Xy,by omega,by omega,fun x u hu=>by
  unfold Wj at hu;simp only [List.mem_cons,List.not_mem_nil,or_false] at hu
  rcases hu with rfl | rfl | rfl<;>rfl⟩
theorem Mc {w:World} (x0 x1 x2:Int) {g c:Nat} (hg:g=w.heap.size) (hc:1<=c) (hc2:c<=4000):XD (w.alloc (.cells #[.int .i64 x0,.int .i64 x1,.int .i64 x2] 75)) (.slice (some ⟨g,0,none⟩) 1 c) [(x0,x1,x2)]:=
 WH (e:=75) (enc:=Wj) (x0,x1,x2) hg hc hc2
theorem RecAt.away {α:Type} {t k:Nat} {enc:α->List Value} {n₀ bc:Nat} {w w':World} {v:Value} {xs:List α} (h:RecAt t k enc n₀ w v xs) (ho:Off bc w w') (hb:bc<n₀):RecAt t k enc n₀ w' v xs:=
 h.same fun i hi=>ho.block i (h.lt hi).2 (by have:=(h.lt hi).1;omega)
structure Gbox (a:Option Addr) (len cap bc:Nat) (w0 w:World) (v:Value) (ps:List Zr):Prop where
 st:St a len cap bc w
 off:Off bc w0 w
 gt:bc<w0.heap.size
 row:GuildsAt w0.heap.size w v ps
section
variable {a : Option Addr} {len cap bc : Nat} {w0 w w' : World} {v : Value} {ps : List Zr}
theorem Gbox.step (h:Gbox a len cap bc w0 w v ps) (hs:St a len cap bc w') (ho:Off bc w w'):Gbox a len cap bc w0 w' v ps:=⟨hs,h.off.trans ho,h.gt,RecAt.away h.row ho h.gt⟩
theorem Gbox.alloc (h:Gbox a len cap bc w0 w v ps) (o:Obj):Gbox a len cap bc w0 (w.alloc o) v ps:=h.step (h.st.alloc _) ((Off.refl _ _).alloc _)
theorem Gbox.grown (h:Gbox a len cap bc w0 w v ps) {v':Value} {qs:List Zr} (hg:w.grownBy w' v.ownBlock) (hr:GuildsAt w0.heap.size w' v' qs):Gbox a len cap bc w0 w' v' qs:=by
 have hk:∀ k,v.ownBlock=some k->w0.heap.size<=k:=fun k e=>(RecAt.lt h.row e).1;have h1:=h.gt;have h2:=h.off.size;have hb:Below w0.heap.size w w':=(ZZ _ _).grown hg h2 hk;exact ⟨Xz h.st (hb.mono (by omega)),Tn h.off hb,h.gt,hr⟩
end
theorem EF (a:Option Addr) (len cap bc:Nat) (w:World) (hs:St a len cap bc w) :
  Calls Tryz.prog 149 #[.pointer (some ⟨bc,0,none⟩)] w fun e w'=> ∃ v ps,e= .returned v/\ps.length<=4/\Gbox a len cap bc w w' v ps:=by
 have Hs:=Z9 hs;have hbc:=Wy hs;clear hs;go_enter Tryz.func149,Tryz.ntmps149;go_wp2_with fail;have HE:Hid (GuildsAt w.heap.size (w.alloc (.cells #[] 75)) (.slice (some ⟨w.heap.size,0,none⟩) 0 0) []):=Z9 (Y8 rfl (Z1 _));refine (Draw.below_any a len cap bc 5 (by omega) (by omega) _ ((uh Hs).alloc _)).mono ?_;rintro e w1 ⟨n,rfl,n0,n1,s1,o1⟩;have HG1:Hid (Gbox a len cap bc w w1 (.slice (some ⟨w.heap.size,0,none⟩) 0 0) []):=Z9 (Gbox.step ⟨(uh Hs).alloc _,(Off.refl _ _).alloc _,hbc,uh HE⟩ s1 o1);clear s1 o1 HE;go_wp2_with fail
 go_loopw [3,4] (fun s i wr=> ∃ (k:Nat) (ps:List Zr),ps.length+k<=4/\i= .int .i64 k/\Gbox a len cap bc w wr s ps) (fun _ i _=>(intOf i).toNat)
 case atStart=>exact ⟨n.toNat,[],by simp;omega,by rw [show ((n.toNat:Nat):Int)=n by omega],uh HG1⟩
 case round=>
  obtain ⟨k,ps,hk,rfl,hG⟩:=hrel;obtain ⟨ra,rcap,rfl⟩:=RecAt.shape hG.row;have HG:=Z9 hG;clear hG;by_cases hk0:0<k
  ·go_wp2_with fail
   refine (Draw.below_any a len cap bc 600 (by omega) (by omega) _ (uh HG).st).mono ?_;rintro e w2 ⟨low,rfl,l0,l1,s2,o2⟩;have HG2:=Z9 ((uh HG).step s2 o2);clear s2 o2 HG;go_wp2_with fail;refine (Draw.below_any a len cap bc _ (by omega) (by omega) _ (uh HG2).st).mono ?_;rintro e w3 ⟨ab,rfl,a0,a1,s3,o3⟩;have HG3:=Z9 ((uh HG2).step s3 o3);clear s3 o3 HG2;go_wp2_with fail;refine (Draw.from_any a len cap bc low 1024 (by omega) (by omega) (by omega) _ (uh HG3).st).mono ?_;rintro e w4 ⟨hi,rfl,h0,h1,s4,o4⟩;have HG4:=Z9 ((uh HG3).step s4 o4);have hsz:=(uh HG4).off.size;clear s4 o4 HG3;go_wp2_with (at_builtin;refine ZI DX rfl (.tmp 15) (.tmp 27) 27 Tryz.underlying27 rfl w.heap.size _ _ ps [(ab-1,low,hi)] rfl rfl ((uh HG4).alloc _).row (Mc _ _ _ rfl (Z1 _) (by omega)) (by simp;omega) (by simp;omega) ?_;intro v' w5 hown hgrow hat)
   have HG5:=Z9 (((uh HG4).alloc _).grown hgrow hown);clear hown hgrow hat;go_wp2_with fail;go_roundw
   case rel=>exact ⟨k-1,ps++[(ab-1,low,hi)],by simp;omega,by rw [show ((k:Int)-1)=((k-1:Nat):Int) by omega],uh HG5⟩
   case measure=>exact ms
  ·obtain rfl:k=0:=by omega
   go_wp2_with fail;go_ret;exact ⟨_,ps,rfl,by omega,uh HG⟩
end Go.Proofs.YtamgfpdahadnfaaGreatDoor
namespace Go.Proofs.YtamgfpdahadnfaaGreatDoor
open Go.ChangeShapes Go.WideShapes Go.ChangeAt Go.RowKit Go.Sort
open Draw (St Off Row Cur)
set_option linter.unusedVariables false
theorem Gq {ps:List Zr} {ab low hi:Int} (h:Zh ps=true) (hl:ps.length<=5) (a0:0<=ab) (a1:ab<(ps.length:Int)+1) (l0:0<=low) (l1:low<=hi) (h1:hi<=1024):Zh (ps++[(ab-1,low,hi)])=true:=by
 obtain ⟨hu,_⟩:=Vo h;unfold Zh;rw [List.length_append];show (TV _ (ps.length+1) && decide (ps.length+1<=6))=true;rw [decide_eq_true (by omega),Bool.and_true,Qy]
 have hsame:TV (ps++[(ab-1,low,hi)]) ps.length=true:=by
  unfold TV;refine List.all_eq_true.2 fun j hj=> ?_;have hj':=List.mem_range.1 hj;rw [XW,if_neg (by omega)];exact IK hu hj'
 rw [hsame,XW,if_pos rfl,Bool.true_and];unfold Xo Ya;simp only [ZP,Y0];exact ⟨Zp (by omega) (by omega),⟨Zp l0 (by omega),Zp (by omega) h1⟩,l1⟩
theorem Jw (a:Option Addr) (len cap bc:Nat) (w:World) (hs:St a len cap bc w) :
  Calls Tryz.prog 149 #[.pointer (some ⟨bc,0,none⟩)] w fun e w'=> ∃ v ps,e= .returned v/\Zh ps=true/\Gbox a len cap bc w w' v ps:=by
 have Hs:=Z9 hs;have hbc:=Wy hs;clear hs;go_enter Tryz.func149,Tryz.ntmps149;go_wp2_with fail;have HE:Hid (GuildsAt w.heap.size (w.alloc (.cells #[] 75)) (.slice (some ⟨w.heap.size,0,none⟩) 0 0) []):=Z9 (Y8 rfl (Z1 _));refine (Draw.below_any a len cap bc 5 (by omega) (by omega) _ ((uh Hs).alloc _)).mono ?_;rintro e w1 ⟨n,rfl,n0,n1,s1,o1⟩;have HG1:Hid (Gbox a len cap bc w w1 (.slice (some ⟨w.heap.size,0,none⟩) 0 0) []):=Z9 (Gbox.step ⟨(uh Hs).alloc _,(Off.refl _ _).alloc _,hbc,uh HE⟩ s1 o1);clear s1 o1 HE;go_wp2_with fail
 go_loopw [3,4] (fun s i wr=> ∃ (k:Nat) (ps:List Zr),ps.length+k<=4/\Zh ps=true/\i= .int .i64 k/\Gbox a len cap bc w wr s ps) (fun _ i _=>(intOf i).toNat)
 case atStart=>exact ⟨n.toNat,[],by simp;omega,rfl,by rw [show ((n.toNat:Nat):Int)=n by omega],uh HG1⟩
 case round=>
  obtain ⟨k,ps,hk,hgs,rfl,hG⟩:=hrel;have Hgs:=Z9 hgs;clear hgs;obtain ⟨ra,rcap,rfl⟩:=RecAt.shape hG.row;have HG:=Z9 hG;clear hG;by_cases hk0:0<k
  ·go_wp2_with fail
   refine (Draw.below_any a len cap bc 600 (by omega) (by omega) _ (uh HG).st).mono ?_;rintro e w2 ⟨low,rfl,l0,l1,s2,o2⟩;have HG2:=Z9 ((uh HG).step s2 o2);clear s2 o2 HG;go_wp2_with fail;refine (Draw.below_any a len cap bc _ (by omega) (by omega) _ (uh HG2).st).mono ?_;rintro e w3 ⟨ab,rfl,a0,a1,s3,o3⟩;have HG3:=Z9 ((uh HG2).step s3 o3);clear s3 o3 HG2;go_wp2_with fail;refine (Draw.from_any a len cap bc low 1024 (by omega) (by omega) (by omega) _ (uh HG3).st).mono ?_;rintro e w4 ⟨hi,rfl,h0,h1,s4,o4⟩;have HG4:=Z9 ((uh HG3).step s4 o4);have hsz:=(uh HG4).off.size;clear s4 o4 HG3;go_wp2_with (at_builtin;refine ZI DX rfl (.tmp 15) (.tmp 27) 27 Tryz.underlying27 rfl w.heap.size _ _ ps [(ab-1,low,hi)] rfl rfl ((uh HG4).alloc _).row (Mc _ _ _ rfl (Z1 _) (by omega)) (by simp;omega) (by simp;omega) ?_;intro v' w5 hown hgrow hat)
   have HG5:=Z9 (((uh HG4).alloc _).grown hgrow hown);clear hown hgrow hat;go_wp2_with fail;go_roundw
   case rel=>exact ⟨k-1,ps++[(ab-1,low,hi)],by simp;omega,Gq (uh Hgs) (by omega) (by omega) (by omega) (by omega) (by omega) (by omega),by rw [show ((k:Int)-1)=((k-1:Nat):Int) by omega],uh HG5⟩
   case measure=>exact ms
  ·obtain rfl:k=0:=by omega
   go_wp2_with fail;go_ret;exact ⟨_,ps,rfl,uh Hgs,uh HG⟩
open Go.Lib
abbrev Txt:=List UInt8
def YT (c:UInt8) (cur:Txt):Txt->List Txt
 | []=>[cur]
 | x::r=>if x=c then cur::YT c [] r else YT c (cur++[x]) r
def YX (c:UInt8) (l:Txt):List Txt:=YT c [] l
theorem UM (c:UInt8) (cur r:Txt):YT c cur (c::r)=cur::YT c [] r:=by simp [YT]
theorem UN {c x:UInt8} (h:x ≠ c) (cur r:Txt):YT c cur (x::r)=YT c (cur++[x]) r:=by simp [YT,h]
theorem WE (c:UInt8):∀ (l cur:Txt),1<=(YT c cur l).length/\(YT c cur l).length<=l.length+1
 | [],cur=>by simp [YT]
 | x::r,cur=>by
  by_cases h:x=c
  ·subst h;rw [UM];have:=WE x r [];simp;omega
  ·rw [UN h];have:=WE c r (cur++[x]);simp;omega
theorem KH (c:UInt8) (l:Txt):YX c l ≠ []:=fun h=>by have:=(WE c l []).1;unfold YX at h;rw [h] at this;simp at this
theorem Ut (c:UInt8):∀ (l cur:Txt),∀ p ∈ YT c cur l,p.length<=cur.length+l.length
 | [],cur,p,hp=>by simp [YT] at hp;subst hp;simp
 | x::r,cur,p,hp=>by
  by_cases h:x=c
  ·subst h;rw [UM] at hp
   rcases List.mem_cons.1 hp with rfl | hp
   ·simp
   ·have:=Ut x r [] p hp;simp at this ⊢;omega
  ·rw [UN h] at hp;have:=Ut c r _ p hp;simp at this ⊢;omega
theorem QG (sep x:Txt) (r:List Txt):joinTail sep (x::r)=sep++x++joinTail sep r:=by simp [joinTail]
theorem Uf (c:UInt8):∀ (l cur:Txt),join (YT c cur l) [c]=cur++l
 | [],cur=>by simp [YT,join_one]
 | x::r,cur=>by
  by_cases h:x=c
  ·subst h
   rw [UM,join_cons];have ih:=Uf x r [];cases hs:YT x [] r with
   | nil=>have:=(WE x r []).1;rw [hs] at this;simp at this
   | cons p q=>rw [hs,join_cons] at ih;rw [QG];simp at ih ⊢;rw [ih]
  ·rw [UN h,Uf c r];simp
def XZ (l:Txt):Option Int:=
 match l with
 | []=>none
 | c::r=>if c=45 then (if r=[]\/9<r.length\/r.head?=some 48 then none else (decFrom 0 r).map fun n:Nat=> -(n:Int))
  else if 9<(c::r).length\/(c=48/\r ≠ []) then none else (decFrom 0 (c::r)).map fun n:Nat=>(n:Int)
theorem GY {d:Nat} (h:d<10):(UInt8.ofNat (48+d)).toNat=48+d:=by simp;omega
theorem L5 {b:UInt8} {d:Nat} (h:digitVal b=some d):d<10/\b=UInt8.ofNat (48+d):=by
 obtain ⟨h1,h2,h3⟩:=digitVal_eq h;refine ⟨by omega,?_⟩;apply UInt8.toNat_inj.1;rw [GY (by omega)];omega
theorem LZ {a d:Nat} (ha:0<a) (hd:d<10):decDigits (a*10+d)=decDigits a++[UInt8.ofNat (48+d)]:=by
 rw [decDigits,dif_neg (by omega),show (a*10+d) / 10=a by omega,show (a*10+d)%10=d by omega]
theorem Rn:∀ (r:Txt) (a n:Nat),0<a->decFrom a r=some n->decDigits n=decDigits a++r/\a<=n
 | [],a,n,_,h=>by simp [decFrom] at h;subst h;simp
 | b::r,a,n,ha,h=>by
  unfold decFrom at h;cases hd:digitVal b with
  | none=>rw [hd] at h;cases h
  | some d=>
   rw [hd] at h;obtain ⟨h1,h2⟩:=L5 hd;have ih:=Rn r (a*10+d) n (by omega) h;rw [ih.1,LZ ha h1,h2];simp;omega
theorem R7 {b:UInt8} {r:Txt} {n:Nat} (h:decFrom 0 (b::r)=some n) (hb:b ≠ 48\/r=[]):decDigits n=b::r/\(b ≠ 48->0<n):=by
 unfold decFrom at h;cases hd:digitVal b with
 | none=>rw [hd] at h;cases h
 | some d=>
  rw [hd] at h;obtain ⟨h1,h2⟩:=L5 hd;simp at h;by_cases h0:d=0
  ·subst h0
   have hb48:b=48:=by rw [h2];rfl
   rcases hb with hb | rfl
   ·exact absurd hb48 hb
   ·simp [decFrom] at h;subst h;subst hb48;exact ⟨by rw [decDigits_one (by decide)];rfl,fun h=>absurd rfl h⟩
  ·have:=Rn r d n (by omega) h
   rw [this.1,decDigits_one h1,h2];simp;intro _;omega
theorem SQ {l:Txt} {v:Int} (h:XZ l=some v):l=itoa v/\ -999999999<=v/\v<=999999999:=by
 unfold XZ at h
 split at h
 ·cases h
 ·rename_i c r
  split at h
  ·rename_i hc
   split at h
   ·cases h
   ·rename_i hr
    simp only [not_or] at hr;obtain ⟨n,hn,rfl⟩:=Option.map_eq_some_iff.1 h;cases r with
    | nil=>exact absurd rfl hr.1
    | cons b r=>
     have hb:b ≠ 48:=fun e=>hr.2.2 (by simp [e]);have hw:=R7 hn (.inl hb);have hlt:=decFrom_lt _ _ _ hn;have:n<10 ^ 9:=Zf (by simpa using hlt) (Nat.pow_le_pow_right (by decide) (by have:=hr.2.1;simp at this ⊢;omega));have h3:(10:Nat) ^ 9=1000000000:=by decide
     have hp:=hw.2 hb;refine ⟨?_,by omega,by omega⟩;unfold itoa;rw [if_pos (by omega),show (-(n:Int)).natAbs=n by omega,hw.1,hc]
  ·rename_i hc
   split at h
   ·cases h
   ·rename_i hr
    simp only [not_or] at hr;obtain ⟨n,hn,rfl⟩:=Option.map_eq_some_iff.1 h
    have hb:c ≠ 48\/r=[]:=by
     by_cases e:c=48
     ·exact .inr (Classical.byContradiction fun hne=>hr.2 ⟨e,hne⟩)
     ·exact .inl e
    have hw:=R7 hn hb;have hlt:=decFrom_lt _ _ _ hn;have:n<10 ^ 9:=Zf (by simpa using hlt) (Nat.pow_le_pow_right (by decide) (by have:=hr.1;simp at this ⊢;omega));have h3:(10:Nat) ^ 9=1000000000:=by decide
    refine ⟨?_,by omega,by omega⟩;unfold itoa;rw [if_neg (by omega),show ((n:Int)).toNat=n by omega,hw.1]
def Yj (l:Txt):Option Z4:=
 match YX 58 l with
 | [a,b]=>(XZ a).bind fun f=>(XZ b).bind fun k=>some (f,k)
 | _=>none
def YL (l:Txt):Option ZX:=
 match YX 32 l with
 | []=>none
 | a::ws=>(XZ a).bind fun n=>(ws.mapM Yj).bind fun ps=>some (n,ps)
def Yw (l:Txt):Option (List ZX):=((YX 47 l).mapM YL).bind fun rs=>if Y2 rs=true then some rs else none
def PZ (p:Z4):Txt:=itoa p.1++58::itoa p.2
def P0 (r:ZX):Txt:=join (itoa r.1::r.2.map PZ) [32]
def Iv (rs:List ZX):Txt:=if Y2 rs=true then join (rs.map P0) [47] else []
theorem Lo {l:Txt} {p:Z4} (h:Yj l=some p):PZ p=l:=by
 unfold Yj at h
 split at h
 ·rename_i a b hs
  obtain ⟨f,hf,h⟩:=Option.bind_eq_some_iff.1 h;obtain ⟨k,hk,h⟩:=Option.bind_eq_some_iff.1 h;cases h;have hj:=Uf 58 l [];unfold YX at hs;rw [hs,join_cons,QG] at hj;unfold PZ;rw [<-(SQ hf).1,<-(SQ hk).1];simpa [joinTail] using hj
 ·cases h
theorem O2 {α β:Type} {f:α->Option β} {g:β->α} : ∀ (l:List α) (ps:List β),l.mapM f=some ps->(∀ x p,f x=some p->g p=x)->ps.map g=l
 | [],ps,h,_=>by simp at h;subst h;rfl
 | x::l,ps,h,hg=>by
  rw [List.mapM_cons] at h;obtain ⟨p,hp,h⟩:=Option.bind_eq_some_iff.1 h;obtain ⟨q,hq,h⟩:=Option.bind_eq_some_iff.1 h;cases h;simp [hg x p hp,O2 l q hq hg]
theorem Lp {l:Txt} {r:ZX} (h:YL l=some r):P0 r=l:=by
 unfold YL at h
 split at h
 ·cases h
 ·rename_i a ws hs
  obtain ⟨n,hn,h⟩:=Option.bind_eq_some_iff.1 h;obtain ⟨ps,hp,h⟩:=Option.bind_eq_some_iff.1 h;cases h;have hj:=Uf 32 l [];unfold YX at hs;rw [hs] at hj;unfold P0;rw [<-(SQ hn).1,O2 (g:=PZ) _ _ hp (fun x p=>Lo)];simpa using hj
theorem Ll {l:Txt} {rs:List ZX} (h:Yw l=some rs):Y2 rs=true/\Iv rs=l:=by
 unfold Yw at h;obtain ⟨rs',hr,h⟩:=Option.bind_eq_some_iff.1 h
 split at h
 ·rename_i hb
  cases h;refine ⟨hb,?_⟩;unfold Iv;rw [if_pos hb,O2 (g:=P0) _ _ hr (fun x p=>Lp)];have hj:=Uf 47 l [];simpa [YX] using hj
 ·cases h
open Go.Lib (digitVal decFrom)
def bs (l:Txt):ByteArray:=⟨l.toArray⟩
theorem QW (l:Txt):(bs l).data.toList=l:=by simp [bs]
theorem Di (s:ByteArray):bs s.data.toList=s:=by simp [bs]
theorem zv (l:Txt):(bs l).size=l.length:=by simp [bs,ByteArray.size]
def StrsAt (n₀:Nat) (w:World) (v:Value) (zs:List Txt):Prop:=w.ownsRow n₀ 9 1 v zs.length (zs.map fun z=>Value.string (bs z))
theorem StrsAt.lt {n₀:Nat} {w:World} {v:Value} {zs:List Txt} (h:StrsAt n₀ w v zs) {k:Nat} (hk:v.ownBlock=some k):n₀<=k/\k<w.heap.size:=World.ownsRow.lt h k hk
theorem StrsAt.view {n₀:Nat} {w:World} {v:Value} {zs:List Txt} (h:StrsAt n₀ w v zs) :
  ∃ (a:Option Addr) (cap:Nat),v= .slice a zs.length cap/\zs.length<=cap/\cap<=9223372036854775807/\(zs=[]\/ ∃ g,a=some ⟨g,0,none⟩/\n₀<=g/\g<w.heap.size/\
   (∀ k,k<zs.length->w.cell? ⟨g,k,none⟩=some (.string (bs (zs.getD k []))))):=by
 have h':=h
 rcases h.2 with ⟨rfl,hz⟩ | ⟨g,cap,cur,rfl,hb,hg,hnc,hcm,r⟩
 ·exact ⟨none,0,by rw [hz],by omega,by omega,.inl (List.eq_nil_of_length_eq_zero hz)⟩
 ·refine ⟨_,cap,rfl,hnc,by unfold maxLen at hcm;omega,.inr ⟨g,rfl,hb,(Array.getElem?_eq_some_iff.1 hg).1,fun k hk=> ?_⟩⟩
  rw [World.ownsRow.cellAt h' k (by omega)];simp [List.getElem?_eq_getElem hk]
theorem zA:(Tryz.prog.info? 9).map (fun i=>(i.zero,i.size,i.bytes))=some (some (.string ByteArray.empty),1,16):=by kernel_rfl
theorem CV (l:Txt) (f k:Nat) (hf:f<=k) (h:k<l.length):(l.take (k+1)).drop f=(l.take k).drop f++[l[k]]:=by
 rw [List.take_succ_eq_append_getElem h,List.drop_append_of_le_length (by simp;omega)]
theorem OQ (l:Txt) (k:Nat) (h:k<l.length):l.drop k=l[k]::l.drop (k+1):=List.drop_eq_getElem_cons h
theorem Ej (s:ByteArray) (f k:Nat):s.extract f k=bs ((s.data.toList.take k).drop f):=by
 rw [<-Di (s.extract f k)];congr 1;rw [Go.Lib.extract_data];simp [List.drop_take]
theorem KI {w wr w1:World} {v v':Value} {P:List Txt} {s:ByteArray} {a k:Nat} {o:Obj} (hown:StrsAt w.heap.size wr v P) (hb:Below w.heap.size w wr)
  (hown':w1.ownsRow w.heap.size 9 1 v' (P.length+1) ((P.map fun z=>Value.string (bs z))++[.string (s.extract a k)])) (hg:(wr.alloc o).grownBy w1 v.ownBlock) :
  StrsAt w.heap.size w1 v' (P++[(s.data.toList.take k).drop a])/\Below w.heap.size w w1:=by
 refine ⟨?_,?_⟩
 ·unfold StrsAt;rw [Ej] at hown';simpa using hown'
 ·exact (hb.alloc hb.size o).grown hg (by have:=hb.size;simp;omega) (fun j ej=>(hown.lt ej).1)
theorem RG (s:ByteArray) (c:UInt8) (w:World) (hs:s.size<=1048576) :
  Calls Tryz.prog 249 #[.string s,.int .u8 c.toNat] w fun e w'=> ∃ v,e= .returned v/\StrsAt w.heap.size w' v (YX c s.data.toList)/\Below w.heap.size w w':=by
 obtain ⟨i0,hi,hz0,hz1,hz2⟩:=info_parts zA;go_enter Tryz.func249,Tryz.ntmps249;go_wp2_with fail
 go_loopw [5,6,7] (fun v f i wr=> ∃ (P:List Txt) (a k:Nat),f= .int .i64 a/\i= .int .i64 k/\StrsAt w.heap.size wr v P/\P.length<=k/\Below w.heap.size w wr/\((k<=s.size/\a<=k/\P++YT c ((s.data.toList.take k).drop a) (s.data.toList.drop k)=YX c s.data.toList)\/(k=s.size+1/\P=YX c s.data.toList))) (fun _ _ i _=>s.size+1-(intOf i).toNat)
 case atStart=>exact ⟨[],0,0,rfl,rfl,World.ownsRow_lit w #[] 0 (Z1 _) (by simp [maxLen]) rfl,by simp,(ba _ _),.inl ⟨by omega,by omega,by simp [YX]⟩⟩
 case round=>
  obtain ⟨P,a,k,rfl,rfl,hown,hpl,hb,hcase⟩:=hrel;have Hb:=Z9 hb;have Hown:=Z9 hown;clear hb hown
  rcases hcase with ⟨hk,ha,hsp⟩ | ⟨rfl,hP⟩
  ·have Hsp:=Z9 hsp
   clear hsp;by_cases hend:k=s.size
   ·subst hend
    go_wp2_with (at_builtin;refine wpList_append_own _ rfl _ _ 186 rfl w.heap.size 9 i0 (.string ByteArray.empty) 1 16 Tryz.underlying186 hi hz0 hz1 hz2 rfl (by decide) _ _ _ rfl (World.ownsRow.alloc (uh Hown) _) ⟨_,0,none⟩ 1 1 [.string (s.extract a s.size)] rfl rfl (cell_one_new _ _ _) (by simp [Value.oneCell']) (by simp only [maxLen];omega) (by omega) (by have:=(uh Hb).size;simp;omega) ?_;intro v' w1 hown' hgrow _;have R:=KI (uh Hown) (uh Hb) hown' hgrow;have HR:=Z9 R;clear hown' hgrow R)
    go_roundw
    case rel=>exact ⟨P++[(s.data.toList.take s.size).drop a],s.size+1,s.size+1,by go_num,by go_num,(uh HR).1,by simp;omega,(uh HR).2,.inr ⟨rfl,by rw [<-uh Hsp,List.drop_eq_nil_of_le (show s.data.toList.length<=s.size by simp)];rfl⟩⟩
    case measure=>simp [intOf]
   ·have hlt:k<s.size:=by omega
    have hll:k<s.data.toList.length:=by simpa using hlt
    have hat:s.data.toList[k]=s[k]:=rfl;by_cases hc:s[k]=c
    ·have Hc:=Z9 hc
     have Hn:Hid (P++[(s.data.toList.take k).drop a]++YT c ((s.data.toList.take (k+1)).drop (k+1)) (s.data.toList.drop (k+1))=YX c s.data.toList):=Z9 (by
      have h0:=uh Hsp;rw [OQ _ k hll,hat,hc,UM] at h0
      rw [<-h0];simp)
     clear hc hat;have hbeq:((s[k].toNat:Int) ==(c.toNat:Int))=true:=by rw [show s[k]=c from uh Hc];simp
     have hne:((k:Int) ==(s.size:Int))=false:=beq_eq_false_iff_ne.2 (by omega);go_wp2_with (at_builtin;refine wpList_append_own _ rfl _ _ 186 rfl w.heap.size 9 i0 (.string ByteArray.empty) 1 16 Tryz.underlying186 hi hz0 hz1 hz2 rfl (by decide) _ _ _ rfl (World.ownsRow.alloc (uh Hown) _) ⟨_,0,none⟩ 1 1 [.string (s.extract a k)] rfl rfl (cell_one_new _ _ _) (by simp [Value.oneCell']) (by simp only [maxLen];omega) (by omega) (by have:=(uh Hb).size;simp;omega) ?_;intro v' w1 hown' hgrow _;have R:=KI (uh Hown) (uh Hb) hown' hgrow;have HR:=Z9 R;clear hown' hgrow R)
     go_roundw
     case rel=>exact ⟨P++[(s.data.toList.take k).drop a],k+1,k+1,by go_num,by go_num,(uh HR).1,by simp;omega,(uh HR).2,.inl ⟨by omega,by omega,uh Hn⟩⟩
     case measure=>exact ms
    ·have Hn:Hid (P++YT c ((s.data.toList.take (k+1)).drop a) (s.data.toList.drop (k+1))=YX c s.data.toList):=Z9 (by
      have h0:=uh Hsp;rw [OQ _ k hll,hat,UN hc] at h0
      rw [<-h0,CV _ a k ha hll,hat])
     have hbeq:((s[k].toNat:Int) ==(c.toNat:Int))=false:=beq_eq_false_iff_ne.2 (fun e=>hc (UInt8.toNat_inj.1 (by omega)));have hne:((k:Int) ==(s.size:Int))=false:=beq_eq_false_iff_ne.2 (by omega);clear hc hat;go_wp2_with fail;go_roundw
     case rel=>exact ⟨P,a,k+1,rfl,by go_num,uh Hown,by omega,uh Hb,.inl ⟨by omega,by omega,uh Hn⟩⟩
     case measure=>exact ms
  ·have HP:=Z9 hP
   clear hP;go_wp2_with fail;go_ret;exact ⟨_,rfl,by rw [<-uh HP];exact uh Hown,uh Hb⟩
theorem UE {l:Txt} {acc n k:Nat} {b:UInt8} (h1:l[k]?=some b) (h2:digitVal b=none):Go.Lib.decFrom acc l=none:=by
 cases h:Go.Lib.decFrom acc l with
 | none=>rfl
 | some m=>obtain ⟨d,hd⟩:=Go.Lib.digit_of_decFrom l acc m h k b h1;rw [h2] at hd;cases hd
theorem Ra {c:UInt8} {r:Txt} (hc:c ≠ 45) (h9:(c::r).length<=9) (h0:¬ (c=48/\r ≠ [])):XZ (c::r)=(Go.Lib.decFrom 0 (c::r)).map fun n:Nat=>(n:Int):=by
 unfold XZ;simp only [if_neg hc];rw [if_neg];rw [not_or];exact ⟨by omega,h0⟩
theorem TR {c:UInt8} {r:Txt} (hc:c ≠ 45) (h:9<(c::r).length\/(c=48/\r ≠ [])):XZ (c::r)=none:=by
 unfold XZ;simp only [if_neg hc];rw [if_pos h]
theorem Pa {r:Txt} (h1:r ≠ []) (h9:r.length<=9) (h0:r.head? ≠ some 48):XZ (45::r)=(Go.Lib.decFrom 0 r).map fun n:Nat=> -(n:Int):=by
 unfold XZ;simp only [if_true];rw [if_neg];rw [not_or,not_or];exact ⟨h1,by omega,h0⟩
theorem Ve {r:Txt} (h:r=[]\/9<r.length\/r.head?=some 48):XZ (45::r)=none:=by
 unfold XZ;simp only [if_true];rw [if_pos h]
def Ws (l:Txt):Value:= .tuple #[.int .i64 ((XZ l).getD 0),.bool (XZ l).isSome]
theorem Xw {l:Txt} (h:XZ l=none):Ws l= .tuple #[.int .i64 0,.bool false]:=by unfold Ws;rw [h];rfl
theorem Qu {l:Txt} {v:Int} (h:XZ l=some v):Ws l= .tuple #[.int .i64 v,.bool true]:=by unfold Ws;rw [h];rfl
theorem Gg {b:UInt8} (h1:48<=b.toNat) (h2:b.toNat<=57):digitVal b=some (b.toNat-48):=by unfold Go.Lib.digitVal;rw [if_pos ⟨h1,h2⟩]
theorem QY {b:UInt8} (h:b.toNat<48\/57<b.toNat):digitVal b=none:=by unfold Go.Lib.digitVal;rw [if_neg (by omega)]
theorem Pc {a b:Value} (h:a=b):Ending.returned a= .returned b:=by rw [h]
theorem SE {s:ByteArray} (h:0<s.size):s.data.toList=s[0]::s.data.toList.drop 1:=OQ s.data.toList 0 (by simpa using h)
theorem El {s:ByteArray} {k:Nat} (h:k<s.size):s.data.toList[k]?=some s[k]:=by
 rw [List.getElem?_eq_getElem (by simpa using h)];rfl
theorem zy {s:ByteArray} {k:Nat} (h:k<s.size) (h1:1<=k):(s.data.toList.drop 1)[k-1]?=some s[k]:=by
 rw [List.getElem?_drop,show 1+(k-1)=k by omega];exact El h
theorem yW {s:ByteArray} (h:0<s.size):s.toList.isEmpty=false:=by
 rw [ByteArray.toList_eq,SE h];rfl
theorem Ja {b c:UInt8} (h:b ≠ c):((b.toNat:Int) ==(c.toNat:Int))=false:=beq_eq_false_iff_ne.2 (fun e=>h (UInt8.toNat_inj.1 (by omega)))
theorem I9 {b c:UInt8} (h:b=c):((b.toNat:Int) ==(c.toNat:Int))=true:=by rw [h];simp
theorem EB (s:ByteArray) (w:World) (h0:0<s.size) (hm:s.size<=9223372036854775807) (h45:s[0] ≠ 45) :
  Calls Tryz.prog 250 #[.string s] w fun e w'=>e= .returned (Ws s.data.toList)/\w'=w:=by
 have Hl:=Z9 (SE h0);have hemp:=yW h0;have H45:=Z9 h45;have hb45:((s[0].toNat:Int) ==45)=false:=Ja (c:=45) h45;have hlen:s.data.toList.length=s.size:=by simp
 have Hlen:=Z9 hlen;clear h45 hlen;by_cases h9:9<s.size
 ·have hd1:decide ((s.size:Int)<1)=false:=XE (by omega)
  have hd2:decide (9<(s.size:Int))=true:=VO (by omega);have HN:Hid (Ws s.data.toList= .tuple #[.int .i64 0,.bool false]):=Z9 (Xw (by rw [uh Hl];exact TR (uh H45) (.inl (by rw [<-uh Hl,uh Hlen];omega))));go_enter Tryz.func250,Tryz.ntmps250;go_wp2_with fail
  go_ret2
  exact ⟨Pc (uh HN).symm,rfl⟩
 have hd1:decide ((s.size:Int)<1)=false:=XE (by omega);have hd2:decide (9<(s.size:Int))=false:=XE (by omega);go_enter Tryz.func250,Tryz.ntmps250;go_wp2_with fail
 go_loop [6,7] (fun n i=> ∃ (k m:Nat),0<=k/\k<=s.size/\i= .int .i64 k/\n= .int .i64 m/\decFrom 0 (s.data.toList.take k)=some m) (fun _ i=>s.size-(intOf i).toNat)
 case atStart=>exact ⟨0,0,by omega,by omega,rfl,rfl,by simp [decFrom]⟩
 case round=>
  obtain ⟨k,m,hk1,hk,rfl,rfl,hdec⟩:=hrel
  have hmb:m<1000000000:=by
   have hx:=Go.Lib.decFrom_lt _ _ _ hdec;have hy:(s.data.toList.take k).length<=9:=by rw [List.length_take];omega
   exact Zf (by simpa using hx) (XO (Nat.pow_le_pow_right (by decide) hy) (by decide))
  have Hdec:=Z9 hdec;clear hdec;by_cases hlt:k<s.size
  ·have hga:=El hlt
   have Hga:=Z9 hga;clear hga;have hb8:s[k].toNat<=255:=by have:=s[k].toNat_lt;omega
   by_cases hd:s[k].toNat<48
   ·have HN:Hid (Ws s.data.toList= .tuple #[.int .i64 0,.bool false]):=Z9 (Xw (by rw [uh Hl];by_cases hz:s[0]=48/\s.data.toList.drop 1 ≠ [];exact TR (uh H45) (.inr hz);rw [Ra (uh H45) (by rw [<-uh Hl,uh Hlen];omega) hz,<-uh Hl,UE (n:=0) (uh Hga) (QY (by omega))];rfl))
    have ht:decide ((s[k].toNat:Int)<48)=true:=VO (by omega);go_wp2_with fail
    go_ret2
    exact ⟨Pc (uh HN).symm,rfl⟩
   by_cases hd':57<s[k].toNat
   ·have HN:Hid (Ws s.data.toList= .tuple #[.int .i64 0,.bool false]):=Z9 (Xw (by rw [uh Hl];by_cases hz:s[0]=48/\s.data.toList.drop 1 ≠ [];exact TR (uh H45) (.inr hz);rw [Ra (uh H45) (by rw [<-uh Hl,uh Hlen];omega) hz,<-uh Hl,UE (n:=0) (uh Hga) (QY (by omega))];rfl))
    have ht:decide ((s[k].toNat:Int)<48)=false:=XE (by omega);have ht':decide (57<(s[k].toNat:Int))=true:=VO (by omega);go_wp2_with fail
    go_ret2
    exact ⟨Pc (uh HN).symm,rfl⟩
   ·have ht:decide ((s[k].toNat:Int)<48)=false:=XE (by omega)
    have ht':decide (57<(s[k].toNat:Int))=false:=XE (by omega);have Hn:=Z9 (Go.Lib.decFrom_take s.data.toList k 0 m s[k] (s[k].toNat-48) (uh Hdec) (uh Hga) (Gg (by omega) (by omega)));have Hx:Hid (((m*10+(s[k].toNat-48):Nat):Int)=(m:Int)*10+((s[k].toNat:Int)-48)):=Z9 (by omega);have g1:48<=(s[k].toNat:Int):=by omega
    have g2:(s[k].toNat:Int)<=57:=by omega
    go_wp2_with fail
    go_round
    case rel=>exact ⟨k+1,m*10+(s[k].toNat-48),by omega,by omega,by go_num,by rw [uh Hx],uh Hn⟩
    case measure=>exact ms
  ·obtain rfl:k=s.size:=by omega
   have Hall:Hid (decFrom 0 s.data.toList=some m):=Z9 (by have hh:=uh Hdec;rwa [List.take_of_length_le (by rw [uh Hlen];omega)] at hh);by_cases hz:s[0]=48
   ·have hb48:((s[0].toNat:Int) ==48)=true:=I9 (c:=48) hz
    by_cases h1s:1<s.size
    ·have ht:decide (1<(s.size:Int))=true:=VO (by omega)
     have HN:Hid (Ws s.data.toList= .tuple #[.int .i64 0,.bool false]):=Z9 (Xw (by rw [uh Hl];exact TR (uh H45) (.inr ⟨hz,fun e=>by have:=congrArg List.length e;rw [List.length_drop,uh Hlen] at this;simp at this;omega⟩)));clear hz;go_wp2_with fail
     go_ret2
     exact ⟨Pc (uh HN).symm,rfl⟩
    ·have ht:decide (1<(s.size:Int))=false:=XE (by omega)
     have HN:Hid (Ws s.data.toList= .tuple #[.int .i64 m,.bool true]):=Z9 (Qu (by rw [uh Hl,Ra (uh H45) (by rw [<-uh Hl,uh Hlen];omega) (fun hh=>hh.2 (List.eq_nil_of_length_eq_zero (by rw [List.length_drop,uh Hlen];omega))),<-uh Hl,uh Hall];rfl));clear hz;go_wp2_with fail
     go_ret2
     exact ⟨Pc (uh HN).symm,rfl⟩
   ·have hb48:((s[0].toNat:Int) ==48)=false:=Ja (c:=48) hz
    have HN:Hid (Ws s.data.toList= .tuple #[.int .i64 m,.bool true]):=Z9 (Qu (by rw [uh Hl,Ra (uh H45) (by rw [<-uh Hl,uh Hlen];omega) (fun hh=>hz hh.1),<-uh Hl,uh Hall];rfl));clear hz;go_wp2_with fail
    go_ret2
    exact ⟨Pc (uh HN).symm,rfl⟩
theorem EA (s:ByteArray) (w:World) (h0:0<s.size) (hm:s.size<=9223372036854775807) (h45:s[0]=45) :
  Calls Tryz.prog 250 #[.string s] w fun e w'=>e= .returned (Ws s.data.toList)/\w'=w:=by
 have Hl:=Z9 (SE h0);have hemp:=yW h0;have H45:=Z9 h45;have hb45:((s[0].toNat:Int) ==45)=true:=I9 (c:=45) h45;have hlen:s.data.toList.length=s.size:=by simp
 have Hlen:=Z9 hlen;clear h45 hlen;by_cases h9:10<s.size
 ·have hd1:decide ((s.size:Int)-1<1)=false:=XE (by omega)
  have hd2:decide (9<(s.size:Int)-1)=true:=VO (by omega);have HN:Hid (Ws s.data.toList= .tuple #[.int .i64 0,.bool false]):=Z9 (Xw (by rw [uh Hl];rw [uh H45];exact Ve (.inr (.inl (by rw [List.length_drop,uh Hlen];omega)))));go_enter Tryz.func250,Tryz.ntmps250;go_wp2_with fail
  go_ret2
  exact ⟨Pc (uh HN).symm,rfl⟩
 by_cases h1s:s.size<2
 ·have hd1:decide ((s.size:Int)-1<1)=true:=VO (by omega)
  have HN:Hid (Ws s.data.toList= .tuple #[.int .i64 0,.bool false]):=Z9 (Xw (by rw [uh Hl,uh H45];exact Ve (.inl (List.eq_nil_of_length_eq_zero (by rw [List.length_drop,uh Hlen];omega)))));go_enter Tryz.func250,Tryz.ntmps250;go_wp2_with fail
  go_ret2
  exact ⟨Pc (uh HN).symm,rfl⟩
 have hd1:decide ((s.size:Int)-1<1)=false:=XE (by omega);have hd2:decide (9<(s.size:Int)-1)=false:=XE (by omega);go_enter Tryz.func250,Tryz.ntmps250;go_wp2_with fail
 go_loop [6,7] (fun n i=> ∃ (k m:Nat),1<=k/\k<=s.size/\i= .int .i64 k/\n= .int .i64 m/\decFrom 0 ((s.data.toList.drop 1).take (k-1))=some m) (fun _ i=>s.size-(intOf i).toNat)
 case atStart=>exact ⟨1,0,by omega,by omega,rfl,rfl,by simp [decFrom]⟩
 case round=>
  obtain ⟨k,m,hk1,hk,rfl,rfl,hdec⟩:=hrel
  have hmb:m<1000000000:=by
   have hx:=Go.Lib.decFrom_lt _ _ _ hdec;have hy:((s.data.toList.drop 1).take (k-1)).length<=9:=by rw [List.length_take];omega
   exact Zf (by simpa using hx) (XO (Nat.pow_le_pow_right (by decide) hy) (by decide))
  have Hdec:=Z9 hdec;clear hdec;by_cases hlt:k<s.size
  ·have hga:=zy hlt hk1
   have Hga:=Z9 hga;clear hga;have hb8:s[k].toNat<=255:=by have:=s[k].toNat_lt;omega
   by_cases hd:s[k].toNat<48
   ·have HN:Hid (Ws s.data.toList= .tuple #[.int .i64 0,.bool false]):=Z9 (Xw (by rw [uh Hl,uh H45];by_cases hz:(s.data.toList.drop 1).head?=some 48;exact Ve (.inr (.inr hz));rw [Pa (fun e=>by have:=congrArg List.length e;rw [List.length_drop,uh Hlen] at this;simp at this;omega) (by rw [List.length_drop,uh Hlen];omega) hz,UE (n:=0) (uh Hga) (QY (by omega))];rfl))
    have ht:decide ((s[k].toNat:Int)<48)=true:=VO (by omega);go_wp2_with fail
    go_ret2
    exact ⟨Pc (uh HN).symm,rfl⟩
   by_cases hd':57<s[k].toNat
   ·have HN:Hid (Ws s.data.toList= .tuple #[.int .i64 0,.bool false]):=Z9 (Xw (by rw [uh Hl,uh H45];by_cases hz:(s.data.toList.drop 1).head?=some 48;exact Ve (.inr (.inr hz));rw [Pa (fun e=>by have:=congrArg List.length e;rw [List.length_drop,uh Hlen] at this;simp at this;omega) (by rw [List.length_drop,uh Hlen];omega) hz,UE (n:=0) (uh Hga) (QY (by omega))];rfl))
    have ht:decide ((s[k].toNat:Int)<48)=false:=XE (by omega);have ht':decide (57<(s[k].toNat:Int))=true:=VO (by omega);go_wp2_with fail
    go_ret2
    exact ⟨Pc (uh HN).symm,rfl⟩
   ·have ht:decide ((s[k].toNat:Int)<48)=false:=XE (by omega)
    have ht':decide (57<(s[k].toNat:Int))=false:=XE (by omega);have Hn:=Z9 (Go.Lib.decFrom_take (s.data.toList.drop 1) (k-1) 0 m s[k] (s[k].toNat-48) (uh Hdec) (uh Hga) (Gg (by omega) (by omega)));have Hx:Hid (((m*10+(s[k].toNat-48):Nat):Int)=(m:Int)*10+((s[k].toNat:Int)-48)):=Z9 (by omega);have g1:48<=(s[k].toNat:Int):=by omega
    have g2:(s[k].toNat:Int)<=57:=by omega
    go_wp2_with fail
    go_round
    case rel=>exact ⟨k+1,m*10+(s[k].toNat-48),by omega,by omega,by go_num,by rw [uh Hx],by have hh:=uh Hn;rwa [show k-1+1=k+1-1 by omega] at hh⟩
    case measure=>exact ms
  ·obtain rfl:k=s.size:=by omega
   have Hall:Hid (decFrom 0 (s.data.toList.drop 1)=some m):=Z9 (by have hh:=uh Hdec;rwa [List.take_of_length_le (by rw [List.length_drop,uh Hlen];omega)] at hh);have hs1:1<s.size:=by omega
   have Hh:Hid ((s.data.toList.drop 1).head?=some s[1]):=Z9 (by rw [List.head?_drop];exact El hs1);have Hne:Hid (s.data.toList.drop 1 ≠ []):=Z9 (fun e=>by have:=congrArg List.length e;rw [List.length_drop,uh Hlen] at this;simp at this;omega);by_cases hz:s[1]=48
   ·have hb48:((s[1].toNat:Int) ==48)=true:=I9 (c:=48) hz
    have HN:Hid (Ws s.data.toList= .tuple #[.int .i64 0,.bool false]):=Z9 (Xw (by rw [uh Hl,uh H45];exact Ve (.inr (.inr (by rw [uh Hh,hz])))));clear hz;go_wp2_with fail
    go_ret2
    exact ⟨Pc (uh HN).symm,rfl⟩
   ·have hb48:((s[1].toNat:Int) ==48)=false:=Ja (c:=48) hz
    have HN:Hid (Ws s.data.toList= .tuple #[.int .i64 (-(m:Int)),.bool true]):=Z9 (Qu (by rw [uh Hl,uh H45,Pa (uh Hne) (by rw [List.length_drop,uh Hlen];omega) (fun e=>hz (by rw [uh Hh] at e;exact Option.some.inj e)),uh Hall];rfl));clear hz;go_wp2_with fail
    go_ret2
    exact ⟨Pc (uh HN).symm,rfl⟩
theorem Qo (s:ByteArray) (w:World) (hm:s.size<=9223372036854775807) :
  Calls Tryz.prog 250 #[.string s] w fun e w'=>e= .returned (Ws s.data.toList)/\w'=w:=by
 by_cases h0:0<s.size
 ·by_cases h45:s[0]=45
  ·exact EA s w h0 hm h45
  ·exact EB s w h0 hm h45
 ·have hd:s.data.toList=[]:=List.eq_nil_of_length_eq_zero (by rw [show s.data.toList.length=s.size by simp];omega)
  have hemp:s.toList.isEmpty=true:=by rw [ByteArray.toList_eq,hd];rfl
  have HN:Hid (Ws s.data.toList= .tuple #[.int .i64 0,.bool false]):=Z9 (Xw (by rw [hd];rfl));have hz:s.size=0:=by omega
  clear hd;go_enter Tryz.func250,Tryz.ntmps250;go_wp2_with fail
  go_ret2
  exact ⟨Pc (uh HN).symm,rfl⟩
theorem TS {c:UInt8} {l p:Txt} (h:p ∈ YX c l) (hl:l.length<=1048576):p.length<=1048576:=by
 have:=Ut c l [] p h;simp at this;omega
theorem JZ {l:Txt} {n:Nat} (h:l.length<=n):(bs l).size<=n:=by rw [zv];exact h
theorem Ij {l:Txt} : -999999999<=(XZ l).getD 0/\(XZ l).getD 0<=999999999:=by
 cases h:XZ l with
 | none=>simp
 | some v=>have:=SQ h;simp;omega
theorem ED (l:Txt) (w:World) (hl:l.length<=1048576) :
  Calls Tryz.prog 251 #[.string (bs l)] w fun e w'=> ∃ (f k:Int) (b:Bool),e= .returned (.tuple #[.agg #[.int .i64 f,.int .i64 k],.bool b])/\(b=true->Yj l=some (f,k))/\(b=false->Yj l=none)/\Below w.heap.size w w':=by
 have Hb0:Hid (∀ o,Below w.heap.size w (w.alloc o)):=Z9 (fun o=>(ba _ _));go_enter Tryz.func251,Tryz.ntmps251;go_wp2_with fail;refine (RG (bs l) 58 _ (JZ hl)).mono ?_;rw [QW];rintro e w1 ⟨v,rfl,hst,hb⟩;have hsz:w.heap.size+1<=w1.heap.size:=by have:=hb.size;simpa using this
 obtain ⟨cc,ff⟩:=LM hb;have x0:=cc w.heap.size 0 (by simp);have x1:=cc w.heap.size 1 (by simp);have f0:=ff w.heap.size 0 (by simp);have f1:=ff w.heap.size 1 (by simp);have B1:Hid (Below w.heap.size w w1):=Z9 ((uh Hb0 _).trans (hb.mono (by simp)));obtain ⟨a,cap,rfl,hc,hm,hr⟩:=hst.view;have Hr:=Z9 hr;clear hst hr hb cc ff;by_cases h2:(YX 58 l).length=2
 ·obtain ⟨p,q,hpq⟩:∃ p q,YX 58 l=[p,q]:=by
   match hx:YX 58 l,h2 with
   | [p,q],_=>exact ⟨p,q,rfl⟩
  have Hpq:=Z9 hpq
  rcases uh Hr with h0 | ⟨g,rfl,hg1,hg2,hcl⟩
  ·rw [h0] at h2;simp at h2
  have c0:=hcl 0 (by omega);have c1:=hcl 1 (by omega);have hp1:=TS (c:=58) (l:=l) (p:=p) (by rw [hpq];simp) hl;have hq1:=TS (c:=58) (l:=l) (p:=q) (by rw [hpq];simp) hl;rw [hpq] at c0 c1;simp only [List.getD_cons_zero,List.getD_cons_succ] at c0 c1;have Hread:Hid (Yj l=(XZ p).bind fun f=>(XZ q).bind fun k=>some (f,k)):=Z9 (by unfold Yj;rw [hpq]);have hne:g ≠ w.heap.size:=by simp at hg1;omega
  clear hcl Hr hpq;generalize (YX 58 l).length=n2 at *;subst h2;go_wp2_with fail;refine (Qo (bs p) _ (by have:=JZ hp1;omega)).mono ?_;rw [QW];rintro e w' ⟨rfl,hw'⟩;subst w';unfold Ws;have hbp:=Ij (l:=p);generalize hrp:XZ p=rp at *;have Hrp:=Z9 hrp;clear hrp;go_wp2_with fail;refine (Qo (bs q) _ (by have:=JZ hq1;omega)).mono ?_;rw [QW];rintro e w' ⟨rfl,hw'⟩;subst w';unfold Ws;generalize hrq:XZ q=rq at *;have Hrq:=Z9 hrq;clear hrq;cases rp with
  | none=>
   have Hz:Hid (Yj l=none):=Z9 (by rw [uh Hread];rfl);simp only [Option.getD_none,Option.isSome_none];go_wp2_with fail;exact ZS (v:= .tuple #[.agg #[.int .i64 0,.int .i64 (rq.getD 0)],.bool false]) (by simp [results,Tryz.results251,go_sem, *]) rfl ⟨_,_,_,rfl,fun h=>(by cases h),fun _=>uh Hz,((uh B1).setCell (by show _<=w.heap.size;omega) _).setCell (by show _<=w.heap.size;omega) _⟩
  | some f=>
   cases rq with
   | none=>
    have Hz:Hid (Yj l=none):=Z9 (by rw [uh Hread];rfl);simp only [Option.getD_none,Option.isSome_none,Option.getD_some,Option.isSome_some];go_wp2_with fail;exact ZS (v:= .tuple #[.agg #[.int .i64 f,.int .i64 0],.bool false]) (by simp [results,Tryz.results251,go_sem, *]) rfl ⟨_,_,_,rfl,fun h=>(by cases h),fun _=>uh Hz,((uh B1).setCell (by show _<=w.heap.size;omega) _).setCell (by show _<=w.heap.size;omega) _⟩
   | some k=>
    have Hz:Hid (Yj l=some (f,k)):=Z9 (by rw [uh Hread];rfl);simp only [Option.getD_some,Option.isSome_some];go_wp2_with fail;exact ZS (v:= .tuple #[.agg #[.int .i64 f,.int .i64 k],.bool true]) (by simp [results,Tryz.results251,go_sem, *]) rfl ⟨_,_,_,rfl,fun _=>uh Hz,fun h=>(by cases h),((uh B1).setCell (by show _<=w.heap.size;omega) _).setCell (by show _<=w.heap.size;omega) _⟩
 ·have Hz:Hid (Yj l=none):=Z9 (by
   unfold Yj
   split
   ·rename_i a b hx;rw [hx] at h2;simp at h2
   ·rfl)
  have hne:(((YX 58 l).length:Int) !=2)=true:=by rw [bne_iff_ne];omega
  have hcc:((YX 58 l).length:Int)<=9223372036854775807:=by omega
  generalize (YX 58 l).length=n2 at *;go_wp2_with fail;exact ZS (v:= .tuple #[.agg #[.int .i64 0,.int .i64 0],.bool false]) (by simp [results,Tryz.results251,go_sem, *]) rfl ⟨_,_,_,rfl,fun h=>(by cases h),fun _=>uh Hz,((uh B1).setCell (by show _<=w.heap.size;omega) _).setCell (by show _<=w.heap.size;omega) _⟩
theorem Ki {α β:Type} {f:α->Option β} {l:List α} {k:Nat} {xs:List β} {y:β} (hk:k<l.length) (h:(l.take k).mapM f=some xs) (hy:f l[k]=some y):(l.take (k+1)).mapM f=some (xs++[y]):=by
 rw [List.take_succ_eq_append_getElem hk,List.mapM_append,h];simp [hy]
theorem O3 {α β:Type} {f:α->Option β} : ∀ {l:List α} {k:Nat} (hk:k<l.length),f l[k]=none->l.mapM f=none
 | x::l,0,_,h=>by simp at h;simp [List.mapM_cons,h]
 | x::l,k+1,hk,h=>by
  have ih:=O3 (f:=f) (l:=l) (k:=k) (by simpa using hk) (by simpa using h);rw [List.mapM_cons,ih];cases f x<;>rfl
theorem Ik {l a:Txt} {ws:List Txt} (h:YX 32 l=a::ws):YL l=(XZ a).bind fun n=>(ws.mapM Yj).bind fun ps=>some (n,ps):=by unfold YL;rw [h]
theorem Lm {l:Txt} (h:(YX 47 l).mapM YL=none):Yw l=none:=by unfold Yw;rw [h];rfl
theorem Ln {l:Txt} {rs:List ZX} (h:(YX 47 l).mapM YL=some rs) (hb:Y2 rs=true):Yw l=some rs:=by unfold Yw;rw [h];simp [hb]
theorem JI {l:Txt} {rs:List ZX} (h:(YX 47 l).mapM YL=some rs) (hb:Y2 rs=false):Yw l=none:=by unfold Yw;rw [h];simp [hb]
theorem Jb (w:World) (u u':Value) (t:TypeId):∀ (j:Nat) (x:Value),([u,u']:List Value)[j]?=some x->(w.alloc (.cells #[u,u'] t)).cell? ((⟨w.heap.size,0,none⟩:Addr).add j)=some x:=by
 intro j x h
 match j with
 | 0=>simp at h;subst h;simp [Addr.add]
 | 1=>simp at h;subst h;simp [Addr.add]
 | j+2=>simp at h
theorem Rk (w:World) (u u':Value) (t:TypeId) (b:Nat) (hb:b=w.heap.size):∀ (j:Nat) (x:Value),([u,u']:List Value)[j]?=some x->(w.alloc (.cells #[u,u'] t)).cell? ((⟨b,0,none⟩:Addr).add j)=some x:=by
 subst hb;exact Jb w u u' t
theorem PacesAt.push {B:Nat} {w w1:World} {v v':Value} {ps:List Z4} {f k:Int} {o:Obj} (h:PacesAt B w v ps) (hB:B<=w.heap.size)
  (hown:w1.ownsRow B 114 2 v' (ps.length+1) (YW ps++[.int .i64 f,.int .i64 k])) (hg:(w.alloc o).grownBy w1 v.ownBlock) :
  PacesAt B w1 v' (ps++[(f,k)])/\Below B w w1:=by
 refine ⟨?_,((ZZ B w).alloc hB o).grown hg (by simp;omega) (fun j e=>(h.lt e).1)⟩;unfold PacesAt;simpa [YW] using hown
theorem Ii {b:Nat} {w w6:World} {v v':Value} {ps:List Z4} {n f kk:Int} {o:Obj} (hp:PacesAt (b+1) w v ps) (hsz:b+1<=w.heap.size)
  (hown:w6.ownsRow (b+1) 114 2 v' (ps.length+1) (YW ps++[.int .i64 f,.int .i64 kk])) (hg:(w.alloc o).grownBy w6 v.ownBlock)
  (c0:w.cell? ⟨b,0,none⟩=some (.int .i64 n)) (c1:w.cell? ⟨b,1,none⟩=some v) (c2:w.frozen? ⟨b,1,none⟩=false) :
  ∃ a cap,v'= .slice a (ps.length+1) cap/\w6.cell? ⟨b,1,none⟩=some v/\w6.frozen? ⟨b,1,none⟩=false/\
   Hid ((w6.setCell ⟨b,1,none⟩ v').cell? ⟨b,0,none⟩=some (.int .i64 n)/\(w6.setCell ⟨b,1,none⟩ v').cell? ⟨b,1,none⟩=some v'/\(w6.setCell ⟨b,1,none⟩ v').frozen? ⟨b,1,none⟩=false/\
    PacesAt (b+1) (w6.setCell ⟨b,1,none⟩ v') v' (ps++[(f,kk)])/\Below b w (w6.setCell ⟨b,1,none⟩ v')/\b+1<=(w6.setCell ⟨b,1,none⟩ v').heap.size):=by
 obtain ⟨hpa,hbl⟩:=hp.push hsz hown hg;obtain ⟨a,cap,hsh⟩:=hpa.shape;have d0:=(hbl.cell (p:=⟨b,0,none⟩) (by show b<b+1;omega)).trans c0;have d1:=(hbl.cell (p:=⟨b,1,none⟩) (by show b<b+1;omega)).trans c1;have d2:=(hbl.frozen (p:=⟨b,1,none⟩) (by show b<b+1;omega)).trans c2;refine ⟨a,cap,by simpa using hsh,d1,d2,?_⟩;refine ⟨?_,?_,?_,?_,?_,?_⟩
 ·rw [World.cell?_setCell_other _ _ _ _ (by simp)];exact d0
 ·exact World.cell?_setCell_same _ _ _ d1
 ·rw [World.frozen?_setCell];exact d2
 ·exact Xp hpa (fun q e=>Below.heap_setCell w6 ⟨b,1,none⟩ v' q (by have:=(hpa.lt e).1;show q ≠ b;omega))
 ·have hb0:Below b w w6:=hbl.mono (Nat.le_succ b)
  exact hb0.setCell (Z1 b) v'
 ·have:=hbl.size;simp;omega
theorem A5 {b n₀:Nat} {w w6:World} {v v' pv:Value} {qs:List (ZX × Value)} {ps:List Z4} {n:Int} {o:Obj} (h:OwnHall n₀ w v qs) (hp:PacesAt n₀ w pv ps)
  (hoff:∀ b,pv.ownBlock=some b->v.ownBlock ≠ some b) (hap:∀ q ∈ qs,∀ b,q.2.ownBlock=some b->pv.ownBlock ≠ some b)
  (hown:w6.ownsRow n₀ 112 2 v' (qs.length+1) (RQ qs++[.int .i64 n,pv])) (hg:(w.alloc o).grownBy w6 v.ownBlock) (hat:v'.ownBlock=v.ownBlock\/v'.ownBlock=some (w.alloc o).heap.size)
  (hb:b<n₀) (hsz:n₀<=w.heap.size) (c1:w.cell? ⟨b,0,none⟩=some v) (c2:w.frozen? ⟨b,0,none⟩=false) :
  ∃ a cap,v'= .slice a (qs.length+1) cap/\w6.cell? ⟨b,0,none⟩=some v/\w6.frozen? ⟨b,0,none⟩=false/\
   Hid ((w6.setCell ⟨b,0,none⟩ v').cell? ⟨b,0,none⟩=some v'/\(w6.setCell ⟨b,0,none⟩ v').frozen? ⟨b,0,none⟩=false/\
    OwnHall n₀ (w6.setCell ⟨b,0,none⟩ v') v' (qs++[((n,ps),pv)])/\Below n₀ w w6):=by
 have hpush:=h.push hp hoff hap hown hg hat;have hbl:Below n₀ w w6:=((ZZ n₀ w).alloc hsz o).grown hg (by simp;omega) (fun j e=>(h.lt (.inl e)).1);obtain ⟨a,cap,hsh⟩:=hpush.shape;have d1:=(hbl.cell (p:=⟨b,0,none⟩) hb).trans c1;have d2:=(hbl.frozen (p:=⟨b,0,none⟩) hb).trans c2;refine ⟨a,cap,by simpa using hsh,d1,d2,?_,?_,?_,hbl⟩
 ·exact World.cell?_setCell_same _ _ _ d1
 ·rw [World.frozen?_setCell];exact d2
 ·exact hpush.same (fun k h0 hk=>Below.heap_setCell w6 ⟨b,0,none⟩ v' k (by show k ≠ b;omega))
end Go.Proofs.YtamgfpdahadnfaaGreatDoor
