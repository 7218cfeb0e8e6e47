/- Part 15 of what the proof rests on. No condition but those that a theorem names. -/
import Derived.Test.YtamgfpdahadnfaaGreatDoorXf10
import Derived.Test.YtamgfpdahadnfaaGreatDoorXf11
import Derived.Test.YtamgfpdahadnfaaGreatDoorXf13
import Derived.Deep.DeepCutAuto
import Derived.Deep.CutBlock
set_option maxHeartbeats 8000000
set_option maxRecDepth 100000
namespace Go.Proofs.YtamgfpdahadnfaaGreatDoor
open Go.ChangeShapes Go.WideShapes Go.ChangeAt Go.RowKit Go.Sort
set_option linter.unusedVariables false
def Ls (u v:Value):Prop:= ∀ b,u.ownBlock=some b->v.ownBlock ≠ some b
def Nm (u v:Value) (qs:List (ZZ × Value)):Prop:=Ls u v/\ ∀ q ∈ qs,Ls u q.2
structure FullSmy (n₀:Nat) (w:World) (v0 v1 v2 v3 v4:Value) (m:Z6) (qs:List (ZZ × Value)):Prop where
 hall:OwnHall n₀ w v0 qs
 rm:qs.map (·.1)=m.rm
 gd:GuildsAt n₀ w v1 m.gd
 sm:SmithsAt n₀ w v2 m.sm
 dk:DesksAt n₀ w v3 m.dk
 pc:NumsAt n₀ w v4 m.pc
 h1:Nm v1 v0 qs
 h2:Nm v2 v0 qs
 h3:Nm v3 v0 qs
 h4:Nm v4 v0 qs
 a12:Ls v1 v2
 a13:Ls v1 v3
 a14:Ls v1 v4
 a23:Ls v2 v3
 a24:Ls v2 v4
 a34:Ls v3 v4
theorem FullSmy.smy {n₀:Nat} {w:World} {v0 v1 v2 v3 v4:Value} {m:Z6} {qs:List (ZZ × Value)} (h:FullSmy n₀ w v0 v1 v2 v3 v4 m qs):Smy w v0 v1 v2 v3 v4 m:=
 ⟨by rw [<-h.rm];exact h.hall.rm,h.gd.list,h.sm.list,h.dk.list,h.pc.list⟩
theorem OwnHall.set_old {n₀:Nat} {w:World} {v:Value} {qs:List (ZZ × Value)} (h:OwnHall n₀ w v qs) (g o:Nat) (u:Value) (hg:g<n₀):OwnHall n₀ (w.setCell ⟨g,o,none⟩ u) v qs:=
 h.same fun k h0 hk=>heap_setCell_other w _ k u (by show k ≠ g;omega)
theorem FullSmy.below {n₀:Nat} {w w':World} {v0 v1 v2 v3 v4:Value} {m:Z6} {qs:List (ZZ × Value)} (h:FullSmy n₀ w v0 v1 v2 v3 v4 m qs) (hb:Below w.heap.size w w'):FullSmy n₀ w' v0 v1 v2 v3 v4 m qs:=
 ⟨h.hall.later hb,h.rm,RecAt.later h.gd hb,RecAt.later h.sm hb,RecAt.later h.dk hb,RecAt.later h.pc hb,h.h1,h.h2,h.h3,h.h4,h.a12,h.a13,h.a14,h.a23,h.a24,h.a34⟩
theorem FullSmy.set {n₀:Nat} {w:World} {v0 v1 v2 v3 v4:Value} {m:Z6} {qs:List (ZZ × Value)} (h:FullSmy n₀ w v0 v1 v2 v3 v4 m qs) (g o:Nat) (u:Value) (hg:g<n₀):FullSmy n₀ (w.setCell ⟨g,o,none⟩ u) v0 v1 v2 v3 v4 m qs:=
 ⟨h.hall.set_old g o u hg,h.rm,RecAt.set_old h.gd g o u hg,RecAt.set_old h.sm g o u hg,RecAt.set_old h.dk g o u hg,RecAt.set_old h.pc g o u hg,h.h1,h.h2,h.h3,h.h4,h.a12,h.a13,h.a14,h.a23,h.a24,h.a34⟩
theorem FullSmy.mono {n₀ n₁:Nat} {w:World} {v0 v1 v2 v3 v4:Value} {m:Z6} {qs:List (ZZ × Value)} (h:FullSmy n₀ w v0 v1 v2 v3 v4 m qs) (hn:n₁<=n₀):FullSmy n₁ w v0 v1 v2 v3 v4 m qs:=
 ⟨h.hall.mono hn,h.rm,RecAt.mono h.gd hn,RecAt.mono h.sm hn,RecAt.mono h.dk hn,RecAt.mono h.pc hn,h.h1,h.h2,h.h3,h.h4,h.a12,h.a13,h.a14,h.a23,h.a24,h.a34⟩
theorem tyG:NW 75 3 (.agg #[.int .i64 0,.int .i64 0,.int .i64 0]) Wu:=⟨by kernel_rfl,rfl,Xp,by omega,by omega,fun x u hu=>by
 simp only [Wu,List.mem_cons,List.not_mem_nil,or_false] at hu
 rcases hu with rfl | rfl | rfl<;>rfl⟩
theorem tyS:NW 40 11 (.agg E11) ZV:=⟨by kernel_rfl,rfl,ZT,by omega,by omega,fun x u hu=>by
 simp only [ZV,List.mem_cons,List.not_mem_nil,or_false] at hu
 rcases hu with rfl | rfl | rfl | rfl | rfl | rfl | rfl | rfl | rfl | rfl | rfl<;>rfl⟩
theorem tyD:NW 43 3 (.agg #[.bool false,.int .i64 0,.int .i64 0]) Xy:=⟨by kernel_rfl,rfl,ZH,by omega,by omega,fun x u hu=>by
 simp only [Xy,List.mem_cons,List.not_mem_nil,or_false] at hu
 rcases hu with rfl | rfl | rfl<;>rfl⟩
theorem tyN:NW 2 1 (.int .i64 0) Sf:=⟨by kernel_rfl,rfl,YC,by omega,by omega,fun x u hu=>by
 simp only [Sf,List.mem_cons,List.not_mem_nil,or_false] at hu
 rcases hu with rfl<;>rfl⟩
structure Few (m:Z6):Prop where
 rm:m.rm.length<=1000
 pc:∀ r ∈ m.rm,r.2.length<=1000
 gd:m.gd.length<=1000
 sm:m.sm.length<=800
 dk:m.dk.length<=1000
 nums:m.pc.length<=1000
theorem C9 {n₀:Nat} {w:World} {v0 v1 v2 v3 v4:Value} {m:Z6} {qs:List (ZZ × Value)} (s0 s1 s2 s3:Nat) (hh:OwnHall n₀ w v0 qs) (hr:qs.map (·.1)=m.rm) (hg:GuildsAt n₀ w v1 m.gd) (hs:SmithsAt n₀ w v2 m.sm) (hd:DesksAt n₀ w v3 m.dk) (hp:NumsAt n₀ w v4 m.pc)
  (l0:∀ b,(v0.ownBlock=some b\/ ∃ q ∈ qs,q.2.ownBlock=some b)->b<s0) (l1:∀ b,v1.ownBlock=some b->s0<=b/\b<s1) (l2:∀ b,v2.ownBlock=some b->s1<=b/\b<s2) (l3:∀ b,v3.ownBlock=some b->s2<=b/\b<s3) (l4:∀ b,v4.ownBlock=some b->s3<=b) (h1:s0<=s1) (h2:s1<=s2) (h3:s2<=s3) :
  FullSmy n₀ w v0 v1 v2 v3 v4 m qs:=by
 refine ⟨hh,hr,hg,hs,hd,hp,⟨?_,?_⟩,⟨?_,?_⟩,⟨?_,?_⟩,⟨?_,?_⟩,?_,?_,?_,?_,?_,?_⟩
 ·intro b e e';have:=(l1 b e).1;have:=l0 b (.inl e');omega
 ·intro q hq b e e';have:=(l1 b e).1;have:=l0 b (.inr ⟨q,hq,e'⟩);omega
 ·intro b e e';have:=(l2 b e).1;have:=l0 b (.inl e');omega
 ·intro q hq b e e';have:=(l2 b e).1;have:=l0 b (.inr ⟨q,hq,e'⟩);omega
 ·intro b e e';have:=(l3 b e).1;have:=l0 b (.inl e');omega
 ·intro q hq b e e';have:=(l3 b e).1;have:=l0 b (.inr ⟨q,hq,e'⟩);omega
 ·intro b e e';have:=l4 b e;have:=l0 b (.inl e');omega
 ·intro q hq b e e';have:=l4 b e;have:=l0 b (.inr ⟨q,hq,e'⟩);omega
 ·intro b e e';have:=l1 b e;have:=l2 b e';omega
 ·intro b e e';have:=l1 b e;have:=l3 b e';omega
 ·intro b e e';have:=l1 b e;have:=l4 b e';omega
 ·intro b e e';have:=l2 b e;have:=l3 b e';omega
 ·intro b e e';have:=l2 b e;have:=l4 b e';omega
 ·intro b e e';have:=l3 b e;have:=l4 b e';omega
theorem Ev {w:World} {v:Value} {ps:List Zt} (h:Xz w v ps) (hl:ps.length<=1000) :
  Calls Tryz.prog 101 #[v] w fun e w'=> ∃ v',e= .returned v'/\GuildsAt w.heap.size w' v' ps/\Below w.heap.size w w':=by
 have Hv:=Z9 h;obtain ⟨a,cap,rfl,hc,hm,hr⟩:=h;clear hr;go_enter Tryz.func101,Tryz.ntmps101;go_wp2_with (at_builtin;refine ZE tyG rfl (.tmp 3) (.tmp 4) 27 Tryz.underlying27 rfl w.heap.size _ _ [] ps rfl rfl (Y3 rfl (Z2 _)) ((uh Hv).below ((ba _ _))) (by simp;omega) (by simp) ?_;intro v' w1 hown hgrow hat)
 go_ret;refine ⟨v',rfl,by simpa using hown,((ba _ _)).trans ((Z1 _ _).grown hgrow (by simp) (fun k e=> ?_))⟩;cases e;exact Z2 _
theorem XL {w:World} {v0 v1 v2 v3 v4:Value} {m:Z6} (h:Smy w v0 v1 v2 v3 v4 m) (hF:Few m) :
  Calls Tryz.prog 47 #[.agg #[v0,v1,v2,v3,v4,.int .i64 m.now]] w fun e w'=> ∃ u0 u1 u2 u3 u4 qs,e= .returned (.agg #[u0,u1,u2,u3,u4,.int .i64 m.now])/\FullSmy w.heap.size w' u0 u1 u2 u3 u4 m qs/\Below w.heap.size w w':=by
 have Hv:=Z9 h;have HF:=Z9 hF;obtain ⟨a0,p0,a1,p1,a2,p2,a3,p3,a4,p4,rfl,rfl,rfl,rfl,rfl,_,_,_,_,_,_,_,_,_,_⟩:=h.five;clear h hF;go_enter Tryz.func47,Tryz.ntmps47;go_wp2_with fail;obtain ⟨W,hW,kb,kr,BB⟩:=YB w 32 (S6 a0 p0 a1 p1 a2 p2 a3 p3 a4 p4 m) 32 E6;rw [hW];clear hW;have hW:w.heap.size+2<=W.heap.size:=by have:=(uh kr).lt;omega
 refine (Mr ((uh Hv).below (uh BB)).rm (uh HF).rm (uh HF).pc).mono ?_;rintro e w1 ⟨u0,qs,rfl,hmap,hp,hb⟩;have Hmap:=Z9 hmap;clear hmap;have n0:Hid (OwnHall (w.heap.size+2) w1 u0 qs):=Z9 (hp.mono hW);replace kb:=bl kb hb;replace kr:=bl kr hb;replace BB:=bt BB hb;have hW1:w.heap.size+2<=w1.heap.size:=by have:=hb.size;omega
 obtain ⟨b0,q0,rfl⟩:=hp.shape;have hql:qs.length=m.rm.length:=by rw [<-uh Hmap,List.length_map]
 rw [hql] at n0 ⊢;have L0:Hid (∀ b,((Value.slice b0 m.rm.length q0).ownBlock=some b\/ ∃ q ∈ qs,q.2.ownBlock=some b)->b<w1.heap.size):=Z9 (fun b e=>((uh n0).lt e).2);clear hp hql hb hW;have o0:=(uh kb).cell (i:=0) (v:= .slice a0 m.rm.length p0) rfl;have f0:=(uh kb).free 0;go_upto_region 2 with fail;clear o0 f0;replace kb:Hid (Blk (w1.setCell ⟨w.heap.size,0,none⟩ (.slice b0 m.rm.length q0)) w.heap.size 32 (S6 b0 q0 a1 p1 a2 p2 a3 p3 a4 p4 m)):=Z9 ((uh kb).set 0 _);replace kr:Hid (Blk (w1.setCell ⟨w.heap.size,0,none⟩ (.slice b0 m.rm.length q0)) (w.heap.size+1) 32 E6):=Z9 ((uh kr).other (a:=⟨w.heap.size,0,none⟩) (by show w.heap.size+1 ≠ w.heap.size;omega) _);replace BB:Hid (Below w.heap.size w (w1.setCell ⟨w.heap.size,0,none⟩ (.slice b0 m.rm.length q0))):=Z9 ((uh BB).setCell (p:=⟨w.heap.size,0,none⟩) (Z2 _) _);replace n0:=Z9 ((uh n0).set_old w.heap.size 0 (.slice b0 m.rm.length q0) (by omega));have g0:w1.heap.size<=(w1.setCell ⟨w.heap.size,0,none⟩ (.slice b0 m.rm.length q0)).heap.size:=by simp
 generalize w1.setCell ⟨w.heap.size,0,none⟩ (.slice b0 m.rm.length q0)=X0 at *;have c1:=(uh kb).cell (i:=1) (v:= .slice a1 m.gd.length p1) rfl;go_wp2_with fail;clear c1;refine (Ev ((uh Hv).below (uh BB)).gd (uh HF).gd).mono ?_;rintro e w2 ⟨u1,rfl,hp,hb⟩;have n1:Hid (GuildsAt (w.heap.size+2) w2 u1 m.gd):=Z9 (RecAt.mono hp (by omega));have M1:Hid (∀ b,u1.ownBlock=some b->w1.heap.size<=b/\b<w2.heap.size):=Z9 (fun b e=>⟨XA g0 (RecAt.lt hp e).1,(RecAt.lt hp e).2⟩);replace kb:=bl kb hb;replace kr:=bl kr hb;replace n0:=Z9 ((uh n0).later hb);replace BB:=bt BB hb;have z1:w1.heap.size<=w2.heap.size:=XA g0 hb.size;obtain ⟨b1,q1,rfl⟩:=RecAt.shape hp;clear hp hb;have o1:=(uh kb).cell (i:=1) (v:= .slice a1 m.gd.length p1) rfl;have f1:=(uh kb).free 1;go_upto_region 3 with fail;clear o1 f1;replace kb:Hid (Blk (w2.setCell ⟨w.heap.size,1,none⟩ (.slice b1 m.gd.length q1)) w.heap.size 32 (S6 b0 q0 b1 q1 a2 p2 a3 p3 a4 p4 m)):=Z9 ((uh kb).set 1 _);replace kr:Hid (Blk (w2.setCell ⟨w.heap.size,1,none⟩ (.slice b1 m.gd.length q1)) (w.heap.size+1) 32 E6):=Z9 ((uh kr).other (a:=⟨w.heap.size,1,none⟩) (by show w.heap.size+1 ≠ w.heap.size;omega) _);replace BB:Hid (Below w.heap.size w (w2.setCell ⟨w.heap.size,1,none⟩ (.slice b1 m.gd.length q1))):=Z9 ((uh BB).setCell (p:=⟨w.heap.size,1,none⟩) (Z2 _) _);replace n0:=Z9 ((uh n0).set_old w.heap.size 1 (.slice b1 m.gd.length q1) (by omega));replace n1:=Z9 (RecAt.set_old (uh n1) w.heap.size 1 (.slice b1 m.gd.length q1) (by omega));have g1:w2.heap.size<=(w2.setCell ⟨w.heap.size,1,none⟩ (.slice b1 m.gd.length q1)).heap.size:=by simp
 generalize w2.setCell ⟨w.heap.size,1,none⟩ (.slice b1 m.gd.length q1)=X1 at *;have c2:=(uh kb).cell (i:=2) (v:= .slice a2 m.sm.length p2) rfl;have HX:=Z9 (((uh Hv).below (uh BB)).sm);have hl9:=(uh HF).sm;have hlt9:=(uh kb).lt;go_upto_region 4 with (at_builtin;refine ZE tyS rfl (.tmp 11) (.tmp 13) 28 Tryz.underlying28 rfl X1.heap.size _ _ [] m.sm rfl rfl (Y3 rfl (Z2 _)) (IsRec.below (uh HX) ((ba _ _))) (by simp;omega) (by simp) ?_;intro u2 w3 hp9 hg9 hat9;rw [List.nil_append] at hp9;have hb9:Below X1.heap.size X1 w3:=((ba _ _)).trans ((Z1 _ _).grown hg9 (by simp) (fun k e=>by cases e;exact Z2 _));have k9:=(uh kb).below hb9 (uh kb).lt;have o9:=k9.cell (i:=2) (v:= .slice a2 m.sm.length p2) rfl;have f9:=k9.free 2;obtain ⟨a9,c9,hu9⟩:=RecAt.shape hp9;subst hu9;have hp:=Z9 hp9;have hb:=Z9 hb9;clear hp9 hb9 k9 hg9 hat9)
 clear c2 HX hl9 hlt9 o9 f9;replace hp:=uh hp;replace hb:=uh hb;obtain ⟨u2,hu2⟩:∃ u,u=Value.slice a9 m.sm.length c9:=⟨_,rfl⟩
 rw [<-hu2] at hp ⊢;clear hu2;have n2:Hid (SmithsAt (w.heap.size+2) w3 u2 m.sm):=Z9 (RecAt.mono hp (by omega));have M2:Hid (∀ b,u2.ownBlock=some b->w2.heap.size<=b/\b<w3.heap.size):=Z9 (fun b e=>⟨XA g1 (RecAt.lt hp e).1,(RecAt.lt hp e).2⟩);replace kb:=bl kb hb;replace kr:=bl kr hb;replace n0:=Z9 ((uh n0).later hb);replace n1:=Z9 (RecAt.later (uh n1) hb);replace BB:=bt BB hb;have z2:w2.heap.size<=w3.heap.size:=XA g1 hb.size;obtain ⟨b2,q2,rfl⟩:=RecAt.shape hp;clear hp hb;replace kb:Hid (Blk (w3.setCell ⟨w.heap.size,2,none⟩ (.slice b2 m.sm.length q2)) w.heap.size 32 (S6 b0 q0 b1 q1 b2 q2 a3 p3 a4 p4 m)):=Z9 ((uh kb).set 2 _);replace kr:Hid (Blk (w3.setCell ⟨w.heap.size,2,none⟩ (.slice b2 m.sm.length q2)) (w.heap.size+1) 32 E6):=Z9 ((uh kr).other (a:=⟨w.heap.size,2,none⟩) (by show w.heap.size+1 ≠ w.heap.size;omega) _);replace BB:Hid (Below w.heap.size w (w3.setCell ⟨w.heap.size,2,none⟩ (.slice b2 m.sm.length q2))):=Z9 ((uh BB).setCell (p:=⟨w.heap.size,2,none⟩) (Z2 _) _);replace n0:=Z9 ((uh n0).set_old w.heap.size 2 (.slice b2 m.sm.length q2) (by omega));replace n1:=Z9 (RecAt.set_old (uh n1) w.heap.size 2 (.slice b2 m.sm.length q2) (by omega));replace n2:=Z9 (RecAt.set_old (uh n2) w.heap.size 2 (.slice b2 m.sm.length q2) (by omega));have g2:w3.heap.size<=(w3.setCell ⟨w.heap.size,2,none⟩ (.slice b2 m.sm.length q2)).heap.size:=by simp
 generalize w3.setCell ⟨w.heap.size,2,none⟩ (.slice b2 m.sm.length q2)=X2 at *;have c3:=(uh kb).cell (i:=3) (v:= .slice a3 m.dk.length p3) rfl;have HX:=Z9 (((uh Hv).below (uh BB)).dk);have hl9:=(uh HF).dk;have hlt9:=(uh kb).lt;go_upto_region 5 with (at_builtin;refine ZE tyD rfl (.tmp 16) (.tmp 18) 29 Tryz.underlying29 rfl X2.heap.size _ _ [] m.dk rfl rfl (Y3 rfl (Z2 _)) (IsRec.below (uh HX) ((ba _ _))) (by simp;omega) (by simp) ?_;intro u3 w4 hp9 hg9 hat9;rw [List.nil_append] at hp9;have hb9:Below X2.heap.size X2 w4:=((ba _ _)).trans ((Z1 _ _).grown hg9 (by simp) (fun k e=>by cases e;exact Z2 _));have k9:=(uh kb).below hb9 (uh kb).lt;have o9:=k9.cell (i:=3) (v:= .slice a3 m.dk.length p3) rfl;have f9:=k9.free 3;obtain ⟨a9,c9,hu9⟩:=RecAt.shape hp9;subst hu9;have hp:=Z9 hp9;have hb:=Z9 hb9;clear hp9 hb9 k9 hg9 hat9)
 clear c3 HX hl9 hlt9 o9 f9;replace hp:=uh hp;replace hb:=uh hb;obtain ⟨u3,hu3⟩:∃ u,u=Value.slice a9 m.dk.length c9:=⟨_,rfl⟩
 rw [<-hu3] at hp ⊢;clear hu3;have n3:Hid (DesksAt (w.heap.size+2) w4 u3 m.dk):=Z9 (RecAt.mono hp (by omega));have M3:Hid (∀ b,u3.ownBlock=some b->w3.heap.size<=b/\b<w4.heap.size):=Z9 (fun b e=>⟨XA g2 (RecAt.lt hp e).1,(RecAt.lt hp e).2⟩);replace kb:=bl kb hb;replace kr:=bl kr hb;replace n0:=Z9 ((uh n0).later hb);replace n1:=Z9 (RecAt.later (uh n1) hb);replace n2:=Z9 (RecAt.later (uh n2) hb);replace BB:=bt BB hb;have z3:w3.heap.size<=w4.heap.size:=XA g2 hb.size;obtain ⟨b3,q3,rfl⟩:=RecAt.shape hp;clear hp hb;replace kb:Hid (Blk (w4.setCell ⟨w.heap.size,3,none⟩ (.slice b3 m.dk.length q3)) w.heap.size 32 (S6 b0 q0 b1 q1 b2 q2 b3 q3 a4 p4 m)):=Z9 ((uh kb).set 3 _);replace kr:Hid (Blk (w4.setCell ⟨w.heap.size,3,none⟩ (.slice b3 m.dk.length q3)) (w.heap.size+1) 32 E6):=Z9 ((uh kr).other (a:=⟨w.heap.size,3,none⟩) (by show w.heap.size+1 ≠ w.heap.size;omega) _);replace BB:Hid (Below w.heap.size w (w4.setCell ⟨w.heap.size,3,none⟩ (.slice b3 m.dk.length q3))):=Z9 ((uh BB).setCell (p:=⟨w.heap.size,3,none⟩) (Z2 _) _);replace n0:=Z9 ((uh n0).set_old w.heap.size 3 (.slice b3 m.dk.length q3) (by omega));replace n1:=Z9 (RecAt.set_old (uh n1) w.heap.size 3 (.slice b3 m.dk.length q3) (by omega));replace n2:=Z9 (RecAt.set_old (uh n2) w.heap.size 3 (.slice b3 m.dk.length q3) (by omega));replace n3:=Z9 (RecAt.set_old (uh n3) w.heap.size 3 (.slice b3 m.dk.length q3) (by omega));have g3:w4.heap.size<=(w4.setCell ⟨w.heap.size,3,none⟩ (.slice b3 m.dk.length q3)).heap.size:=by simp
 generalize w4.setCell ⟨w.heap.size,3,none⟩ (.slice b3 m.dk.length q3)=X3 at *;have c4:=(uh kb).cell (i:=4) (v:= .slice a4 m.pc.length p4) rfl;have HX:=Z9 (((uh Hv).below (uh BB)).pc);have hl9:=(uh HF).nums;have hlt9:=(uh kb).lt;go_upto_region 6 with (at_builtin;refine ZE tyN rfl (.tmp 21) (.tmp 23) 30 Tryz.underlying30 rfl X3.heap.size _ _ [] m.pc rfl rfl (Y3 rfl (Z2 _)) (IsRec.below (uh HX) ((ba _ _))) (by simp;omega) (by simp) ?_;intro u4 w5 hp9 hg9 hat9;rw [List.nil_append] at hp9;have hb9:Below X3.heap.size X3 w5:=((ba _ _)).trans ((Z1 _ _).grown hg9 (by simp) (fun k e=>by cases e;exact Z2 _));have k9:=(uh kb).below hb9 (uh kb).lt;have o9:=k9.cell (i:=4) (v:= .slice a4 m.pc.length p4) rfl;have f9:=k9.free 4;obtain ⟨a9,c9,hu9⟩:=RecAt.shape hp9;subst hu9;have hp:=Z9 hp9;have hb:=Z9 hb9;clear hp9 hb9 k9 hg9 hat9)
 clear c4 HX hl9 hlt9 o9 f9;replace hp:=uh hp;replace hb:=uh hb;obtain ⟨u4,hu4⟩:∃ u,u=Value.slice a9 m.pc.length c9:=⟨_,rfl⟩
 rw [<-hu4] at hp ⊢;clear hu4;have n4:Hid (NumsAt (w.heap.size+2) w5 u4 m.pc):=Z9 (RecAt.mono hp (by omega));have M4:Hid (∀ b,u4.ownBlock=some b->w4.heap.size<=b/\b<w5.heap.size):=Z9 (fun b e=>⟨XA g3 (RecAt.lt hp e).1,(RecAt.lt hp e).2⟩);replace kb:=bl kb hb;replace kr:=bl kr hb;replace n0:=Z9 ((uh n0).later hb);replace n1:=Z9 (RecAt.later (uh n1) hb);replace n2:=Z9 (RecAt.later (uh n2) hb);replace n3:=Z9 (RecAt.later (uh n3) hb);replace BB:=bt BB hb;have z4:w4.heap.size<=w5.heap.size:=XA g3 hb.size;obtain ⟨b4,q4,rfl⟩:=RecAt.shape hp;clear hp hb;replace kb:Hid (Blk (w5.setCell ⟨w.heap.size,4,none⟩ (.slice b4 m.pc.length q4)) w.heap.size 32 (S6 b0 q0 b1 q1 b2 q2 b3 q3 b4 q4 m)):=Z9 ((uh kb).set 4 _);replace kr:Hid (Blk (w5.setCell ⟨w.heap.size,4,none⟩ (.slice b4 m.pc.length q4)) (w.heap.size+1) 32 E6):=Z9 ((uh kr).other (a:=⟨w.heap.size,4,none⟩) (by show w.heap.size+1 ≠ w.heap.size;omega) _);replace BB:Hid (Below w.heap.size w (w5.setCell ⟨w.heap.size,4,none⟩ (.slice b4 m.pc.length q4))):=Z9 ((uh BB).setCell (p:=⟨w.heap.size,4,none⟩) (Z2 _) _);replace n0:=Z9 ((uh n0).set_old w.heap.size 4 (.slice b4 m.pc.length q4) (by omega));replace n1:=Z9 (RecAt.set_old (uh n1) w.heap.size 4 (.slice b4 m.pc.length q4) (by omega));replace n2:=Z9 (RecAt.set_old (uh n2) w.heap.size 4 (.slice b4 m.pc.length q4) (by omega));replace n3:=Z9 (RecAt.set_old (uh n3) w.heap.size 4 (.slice b4 m.pc.length q4) (by omega));replace n4:=Z9 (RecAt.set_old (uh n4) w.heap.size 4 (.slice b4 m.pc.length q4) (by omega));have g4:w5.heap.size<=(w5.setCell ⟨w.heap.size,4,none⟩ (.slice b4 m.pc.length q4)).heap.size:=by simp
 generalize w5.setCell ⟨w.heap.size,4,none⟩ (.slice b4 m.pc.length q4)=X4 at *;obtain ⟨c0,c1,c2,c3,c4,c5⟩:=(uh kb).c6;obtain ⟨o0,o1,o2,o3,o4,o5⟩:=(uh kr).c6;obtain ⟨f0,f1,f2,f3,f4,f5⟩:=(uh kr).f6;go_wp2_with fail;refine ZQ (v:= .agg (S6 b0 q0 b1 q1 b2 q2 b3 q3 b4 q4 m)) (by simp [results,Tryz.results47,go_sem, *]) rfl ⟨_,_,_,_,_,qs,rfl,?_,?_⟩
 ·refine FullSmy.mono (n₀:=w.heap.size+2) (C9 w1.heap.size w2.heap.size w3.heap.size w4.heap.size ?_ (uh Hmap) ?_ ?_ ?_ ?_ (uh L0) (uh M1) (uh M2) (uh M3) (fun b e=>(uh M4 b e).1) z1 z2 z3) (by omega)
  ·iterate 6 (refine OwnHall.set_old ?_ _ _ _ (by omega))
   exact uh n0
  ·iterate 6 (refine RecAt.set_old ?_ _ _ _ (by omega))
   exact uh n1
  ·iterate 6 (refine RecAt.set_old ?_ _ _ _ (by omega))
   exact uh n2
  ·iterate 6 (refine RecAt.set_old ?_ _ _ _ (by omega))
   exact uh n3
  ·iterate 6 (refine RecAt.set_old ?_ _ _ _ (by omega))
   exact uh n4
 ·iterate 6 (refine YF ?_ (by show _<=w.heap.size+1;omega) _)
  exact uh BB
structure Two (p q:Option Nat) (w w':World):Prop where
 os:w'.os=w.os
 tape:w'.tape=w.tape
 output:w'.output=w.output
 size:w.heap.size<=w'.heap.size
 block:∀ k,k<w.heap.size->p ≠ some k->q ≠ some k->w'.heap[k]?=w.heap[k]?
section
variable {p q : Option Nat} {w w' w'' : World}
theorem Two.refl (p q:Option Nat) (w:World):Two p q w w:=⟨rfl,rfl,rfl,Z2 _,fun _ _ _ _=>rfl⟩
theorem Two.trans (h:Two p q w w') (k:Two p q w' w''):Two p q w w'':=
 ⟨k.os.trans h.os,k.tape.trans h.tape,k.output.trans h.output,XA h.size k.size,fun i hi hp hq=>(k.block i (Zd hi h.size) hp hq).trans (h.block i hi hp hq)⟩
theorem Two.of_below (h:Below w.heap.size w w'):Two p q w w':=⟨h.os,h.tape,h.output,h.size,fun i hi _ _=>h.block i hi⟩
theorem Two.of_set (w:World) {g:Nat} (hg:p=some g\/q=some g) (o:Nat) (u:Value):Two p q w (w.setCell ⟨g,o,none⟩ u):=
 ⟨rfl,rfl,rfl,by simp,fun i hi hp hq=>heap_setCell_other w _ i u (fun e=>by
  have e:i=g:=e;subst e
  rcases hg with h | h
  ·exact hp h
  ·exact hq h)⟩
theorem Two.below {B:Nat} (h:Two p q w w') (hB:B<=w.heap.size) (hp:∀ k,p=some k->B<=k) (hq:∀ k,q=some k->B<=k):Below B w w':=
 ⟨h.os,h.tape,h.output,h.size,fun i hi=>h.block i (Zd hi hB) (fun e=>by have:=hp i e;omega) (fun e=>by have:=hq i e;omega)⟩
theorem Blk.two {R:Nat} {t:TypeId} {cs:Array Value} (h:Blk w R t cs) (ht:Two p q w w') (hp:p ≠ some R) (hq:q ≠ some R):Blk w' R t cs:=h.same (ht.block R h.lt hp hq)
end
theorem OwnHall.same2 {n₀:Nat} {w w':World} {v:Value} {qs:List (ZZ × Value)} (h:OwnHall n₀ w v qs) (hs:∀ k,(v.ownBlock=some k\/ ∃ q ∈ qs,q.2.ownBlock=some k)->w'.heap[k]?=w.heap[k]?):OwnHall n₀ w' v qs:=
 ⟨Xe h.row (fun k e=>hs k (.inl e)),fun q hq=>Xe (h.pc q hq) (fun k e=>hs k (.inr ⟨q,hq,e⟩)),h.off,h.apart⟩
section
variable {n₀ n cap g : Nat} {w : World} {v0 v1 v2 v3 v4 : Value} {m : Z6} {qs : List (ZZ × Value)}
theorem FullSmy.putS (hf:FullSmy n₀ w v0 v1 (.slice (some ⟨g,0,none⟩) n cap) v3 v4 m qs) (hn:n=m.sm.length) {j i:Nat} (hj:j<m.sm.length) (hi:i<11) (u:Value) (x:Z3) (hx:ZV x=(ZV (Z8 m.sm j)).set i u) :
  FullSmy n₀ (w.setCell ⟨g,j*11+i,none⟩ u) v0 v1 (.slice (some ⟨g,0,none⟩) n cap) v3 v4 { m with sm:=m.sm.set j x } qs:=by
 have hb:(Value.slice (some ⟨g,0,none⟩) n cap).ownBlock=some g:=rfl;have hne:∀ k,k ≠ g->(w.setCell ⟨g,j*11+i,none⟩ u).heap[k]?=w.heap[k]?:=fun k hk=>heap_setCell_other w _ k u hk;refine ⟨hf.hall.same2 fun k e=>hne k fun e'=> ?_,hf.rm,RecAt.same hf.gd fun k e=>hne k fun e'=> ?_,(RecAt.put1 ZT (by omega) hf.sm hn hj hi u x hx).1,RecAt.same hf.dk fun k e=>hne k fun e'=> ?_,RecAt.same hf.pc fun k e=>hne k fun e'=> ?_,hf.h1,hf.h2,hf.h3,hf.h4,hf.a12,hf.a13,hf.a14,hf.a23,hf.a24,hf.a34⟩
 ·subst e'
  rcases e with e | ⟨q,hq,e⟩
  ·exact hf.h2.1 _ hb e
  ·exact hf.h2.2 q hq _ hb e
 ·subst e';exact hf.a12 _ e hb
 ·subst e';exact hf.a23 _ hb e
 ·subst e';exact hf.a24 _ hb e
theorem FullSmy.putD (hf:FullSmy n₀ w v0 v1 v2 (.slice (some ⟨g,0,none⟩) n cap) v4 m qs) (hn:n=m.dk.length) {j i:Nat} (hj:j<m.dk.length) (hi:i<3) (u:Value) (x:XW) (hx:Xy x=(Xy (Z8 m.dk j)).set i u) :
  FullSmy n₀ (w.setCell ⟨g,j*3+i,none⟩ u) v0 v1 v2 (.slice (some ⟨g,0,none⟩) n cap) v4 { m with dk:=m.dk.set j x } qs:=by
 have hb:(Value.slice (some ⟨g,0,none⟩) n cap).ownBlock=some g:=rfl;have hne:∀ k,k ≠ g->(w.setCell ⟨g,j*3+i,none⟩ u).heap[k]?=w.heap[k]?:=fun k hk=>heap_setCell_other w _ k u hk;refine ⟨hf.hall.same2 fun k e=>hne k fun e'=> ?_,hf.rm,RecAt.same hf.gd fun k e=>hne k fun e'=> ?_,RecAt.same hf.sm fun k e=>hne k fun e'=> ?_,(RecAt.put1 ZH (by omega) hf.dk hn hj hi u x hx).1,RecAt.same hf.pc fun k e=>hne k fun e'=> ?_,hf.h1,hf.h2,hf.h3,hf.h4,hf.a12,hf.a13,hf.a14,hf.a23,hf.a24,hf.a34⟩
 ·subst e'
  rcases e with e | ⟨q,hq,e⟩
  ·exact hf.h3.1 _ hb e
  ·exact hf.h3.2 q hq _ hb e
 ·subst e';exact hf.a13 _ e hb
 ·subst e';exact hf.a23 _ e hb
 ·subst e';exact hf.a34 _ hb e
theorem FullSmy.putP (hf:FullSmy n₀ w v0 v1 v2 v3 (.slice (some ⟨g,0,none⟩) n cap) m qs) (hn:n=m.pc.length) {j:Nat} (hj:j<m.pc.length) (x:Int) :
  FullSmy n₀ (w.setCell ⟨g,j,none⟩ (.int .i64 x)) v0 v1 v2 v3 (.slice (some ⟨g,0,none⟩) n cap) { m with pc:=m.pc.set j x } qs:=by
 have hb:(Value.slice (some ⟨g,0,none⟩) n cap).ownBlock=some g:=rfl;have hne:∀ k,k ≠ g->(w.setCell ⟨g,j,none⟩ (.int .i64 x)).heap[k]?=w.heap[k]?:=fun k hk=>heap_setCell_other w _ k _ hk;have hput:=(RecAt.put1 (i:=0) YC (by omega) hf.pc hn hj (by omega) (.int .i64 x) x (by simp [Sf])).1;simp only [Nat.mul_one,Nat.add_zero] at hput;refine ⟨hf.hall.same2 fun k e=>hne k fun e'=> ?_,hf.rm,RecAt.same hf.gd fun k e=>hne k fun e'=> ?_,RecAt.same hf.sm fun k e=>hne k fun e'=> ?_,RecAt.same hf.dk fun k e=>hne k fun e'=> ?_,hput,hf.h1,hf.h2,hf.h3,hf.h4,hf.a12,hf.a13,hf.a14,hf.a23,hf.a24,hf.a34⟩
 ·subst e'
  rcases e with e | ⟨q,hq,e⟩
  ·exact hf.h4.1 _ hb e
  ·exact hf.h4.2 q hq _ hb e
 ·subst e';exact hf.a14 _ e hb
 ·subst e';exact hf.a24 _ e hb
 ·subst e';exact hf.a34 _ e hb
end
end Go.Proofs.YtamgfpdahadnfaaGreatDoor
namespace Go.Proofs.YtamgfpdahadnfaaGreatDoor
open Go.ChangeShapes Go.WideShapes Go.ChangeAt Go.RowKit Go.Sort
set_option linter.unusedVariables false
theorem FullSmy.putW {n₀ n cap g:Nat} {w:World} {v0 v1 v3 v4:Value} {m:Z6} {qs:List (ZZ × Value)} (hf:FullSmy n₀ w v0 v1 (.slice (some ⟨g,0,none⟩) n cap) v3 v4 m qs) (hn:n=m.sm.length) {j:Nat} (hj:j<m.sm.length) (x:Z3) :
  FullSmy n₀ (PK w g (j*11) (ZV x)) v0 v1 (.slice (some ⟨g,0,none⟩) n cap) v3 v4 { m with sm:=m.sm.set j x } qs:=by
 have hb:(Value.slice (some ⟨g,0,none⟩) n cap).ownBlock=some g:=rfl;obtain ⟨hput,hg⟩:=RecAt.put ZT (by omega) hf.sm hn hj x;have hne:∀ k,k<w.heap.size->k ≠ g->(PK w g (j*11) (ZV x)).heap[k]?=w.heap[k]?:=fun k hk hkg=>hg.block k hk (fun e=>hkg (by cases e;rfl));refine ⟨hf.hall.same2 fun k e=>hne k (hf.hall.lt e).2 fun e'=> ?_,hf.rm,RecAt.same hf.gd fun k e=>hne k (RecAt.lt hf.gd e).2 fun e'=> ?_,hput,RecAt.same hf.dk fun k e=>hne k (RecAt.lt hf.dk e).2 fun e'=> ?_,RecAt.same hf.pc fun k e=>hne k (RecAt.lt hf.pc e).2 fun e'=> ?_,hf.h1,hf.h2,hf.h3,hf.h4,hf.a12,hf.a13,hf.a14,hf.a23,hf.a24,hf.a34⟩
 ·subst e'
  rcases e with e | ⟨q,hq,e⟩
  ·exact hf.h2.1 _ hb e
  ·exact hf.h2.2 q hq _ hb e
 ·subst e';exact hf.a12 _ e hb
 ·subst e';exact hf.a23 _ hb e
 ·subst e';exact hf.a24 _ hb e
theorem Jv (w:World) (g o:Nat) (c0 c1 c2 c3 c4 c5 c6 c7 c8 c9 c10:Value):PK w g o [c0,c1,c2,c3,c4,c5,c6,c7,c8,c9,c10]=((((((((((w.setCell ⟨g,o,none⟩ c0).setCell ⟨g,o+1,none⟩ c1).setCell ⟨g,o+2,none⟩ c2).setCell ⟨g,o+3,none⟩ c3).setCell ⟨g,o+4,none⟩ c4).setCell ⟨g,o+5,none⟩ c5).setCell ⟨g,o+6,none⟩ c6).setCell ⟨g,o+7,none⟩ c7).setCell ⟨g,o+8,none⟩ c8).setCell ⟨g,o+9,none⟩ c9).setCell ⟨g,o+10,none⟩ c10:=rfl
theorem AX (w:World) (g o:Nat) (t0 t1 t2 t3 t4 t5 t6 t7 t8 t9 t10:Int):((((((((((w.setCell ⟨g,o,none⟩ (.int .i64 t0)).setCell ⟨g,o+1,none⟩ (.int .i64 t1)).setCell ⟨g,o+2,none⟩ (.int .i64 t2)).setCell ⟨g,o+3,none⟩ (.int .i64 t3)).setCell ⟨g,o+4,none⟩ (.int .i64 t4)).setCell ⟨g,o+5,none⟩ (.int .i64 t5)).setCell ⟨g,o+6,none⟩ (.int .i64 t6)).setCell ⟨g,o+7,none⟩ (.int .i64 t7)).setCell ⟨g,o+8,none⟩ (.int .i64 t8)).setCell ⟨g,o+9,none⟩ (.int .i64 t9)).setCell ⟨g,o+10,none⟩ (.int .i64 t10)=PK w g o (ZV (t0,t1,t2,t3,t4,t5,t6,t7,t8,t9,t10)):=rfl
theorem MR {g R:Nat} {t:TypeId} {cs:Array Value} (hR:R ≠ g):∀ (l:List Value) {W:World} {o:Nat},Hid (Blk W R t cs)->Hid (Blk (PK W g o l) R t cs)
 | [],_,_,h=>h
 | u::l,W,o,h=>MR hR l (Z9 ((uh h).other (a:=⟨g,o,none⟩) hR u))
theorem EZ {n g:Nat} {w:World} (hn:n<=g):∀ (l:List Value) {W:World} {o:Nat},Hid (Below n w W)->Hid (Below n w (PK W g o l))
 | [],_,_,h=>h
 | u::l,W,o,h=>EZ hn l (Z9 ((uh h).setCell (p:=⟨g,o,none⟩) hn u))
def We (v0 v1 v2 v3 v4:Value) (qs:List (ZZ × Value)) (k:Nat):Prop:=v0.ownBlock=some k\/(∃ q ∈ qs,q.2.ownBlock=some k)\/v1.ownBlock=some k\/v2.ownBlock=some k\/v3.ownBlock=some k\/v4.ownBlock=some k
section
variable {n₀ : Nat} {w w' : World} {v0 v1 v2 v3 v4 : Value} {m : Z6} {qs : List (ZZ × Value)}
theorem FullSmy.own (h:FullSmy n₀ w v0 v1 v2 v3 v4 m qs) {k:Nat} (e:We v0 v1 v2 v3 v4 qs k):n₀<=k/\k<w.heap.size:=by
 rcases e with e | e | e | e | e | e
 ·exact h.hall.lt (.inl e)
 ·exact h.hall.lt (.inr e)
 ·exact RecAt.lt h.gd e
 ·exact RecAt.lt h.sm e
 ·exact RecAt.lt h.dk e
 ·exact RecAt.lt h.pc e
theorem FullSmy.keep (h:FullSmy n₀ w v0 v1 v2 v3 v4 m qs) (hs:∀ k,We v0 v1 v2 v3 v4 qs k->w'.heap[k]?=w.heap[k]?):FullSmy n₀ w' v0 v1 v2 v3 v4 m qs:=
 ⟨⟨Xe h.hall.row (fun k e=>hs k (.inl e)),fun q hq=>Xe (h.hall.pc q hq) (fun k e=>hs k (.inr (.inl ⟨q,hq,e⟩))),h.hall.off,h.hall.apart⟩,h.rm,RecAt.same h.gd fun k e=>hs k (.inr (.inr (.inl e))),RecAt.same h.sm fun k e=>hs k (.inr (.inr (.inr (.inl e)))),RecAt.same h.dk fun k e=>hs k (.inr (.inr (.inr (.inr (.inl e))))),RecAt.same h.pc fun k e=>hs k (.inr (.inr (.inr (.inr (.inr e))))),h.h1,h.h2,h.h3,h.h4,h.a12,h.a13,h.a14,h.a23,h.a24,h.a34⟩
end
end Go.Proofs.YtamgfpdahadnfaaGreatDoor
namespace Go.Proofs.YtamgfpdahadnfaaGreatDoor
open Go.ChangeShapes Go.WideShapes Go.ChangeAt Go.RowKit Go.Sort
set_option linter.unusedVariables false
set_option linter.unusedSimpArgs false
set_option maxRecDepth 100000
theorem MB {B g:Nat} {w:World} (hg:g=w.heap.size) (hB:B<=g):OwnHall B (w.alloc (.cells #[] 112)) (.slice (some ⟨g,0,none⟩) 0 0) []:=by
 subst hg;exact ⟨⟨by simp [RG],.inr ⟨_,0,#[],rfl,hB,heap_alloc_new w _,Z2 _,Zz _,by simp,by simp [RG]⟩⟩,fun _ h=>(by cases h),fun _ h=>(by cases h),List.Pairwise.nil⟩
theorem D3 {w:World} {v:Value} {ps:List Z4} (h:IsPaces w v ps) (hl:ps.length<=1000):Calls Tryz.prog 213 #[v] w fun e w'=> ∃ v',e= .returned v'/\PacesAt w.heap.size w' v' ps/\Below w.heap.size w w':=by
 have HR:=Z9 (IsPaces.rec (h.below ((Z1 _ _).alloc (Z2 _) (.cells #[] 114))));obtain ⟨a,cap,rfl,hc,hm,hr⟩:=h;clear hr;go_enter Tryz.func213,Tryz.ntmps213;go_wp2_with (at_builtin;refine ZE Bj rfl (.tmp 3) (.tmp 4) 207 Tryz.underlying207 rfl w.heap.size _ _ [] ps rfl rfl (Y3 rfl (Z2 _)) (uh HR) (by simp;omega) (by simp) ?_;intro u9 w9 hp9 hg9 hat9;rw [List.nil_append] at hp9;have HP9:=Z9 hp9;have HG9:=Z9 hg9;clear hp9 hg9 hat9)
 have hb9:Below w.heap.size w w9:=((ba _ _)).trans ((Z1 _ _).grown (uh HG9) (by simp) (fun i e=>by cases e;exact Z2 _));go_wp2_with fail;go_ret;exact ⟨_,rfl,uh HP9,hb9⟩
theorem LJ {w:World} {v:Value} {rs:List ZZ} (h:IsRooms w v rs) (hl:rs.length<=1000) (hp:∀ r ∈ rs,r.2.length<=1000) :
  Calls Tryz.prog 157 #[.agg #[v]] w fun e w'=> ∃ v' qs,e= .returned (.agg #[v'])/\qs.map (·.1)=rs/\OwnHall w.heap.size w' v' qs/\Below w.heap.size w w':=by
 obtain ⟨a,cap,rfl,hc,hm,hr⟩:=h;have Hr:=Z9 hr;have HP:=Z9 hp;clear hr hp;go_enter Tryz.func157,Tryz.ntmps157;go_wp2_with fail
 go_loopw [3,10] (fun u i wr=> ∃ (k:Nat) (qs:List (ZZ × Value)) (ua:Option Addr) (uc:Nat),k<=rs.length/\i= .int .i64 k/\u= .slice ua k uc/\Blk wr (w.heap.size+1) 26 #[.slice none 0 0]/\OwnHall (w.heap.size+2) wr (.slice ua k uc) qs/\qs.map (·.1)=rs.take k/\Below w.heap.size w wr) (fun _ i _=>rs.length-(intOf i).toNat)
 case atStart=>
  refine ⟨0,[],_,_,Zz _,rfl,rfl,?_,MB (by simp) (by simp),rfl,(((ba _ _)).alloc (by simp) _).alloc (by simp;omega) _⟩;have k:=Blk.new (w.alloc (.cells #[.slice a rs.length cap] 26)) 26 #[.slice none 0 0];rw [Y8] at k;exact k.alloc _
 case round=>
  obtain ⟨k,qs,ua,uc,hk,rfl,rfl,kr,ho,hq,hb⟩:=hrel;have hql:qs.length=k:=by have:=congrArg List.length hq;simp at this;omega
  have Hql:=Z9 hql;clear hql;have Kr:=Z9 kr;have Ho:=Z9 ho;have Hq:=Z9 hq;have Hb:=Z9 hb;have hsz:=kr.lt;by_cases hlt:k<rs.length
  ·have hlt1:(k:Int)<(rs.length:Int):=by omega
   rcases uh Hr with e0 | ⟨b,off,rfl,hbw,hcl⟩
   ·rw [e0] at hlt;simp at hlt
   obtain ⟨c0,pv,c1,hpv⟩:=hcl k hlt;rw [<-hb.cell (p:=⟨b,off+k*2,none⟩) hbw] at c0;rw [<-hb.cell (p:=⟨b,off+k*2+1,none⟩) hbw] at c1;have Hpv:=Z9 (hpv.below (hb.mono (Z2 _)));have hpl:=uh HP (ZN rs k) (by unfold ZN;simp [List.getD,hlt]);have Htk:Hid (rs.take (k+1)=rs.take k++[ZN rs k]):=Z9 (by rw [List.take_succ_eq_append_getElem hlt];unfold ZN;simp [List.getD,hlt]);generalize ZN rs k=r at *;obtain ⟨n,ps⟩:=r;simp only at c0 hpl hpv;obtain ⟨pa,pc,rfl,_,_,_⟩:=hpv;have hbw':b<wr.heap.size:=by have:=hb.size;omega
   clear hcl kr ho hq hb;go_wp2_with fail;clear c0 c1;have hba:Below wr.heap.size wr (wr.alloc (.cells #[.int .i64 n,.slice pa ps.length pc] 112)):=ba _ _;have KB:Hid (Blk (wr.alloc (.cells #[.int .i64 n,.slice pa ps.length pc] 112)) wr.heap.size 112 #[.int .i64 n,.slice pa ps.length pc]):=Z9 (Blk.new wr _ _);replace Kr:=bl Kr hba;have HLB:Hid (∀ i,(Value.slice ua k uc).ownBlock=some i->i<wr.heap.size):=Z9 (fun i e=>((uh Ho).lt (.inl e)).2);replace Ho:=Z9 ((uh Ho).later hba);replace Hb:=Z9 ((uh Hb).trans (hba.mono (uh Hb).size));replace Hpv:=Z9 ((uh Hpv).below hba);have hsz2:w.heap.size+2<=(wr.alloc (.cells #[.int .i64 n,.slice pa ps.length pc] 112)).heap.size:=by have:=(uh Kr).lt;simp at this ⊢;omega
   clear hba;generalize wr.alloc (.cells #[.int .i64 n,.slice pa ps.length pc] 112)=X at *;generalize wr.heap.size=rb at *;have s0:=(uh KB).cell (i:=0) (v:= .int .i64 n) rfl;have s1:=(uh KB).cell (i:=1) (v:= .slice pa ps.length pc) rfl;refine ZS (S:=fun w'=>w'.cell? ⟨rb,0,none⟩=some (.int .i64 n)/\w'.cell? ⟨rb,1,none⟩=some (.slice pa ps.length pc)) (by kernel_rfl) (XM _ _) (by kernel_rfl) ⟨s0,s1⟩ (fun hHeld=> ?_);simp only [XN,XO,Y4,YQ,Nat.zero_add,Nat.reduceAdd]
   iterate 5 refine tz ?_
   refine rd 5 rfl (fun K hK=> ?_);go_simp;refine (D3 ((uh Hpv).below (Z1 _ _).drew) hpl).mono ?_;rintro e9 w4 ⟨v4,rfl,hp4,hb4⟩;obtain ⟨pa4,pc4,rfl⟩:=PacesAt.shape hp4;have X4:Below X.heap.size X w4:=(Z1 X.heap.size X).drew.trans hb4;have HO4:Hid (PacesAt X.heap.size w4 (.slice pa4 ps.length pc4) ps):=Z9 hp4;have HX4:=Z9 X4;have hz4:=X4.size;have t0:=(X4.cell (p:=⟨rb,0,none⟩) (uh KB).lt).trans s0;have t1:=(X4.cell (p:=⟨rb,1,none⟩) (uh KB).lt).trans s1;clear hp4 hb4 X4;refine hK.out _ _ ⟨t0,t1⟩ (fun hHeld=> ?_);clear hK K
   (try simp only [Act.put,sA,sZ,sS])
   refine tp 6 ?_;have KB5:=((uh KB).below (uh HX4) (uh KB).lt).alloc (.cells #[.int .i64 n,.slice pa4 ps.length pc4] 112);have u0:=KB5.cell (i:=0) (v:= .int .i64 n) rfl;have u1:=KB5.cell (i:=1) (v:= .slice pa ps.length pc) rfl;refine rd 7 rfl (fun K hK=> ?_);go_simp;refine hK.out _ _ ⟨u0,u1⟩ (fun hHeld=> ?_);clear hK K
   (try simp only [Act.put,sA,sZ,sS])
   obtain ⟨v5,w5,hrun5,hown5,hg5,hat5⟩:=R1 (w:=w4.alloc (.cells #[.int .i64 n,.slice pa4 ps.length pc4] 112)) (t:=24) (ty:=24) (base:=w.heap.size+2) (v:= .slice ua k uc) (n:=k) (xs:=RG qs) Tryz.underlying24 (World.ownsRow.alloc (by have h9:=((uh Ho).later (uh HX4)).row;rw [uh Hql] at h9;exact h9) _) (g:=w4.heap.size) (c:=1) (Ze w4 (i:=0) rfl) (Ze w4 (i:=1) rfl) rfl (by omega) (by simp;omega);obtain ⟨a5,c5,rfl⟩:=Kc hown5;have hn5:∀ i,(Value.slice ua k uc).ownBlock=some i->w.heap.size+2<=i/\i<X.heap.size:=fun i e=>(uh Ho).lt (.inl e);have hrbX:=(uh KB).lt;have RB:Hid (∀ i,(Value.slice ua k uc).ownBlock=some i->i ≠ rb):=Z9 (fun i e e2=>by have:=uh HLB i e;omega);have KB6:=KB5.same (w':=w5) (hg5.block _ KB5.lt (fun e=>uh RB _ e.symm rfl));have y0:=KB6.cell (i:=0) (v:= .int .i64 n) rfl;have y1:=KB6.cell (i:=1) (v:= .slice pa ps.length pc) rfl;have HO5:=Z9 hown5;have HG5:=Z9 hg5;have HA5:=Z9 hat5;have R5:=Z9 hrun5
   have X5:Hid (Below (w.heap.size+2) X w5):=Z9 (by
    have q1:Below X.heap.size X w4:=uh HX4;have q2:Below w4.heap.size w4 (w4.alloc (.cells #[.int .i64 n,.slice pa4 ps.length pc4] 112)):=ba _ _;have q3:Below (w.heap.size+2) (w4.alloc (.cells #[.int .i64 n,.slice pa4 ps.length pc4] 112)) w5:=(Z1 _ _).grown (uh HG5) (by have:=q1.size;simp;omega) (fun i e=>((uh Ho).lt (.inl e)).1)
    exact ((q1.mono (by omega)).trans (q2.mono (by have:=q1.size;omega))).trans q3)
   have hp5:OwnHall (w.heap.size+2) w5 (.slice a5 (k+1) c5) (qs++[((n,ps),.slice pa4 ps.length pc4)]):=by
    have q1:OwnHall (w.heap.size+2) w4 (.slice ua k uc) qs:=(uh Ho).later (uh HX4);have q2:PacesAt X.heap.size w4 (.slice pa4 ps.length pc4) ps:=uh HO4;have q3:PacesAt (w.heap.size+2) w4 (.slice pa4 ps.length pc4) ps:=q2.mono (by omega);refine OwnHall.push (w:=w4) (w1:=w5) (v:= .slice ua k uc) (o:= .cells #[.int .i64 n,.slice pa4 ps.length pc4] 112) q1 q3 ?_ ?_ ?_ (uh HG5) (uh HA5)
    ·intro b' e e'
     have h8:=(q2.lt e).1;have h9:=((uh Ho).lt (.inl e')).2;omega
    ·intro q hq' b' e e'
     have h8:=(q2.lt e').1;have h9:=((uh Ho).lt (.inr ⟨q,hq',e⟩)).2;omega
    ·rw [uh Hql];exact uh HO5
   have HP5:=Z9 hp5;clear hp5 hown5 hg5 hat5 hrun5 KB5 KB6;refine rd 8 rfl (fun K hK=> ?_);refine V4 rfl (.tmp 14) (.tmp 21) 24 rfl rfl rfl (uh R5) ?_;refine hK.out _ _ ⟨y0,y1⟩ (fun hHeld=> ?_);clear hK K
   (try simp only [Act.put,sA,sZ,sS])
   refine wpAnyH_done (by kernel_rfl) ?_ _;refine ZK rfl rfl ?_;go_simp;clear hHeld;go_wp2_with fail;go_roundw
   case rel=>
    exact ⟨k+1,qs++[((n,ps),.slice pa4 ps.length pc4)],a5,c5,by omega,by go_num,rfl,(uh Kr).below (uh X5) (by omega),uh HP5,by rw [List.map_append,uh Hq,uh Htk];rfl,(uh Hb).trans ((uh X5).mono (by omega))⟩
   case measure=>exact ms
  ·obtain rfl:k=rs.length:=by omega
   have r0:=kr.cell (i:=0) rfl;have r1:=kr.free 0;go_wp2_with fail;rw [List.take_length] at hq;refine ZQ (v:= .agg #[.slice ua rs.length uc]) (by simp [results,Tryz.results157,go_sem, *]) rfl ⟨_,qs,rfl,hq,?_,?_⟩
   ·exact (ho.same fun i h0 hi=>heap_setCell_other _ _ _ _ (by show i ≠ w.heap.size+1;omega)).mono (by omega)
   ·exact hb.setCell (by show _<=w.heap.size+1;omega) _
def TX (rs:List ZZ):Z6:=⟨rs,[],[],List.replicate (ZW rs).toNat (true,-1,0),List.replicate rs.length 0,0⟩
open Draw (St Off Row Cur)
theorem FullSmy.away {n₀ bc:Nat} {w w':World} {v0 v1 v2 v3 v4:Value} {m:Z6} {qs:List (ZZ × Value)} (h:FullSmy n₀ w v0 v1 v2 v3 v4 m qs) (ho:Off bc w w') (hb:bc<n₀):FullSmy n₀ w' v0 v1 v2 v3 v4 m qs:=
 h.keep fun k e=>ho.block k (h.own e).2 (by have:=(h.own e).1;omega)
theorem Blk.away {bc R:Nat} {w w':World} {t:TypeId} {cs:Array Value} (h:Blk w R t cs) (ho:Off bc w w') (hb:R ≠ bc):Blk w' R t cs:=h.same (ho.block R h.lt hb)
theorem VP {bc:Nat} {w w':World} (h:Below w.heap.size w w'):Off bc w w':=⟨h.os,h.tape,h.output,h.size,fun k hk _=>h.block k hk⟩
theorem Off.newer {bc tb:Nat} {w0 w:World} (h:Off bc w0 w) (ht:w0.heap.size<=tb) (o:Nat) (v:Value):Off bc w0 (w.setCell ⟨tb,o,none⟩ v):=
 ⟨h.os,h.tape,h.output,by simpa using h.size,fun k hk hn=>(heap_setCell_other _ _ _ _ (by show k ≠ tb;omega)).trans (h.block k hk hn)⟩
theorem St.newer {a:Option Addr} {len cap bc tb:Nat} {w:World} (h:St a len cap bc w) (ht:bc<tb) (o:Nat) (v:Value):St a len cap bc (w.setCell ⟨tb,o,none⟩ v):=
 Xi h ((Z1 _ _).setCell (p:=⟨tb,o,none⟩) (by show bc+1<=tb;omega) _)
set_option maxRecDepth 100000
end Go.Proofs.YtamgfpdahadnfaaGreatDoor
namespace Go.Proofs.YtamgfpdahadnfaaGreatDoor
open Go.ChangeShapes Go.WideShapes Go.ChangeAt Go.RowKit Go.Sort
set_option linter.unusedVariables false
theorem IU (v:Value) (w:World):(Instr.typeAssert (.iface 212 v) 161 214 true).run Tryz.prog w= .ok (.tuple #[.agg E11,.bool false]) w:=by kernel_rfl
theorem IT (v:Value) (w:World):(Instr.typeAssert (.iface 212 v) 161 212 true).run Tryz.prog w= .ok (.tuple #[v,.bool true]) w:=by kernel_rfl
theorem KO (v:Value) (w:World):(Instr.typeAssert (.iface 215 v) 161 214 true).run Tryz.prog w= .ok (.tuple #[.agg E11,.bool false]) w:=by kernel_rfl
theorem KK (v:Value) (w:World):(Instr.typeAssert (.iface 215 v) 161 212 true).run Tryz.prog w= .ok (.tuple #[.agg #[],.bool false]) w:=by kernel_rfl
theorem IV (v:Value) (w:World):(Instr.typeAssert (.iface 214 v) 161 214 true).run Tryz.prog w= .ok (.tuple #[v,.bool true]) w:=by kernel_rfl
attribute [local go_sem] IU IT KO KK IV
end Go.Proofs.YtamgfpdahadnfaaGreatDoor
namespace Go.Proofs.YtamgfpdahadnfaaGreatDoor
open Go.ChangeShapes Go.WideShapes Go.ChangeAt Go.RowKit Go.Sort
set_option linter.unusedVariables false
set_option maxRecDepth 100000
theorem Gb (a b c:Int) (w:World):(Op.equalIn 10000 75 (.agg #[.int .i64 a,.int .i64 b,.int .i64 c]) (.agg #[.int .i64 a,.int .i64 b,.int .i64 c])).run Tryz.prog w= .ok true w:=by
 have u:=Tryz.underlying2;have g:=Tryz.isAgg2;have z:=Tryz.sizeOf2;have hS:Tryz.prog.underlying 75=some (.struct (Tryz.prog.fieldsOf 75)):=by kernel_rfl
 have hp:Tryz.prog.stoodInHeld 75=false:=by kernel_rfl
 rw [show (10000:Nat)=9999+1 from rfl,run_equalIn_agg w 9999 75 _ _ hS hp];simp only [Program.fieldsOf,Tryz.underlying75];go_simp
theorem BS (a b c:Int) (w:World):(binOp .neq 75 (.agg #[.int .i64 a,.int .i64 b,.int .i64 c]) (.agg #[.int .i64 a,.int .i64 b,.int .i64 c])).run Tryz.prog w= .ok (.bool false) w:=by
 rw [run_neq_struct,Gb];rfl
theorem D5 (o:Bool) (b c:Int) (w:World):(Op.equalIn 10000 43 (.agg #[.bool o,.int .i64 b,.int .i64 c]) (.agg #[.bool o,.int .i64 b,.int .i64 c])).run Tryz.prog w= .ok true w:=by
 have u:=Tryz.underlying2;have g:=Tryz.isAgg2;have z:=Tryz.sizeOf2;have u2:=Tryz.underlying4;have g2:=Tryz.isAgg4;have z2:=Tryz.sizeOf4;have hS:Tryz.prog.underlying 43=some (.struct (Tryz.prog.fieldsOf 43)):=by kernel_rfl
 have hp:Tryz.prog.stoodInHeld 43=false:=by kernel_rfl
 rw [show (10000:Nat)=9999+1 from rfl,run_equalIn_agg w 9999 43 _ _ hS hp];simp only [Program.fieldsOf,Tryz.underlying43];go_simp
theorem zM (o:Bool) (b c:Int) (w:World):(binOp .neq 43 (.agg #[.bool o,.int .i64 b,.int .i64 c]) (.agg #[.bool o,.int .i64 b,.int .i64 c])).run Tryz.prog w= .ok (.bool false) w:=by
 rw [run_neq_struct,D5];rfl
theorem MT (st be rk my gu lo hi hd ca ut wk:Int) (w:World):(binOp .neq 40 (.agg (I11 st be rk my gu lo hi hd ca ut wk)) (.agg (I11 st be rk my gu lo hi hd ca ut wk))).run Tryz.prog w= .ok (.bool false) w:=by
 rw [O4,MQ];rfl
theorem Jj {w:World} {v u:Value} {zs:List Int} (hv:Ow w v zs) (hu:Ow w u zs) :
  Calls Tryz.prog 53 #[v,u] w fun e w'=>e= .returned (.bool true)/\Below w.heap.size w w':=by
 obtain ⟨a,cap,rfl,hc,hm,hr⟩:=hv;obtain ⟨a',cap',rfl,hc',hm',hr'⟩:=hu;have Hr:=Z9 hr;have Hr':=Z9 hr';clear hr hr';go_enter Tryz.func53,Tryz.ntmps53;go_wp2_with fail
 go_loopw [5] (fun i wr=> ∃ k:Nat,k<=zs.length/\i= .int .i64 k/\Below w.heap.size w wr) (fun i _=>zs.length-(intOf i).toNat)
 case atStart=>exact ⟨0,Zz _,rfl,Z1 _ _⟩
 case round=>
  obtain ⟨k,hk,rfl,hb⟩:=hrel;have Hb:=Z9 hb;by_cases hlt:k<zs.length
  ·rcases uh Hr with h0 | ⟨b,off,rfl,hbw,hcl⟩
   ·rw [h0] at hlt;simp at hlt
   rcases uh Hr' with h0 | ⟨b',off',rfl,hbw',hcl'⟩
   ·rw [h0] at hlt;simp at hlt
   have c0:=My hcl hlt;have d0:=My hcl' hlt;rw [<-hb.cell (p:=⟨b,off+k,none⟩) hbw] at c0;rw [<-hb.cell (p:=⟨b',off'+k,none⟩) hbw'] at d0;generalize Z8 zs k=z at *;clear hcl hcl' hb;go_wp2_with fail;go_quiet (fail);go_wp2_with fail;go_roundw
   case rel=>exact ⟨k+1,by omega,by go_num,⟨(uh Hb).os,(uh Hb).tape,(uh Hb).output,(uh Hb).size,(uh Hb).block⟩⟩
   case measure=>exact ms
  ·go_wp2_with fail
   go_ret;exact ⟨rfl,hb⟩
attribute [local go_sem ↓] BS zM MT
theorem Ui {w:World} {v0 v1 v2 v3 v4 u0 u1 u2 u3 u4:Value} {m:Z6} (h:Smy w v0 v1 v2 v3 v4 m) (g:Smy w u0 u1 u2 u3 u4 m) :
  Calls Tryz.prog 11 #[.agg #[v0,v1,v2,v3,v4,.int .i64 m.now],.agg #[u0,u1,u2,u3,u4,.int .i64 m.now]] w fun e w'=>e= .returned (.bool true)/\Below w.heap.size w w':=by
 have Hv:=Z9 h;have Hu:=Z9 g;obtain ⟨a0,p0,rfl,_,_⟩:=IsRooms.shape h.rm;obtain ⟨b0,q0,rfl,_,_⟩:=IsRooms.shape g.rm;obtain ⟨a1,p1,rfl,_,_⟩:=IsRec.shape h.gd;obtain ⟨b1,q1,rfl,_,_⟩:=IsRec.shape g.gd;obtain ⟨a2,p2,rfl,_,_⟩:=IsRec.shape h.sm;obtain ⟨b2,q2,rfl,_,_⟩:=IsRec.shape g.sm;obtain ⟨a3,p3,rfl,_,_⟩:=IsRec.shape h.dk;obtain ⟨b3,q3,rfl,_,_⟩:=IsRec.shape g.dk;obtain ⟨a4,p4,rfl,_,_⟩:=IsRec.shape h.pc;obtain ⟨b4,q4,rfl,_,_⟩:=IsRec.shape g.pc;clear h g;have ka:Hid (Blk ((w.alloc (.cells (S6 a0 p0 a1 p1 a2 p2 a3 p3 a4 p4 m) 32)).alloc (.cells (S6 b0 q0 b1 q1 b2 q2 b3 q3 b4 q4 m) 32)) w.heap.size 32 (S6 a0 p0 a1 p1 a2 p2 a3 p3 a4 p4 m)):=Z9 ((Blk.new w _ _).alloc _)
 have kb:Hid (Blk ((w.alloc (.cells (S6 a0 p0 a1 p1 a2 p2 a3 p3 a4 p4 m) 32)).alloc (.cells (S6 b0 q0 b1 q1 b2 q2 b3 q3 b4 q4 m) 32)) (w.heap.size+1) 32 (S6 b0 q0 b1 q1 b2 q2 b3 q3 b4 q4 m)):=Z9 (by
  have k:=Blk.new (w.alloc (.cells (S6 a0 p0 a1 p1 a2 p2 a3 p3 a4 p4 m) 32)) 32 (S6 b0 q0 b1 q1 b2 q2 b3 q3 b4 q4 m);rw [Y8] at k
  exact k)
 have BB:Hid (Below w.heap.size w ((w.alloc (.cells (S6 a0 p0 a1 p1 a2 p2 a3 p3 a4 p4 m) 32)).alloc (.cells (S6 b0 q0 b1 q1 b2 q2 b3 q3 b4 q4 m) 32))):=Z9 (((ba _ _)).alloc (by simp) _);go_enter Tryz.func11,Tryz.ntmps11;go_wp2_with fail;generalize ((w.alloc (.cells (S6 a0 p0 a1 p1 a2 p2 a3 p3 a4 p4 m) 32)).alloc (.cells (S6 b0 q0 b1 q1 b2 q2 b3 q3 b4 q4 m) 32))=W at *;refine ck (Ji ((uh Hv).below (uh BB)).rm ((uh Hu).below (uh BB)).rm) fun w1 hb=> ?_;replace ka:=bl ka hb;replace kb:=bl kb hb;replace BB:=bt BB hb;clear hb;obtain ⟨c0,c1,c2,c3,c4,c5⟩:=(uh ka).c6;obtain ⟨d0,d1,d2,d3,d4,d5⟩:=(uh kb).c6;go_wp2_with fail;refine ck (Jj ((uh Hv).below (uh BB)).pc ((uh Hu).below (uh BB)).pc) fun w2 hb=> ?_;replace ka:=bl ka hb;replace kb:=bl kb hb;replace BB:=bt BB hb;clear hb c0 c1 c2 c3 c4 c5 d0 d1 d2 d3 d4 d5;obtain ⟨c0,c1,c2,c3,c4,c5⟩:=(uh ka).c6;obtain ⟨d0,d1,d2,d3,d4,d5⟩:=(uh kb).c6;go_wp2_with fail;clear c0 c1 c2 c3 c4 c5 d0 d1 d2 d3 d4 d5
 go_loopw [5] (fun i wr=> ∃ k:Nat,k<=m.gd.length/\i= .int .i64 k/\Blk wr w.heap.size 32 (S6 a0 p0 a1 p1 a2 p2 a3 p3 a4 p4 m)/\Blk wr (w.heap.size+1) 32 (S6 b0 q0 b1 q1 b2 q2 b3 q3 b4 q4 m)/\Below w.heap.size w wr) (fun i _=>m.gd.length-(intOf i).toNat)
 case atStart=>exact ⟨0,Zz _,rfl,uh ka,uh kb,uh BB⟩
 case round=>
  obtain ⟨k,hk,rfl,hka,hkb,hb⟩:=hrel;have c1:=hka.cell (i:=1) rfl;have d1:=hkb.cell (i:=1) rfl;by_cases hlt:k<m.gd.length
  ·have hlt1:(k:Int)<(m.gd.length:Int):=by omega
   obtain ⟨_,_,he,_,hmx,r1⟩:=(uh Hv).gd;cases he;obtain ⟨_,_,he,_,hmy,r2⟩:=(uh Hu).gd;cases he
   rcases r1 with e0 | ⟨b,off,rfl,hbw,hcl⟩
   ·rw [e0] at hlt;simp at hlt
   rcases r2 with e0 | ⟨b',off',rfl,hbw',hcl'⟩
   ·rw [e0] at hlt;simp at hlt
   obtain ⟨x0,x1,x2⟩:=VS hcl hlt;obtain ⟨y0,y1,y2⟩:=VS hcl' hlt;rw [<-hb.cell (p:=⟨b,off+k*3,none⟩) hbw] at x0;rw [<-hb.cell (p:=⟨b',off'+k*3,none⟩) hbw'] at y0;rw [<-hb.cell (p:=⟨b,off+k*3+1,none⟩) hbw] at x1;rw [<-hb.cell (p:=⟨b',off'+k*3+1,none⟩) hbw'] at y1;rw [<-hb.cell (p:=⟨b,off+k*3+2,none⟩) hbw] at x2;rw [<-hb.cell (p:=⟨b',off'+k*3+2,none⟩) hbw'] at y2;generalize Z8 m.gd k=rr at *;obtain ⟨ga,gb,gc⟩:=rr;simp only at x0 x1 x2 y0 y1 y2;have Ka:=Z9 hka;have Kb:=Z9 hkb;have Hb:=Z9 hb;clear hcl hcl' hka hkb hb;go_wp2_with fail;go_quiet (fail);go_wp2_with fail;go_roundw
   case rel=>exact ⟨k+1,by omega,by go_num,(uh Ka).same rfl,(uh Kb).same rfl,⟨(uh Hb).os,(uh Hb).tape,(uh Hb).output,(uh Hb).size,(uh Hb).block⟩⟩
   case measure=>exact ms
  ·obtain rfl:k=m.gd.length:=by omega
   replace ka:=Z9 hka;replace kb:=Z9 hkb;replace BB:=Z9 hb;clear hka hkb hb;go_wp2_with fail
   go_loopw [6] (fun i wr=> ∃ k:Nat,k<=m.sm.length/\i= .int .i64 k/\Blk wr w.heap.size 32 (S6 a0 p0 a1 p1 a2 p2 a3 p3 a4 p4 m)/\Blk wr (w.heap.size+1) 32 (S6 b0 q0 b1 q1 b2 q2 b3 q3 b4 q4 m)/\Below w.heap.size w wr) (fun i _=>m.sm.length-(intOf i).toNat)
   case atStart=>exact ⟨0,Zz _,rfl,uh ka,uh kb,uh BB⟩
   case round=>
    obtain ⟨k,hk,rfl,hka,hkb,hb⟩:=hrel;have c2:=hka.cell (i:=2) rfl;have d2:=hkb.cell (i:=2) rfl;by_cases hlt:k<m.sm.length
    ·have hlt1:(k:Int)<(m.sm.length:Int):=by omega
     obtain ⟨_,_,he,_,hmx,r1⟩:=(uh Hv).sm;cases he;obtain ⟨_,_,he,_,hmy,r2⟩:=(uh Hu).sm;cases he
     rcases r1 with e0 | ⟨b,off,rfl,hbw,hcl⟩
     ·rw [e0] at hlt;simp at hlt
     rcases r2 with e0 | ⟨b',off',rfl,hbw',hcl'⟩
     ·rw [e0] at hlt;simp at hlt
     obtain ⟨x0,x1,x2,x3,x4,x5,x6,x7,x8,x9,x10⟩:=Zx hcl hlt;obtain ⟨y0,y1,y2,y3,y4,y5,y6,y7,y8,y9,y10⟩:=Zx hcl' hlt;rw [<-hb.cell (p:=⟨b,off+k*11,none⟩) hbw] at x0;rw [<-hb.cell (p:=⟨b',off'+k*11,none⟩) hbw'] at y0;rw [<-hb.cell (p:=⟨b,off+k*11+1,none⟩) hbw] at x1;rw [<-hb.cell (p:=⟨b',off'+k*11+1,none⟩) hbw'] at y1;rw [<-hb.cell (p:=⟨b,off+k*11+2,none⟩) hbw] at x2;rw [<-hb.cell (p:=⟨b',off'+k*11+2,none⟩) hbw'] at y2;rw [<-hb.cell (p:=⟨b,off+k*11+3,none⟩) hbw] at x3;rw [<-hb.cell (p:=⟨b',off'+k*11+3,none⟩) hbw'] at y3;rw [<-hb.cell (p:=⟨b,off+k*11+4,none⟩) hbw] at x4;rw [<-hb.cell (p:=⟨b',off'+k*11+4,none⟩) hbw'] at y4;rw [<-hb.cell (p:=⟨b,off+k*11+5,none⟩) hbw] at x5;rw [<-hb.cell (p:=⟨b',off'+k*11+5,none⟩) hbw'] at y5;rw [<-hb.cell (p:=⟨b,off+k*11+6,none⟩) hbw] at x6;rw [<-hb.cell (p:=⟨b',off'+k*11+6,none⟩) hbw'] at y6;rw [<-hb.cell (p:=⟨b,off+k*11+7,none⟩) hbw] at x7;rw [<-hb.cell (p:=⟨b',off'+k*11+7,none⟩) hbw'] at y7;rw [<-hb.cell (p:=⟨b,off+k*11+8,none⟩) hbw] at x8;rw [<-hb.cell (p:=⟨b',off'+k*11+8,none⟩) hbw'] at y8;rw [<-hb.cell (p:=⟨b,off+k*11+9,none⟩) hbw] at x9;rw [<-hb.cell (p:=⟨b',off'+k*11+9,none⟩) hbw'] at y9;rw [<-hb.cell (p:=⟨b,off+k*11+10,none⟩) hbw] at x10;rw [<-hb.cell (p:=⟨b',off'+k*11+10,none⟩) hbw'] at y10;generalize Z8 m.sm k=rr at *;obtain ⟨st,be,rk,my,gu,lo,hi,hd,ca,ut,wk⟩:=rr;simp only at x0 x1 x2 x3 x4 x5 x6 x7 x8 x9 x10 y0 y1 y2 y3 y4 y5 y6 y7 y8 y9 y10;have Ka:=Z9 hka;have Kb:=Z9 hkb;have Hb:=Z9 hb;clear hcl hcl' hka hkb hb;go_wp2_with fail;go_quiet (fail);go_wp2_with fail;go_roundw
     case rel=>exact ⟨k+1,by omega,by go_num,(uh Ka).same rfl,(uh Kb).same rfl,⟨(uh Hb).os,(uh Hb).tape,(uh Hb).output,(uh Hb).size,(uh Hb).block⟩⟩
     case measure=>exact ms
    ·obtain rfl:k=m.sm.length:=by omega
     replace ka:=Z9 hka;replace kb:=Z9 hkb;replace BB:=Z9 hb;clear hka hkb hb;go_wp2_with fail
     go_loopw [7] (fun i wr=> ∃ k:Nat,k<=m.dk.length/\i= .int .i64 k/\Blk wr w.heap.size 32 (S6 a0 p0 a1 p1 a2 p2 a3 p3 a4 p4 m)/\Blk wr (w.heap.size+1) 32 (S6 b0 q0 b1 q1 b2 q2 b3 q3 b4 q4 m)/\Below w.heap.size w wr) (fun i _=>m.dk.length-(intOf i).toNat)
     case atStart=>exact ⟨0,Zz _,rfl,uh ka,uh kb,uh BB⟩
     case round=>
      obtain ⟨k,hk,rfl,hka,hkb,hb⟩:=hrel;have c3:=hka.cell (i:=3) rfl;have d3:=hkb.cell (i:=3) rfl;by_cases hlt:k<m.dk.length
      ·have hlt1:(k:Int)<(m.dk.length:Int):=by omega
       obtain ⟨_,_,he,_,hmx,r1⟩:=(uh Hv).dk;cases he;obtain ⟨_,_,he,_,hmy,r2⟩:=(uh Hu).dk;cases he
       rcases r1 with e0 | ⟨b,off,rfl,hbw,hcl⟩
       ·rw [e0] at hlt;simp at hlt
       rcases r2 with e0 | ⟨b',off',rfl,hbw',hcl'⟩
       ·rw [e0] at hlt;simp at hlt
       obtain ⟨x0,x1,x2⟩:=Y2 hcl hlt;obtain ⟨y0,y1,y2⟩:=Y2 hcl' hlt;rw [<-hb.cell (p:=⟨b,off+k*3,none⟩) hbw] at x0;rw [<-hb.cell (p:=⟨b',off'+k*3,none⟩) hbw'] at y0;rw [<-hb.cell (p:=⟨b,off+k*3+1,none⟩) hbw] at x1;rw [<-hb.cell (p:=⟨b',off'+k*3+1,none⟩) hbw'] at y1;rw [<-hb.cell (p:=⟨b,off+k*3+2,none⟩) hbw] at x2;rw [<-hb.cell (p:=⟨b',off'+k*3+2,none⟩) hbw'] at y2;generalize Z8 m.dk k=rr at *;obtain ⟨op,who,mk⟩:=rr;simp only at x0 x1 x2 y0 y1 y2;have Ka:=Z9 hka;have Kb:=Z9 hkb;have Hb:=Z9 hb;clear hcl hcl' hka hkb hb;go_wp2_with fail;go_quiet (fail);go_wp2_with fail;go_roundw
       case rel=>exact ⟨k+1,by omega,by go_num,(uh Ka).same rfl,(uh Kb).same rfl,⟨(uh Hb).os,(uh Hb).tape,(uh Hb).output,(uh Hb).size,(uh Hb).block⟩⟩
       case measure=>exact ms
      ·obtain rfl:k=m.dk.length:=by omega
       replace ka:=Z9 hka;replace kb:=Z9 hkb;replace BB:=Z9 hb;clear hka hkb hb;go_wp2_with fail;go_ret;exact ⟨rfl,uh BB⟩
end Go.Proofs.YtamgfpdahadnfaaGreatDoor
