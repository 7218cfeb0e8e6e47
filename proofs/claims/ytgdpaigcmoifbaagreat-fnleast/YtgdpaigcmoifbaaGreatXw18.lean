/- Part 18 of what the proof rests on. No condition but those that a theorem names. -/
import Derived.Test.YtgdpaigcmoifbaaGreatXw12
import Derived.Test.YtgdpaigcmoifbaaGreatXw13
import Derived.Test.YtgdpaigcmoifbaaGreatXw15
import Derived.Deep.DeepCutAuto
set_option maxHeartbeats 8000000
set_option maxRecDepth 100000
namespace Go.Proofs.YtgdpaigcmoifbaaGreat
open Go.ChangeShapes Go.WideShapes Go.ChangeAt Go.RowKit Go.Sort
set_option linter.unusedVariables false
def Lm (u v:Value):Prop:= ∀ b,u.ownBlock=some b->v.ownBlock ≠ some b
def Nr (u v:Value) (qs:List (ZY × Value)):Prop:=Lm u v/\ ∀ q ∈ qs,Lm u q.2
structure FullSmy (n₀:Nat) (w:World) (v0 v1 v2 v3 v4:Value) (m:Z6) (qs:List (ZY × Value)):Prop where
 hall:OwnHall n₀ w v0 qs
 rm:qs.map (·.1)=m.rm
 gd:GuildsAt n₀ w v1 m.gd
 sm:SmithsAt n₀ w v2 m.sm
 dk:DesksAt n₀ w v3 m.dk
 pc:NumsAt n₀ w v4 m.pc
 h1:Nr v1 v0 qs
 h2:Nr v2 v0 qs
 h3:Nr v3 v0 qs
 h4:Nr v4 v0 qs
 a12:Lm v1 v2
 a13:Lm v1 v3
 a14:Lm v1 v4
 a23:Lm v2 v3
 a24:Lm v2 v4
 a34:Lm v3 v4
theorem FullSmy.smy {n₀:Nat} {w:World} {v0 v1 v2 v3 v4:Value} {m:Z6} {qs:List (ZY × Value)} (h:FullSmy n₀ w v0 v1 v2 v3 v4 m qs):Smy w v0 v1 v2 v3 v4 m:=
 ⟨by rw [<-h.rm];exact h.hall.rm,h.gd.list,h.sm.list,h.dk.list,h.pc.list⟩
theorem OwnHall.set_old {n₀:Nat} {w:World} {v:Value} {qs:List (ZY × Value)} (h:OwnHall n₀ w v qs) (g o:Nat) (u:Value) (hg:g<n₀):OwnHall n₀ (w.setCell ⟨g,o,none⟩ u) v qs:=
 h.same fun k h0 hk=>heap_setCell_other w _ k u (by show k ≠ g;omega)
theorem FullSmy.below {n₀:Nat} {w w':World} {v0 v1 v2 v3 v4:Value} {m:Z6} {qs:List (ZY × Value)} (h:FullSmy n₀ w v0 v1 v2 v3 v4 m qs) (hb:Below w.heap.size w w'):FullSmy n₀ w' v0 v1 v2 v3 v4 m qs:=
 ⟨h.hall.later hb,h.rm,RecAt.later h.gd hb,RecAt.later h.sm hb,RecAt.later h.dk hb,RecAt.later h.pc hb,h.h1,h.h2,h.h3,h.h4,h.a12,h.a13,h.a14,h.a23,h.a24,h.a34⟩
theorem FullSmy.set {n₀:Nat} {w:World} {v0 v1 v2 v3 v4:Value} {m:Z6} {qs:List (ZY × Value)} (h:FullSmy n₀ w v0 v1 v2 v3 v4 m qs) (g o:Nat) (u:Value) (hg:g<n₀):FullSmy n₀ (w.setCell ⟨g,o,none⟩ u) v0 v1 v2 v3 v4 m qs:=
 ⟨h.hall.set_old g o u hg,h.rm,RecAt.set_old h.gd g o u hg,RecAt.set_old h.sm g o u hg,RecAt.set_old h.dk g o u hg,RecAt.set_old h.pc g o u hg,h.h1,h.h2,h.h3,h.h4,h.a12,h.a13,h.a14,h.a23,h.a24,h.a34⟩
theorem FullSmy.mono {n₀ n₁:Nat} {w:World} {v0 v1 v2 v3 v4:Value} {m:Z6} {qs:List (ZY × Value)} (h:FullSmy n₀ w v0 v1 v2 v3 v4 m qs) (hn:n₁<=n₀):FullSmy n₁ w v0 v1 v2 v3 v4 m qs:=
 ⟨h.hall.mono hn,h.rm,RecAt.mono h.gd hn,RecAt.mono h.sm hn,RecAt.mono h.dk hn,RecAt.mono h.pc hn,h.h1,h.h2,h.h3,h.h4,h.a12,h.a13,h.a14,h.a23,h.a24,h.a34⟩
open Go.ChangeShapes Go.WideShapes Go.ChangeAt Go.RowKit Go.Sort Go.Proofs.Tryz
theorem tyG:Ob 145 3 (.agg #[.int .i64 0,.int .i64 0,.int .i64 0]) Wh:=⟨by kernel_rfl,rfl,Xy,by omega,by omega,fun x u hu=>by
 simp only [Wh,List.mem_cons,List.not_mem_nil,or_false] at hu
 rcases hu with rfl | rfl | rfl<;>rfl⟩
theorem tyS:Ob 38 11 (.agg E11) ZR:=⟨by kernel_rfl,rfl,ZT,by omega,by omega,fun x u hu=>by
 simp only [ZR,List.mem_cons,List.not_mem_nil,or_false] at hu
 rcases hu with rfl | rfl | rfl | rfl | rfl | rfl | rfl | rfl | rfl | rfl | rfl<;>rfl⟩
theorem tyD:Ob 40 3 (.agg #[.bool false,.int .i64 0,.int .i64 0]) Wu:=⟨by kernel_rfl,rfl,Zt,by omega,by omega,fun x u hu=>by
 simp only [Wu,List.mem_cons,List.not_mem_nil,or_false] at hu
 rcases hu with rfl | rfl | rfl<;>rfl⟩
theorem tyN:Ob 2 1 (.int .i64 0) Tj:=⟨by kernel_rfl,rfl,Ze,by omega,by omega,fun x u hu=>by
 simp only [Tj,List.mem_cons,List.not_mem_nil,or_false] at hu
 rcases hu with rfl<;>rfl⟩
structure Few (m:Z6):Prop where
 rm:m.rm.length<=1000
 pc:∀ r ∈ m.rm,r.2.length<=1000
 gd:m.gd.length<=1000
 sm:m.sm.length<=800
 dk:m.dk.length<=1000
 nums:m.pc.length<=1000
theorem C6 {n₀:Nat} {w:World} {v0 v1 v2 v3 v4:Value} {m:Z6} {qs:List (ZY × Value)} (s0 s1 s2 s3:Nat) (hh:OwnHall n₀ w v0 qs) (hr:qs.map (·.1)=m.rm) (hg:GuildsAt n₀ w v1 m.gd) (hs:SmithsAt n₀ w v2 m.sm) (hd:DesksAt n₀ w v3 m.dk) (hp:NumsAt n₀ w v4 m.pc)
  (l0:∀ b,(v0.ownBlock=some b\/ ∃ q ∈ qs,q.2.ownBlock=some b)->b<s0) (l1:∀ b,v1.ownBlock=some b->s0<=b/\b<s1) (l2:∀ b,v2.ownBlock=some b->s1<=b/\b<s2) (l3:∀ b,v3.ownBlock=some b->s2<=b/\b<s3) (l4:∀ b,v4.ownBlock=some b->s3<=b) (h1:s0<=s1) (h2:s1<=s2) (h3:s2<=s3) :
  FullSmy n₀ w v0 v1 v2 v3 v4 m qs:=by
 refine ⟨hh,hr,hg,hs,hd,hp,⟨?_,?_⟩,⟨?_,?_⟩,⟨?_,?_⟩,⟨?_,?_⟩,?_,?_,?_,?_,?_,?_⟩
 ·intro b e e';have:=(l1 b e).1;have:=l0 b (.inl e');omega
 ·intro q hq b e e';have:=(l1 b e).1;have:=l0 b (.inr ⟨q,hq,e'⟩);omega
 ·intro b e e';have:=(l2 b e).1;have:=l0 b (.inl e');omega
 ·intro q hq b e e';have:=(l2 b e).1;have:=l0 b (.inr ⟨q,hq,e'⟩);omega
 ·intro b e e';have:=(l3 b e).1;have:=l0 b (.inl e');omega
 ·intro q hq b e e';have:=(l3 b e).1;have:=l0 b (.inr ⟨q,hq,e'⟩);omega
 ·intro b e e';have:=l4 b e;have:=l0 b (.inl e');omega
 ·intro q hq b e e';have:=l4 b e;have:=l0 b (.inr ⟨q,hq,e'⟩);omega
 ·intro b e e';have:=l1 b e;have:=l2 b e';omega
 ·intro b e e';have:=l1 b e;have:=l3 b e';omega
 ·intro b e e';have:=l1 b e;have:=l4 b e';omega
 ·intro b e e';have:=l2 b e;have:=l3 b e';omega
 ·intro b e e';have:=l2 b e;have:=l4 b e';omega
 ·intro b e e';have:=l3 b e;have:=l4 b e';omega
theorem Ep {w:World} {v:Value} {ps:List Zs} (h:XF w v ps) (hl:ps.length<=1000) :
  Calls prog 138 #[v] w fun e w'=> ∃ v',e= .returned v'/\GuildsAt w.heap.size w' v' ps/\Below w.heap.size w w':=by
 have Hv:=Z9 h;obtain ⟨a,cap,rfl,hc,hm,hr⟩:=h;clear hr;go_enter func138,ntmps138;go_wp2_with (at_builtin;refine ZG tyG rfl (.tmp 3) (.tmp 4) 27 underlying27 rfl w.heap.size _ _ [] ps rfl rfl (Zq rfl (Z0 _)) ((uh Hv).below ((ba _ _))) (by simp;omega) (by simp) ?_;intro v' w1 hown hgrow hat)
 go_ret;refine ⟨v',rfl,by simpa using hown,((ba _ _)).trans ((Z3 _ _).grown hgrow (by simp) (fun k e=> ?_))⟩;cases e;exact Z0 _
theorem Xz {w:World} {v0 v1 v2 v3 v4:Value} {m:Z6} (h:Smy w v0 v1 v2 v3 v4 m) (hF:Few m) :
  Calls prog 68 #[.agg #[v0,v1,v2,v3,v4,.int .i64 m.now]] w fun e w'=> ∃ u0 u1 u2 u3 u4 qs,e= .returned (.agg #[u0,u1,u2,u3,u4,.int .i64 m.now])/\FullSmy w.heap.size w' u0 u1 u2 u3 u4 m qs/\Below w.heap.size w w':=by
 have Hv:=Z9 h;have HF:=Z9 hF;obtain ⟨a0,p0,a1,p1,a2,p2,a3,p3,a4,p4,rfl,rfl,rfl,rfl,rfl,_,_,_,_,_,_,_,_,_,_⟩:=h.five;clear h hF;go_enter func68,ntmps68;go_wp2_with fail;obtain ⟨W,hW,kb,kr,BB⟩:=VP w 32 (S6 a0 p0 a1 p1 a2 p2 a3 p3 a4 p4 m) 32 E6;rw [hW];clear hW;have hW:w.heap.size+2<=W.heap.size:=by have:=(uh kr).lt;omega
 refine (Mq ((uh Hv).below (uh BB)).rm (uh HF).rm (uh HF).pc).mono ?_;rintro e w1 ⟨u0,qs,rfl,hmap,hp,hb⟩;have Hmap:=Z9 hmap;clear hmap;have n0:Hid (OwnHall (w.heap.size+2) w1 u0 qs):=Z9 (hp.mono hW);replace kb:=bl kb hb;replace kr:=bl kr hb;replace BB:=bt BB hb;have hW1:w.heap.size+2<=w1.heap.size:=by have:=hb.size;omega
 obtain ⟨b0,q0,rfl⟩:=hp.shape;have hql:qs.length=m.rm.length:=by rw [<-uh Hmap,List.length_map]
 rw [hql] at n0 ⊢;have L0:Hid (∀ b,((Value.slice b0 m.rm.length q0).ownBlock=some b\/ ∃ q ∈ qs,q.2.ownBlock=some b)->b<w1.heap.size):=Z9 (fun b e=>((uh n0).lt e).2);clear hp hql hb hW;have o0:=(uh kb).cell (i:=0) (v:= .slice a0 m.rm.length p0) rfl;have f0:=(uh kb).free 0;go_upto_region 2 with fail;clear o0 f0;replace kb:Hid (Blk (w1.setCell ⟨w.heap.size,0,none⟩ (.slice b0 m.rm.length q0)) w.heap.size 32 (S6 b0 q0 a1 p1 a2 p2 a3 p3 a4 p4 m)):=Z9 ((uh kb).set 0 _);replace kr:Hid (Blk (w1.setCell ⟨w.heap.size,0,none⟩ (.slice b0 m.rm.length q0)) (w.heap.size+1) 32 E6):=Z9 ((uh kr).other (a:=⟨w.heap.size,0,none⟩) (by show w.heap.size+1 ≠ w.heap.size;omega) _);replace BB:Hid (Below w.heap.size w (w1.setCell ⟨w.heap.size,0,none⟩ (.slice b0 m.rm.length q0))):=Z9 ((uh BB).setCell (p:=⟨w.heap.size,0,none⟩) (Z0 _) _);replace n0:=Z9 ((uh n0).set_old w.heap.size 0 (.slice b0 m.rm.length q0) (by omega));have g0:w1.heap.size<=(w1.setCell ⟨w.heap.size,0,none⟩ (.slice b0 m.rm.length q0)).heap.size:=by simp
 generalize w1.setCell ⟨w.heap.size,0,none⟩ (.slice b0 m.rm.length q0)=X0 at *;have c1:=(uh kb).cell (i:=1) (v:= .slice a1 m.gd.length p1) rfl;go_wp2_with fail;clear c1;refine (Ep ((uh Hv).below (uh BB)).gd (uh HF).gd).mono ?_;rintro e w2 ⟨u1,rfl,hp,hb⟩;have n1:Hid (GuildsAt (w.heap.size+2) w2 u1 m.gd):=Z9 (RecAt.mono hp (by omega));have M1:Hid (∀ b,u1.ownBlock=some b->w1.heap.size<=b/\b<w2.heap.size):=Z9 (fun b e=>⟨Xv g0 (RecAt.lt hp e).1,(RecAt.lt hp e).2⟩);replace kb:=bl kb hb;replace kr:=bl kr hb;replace n0:=Z9 ((uh n0).later hb);replace BB:=bt BB hb;have z1:w1.heap.size<=w2.heap.size:=Xv g0 hb.size;obtain ⟨b1,q1,rfl⟩:=RecAt.shape hp;clear hp hb;have o1:=(uh kb).cell (i:=1) (v:= .slice a1 m.gd.length p1) rfl;have f1:=(uh kb).free 1;go_upto_region 3 with fail;clear o1 f1;replace kb:Hid (Blk (w2.setCell ⟨w.heap.size,1,none⟩ (.slice b1 m.gd.length q1)) w.heap.size 32 (S6 b0 q0 b1 q1 a2 p2 a3 p3 a4 p4 m)):=Z9 ((uh kb).set 1 _);replace kr:Hid (Blk (w2.setCell ⟨w.heap.size,1,none⟩ (.slice b1 m.gd.length q1)) (w.heap.size+1) 32 E6):=Z9 ((uh kr).other (a:=⟨w.heap.size,1,none⟩) (by show w.heap.size+1 ≠ w.heap.size;omega) _);replace BB:Hid (Below w.heap.size w (w2.setCell ⟨w.heap.size,1,none⟩ (.slice b1 m.gd.length q1))):=Z9 ((uh BB).setCell (p:=⟨w.heap.size,1,none⟩) (Z0 _) _);replace n0:=Z9 ((uh n0).set_old w.heap.size 1 (.slice b1 m.gd.length q1) (by omega));replace n1:=Z9 (RecAt.set_old (uh n1) w.heap.size 1 (.slice b1 m.gd.length q1) (by omega));have g1:w2.heap.size<=(w2.setCell ⟨w.heap.size,1,none⟩ (.slice b1 m.gd.length q1)).heap.size:=by simp
 generalize w2.setCell ⟨w.heap.size,1,none⟩ (.slice b1 m.gd.length q1)=X1 at *;have c2:=(uh kb).cell (i:=2) (v:= .slice a2 m.sm.length p2) rfl;have HX:=Z9 (((uh Hv).below (uh BB)).sm);have hl9:=(uh HF).sm;have hlt9:=(uh kb).lt;go_upto_region 4 with (at_builtin;refine ZG tyS rfl (.tmp 11) (.tmp 13) 28 underlying28 rfl X1.heap.size _ _ [] m.sm rfl rfl (Zq rfl (Z0 _)) (IsRec.below (uh HX) ((ba _ _))) (by simp;omega) (by simp) ?_;intro u2 w3 hp9 hg9 hat9;rw [List.nil_append] at hp9;have hb9:Below X1.heap.size X1 w3:=((ba _ _)).trans ((Z3 _ _).grown hg9 (by simp) (fun k e=>by cases e;exact Z0 _));have k9:=(uh kb).below hb9 (uh kb).lt;have o9:=k9.cell (i:=2) (v:= .slice a2 m.sm.length p2) rfl;have f9:=k9.free 2;obtain ⟨a9,c9,hu9⟩:=RecAt.shape hp9;subst hu9;have hp:=Z9 hp9;have hb:=Z9 hb9;clear hp9 hb9 k9 hg9 hat9)
 clear c2 HX hl9 hlt9 o9 f9;replace hp:=uh hp;replace hb:=uh hb;obtain ⟨u2,hu2⟩:∃ u,u=Value.slice a9 m.sm.length c9:=⟨_,rfl⟩
 rw [<-hu2] at hp ⊢;clear hu2;have n2:Hid (SmithsAt (w.heap.size+2) w3 u2 m.sm):=Z9 (RecAt.mono hp (by omega));have M2:Hid (∀ b,u2.ownBlock=some b->w2.heap.size<=b/\b<w3.heap.size):=Z9 (fun b e=>⟨Xv g1 (RecAt.lt hp e).1,(RecAt.lt hp e).2⟩);replace kb:=bl kb hb;replace kr:=bl kr hb;replace n0:=Z9 ((uh n0).later hb);replace n1:=Z9 (RecAt.later (uh n1) hb);replace BB:=bt BB hb;have z2:w2.heap.size<=w3.heap.size:=Xv g1 hb.size;obtain ⟨b2,q2,rfl⟩:=RecAt.shape hp;clear hp hb;replace kb:Hid (Blk (w3.setCell ⟨w.heap.size,2,none⟩ (.slice b2 m.sm.length q2)) w.heap.size 32 (S6 b0 q0 b1 q1 b2 q2 a3 p3 a4 p4 m)):=Z9 ((uh kb).set 2 _);replace kr:Hid (Blk (w3.setCell ⟨w.heap.size,2,none⟩ (.slice b2 m.sm.length q2)) (w.heap.size+1) 32 E6):=Z9 ((uh kr).other (a:=⟨w.heap.size,2,none⟩) (by show w.heap.size+1 ≠ w.heap.size;omega) _);replace BB:Hid (Below w.heap.size w (w3.setCell ⟨w.heap.size,2,none⟩ (.slice b2 m.sm.length q2))):=Z9 ((uh BB).setCell (p:=⟨w.heap.size,2,none⟩) (Z0 _) _);replace n0:=Z9 ((uh n0).set_old w.heap.size 2 (.slice b2 m.sm.length q2) (by omega));replace n1:=Z9 (RecAt.set_old (uh n1) w.heap.size 2 (.slice b2 m.sm.length q2) (by omega));replace n2:=Z9 (RecAt.set_old (uh n2) w.heap.size 2 (.slice b2 m.sm.length q2) (by omega));have g2:w3.heap.size<=(w3.setCell ⟨w.heap.size,2,none⟩ (.slice b2 m.sm.length q2)).heap.size:=by simp
 generalize w3.setCell ⟨w.heap.size,2,none⟩ (.slice b2 m.sm.length q2)=X2 at *;have c3:=(uh kb).cell (i:=3) (v:= .slice a3 m.dk.length p3) rfl;have HX:=Z9 (((uh Hv).below (uh BB)).dk);have hl9:=(uh HF).dk;have hlt9:=(uh kb).lt;go_upto_region 5 with (at_builtin;refine ZG tyD rfl (.tmp 16) (.tmp 18) 29 underlying29 rfl X2.heap.size _ _ [] m.dk rfl rfl (Zq rfl (Z0 _)) (IsRec.below (uh HX) ((ba _ _))) (by simp;omega) (by simp) ?_;intro u3 w4 hp9 hg9 hat9;rw [List.nil_append] at hp9;have hb9:Below X2.heap.size X2 w4:=((ba _ _)).trans ((Z3 _ _).grown hg9 (by simp) (fun k e=>by cases e;exact Z0 _));have k9:=(uh kb).below hb9 (uh kb).lt;have o9:=k9.cell (i:=3) (v:= .slice a3 m.dk.length p3) rfl;have f9:=k9.free 3;obtain ⟨a9,c9,hu9⟩:=RecAt.shape hp9;subst hu9;have hp:=Z9 hp9;have hb:=Z9 hb9;clear hp9 hb9 k9 hg9 hat9)
 clear c3 HX hl9 hlt9 o9 f9;replace hp:=uh hp;replace hb:=uh hb;obtain ⟨u3,hu3⟩:∃ u,u=Value.slice a9 m.dk.length c9:=⟨_,rfl⟩
 rw [<-hu3] at hp ⊢;clear hu3;have n3:Hid (DesksAt (w.heap.size+2) w4 u3 m.dk):=Z9 (RecAt.mono hp (by omega));have M3:Hid (∀ b,u3.ownBlock=some b->w3.heap.size<=b/\b<w4.heap.size):=Z9 (fun b e=>⟨Xv g2 (RecAt.lt hp e).1,(RecAt.lt hp e).2⟩);replace kb:=bl kb hb;replace kr:=bl kr hb;replace n0:=Z9 ((uh n0).later hb);replace n1:=Z9 (RecAt.later (uh n1) hb);replace n2:=Z9 (RecAt.later (uh n2) hb);replace BB:=bt BB hb;have z3:w3.heap.size<=w4.heap.size:=Xv g2 hb.size;obtain ⟨b3,q3,rfl⟩:=RecAt.shape hp;clear hp hb;replace kb:Hid (Blk (w4.setCell ⟨w.heap.size,3,none⟩ (.slice b3 m.dk.length q3)) w.heap.size 32 (S6 b0 q0 b1 q1 b2 q2 b3 q3 a4 p4 m)):=Z9 ((uh kb).set 3 _);replace kr:Hid (Blk (w4.setCell ⟨w.heap.size,3,none⟩ (.slice b3 m.dk.length q3)) (w.heap.size+1) 32 E6):=Z9 ((uh kr).other (a:=⟨w.heap.size,3,none⟩) (by show w.heap.size+1 ≠ w.heap.size;omega) _);replace BB:Hid (Below w.heap.size w (w4.setCell ⟨w.heap.size,3,none⟩ (.slice b3 m.dk.length q3))):=Z9 ((uh BB).setCell (p:=⟨w.heap.size,3,none⟩) (Z0 _) _);replace n0:=Z9 ((uh n0).set_old w.heap.size 3 (.slice b3 m.dk.length q3) (by omega));replace n1:=Z9 (RecAt.set_old (uh n1) w.heap.size 3 (.slice b3 m.dk.length q3) (by omega));replace n2:=Z9 (RecAt.set_old (uh n2) w.heap.size 3 (.slice b3 m.dk.length q3) (by omega));replace n3:=Z9 (RecAt.set_old (uh n3) w.heap.size 3 (.slice b3 m.dk.length q3) (by omega));have g3:w4.heap.size<=(w4.setCell ⟨w.heap.size,3,none⟩ (.slice b3 m.dk.length q3)).heap.size:=by simp
 generalize w4.setCell ⟨w.heap.size,3,none⟩ (.slice b3 m.dk.length q3)=X3 at *;have c4:=(uh kb).cell (i:=4) (v:= .slice a4 m.pc.length p4) rfl;have HX:=Z9 (((uh Hv).below (uh BB)).pc);have hl9:=(uh HF).nums;have hlt9:=(uh kb).lt;go_upto_region 6 with (at_builtin;refine ZG tyN rfl (.tmp 21) (.tmp 23) 30 underlying30 rfl X3.heap.size _ _ [] m.pc rfl rfl (Zq rfl (Z0 _)) (IsRec.below (uh HX) ((ba _ _))) (by simp;omega) (by simp) ?_;intro u4 w5 hp9 hg9 hat9;rw [List.nil_append] at hp9;have hb9:Below X3.heap.size X3 w5:=((ba _ _)).trans ((Z3 _ _).grown hg9 (by simp) (fun k e=>by cases e;exact Z0 _));have k9:=(uh kb).below hb9 (uh kb).lt;have o9:=k9.cell (i:=4) (v:= .slice a4 m.pc.length p4) rfl;have f9:=k9.free 4;obtain ⟨a9,c9,hu9⟩:=RecAt.shape hp9;subst hu9;have hp:=Z9 hp9;have hb:=Z9 hb9;clear hp9 hb9 k9 hg9 hat9)
 clear c4 HX hl9 hlt9 o9 f9;replace hp:=uh hp;replace hb:=uh hb;obtain ⟨u4,hu4⟩:∃ u,u=Value.slice a9 m.pc.length c9:=⟨_,rfl⟩
 rw [<-hu4] at hp ⊢;clear hu4;have n4:Hid (NumsAt (w.heap.size+2) w5 u4 m.pc):=Z9 (RecAt.mono hp (by omega));have M4:Hid (∀ b,u4.ownBlock=some b->w4.heap.size<=b/\b<w5.heap.size):=Z9 (fun b e=>⟨Xv g3 (RecAt.lt hp e).1,(RecAt.lt hp e).2⟩);replace kb:=bl kb hb;replace kr:=bl kr hb;replace n0:=Z9 ((uh n0).later hb);replace n1:=Z9 (RecAt.later (uh n1) hb);replace n2:=Z9 (RecAt.later (uh n2) hb);replace n3:=Z9 (RecAt.later (uh n3) hb);replace BB:=bt BB hb;have z4:w4.heap.size<=w5.heap.size:=Xv g3 hb.size;obtain ⟨b4,q4,rfl⟩:=RecAt.shape hp;clear hp hb;replace kb:Hid (Blk (w5.setCell ⟨w.heap.size,4,none⟩ (.slice b4 m.pc.length q4)) w.heap.size 32 (S6 b0 q0 b1 q1 b2 q2 b3 q3 b4 q4 m)):=Z9 ((uh kb).set 4 _);replace kr:Hid (Blk (w5.setCell ⟨w.heap.size,4,none⟩ (.slice b4 m.pc.length q4)) (w.heap.size+1) 32 E6):=Z9 ((uh kr).other (a:=⟨w.heap.size,4,none⟩) (by show w.heap.size+1 ≠ w.heap.size;omega) _);replace BB:Hid (Below w.heap.size w (w5.setCell ⟨w.heap.size,4,none⟩ (.slice b4 m.pc.length q4))):=Z9 ((uh BB).setCell (p:=⟨w.heap.size,4,none⟩) (Z0 _) _);replace n0:=Z9 ((uh n0).set_old w.heap.size 4 (.slice b4 m.pc.length q4) (by omega));replace n1:=Z9 (RecAt.set_old (uh n1) w.heap.size 4 (.slice b4 m.pc.length q4) (by omega));replace n2:=Z9 (RecAt.set_old (uh n2) w.heap.size 4 (.slice b4 m.pc.length q4) (by omega));replace n3:=Z9 (RecAt.set_old (uh n3) w.heap.size 4 (.slice b4 m.pc.length q4) (by omega));replace n4:=Z9 (RecAt.set_old (uh n4) w.heap.size 4 (.slice b4 m.pc.length q4) (by omega));have g4:w5.heap.size<=(w5.setCell ⟨w.heap.size,4,none⟩ (.slice b4 m.pc.length q4)).heap.size:=by simp
 generalize w5.setCell ⟨w.heap.size,4,none⟩ (.slice b4 m.pc.length q4)=X4 at *;obtain ⟨c0,c1,c2,c3,c4,c5⟩:=(uh kb).c6;obtain ⟨o0,o1,o2,o3,o4,o5⟩:=(uh kr).c6;obtain ⟨f0,f1,f2,f3,f4,f5⟩:=(uh kr).f6;go_wp2_with fail;refine Zz (v:= .agg (S6 b0 q0 b1 q1 b2 q2 b3 q3 b4 q4 m)) (by simp [results,results68,go_sem, *]) rfl ⟨_,_,_,_,_,qs,rfl,?_,?_⟩
 ·refine FullSmy.mono (n₀:=w.heap.size+2) (C6 w1.heap.size w2.heap.size w3.heap.size w4.heap.size ?_ (uh Hmap) ?_ ?_ ?_ ?_ (uh L0) (uh M1) (uh M2) (uh M3) (fun b e=>(uh M4 b e).1) z1 z2 z3) (by omega)
  ·iterate 6 (refine OwnHall.set_old ?_ _ _ _ (by omega))
   exact uh n0
  ·iterate 6 (refine RecAt.set_old ?_ _ _ _ (by omega))
   exact uh n1
  ·iterate 6 (refine RecAt.set_old ?_ _ _ _ (by omega))
   exact uh n2
  ·iterate 6 (refine RecAt.set_old ?_ _ _ _ (by omega))
   exact uh n3
  ·iterate 6 (refine RecAt.set_old ?_ _ _ _ (by omega))
   exact uh n4
 ·iterate 6 (refine Yv ?_ (by show _<=w.heap.size+1;omega) _)
  exact uh BB
structure Two (p q:Option Nat) (w w':World):Prop where
 os:w'.os=w.os
 tape:w'.tape=w.tape
 output:w'.output=w.output
 size:w.heap.size<=w'.heap.size
 block:∀ k,k<w.heap.size->p ≠ some k->q ≠ some k->w'.heap[k]?=w.heap[k]?
section
variable {p q : Option Nat} {w w' w'' : World}
theorem Two.refl (p q:Option Nat) (w:World):Two p q w w:=⟨rfl,rfl,rfl,Z0 _,fun _ _ _ _=>rfl⟩
theorem Two.trans (h:Two p q w w') (k:Two p q w' w''):Two p q w w'':=
 ⟨k.os.trans h.os,k.tape.trans h.tape,k.output.trans h.output,Xv h.size k.size,fun i hi hp hq=>(k.block i (Y0 hi h.size) hp hq).trans (h.block i hi hp hq)⟩
theorem Two.of_below (h:Below w.heap.size w w'):Two p q w w':=⟨h.os,h.tape,h.output,h.size,fun i hi _ _=>h.block i hi⟩
theorem Two.of_set (w:World) {g:Nat} (hg:p=some g\/q=some g) (o:Nat) (u:Value):Two p q w (w.setCell ⟨g,o,none⟩ u):=
 ⟨rfl,rfl,rfl,by simp,fun i hi hp hq=>heap_setCell_other w _ i u (fun e=>by
  have e:i=g:=e;subst e
  rcases hg with h | h
  ·exact hp h
  ·exact hq h)⟩
theorem Two.below {B:Nat} (h:Two p q w w') (hB:B<=w.heap.size) (hp:∀ k,p=some k->B<=k) (hq:∀ k,q=some k->B<=k):Below B w w':=
 ⟨h.os,h.tape,h.output,h.size,fun i hi=>h.block i (Y0 hi hB) (fun e=>by have:=hp i e;omega) (fun e=>by have:=hq i e;omega)⟩
theorem Blk.two {R:Nat} {t:TypeId} {cs:Array Value} (h:Blk w R t cs) (ht:Two p q w w') (hp:p ≠ some R) (hq:q ≠ some R):Blk w' R t cs:=h.same (ht.block R h.lt hp hq)
end
theorem OwnHall.same2 {n₀:Nat} {w w':World} {v:Value} {qs:List (ZY × Value)} (h:OwnHall n₀ w v qs) (hs:∀ k,(v.ownBlock=some k\/ ∃ q ∈ qs,q.2.ownBlock=some k)->w'.heap[k]?=w.heap[k]?):OwnHall n₀ w' v qs:=
 ⟨Xj h.row (fun k e=>hs k (.inl e)),fun q hq=>Xj (h.pc q hq) (fun k e=>hs k (.inr ⟨q,hq,e⟩)),h.off,h.apart⟩
section
variable {n₀ n cap g : Nat} {w : World} {v0 v1 v2 v3 v4 : Value} {m : Z6} {qs : List (ZY × Value)}
theorem FullSmy.putS (hf:FullSmy n₀ w v0 v1 (.slice (some ⟨g,0,none⟩) n cap) v3 v4 m qs) (hn:n=m.sm.length) {j i:Nat} (hj:j<m.sm.length) (hi:i<11) (u:Value) (x:Z2) (hx:ZR x=(ZR (Z8 m.sm j)).set i u) :
  FullSmy n₀ (w.setCell ⟨g,j*11+i,none⟩ u) v0 v1 (.slice (some ⟨g,0,none⟩) n cap) v3 v4 { m with sm:=m.sm.set j x } qs:=by
 have hb:(Value.slice (some ⟨g,0,none⟩) n cap).ownBlock=some g:=rfl;have hne:∀ k,k ≠ g->(w.setCell ⟨g,j*11+i,none⟩ u).heap[k]?=w.heap[k]?:=fun k hk=>heap_setCell_other w _ k u hk;refine ⟨hf.hall.same2 fun k e=>hne k fun e'=> ?_,hf.rm,RecAt.same hf.gd fun k e=>hne k fun e'=> ?_,(RecAt.put1 ZT (by omega) hf.sm hn hj hi u x hx).1,RecAt.same hf.dk fun k e=>hne k fun e'=> ?_,RecAt.same hf.pc fun k e=>hne k fun e'=> ?_,hf.h1,hf.h2,hf.h3,hf.h4,hf.a12,hf.a13,hf.a14,hf.a23,hf.a24,hf.a34⟩
 ·subst e'
  rcases e with e | ⟨q,hq,e⟩
  ·exact hf.h2.1 _ hb e
  ·exact hf.h2.2 q hq _ hb e
 ·subst e';exact hf.a12 _ e hb
 ·subst e';exact hf.a23 _ hb e
 ·subst e';exact hf.a24 _ hb e
theorem FullSmy.putD (hf:FullSmy n₀ w v0 v1 v2 (.slice (some ⟨g,0,none⟩) n cap) v4 m qs) (hn:n=m.dk.length) {j i:Nat} (hj:j<m.dk.length) (hi:i<3) (u:Value) (x:Yg) (hx:Wu x=(Wu (Z8 m.dk j)).set i u) :
  FullSmy n₀ (w.setCell ⟨g,j*3+i,none⟩ u) v0 v1 v2 (.slice (some ⟨g,0,none⟩) n cap) v4 { m with dk:=m.dk.set j x } qs:=by
 have hb:(Value.slice (some ⟨g,0,none⟩) n cap).ownBlock=some g:=rfl;have hne:∀ k,k ≠ g->(w.setCell ⟨g,j*3+i,none⟩ u).heap[k]?=w.heap[k]?:=fun k hk=>heap_setCell_other w _ k u hk;refine ⟨hf.hall.same2 fun k e=>hne k fun e'=> ?_,hf.rm,RecAt.same hf.gd fun k e=>hne k fun e'=> ?_,RecAt.same hf.sm fun k e=>hne k fun e'=> ?_,(RecAt.put1 Zt (by omega) hf.dk hn hj hi u x hx).1,RecAt.same hf.pc fun k e=>hne k fun e'=> ?_,hf.h1,hf.h2,hf.h3,hf.h4,hf.a12,hf.a13,hf.a14,hf.a23,hf.a24,hf.a34⟩
 ·subst e'
  rcases e with e | ⟨q,hq,e⟩
  ·exact hf.h3.1 _ hb e
  ·exact hf.h3.2 q hq _ hb e
 ·subst e';exact hf.a13 _ e hb
 ·subst e';exact hf.a23 _ e hb
 ·subst e';exact hf.a34 _ hb e
theorem FullSmy.putP (hf:FullSmy n₀ w v0 v1 v2 v3 (.slice (some ⟨g,0,none⟩) n cap) m qs) (hn:n=m.pc.length) {j:Nat} (hj:j<m.pc.length) (x:Int) :
  FullSmy n₀ (w.setCell ⟨g,j,none⟩ (.int .i64 x)) v0 v1 v2 v3 (.slice (some ⟨g,0,none⟩) n cap) { m with pc:=m.pc.set j x } qs:=by
 have hb:(Value.slice (some ⟨g,0,none⟩) n cap).ownBlock=some g:=rfl;have hne:∀ k,k ≠ g->(w.setCell ⟨g,j,none⟩ (.int .i64 x)).heap[k]?=w.heap[k]?:=fun k hk=>heap_setCell_other w _ k _ hk;have hput:=(RecAt.put1 (i:=0) Ze (by omega) hf.pc hn hj (by omega) (.int .i64 x) x (by simp [Tj])).1;simp only [Nat.mul_one,Nat.add_zero] at hput;refine ⟨hf.hall.same2 fun k e=>hne k fun e'=> ?_,hf.rm,RecAt.same hf.gd fun k e=>hne k fun e'=> ?_,RecAt.same hf.sm fun k e=>hne k fun e'=> ?_,RecAt.same hf.dk fun k e=>hne k fun e'=> ?_,hput,hf.h1,hf.h2,hf.h3,hf.h4,hf.a12,hf.a13,hf.a14,hf.a23,hf.a24,hf.a34⟩
 ·subst e'
  rcases e with e | ⟨q,hq,e⟩
  ·exact hf.h4.1 _ hb e
  ·exact hf.h4.2 q hq _ hb e
 ·subst e';exact hf.a14 _ e hb
 ·subst e';exact hf.a24 _ e hb
 ·subst e';exact hf.a34 _ e hb
end
end Go.Proofs.YtgdpaigcmoifbaaGreat
namespace Go.Proofs.YtgdpaigcmoifbaaGreat
open Go.ChangeShapes Go.WideShapes Go.ChangeAt Go.RowKit Go.Sort
set_option linter.unusedVariables false
def W7:Z6:=⟨[],[],[],[],[],0⟩
def Yn (m:Z6) (who:Int):Bool:=inB who 0 ((m.sm.length:Int)-1) && !((Z8 m.sm who.toNat).1 ==0)
theorem YK {m:Z6} {who:Int} (h:Yn m who=true):∃ k:Nat,who=(k:Int)/\k<m.sm.length/\(Z8 m.sm k).1 ≠ 0:=by
 unfold Yn at h;simp only [ZO,Bool.not_eq_true',beq_eq_false_iff_ne] at h;have h1:=ZN h.1;exact ⟨who.toNat,by omega,by omega,h.2⟩
theorem Sd {m:Z6} (h:Loose m):Few m:=by
 have hd:=h.head;unfold Yx at hd;simp only [ZO,YZ] at hd;obtain ⟨h1,h2,h3,h4,h5,_⟩:=hd;obtain ⟨r1,r2,r3,r4⟩:=Zj h1;have hg:=(Vh h2).2;refine ⟨by omega,fun r hr=> ?_,by omega,by omega,by omega,by omega⟩;have hrb:=List.all_eq_true.1 r3 r hr;unfold Y8 at hrb;simp only [ZO] at hrb;have:=ZN hrb.2.1;omega
def Rx (m:Z6) (who:Int):Z6 × Int:=
 if ZM m then (if Yn m who then (if ZL (Z8 m.sm who.toNat) then (ZH (setS m who.toNat (stS (Z8 m.sm who.toNat) 1)),0) else (m,2)) else (m,1)) else (W7,3)
def Tl (m:Z6) (who:Int):Z6 × Int:=
 if ZM m then (if Yn m who then (ZH (setS m who.toNat Tf),0) else (m,1)) else (W7,3)
def Ua (m:Z6) (who lo hi:Int):Z6 × Int:=
 if ZM m then (if Yn m who then (if Ye lo hi then (ZH (setS m who.toNat (Av (Z8 m.sm who.toNat) lo hi)),0) else (m,3)) else (m,1)) else (W7,3)
def Uf (m:Z6) (who rank:Int):Z6 × Int:=
 if ZM m then (if Yn m who then (if (XM (Z8 m.sm who.toNat) rank).2 then (ZH (setS m who.toNat (XM (Z8 m.sm who.toNat) rank).1),0) else (m,3)) else (m,1)) else (W7,3)
theorem EP {m:Z6} (h:ZM m=true) (who:Int):ZM (Rx m who).1=true:=by
 unfold Rx;rw [h];simp only [if_true]
 split
 ·rename_i hw
  obtain ⟨k,rfl,hk,hs⟩:=YK hw;rw [show ((k:Int)).toNat=k by simp]
  split
  ·rename_i hp
   exact YS (BY (ZU h) hk hp)
  ·exact h
 ·exact h
theorem Gx {m:Z6} (h:ZM m=true) (who:Int):ZM (Tl m who).1=true:=by
 unfold Tl;rw [h];simp only [if_true]
 split
 ·rename_i hw
  obtain ⟨k,rfl,hk,hs⟩:=YK hw;rw [show ((k:Int)).toNat=k by simp];exact YS (Ei (ZU h) hk)
 ·exact h
theorem GC {m:Z6} (h:ZM m=true) (who lo hi:Int):ZM (Ua m who lo hi).1=true:=by
 unfold Ua;rw [h];simp only [if_true]
 split
 ·rename_i hw
  obtain ⟨k,rfl,hk,hs⟩:=YK hw;rw [show ((k:Int)).toNat=k by simp]
  split
  ·rename_i hp
   exact YS (An (ZU h) hk hs hp)
  ·exact h
 ·exact h
theorem EN {m:Z6} (h:ZM m=true) (who rank:Int):ZM (Uf m who rank).1=true:=by
 unfold Uf;rw [h];simp only [if_true]
 split
 ·rename_i hw
  obtain ⟨k,rfl,hk,hs⟩:=YK hw;rw [show ((k:Int)).toNat=k by simp]
  split
  ·rename_i hp
   exact YS (BX (ZU h) hk (Prod.ext rfl hp))
  ·exact h
 ·exact h
theorem FullSmy.putW {n₀ n cap g:Nat} {w:World} {v0 v1 v3 v4:Value} {m:Z6} {qs:List (ZY × Value)} (hf:FullSmy n₀ w v0 v1 (.slice (some ⟨g,0,none⟩) n cap) v3 v4 m qs) (hn:n=m.sm.length) {j:Nat} (hj:j<m.sm.length) (x:Z2) :
  FullSmy n₀ (Pd w g (j*11) (ZR x)) v0 v1 (.slice (some ⟨g,0,none⟩) n cap) v3 v4 { m with sm:=m.sm.set j x } qs:=by
 have hb:(Value.slice (some ⟨g,0,none⟩) n cap).ownBlock=some g:=rfl;obtain ⟨hput,hg⟩:=RecAt.put ZT (by omega) hf.sm hn hj x;have hne:∀ k,k<w.heap.size->k ≠ g->(Pd w g (j*11) (ZR x)).heap[k]?=w.heap[k]?:=fun k hk hkg=>hg.block k hk (fun e=>hkg (by cases e;rfl));refine ⟨hf.hall.same2 fun k e=>hne k (hf.hall.lt e).2 fun e'=> ?_,hf.rm,RecAt.same hf.gd fun k e=>hne k (RecAt.lt hf.gd e).2 fun e'=> ?_,hput,RecAt.same hf.dk fun k e=>hne k (RecAt.lt hf.dk e).2 fun e'=> ?_,RecAt.same hf.pc fun k e=>hne k (RecAt.lt hf.pc e).2 fun e'=> ?_,hf.h1,hf.h2,hf.h3,hf.h4,hf.a12,hf.a13,hf.a14,hf.a23,hf.a24,hf.a34⟩
 ·subst e'
  rcases e with e | ⟨q,hq,e⟩
  ·exact hf.h2.1 _ hb e
  ·exact hf.h2.2 q hq _ hb e
 ·subst e';exact hf.a12 _ e hb
 ·subst e';exact hf.a23 _ hb e
 ·subst e';exact hf.a24 _ hb e
theorem Js (w:World) (g o:Nat) (c0 c1 c2 c3 c4 c5 c6 c7 c8 c9 c10:Value):Pd w g o [c0,c1,c2,c3,c4,c5,c6,c7,c8,c9,c10]=((((((((((w.setCell ⟨g,o,none⟩ c0).setCell ⟨g,o+1,none⟩ c1).setCell ⟨g,o+2,none⟩ c2).setCell ⟨g,o+3,none⟩ c3).setCell ⟨g,o+4,none⟩ c4).setCell ⟨g,o+5,none⟩ c5).setCell ⟨g,o+6,none⟩ c6).setCell ⟨g,o+7,none⟩ c7).setCell ⟨g,o+8,none⟩ c8).setCell ⟨g,o+9,none⟩ c9).setCell ⟨g,o+10,none⟩ c10:=rfl
theorem A2 (w:World) (g o:Nat) (t0 t1 t2 t3 t4 t5 t6 t7 t8 t9 t10:Int):((((((((((w.setCell ⟨g,o,none⟩ (.int .i64 t0)).setCell ⟨g,o+1,none⟩ (.int .i64 t1)).setCell ⟨g,o+2,none⟩ (.int .i64 t2)).setCell ⟨g,o+3,none⟩ (.int .i64 t3)).setCell ⟨g,o+4,none⟩ (.int .i64 t4)).setCell ⟨g,o+5,none⟩ (.int .i64 t5)).setCell ⟨g,o+6,none⟩ (.int .i64 t6)).setCell ⟨g,o+7,none⟩ (.int .i64 t7)).setCell ⟨g,o+8,none⟩ (.int .i64 t8)).setCell ⟨g,o+9,none⟩ (.int .i64 t9)).setCell ⟨g,o+10,none⟩ (.int .i64 t10)=Pd w g o (ZR (t0,t1,t2,t3,t4,t5,t6,t7,t8,t9,t10)):=rfl
def V7 (v0 v1 v2 v3 v4:Value) (qs:List (ZY × Value)) (k:Nat):Prop:=v0.ownBlock=some k\/(∃ q ∈ qs,q.2.ownBlock=some k)\/v1.ownBlock=some k\/v2.ownBlock=some k\/v3.ownBlock=some k\/v4.ownBlock=some k
section
variable {n₀ : Nat} {w w' : World} {v0 v1 v2 v3 v4 : Value} {m : Z6} {qs : List (ZY × Value)}
theorem FullSmy.own (h:FullSmy n₀ w v0 v1 v2 v3 v4 m qs) {k:Nat} (e:V7 v0 v1 v2 v3 v4 qs k):n₀<=k/\k<w.heap.size:=by
 rcases e with e | e | e | e | e | e
 ·exact h.hall.lt (.inl e)
 ·exact h.hall.lt (.inr e)
 ·exact RecAt.lt h.gd e
 ·exact RecAt.lt h.sm e
 ·exact RecAt.lt h.dk e
 ·exact RecAt.lt h.pc e
theorem FullSmy.keep (h:FullSmy n₀ w v0 v1 v2 v3 v4 m qs) (hs:∀ k,V7 v0 v1 v2 v3 v4 qs k->w'.heap[k]?=w.heap[k]?):FullSmy n₀ w' v0 v1 v2 v3 v4 m qs:=
 ⟨⟨Xj h.hall.row (fun k e=>hs k (.inl e)),fun q hq=>Xj (h.hall.pc q hq) (fun k e=>hs k (.inr (.inl ⟨q,hq,e⟩))),h.hall.off,h.hall.apart⟩,h.rm,RecAt.same h.gd fun k e=>hs k (.inr (.inr (.inl e))),RecAt.same h.sm fun k e=>hs k (.inr (.inr (.inr (.inl e)))),RecAt.same h.dk fun k e=>hs k (.inr (.inr (.inr (.inr (.inl e))))),RecAt.same h.pc fun k e=>hs k (.inr (.inr (.inr (.inr (.inr e))))),h.h1,h.h2,h.h3,h.h4,h.a12,h.a13,h.a14,h.a23,h.a24,h.a34⟩
end
end Go.Proofs.YtgdpaigcmoifbaaGreat
namespace Go.Proofs.YtgdpaigcmoifbaaGreat
open Go.ChangeShapes Go.WideShapes Go.ChangeAt Go.RowKit Go.Sort
set_option linter.unusedVariables false
theorem FullSmy.set_off {n₀:Nat} {w:World} {v0 v1 v2 v3 v4:Value} {m:Z6} {qs:List (ZY × Value)} (h:FullSmy n₀ w v0 v1 v2 v3 v4 m qs) {g:Nat} (ho:∀ k,(v0.ownBlock=some k\/(∃ q ∈ qs,q.2.ownBlock=some k)\/v1.ownBlock=some k\/v2.ownBlock=some k\/v3.ownBlock=some k\/v4.ownBlock=some k)->k ≠ g) (o:Nat) (u:Value):FullSmy n₀ (w.setCell ⟨g,o,none⟩ u) v0 v1 v2 v3 v4 m qs:=by
 have hne:∀ k,k ≠ g->(w.setCell ⟨g,o,none⟩ u).heap[k]?=w.heap[k]?:=fun k hk=>heap_setCell_other w _ k u hk;exact ⟨h.hall.same2 fun k e=>hne k (ho k (by rcases e with e | e;exact .inl e;exact .inr (.inl e))),h.rm,RecAt.same h.gd fun k e=>hne k (ho k (.inr (.inr (.inl e)))),RecAt.same h.sm fun k e=>hne k (ho k (.inr (.inr (.inr (.inl e))))),RecAt.same h.dk fun k e=>hne k (ho k (.inr (.inr (.inr (.inr (.inl e)))))),RecAt.same h.pc fun k e=>hne k (ho k (.inr (.inr (.inr (.inr (.inr e)))))),h.h1,h.h2,h.h3,h.h4,h.a12,h.a13,h.a14,h.a23,h.a24,h.a34⟩
theorem Um (n₀:Nat) (w:World):FullSmy n₀ w (.slice none 0 0) (.slice none 0 0) (.slice none 0 0) (.slice none 0 0) (.slice none 0 0) W7 []:=by
 have hz:Lm (.slice none 0 0) (.slice none 0 0):=fun b e=>by cases e
 exact ⟨OwnHall.nil _ _,rfl,World.ownsRow_nil _ _ _ _,World.ownsRow_nil _ _ _ _,World.ownsRow_nil _ _ _ _,World.ownsRow_nil _ _ _ _,⟨hz,fun q hq=>by cases hq⟩,⟨hz,fun q hq=>by cases hq⟩,⟨hz,fun q hq=>by cases hq⟩,⟨hz,fun q hq=>by cases hq⟩,hz,hz,hz,hz,hz,hz⟩
open Go.ChangeShapes Go.WideShapes Go.ChangeAt Go.RowKit Go.Sort Go.Proofs.Tryz
set_option maxRecDepth 100000
def Sr (d:Yg):Bool:=d.1
theorem Rc (a:Option Addr) (n cap:Nat) (i:Int) (w:World):cE 124 #[.slice a n cap,.int .i64 i] w (.bool (Xa n i)):=by
 by_cases h0:0<=i
 ·by_cases h1:i<(n:Int)
  all_goals
   go_enter func124,ntmps124;go_wp2_with fail;go_ret;exact ⟨Z5 (by unfold Xa;simp [h0,h1]),rfl⟩
 ·go_enter func124,ntmps124
  go_wp2_with fail;go_ret;exact ⟨Z5 (by unfold Xa;simp;omega),rfl⟩
theorem Jc (a:Option Addr) (n cap:Nat) (i:Int) (w:World):cE 182 #[.slice a n cap,.int .i64 i] w (.bool (Xa n i)):=by
 by_cases h0:0<=i
 ·by_cases h1:i<(n:Int)
  all_goals
   go_enter func182,ntmps182;go_wp2_with fail;go_ret;exact ⟨Z5 (by unfold Xa;simp [h0,h1]),rfl⟩
 ·go_enter func182,ntmps182
  go_wp2_with fail;go_ret;exact ⟨Z5 (by unfold Xa;simp;omega),rfl⟩
theorem Jb (a:Option Addr) (n cap:Nat) (i:Int) (w:World):cE 296 #[.slice a n cap,.int .i64 i] w (.bool (Xa n i)):=by
 by_cases h0:0<=i
 ·by_cases h1:i<(n:Int)
  all_goals
   go_enter func296,ntmps296;go_wp2_with fail;go_ret;exact ⟨Z5 (by unfold Xa;simp [h0,h1]),rfl⟩
 ·go_enter func296,ntmps296
  go_wp2_with fail;go_ret;exact ⟨Z5 (by unfold Xa;simp;omega),rfl⟩
theorem Gh (a:Option Addr) (n cap:Nat) (i:Int) (w:World):cE 254 #[.slice a n cap,.int .i64 i] w (.bool (Xa n i)):=by
 by_cases h0:0<=i
 ·by_cases h1:i<(n:Int)
  all_goals
   go_enter func254,ntmps254;go_wp2_with fail;go_ret;exact ⟨Z5 (by unfold Xa;simp [h0,h1]),rfl⟩
 ·go_enter func254,ntmps254
  go_wp2_with fail;go_ret;exact ⟨Z5 (by unfold Xa;simp;omega),rfl⟩
theorem VQ (st be rk my gu lo hi hd ca ut wk:Int) (w:World):cB 183 #[.agg (I11 st be rk my gu lo hi hd ca ut wk)] w (.bool (st ==0)):=by
 go_enter func183,ntmps183;go_wp2_with fail;go_ret;exact ⟨rfl,(ba _ _)⟩
theorem Ef (st be rk my gu lo hi hd ca ut wk:Int) (w:World):cB 220 #[.agg (I11 st be rk my gu lo hi hd ca ut wk)] w (.bool (st ==1)):=by
 go_enter func220,ntmps220;go_wp2_with fail;go_ret;exact ⟨rfl,(ba _ _)⟩
theorem P8 (op:Bool) (who mk:Int) (w:World):cB 125 #[.agg #[.bool op,.int .i64 who,.int .i64 mk]] w (.bool op):=by
 go_enter func125,ntmps125;go_wp2_with fail;go_ret;exact ⟨rfl,(ba _ _)⟩
theorem Gg (op:Bool) (who mk:Int) (w:World):cB 252 #[.agg #[.bool op,.int .i64 who,.int .i64 mk]] w (.bool (Vr (op,who,mk))):=by
 go_enter func252,ntmps252;go_wp2_with fail;refine (Zy _ _ _ _).mono ?_;rintro e w' ⟨rfl,h9⟩;subst w';go_wp2_with fail;go_ret;exact ⟨rfl,(ba _ _)⟩
theorem Ak (st be rk my gu lo hi hd ca ut wk b:Int) (w:World):cB 210 #[.agg (I11 st be rk my gu lo hi hd ca ut wk),.int .i64 b] w (.bool (atB b (st,be,rk,my,gu,lo,hi,hd,ca,ut,wk))):=by
 by_cases h2:st=2
 ·subst h2
  go_enter func210,ntmps210;go_wp2_with fail;go_ret;exact ⟨Z5 (by unfold atB;simp),(ba _ _)⟩
 have n2:(st ==2)=false:=by simpa using h2
 by_cases h3:st=3
 ·subst h3
  go_enter func210,ntmps210;go_wp2_with fail;go_ret;exact ⟨Z5 (by unfold atB;simp),(ba _ _)⟩
 have n3:(st ==3)=false:=by simpa using h3
 go_enter func210,ntmps210;go_wp2_with fail;go_ret;exact ⟨Z5 (by unfold atB;simp [n2,n3]),(ba _ _)⟩
theorem IK (st be rk my gu lo hi hd ca ut wk b:Int) (w:World):cB 292 #[.agg (I11 st be rk my gu lo hi hd ca ut wk),.int .i64 b] w (.bool (Yw b (st,be,rk,my,gu,lo,hi,hd,ca,ut,wk))):=by
 by_cases h3:st=3
 ·subst h3
  go_enter func292,ntmps292;go_wp2_with fail;go_ret;exact ⟨Z5 (by unfold Yw;simp),(ba _ _)⟩
 have n3:(st ==3)=false:=by simpa using h3
 go_enter func292,ntmps292;go_wp2_with fail;go_ret;exact ⟨Z5 (by unfold Yw;simp [n3]),(ba _ _)⟩
theorem JH (st be rk my gu lo hi hd ca ut wk b:Int) (R:Nat) (w:World) (hc:w.cell? ⟨R,0,none⟩=some (.int .i64 b)) (hR:R<w.heap.size):cB 209 #[.agg (I11 st be rk my gu lo hi hd ca ut wk),.pointer (some ⟨R,0,none⟩)] w (.bool (atB b (st,be,rk,my,gu,lo,hi,hd,ca,ut,wk))):=by
 have hne:R ≠ w.heap.size:=VH hR;go_enter func209,ntmps209;go_wp2_with fail;refine ck (Ak st be rk my gu lo hi hd ca ut wk b _) fun w1 hb=> ?_;have Hb:=Z9 (((Z3 w.heap.size w).alloc (Z0 _) _).trans (hb.mono (by simp)));clear hb;go_wp2_with fail;go_ret;exact ⟨rfl,uh Hb⟩
theorem N9 (st be rk my gu lo hi hd ca ut wk b:Int) (R:Nat) (w:World) (hc:w.cell? ⟨R,0,none⟩=some (.int .i64 b)) (hR:R<w.heap.size):cB 291 #[.agg (I11 st be rk my gu lo hi hd ca ut wk),.pointer (some ⟨R,0,none⟩)] w (.bool (Yw b (st,be,rk,my,gu,lo,hi,hd,ca,ut,wk))):=by
 have hne:R ≠ w.heap.size:=VH hR;go_enter func291,ntmps291;go_wp2_with fail;refine ck (IK st be rk my gu lo hi hd ca ut wk b _) fun w1 hb=> ?_;have Hb:=Z9 (((Z3 w.heap.size w).alloc (Z0 _) _).trans (hb.mono (by simp)));clear hb;go_wp2_with fail;go_ret;exact ⟨rfl,uh Hb⟩
theorem OU (st be rk my gu lo hi hd ca ut wk:Int) (a:Option Addr) (n cap:Nat) (w:World):cB 250 #[.agg (I11 st be rk my gu lo hi hd ca ut wk),.slice a n cap] w (.bool (VD n (st,be,rk,my,gu,lo,hi,hd,ca,ut,wk))):=by
 have hx:∀ q:Bool,Calls prog 250 #[.agg (I11 st be rk my gu lo hi hd ca ut wk),.slice a n cap] w (fun e w'=>e= .returned (.bool q)/\Below w.heap.size w w')->q=VD n (st,be,rk,my,gu,lo,hi,hd,ca,ut,wk)->cB 250 #[.agg (I11 st be rk my gu lo hi hd ca ut wk),.slice a n cap] w (.bool (VD n (st,be,rk,my,gu,lo,hi,hd,ca,ut,wk))):=fun q h e=>by rw [<-e];exact h
 by_cases h0:st=0
 ·subst h0
  refine hx true ?_ (by unfold VD;simp);go_enter func250,ntmps250;go_wp2_with fail;refine ck (VQ 0 be rk my gu lo hi hd ca ut wk _) fun w1 hb=> ?_;have Hb:=Z9 (((Z3 w.heap.size w).alloc (Z0 _) _).trans (hb.mono (by simp)));clear hb;go_wp2_with fail;go_ret;exact ⟨rfl,uh Hb⟩
 have n0:(st ==0)=false:=by simpa using h0
 by_cases h1:gu= -1
 ·subst h1
  refine hx true ?_ (by unfold VD;simp);go_enter func250,ntmps250;go_wp2_with fail;refine (VQ st be rk my (-1) lo hi hd ca ut wk _).mono ?_;rw [n0];rintro e w1 ⟨rfl,hb⟩;have c4:w1.cell? ⟨w.heap.size,4,none⟩=some (.int .i64 (-1)):=(hb.cell (p:=⟨w.heap.size,4,none⟩) (by simp)).trans (Y4 _ rfl);have Hb:=Z9 (((Z3 w.heap.size w).alloc (Z0 _) _).trans (hb.mono (by simp)));clear hb;go_wp2_with fail;go_ret;exact ⟨rfl,uh Hb⟩
 have n1:(gu == -1)=false:=by simpa using h1
 refine hx (Xa n gu) ?_ (by unfold VD;simp [n0,n1]);go_enter func250,ntmps250;go_wp2_with fail;refine (VQ st be rk my gu lo hi hd ca ut wk _).mono ?_;rw [n0];rintro e w1 ⟨rfl,hb⟩;have c4:w1.cell? ⟨w.heap.size,4,none⟩=some (.int .i64 gu):=(hb.cell (p:=⟨w.heap.size,4,none⟩) (by simp)).trans (Y4 _ rfl);have Hb:=Z9 (((Z3 w.heap.size w).alloc (Z0 _) _).trans (hb.mono (by simp)));clear hb;go_wp2_with fail;refine ck (Jb a n cap gu _) fun w2 h9=> ?_;subst w2;go_wp2_with fail;go_ret;exact ⟨rfl,uh Hb⟩
theorem Ld (st be rk my gu lo hi hd ca ut wk:Int) (R:Nat) (a:Option Addr) (n cap:Nat) (w:World) (hc:w.cell? ⟨R,0,none⟩=some (.slice a n cap)) (hR:R<w.heap.size):cB 249 #[.agg (I11 st be rk my gu lo hi hd ca ut wk),.pointer (some ⟨R,0,none⟩)] w (.bool (VD n (st,be,rk,my,gu,lo,hi,hd,ca,ut,wk))):=by
 have hne:R ≠ w.heap.size:=VH hR;go_enter func249,ntmps249;go_wp2_with fail;refine ck (OU st be rk my gu lo hi hd ca ut wk a n cap _) fun w1 hb=> ?_;have Hb:=Z9 (((Z3 w.heap.size w).alloc (Z0 _) _).trans (hb.mono (by simp)));clear hb;go_wp2_with fail;go_ret;exact ⟨rfl,uh Hb⟩
theorem Calls.bool_of {P:Program} {f:FuncId} {args:Array Value} {w:World} {q q':Bool} (h:Calls P f args w fun e w'=>e= .returned (.bool q)/\Below w.heap.size w w') (e:q=q'):Calls P f args w fun e w'=>e= .returned (.bool q')/\Below w.heap.size w w':=by rw [<-e];exact h
theorem KP (st be rk my gu lo hi hd ca ut wk:Int) {v:Value} {ds:List Yg} {w:World} (h:Us w v ds):cB 165 #[.agg (I11 st be rk my gu lo hi hd ca ut wk),v] w (.bool (Vl ds (st,be,rk,my,gu,lo,hi,hd,ca,ut,wk))):=by
 obtain ⟨a,cap,rfl,hc,hm,hr⟩:=h;have Hr:=Z9 hr;clear hr;by_cases h0:st=0
 ·subst h0
  refine Calls.bool_of (q:=true) ?_ (by unfold Vl;simp);go_enter func165,ntmps165;go_wp2_with fail;refine ck (VQ 0 be rk my gu lo hi hd ca ut wk _) fun w1 hb=> ?_;have Hb:=Z9 (((Z3 w.heap.size w).alloc (Z0 _) _).trans (hb.mono (by simp)));clear hb;go_wp2_with fail;go_ret;exact ⟨rfl,uh Hb⟩
 have n0:(st ==0)=false:=by simpa using h0
 cases hh:Xa ds.length be
 ·refine Calls.bool_of (q:=false) ?_ (by unfold Vl;simp only [n0,hh];rfl)
  have Hh:=Z9 hh;clear hh;go_enter func165,ntmps165;go_wp2_with fail;refine (VQ st be rk my gu lo hi hd ca ut wk _).mono ?_;rw [n0];rintro e w1 ⟨rfl,hb⟩;have c1:w1.cell? ⟨w.heap.size,1,none⟩=some (.int .i64 be):=(hb.cell (p:=⟨w.heap.size,1,none⟩) (by simp)).trans (Y4 _ rfl);have Hb:=Z9 (((Z3 w.heap.size w).alloc (Z0 _) _).trans (hb.mono (by simp)));clear hb;go_wp2_with fail;refine (Rc a ds.length cap be _).mono ?_;rw [uh Hh];rintro e w2 ⟨rfl,h9⟩;subst w2;go_wp2_with fail;go_ret;exact ⟨rfl,uh Hb⟩
 have hbe:0<=be/\be<(ds.length:Int):=by unfold Xa at hh;simpa using hh
 obtain ⟨j,rfl⟩:∃ j:Nat,be=j:=⟨be.toNat,by omega⟩
 have hj:j<ds.length:=by omega
 have hj1:(j:Int)<(ds.length:Int):=by omega
 rcases uh Hr with e0 | ⟨b,off,rfl,hbw,hcl⟩
 ·rw [e0] at hj;simp at hj
 obtain ⟨t0,t1,t2⟩:=Zh hcl hj
 have hD:Vl ds (st,(j:Int),rk,my,gu,lo,hi,hd,ca,ut,wk)=(st ==1 || ((Z8 ds j).1 && (UL my j && Va hd (Z8 ds j).2.2))):=by
  unfold Vl;simp only [n0,hh,Zp,Bool.false_or,Bool.true_and]
 have HD:=Z9 hD;have Hh:=Z9 hh;clear hD hh hcl Hr;generalize Z8 ds j=d at *;obtain ⟨op,who,mk⟩:=d;simp only at t0 t1 t2;obtain ⟨qm,hqm⟩:=ZJ (UL my j);have Hm:=Z9 hqm;obtain ⟨qb,Hbd⟩:=YV (Va hd mk);clear hqm;refine Calls.bool_of (q:=(st ==1 || (op && (qm && qb)))) ?_ (by rw [uh HD,uh Hm,uh Hbd]);clear HD;go_enter func165,ntmps165;go_wp2_with fail;refine (VQ st (j:Int) rk my gu lo hi hd ca ut wk _).mono ?_;rw [n0];rintro e w1 ⟨rfl,hb⟩;have SB:Hid (Blk w1 w.heap.size 38 (I11 st j rk my gu lo hi hd ca ut wk)):=Z9 ((Blk.new w _ _).below hb (by simp));have Hb:=Z9 (((Z3 w.heap.size w).alloc (Z0 _) _).trans (hb.mono (by simp)));rw [<-(uh Hb).cell (p:=⟨b,off+j*3,none⟩) hbw] at t0;rw [<-(uh Hb).cell (p:=⟨b,off+j*3+1,none⟩) hbw] at t1;rw [<-(uh Hb).cell (p:=⟨b,off+j*3+2,none⟩) hbw] at t2;clear hb;have s1:=(uh SB).cell (i:=1) (v:= .int .i64 j) rfl;go_wp2_with fail;refine (Rc _ ds.length cap (j:Int) _).mono ?_;rw [uh Hh];rintro e w2 ⟨rfl,h9⟩;subst w2;clear s1;have s1:=(uh SB).cell (i:=1) (v:= .int .i64 j) rfl;have hbw1:b<w1.heap.size:=Y0 hbw (uh Hb).size;have hl0:=(uh SB).lt;go_upto_region 6 with fail;clear t0 t1 t2 s1;replace SB:Hid (Blk (w1.alloc (.cells #[.bool op,.int .i64 who,.int .i64 mk] 40)) w.heap.size 38 (I11 st j rk my gu lo hi hd ca ut wk)):=Z9 ((uh SB).alloc _);have DB:Hid (Blk (w1.alloc (.cells #[.bool op,.int .i64 who,.int .i64 mk] 40)) w1.heap.size 40 #[.bool op,.int .i64 who,.int .i64 mk]):=Z9 (Blk.new w1 _ _);replace Hb:Hid (Below w.heap.size w (w1.alloc (.cells #[.bool op,.int .i64 who,.int .i64 mk] 40))):=Z9 ((uh Hb).alloc (uh Hb).size _);generalize w1.alloc (.cells #[.bool op,.int .i64 who,.int .i64 mk] 40)=W at *;generalize w1.heap.size=db at *;obtain ⟨s0,s1,s2,s3,s4,s5,s6,s7,s8,s9,s10⟩:=(uh SB).c11;go_wp2_with fail;refine ck (Ef st (j:Int) rk my gu lo hi hd ca ut wk _) fun w3 hb=> ?_;replace SB:=bl SB hb;replace DB:=bl DB hb;replace Hb:=Z9 ((uh Hb).trans (hb.mono (uh Hb).size));clear hb s0 s1 s2 s3 s4 s5 s6 s7 s8 s9 s10;by_cases h1:st=1
 ·subst h1
  go_wp2_with fail;go_ret;exact ⟨Z5 (by simp),uh Hb⟩
 have n1:(st ==1)=false:=by simpa using h1
 rw [n1];have g0:=(uh DB).cell (i:=0) (v:= .bool op) rfl;have g1:=(uh DB).cell (i:=1) (v:= .int .i64 who) rfl;have g2:=(uh DB).cell (i:=2) (v:= .int .i64 mk) rfl;go_wp2_with fail;refine ck (P8 op who mk _) fun w4 hb=> ?_;replace SB:=bl SB hb;replace DB:=bl DB hb;replace Hb:=Z9 ((uh Hb).trans (hb.mono (uh Hb).size));clear hb g0 g1 g2;cases op
 ·go_wp2_with fail
  go_ret;exact ⟨Z5 (by simp [h1]),uh Hb⟩
 have s1:=(uh SB).cell (i:=1) (v:= .int .i64 j) rfl;have s3:=(uh SB).cell (i:=3) (v:= .int .i64 my) rfl;have s7:=(uh SB).cell (i:=7) (v:= .int .i64 hd) rfl;have g2:=(uh DB).cell (i:=2) (v:= .int .i64 mk) rfl;go_wp2_with fail;refine (U9 my (j:Int) _).mono ?_;rw [uh Hm];rintro e w5 ⟨rfl,h9⟩;subst w5;cases qm
 ·go_wp2_with fail
  go_ret;exact ⟨Z5 (by simp [h1]),uh Hb⟩
 go_wp2_with fail;refine (Mb hd mk _).mono ?_;rw [uh Hbd];rintro e w6 ⟨rfl,hb⟩;replace Hb:=Z9 ((uh Hb).trans (hb.mono (uh Hb).size));clear hb;go_wp2_with fail;go_ret;exact ⟨Z5 (by simp [h1]),uh Hb⟩
theorem zI {w:World} {v:Value} {ss:List Z2} (h:Xc w v ss) {f:FuncId} {cap:Array Value} {av:Int->Int->Int->Int->Int->Int->Int->Int->Int->Int->Int->Array Value} {p:Z2->Bool} (hp:∀ (st be rk my gu lo hi hd ca ut wk:Int) {W:World},Below w.heap.size w W->Calls prog f (av st be rk my gu lo hi hd ca ut wk) W fun e w'=>e= .returned (.bool (p (st,be,rk,my,gu,lo,hi,hd,ca,ut,wk)))/\Below W.heap.size W w')
  (s:∀ (p:Z2->Bool),Xc w v ss->Hid (∀ (st be rk my gu lo hi hd ca ut wk:Int) {W:World},Below w.heap.size w W->Calls prog f (av st be rk my gu lo hi hd ca ut wk) W fun e w'=>e= .returned (.bool (p (st,be,rk,my,gu,lo,hi,hd,ca,ut,wk)))/\Below W.heap.size W w')->cB 163 #[v,.func (Fn.func f) #[] cap] w (.bool (X8 p ss ss.length)):=by
  intro p h Hp;obtain ⟨a,cap,rfl,hc,hm,hr⟩:=h;have Hr:=Z9 hr;clear hr;go_enter func163,ntmps163;go_wp2_with fail
  go_loopw [9] (fun i wr=> ∃ k:Nat,k<=ss.length/\i= .int .i64 k/\X8 p ss k=true/\Below w.heap.size w wr) (fun i _=>ss.length-(intOf i).toNat)
  case atStart=>exact ⟨0,ZA _,rfl,rfl,Z3 _ _⟩
  case round=>
   obtain ⟨k,hk,rfl,hst,hb0⟩:=hrel;have Hst:=Z9 hst;have BB:=Z9 hb0;by_cases hlt:k<ss.length
   ·have hlt1:(k:Int)<(ss.length:Int):=by omega
    rcases uh Hr with e0 | ⟨b,off,rfl,hbw,hcl⟩
    ·rw [e0] at hlt;simp at hlt
    obtain ⟨d0,d1,d2,d3,d4,d5,d6,d7,d8,d9,d10⟩:=Zu hcl hlt;rw [<-hb0.cell (p:=⟨b,off+k*11,none⟩) hbw] at d0;rw [<-hb0.cell (p:=⟨b,off+k*11+1,none⟩) hbw] at d1;rw [<-hb0.cell (p:=⟨b,off+k*11+2,none⟩) hbw] at d2;rw [<-hb0.cell (p:=⟨b,off+k*11+3,none⟩) hbw] at d3;rw [<-hb0.cell (p:=⟨b,off+k*11+4,none⟩) hbw] at d4;rw [<-hb0.cell (p:=⟨b,off+k*11+5,none⟩) hbw] at d5;rw [<-hb0.cell (p:=⟨b,off+k*11+6,none⟩) hbw] at d6;rw [<-hb0.cell (p:=⟨b,off+k*11+7,none⟩) hbw] at d7;rw [<-hb0.cell (p:=⟨b,off+k*11+8,none⟩) hbw] at d8;rw [<-hb0.cell (p:=⟨b,off+k*11+9,none⟩) hbw] at d9;rw [<-hb0.cell (p:=⟨b,off+k*11+10,none⟩) hbw] at d10;have HU:=Z9 (fun hh=>Fy (p:=p) (xs:=ss) (k:=k) hst hh);have HN:=Z9 (fun hh=>Fx (p:=p) (xs:=ss) hlt hh);clear hcl hst hb0;generalize Z8 ss k=s at *;obtain ⟨st,be,rk,my,gu,lo,hi,hd,ca,ut,wk⟩:=s;simp only at d0 d1 d2 d3 d4 d5 d6 d7 d8 d9 d10;have hbr:b<wr.heap.size:=Y0 hbw (uh BB).size;go_wp2_with fail;clear d0 d1 d2 d3 d4 d5 d6 d7 d8 d9 d10;obtain ⟨q,Hq⟩:=YV (p (st,be,rk,my,gu,lo,hi,hd,ca,ut,wk));have hba:Below wr.heap.size wr (wr.alloc (.cells (I11 st be rk my gu lo hi hd ca ut wk) 38)):=ba _ _;replace BB:=bt BB hba;clear hba;refine (uh Hp st be rk my gu lo hi hd ca ut wk (uh BB)).mono ?_;rw [uh Hq];rintro e w1 ⟨rfl,hb⟩;replace BB:=bt BB hb;clear hb;cases q
    ·go_wp2_with fail
     go_ret;exact ⟨Z5 (uh HN (uh Hq)).symm,uh BB⟩
    ·go_wp2_with fail
     go_roundw
     case rel=>exact ⟨k+1,by omega,by go_num,uh HU (uh Hq),uh BB⟩
     case measure=>exact ms
   ·obtain rfl:k=ss.length:=by omega
    go_wp2_with fail;go_ret
    exact ⟨Z5 (uh Hst).symm,uh BB⟩):cB 163 #[v,.func (Fn.func f) #[] cap] w (.bool (X8 p ss ss.length)):=s p h (Z9 hp)
theorem Bu {w:World} {v:Value} {ss:List Z2} (h:Xc w v ss):cB 163 #[v,.func (Fn.func 248) #[] #[]] w (.bool (X8 Zm ss ss.length)):=zI h (fun st be rk my gu lo hi hd ca ut wk _ hb=>NS st be rk my gu lo hi hd ca ut wk _)
theorem IU {w:World} {v:Value} {ss:List Z2} {R n gc:Nat} {ga:Option Addr} (h:Xc w v ss) (hc0:w.cell? ⟨R,0,none⟩=some (.slice ga n gc)) (hR:R<w.heap.size):cB 163 #[v,.func (Fn.func 249) #[] #[.pointer (some ⟨R,0,none⟩)]] w (.bool (X8 (VD n) ss ss.length)):=zI h (fun st be rk my gu lo hi hd ca ut wk _ hb=>Ld st be rk my gu lo hi hd ca ut wk R ga n gc _ (((hb.cell (p:=⟨R,0,none⟩) hR).trans hc0)) (Y0 hR hb.size))
theorem Fv {w:World} {v:Value} {ss:List Yg} (h:Us w v ss):cB 251 #[v,.func (Fn.func 252) #[] #[]] w (.bool (X8 Vr ss ss.length)):=by
 obtain ⟨a,cap,rfl,hc,hm,hr⟩:=h;have Hr:=Z9 hr;clear hr;go_enter func251,ntmps251;go_wp2_with fail
 go_loopw [9] (fun i wr=> ∃ k:Nat,k<=ss.length/\i= .int .i64 k/\X8 Vr ss k=true/\Below w.heap.size w wr) (fun i _=>ss.length-(intOf i).toNat)
 case atStart=>exact ⟨0,ZA _,rfl,rfl,Z3 _ _⟩
 case round=>
  obtain ⟨k,hk,rfl,hst,hb0⟩:=hrel;have Hst:=Z9 hst;have BB:=Z9 hb0;by_cases hlt:k<ss.length
  ·have hlt1:(k:Int)<(ss.length:Int):=by omega
   rcases uh Hr with e0 | ⟨b,off,rfl,hbw,hcl⟩
   ·rw [e0] at hlt;simp at hlt
   obtain ⟨d0,d1,d2⟩:=Zh hcl hlt;rw [<-hb0.cell (p:=⟨b,off+k*3,none⟩) hbw] at d0;rw [<-hb0.cell (p:=⟨b,off+k*3+1,none⟩) hbw] at d1;rw [<-hb0.cell (p:=⟨b,off+k*3+2,none⟩) hbw] at d2;have HU:=Z9 (fun hh=>Fy (p:=Vr) (xs:=ss) (k:=k) hst hh);have HN:=Z9 (fun hh=>Fx (p:=Vr) (xs:=ss) hlt hh);clear hcl hst hb0;generalize Z8 ss k=s at *;obtain ⟨op,who,mk⟩:=s;simp only at d0 d1 d2;have hbr:b<wr.heap.size:=Y0 hbw (uh BB).size;go_wp2_with fail;clear d0 d1 d2;obtain ⟨q,Hq⟩:=YV (Vr (op,who,mk));have hba:Below wr.heap.size wr (wr.alloc (.cells #[.bool op,.int .i64 who,.int .i64 mk] 40)):=ba _ _;replace BB:=bt BB hba;clear hba;refine (Gg op who mk _).mono ?_;rw [uh Hq];rintro e w1 ⟨rfl,hb⟩;replace BB:=bt BB hb;clear hb;cases q
   ·go_wp2_with fail
    go_ret;exact ⟨Z5 (uh HN (uh Hq)).symm,uh BB⟩
   ·go_wp2_with fail
    go_roundw
    case rel=>exact ⟨k+1,by omega,by go_num,uh HU (uh Hq),uh BB⟩
    case measure=>exact ms
  ·obtain rfl:k=ss.length:=by omega
   go_wp2_with fail;go_ret;exact ⟨Z5 (uh Hst).symm,uh BB⟩
theorem DL {w:World} {v:Value} {ss:List Z2} (h:Xc w v ss) (hl:ss.length<=1000) {f:FuncId} {cap:Array Value} {av:Int->Int->Int->Int->Int->Int->Int->Int->Int->Int->Int->Array Value} {p:Z2->Bool} (hp:∀ (st be rk my gu lo hi hd ca ut wk:Int) {W:World},Below w.heap.size w W->Calls prog f (av st be rk my gu lo hi hd ca ut wk) W fun e w'=>e= .returned (.bool (p (st,be,rk,my,gu,lo,hi,hd,ca,ut,wk)))/\Below W.heap.size W w')
  (s:∀ (p:Z2->Bool),Xc w v ss->ss.length<=1000->Hid (∀ (st be rk my gu lo hi hd ca ut wk:Int) {W:World},Below w.heap.size w W->Calls prog f (av st be rk my gu lo hi hd ca ut wk) W fun e w'=>e= .returned (.bool (p (st,be,rk,my,gu,lo,hi,hd,ca,ut,wk)))/\Below W.heap.size W w')->Calls prog 208 #[v,.func (Fn.func f) #[] cap] w fun e w'=> ∃ v',e= .returned v'/\NumsAt w.heap.size w' v' (ZP p ss ss.length)/\Below w.heap.size w w':=by
  intro p h hl Hp;obtain ⟨a,cap,rfl,hc,hm,hr⟩:=h;have Hr:=Z9 hr;clear hr;go_enter func208,ntmps208;go_wp2_with fail
  go_loopw [5,11] (fun l i wr=> ∃ k:Nat,k<=ss.length/\i= .int .i64 k/\NumsAt w.heap.size wr l (ZP p ss k)/\Below w.heap.size w wr) (fun _ i _=>ss.length-(intOf i).toNat)
  case atStart=>exact ⟨0,ZA _,rfl,Zq rfl (Z0 _),(ba _ _)⟩
  case round=>
   obtain ⟨k,hk,rfl,hln,hb0⟩:=hrel;obtain ⟨la,lc,rfl⟩:=RecAt.shape hln;have HL:=Z9 hln;have BB:=Z9 hb0;have hfl:=U6 p ss k;clear hln;by_cases hlt:k<ss.length
   ·have hlt1:(k:Int)<(ss.length:Int):=by omega
    rcases uh Hr with e0 | ⟨b,off,rfl,hbw,hcl⟩
    ·rw [e0] at hlt;simp at hlt
    obtain ⟨d0,d1,d2,d3,d4,d5,d6,d7,d8,d9,d10⟩:=Zu hcl hlt;rw [<-hb0.cell (p:=⟨b,off+k*11,none⟩) hbw] at d0;rw [<-hb0.cell (p:=⟨b,off+k*11+1,none⟩) hbw] at d1;rw [<-hb0.cell (p:=⟨b,off+k*11+2,none⟩) hbw] at d2;rw [<-hb0.cell (p:=⟨b,off+k*11+3,none⟩) hbw] at d3;rw [<-hb0.cell (p:=⟨b,off+k*11+4,none⟩) hbw] at d4;rw [<-hb0.cell (p:=⟨b,off+k*11+5,none⟩) hbw] at d5;rw [<-hb0.cell (p:=⟨b,off+k*11+6,none⟩) hbw] at d6;rw [<-hb0.cell (p:=⟨b,off+k*11+7,none⟩) hbw] at d7;rw [<-hb0.cell (p:=⟨b,off+k*11+8,none⟩) hbw] at d8;rw [<-hb0.cell (p:=⟨b,off+k*11+9,none⟩) hbw] at d9;rw [<-hb0.cell (p:=⟨b,off+k*11+10,none⟩) hbw] at d10;have HY:=Z9 (fun hh=>Yy (p:=p) (xs:=ss) (k:=k) hh);have HN:=Z9 (fun hh=>XZ (p:=p) (xs:=ss) (k:=k) hh);clear hcl hb0;generalize Z8 ss k=s at *;obtain ⟨st,be,rk,my,gu,lo,hi,hd,ca,ut,wk⟩:=s;simp only at d0 d1 d2 d3 d4 d5 d6 d7 d8 d9 d10;have hbr:b<wr.heap.size:=Y0 hbw (uh BB).size;go_wp2_with fail;clear d0 d1 d2 d3 d4 d5 d6 d7 d8 d9 d10;obtain ⟨q,Hq⟩:=YV (p (st,be,rk,my,gu,lo,hi,hd,ca,ut,wk));have hba:Below wr.heap.size wr (wr.alloc (.cells (I11 st be rk my gu lo hi hd ca ut wk) 38)):=ba _ _;replace BB:=bt BB hba;replace HL:=Z9 (RecAt.later (uh HL) hba);clear hba;refine (uh Hp st be rk my gu lo hi hd ca ut wk (uh BB)).mono ?_;rw [uh Hq];rintro e w1 ⟨rfl,hb⟩;replace BB:=bt BB hb;replace HL:=Z9 (RecAt.later (uh HL) hb);clear hb;cases q
    ·go_wp2_with fail
     go_roundw
     case rel=>exact ⟨k+1,by omega,by go_num,by rw [uh HN (uh Hq)];exact uh HL,uh BB⟩
     case measure=>exact ms
    ·have hsx:=(uh BB).size
     go_wp2_with (at_builtin;refine ZG tyN rfl (.tmp 19) (.tmp 21) 157 underlying157 rfl w.heap.size _ _ (ZP p ss k) [(k:Int)] rfl rfl (RecAt.later (uh HL) ((ba _ _))) (WH (k:Int) rfl (Z0 _) (by omega)) (by simp;omega) (by simp;omega) ?_;intro u9 w9 hp9 hg9 hat9;have HP9:=Z9 hp9;have HG9:=Z9 hg9;clear hp9 hg9 hat9)
     have hgo:∀ i,(Value.slice la (ZP p ss k).length lc).ownBlock=some i->w.heap.size<=i:=fun i e=>(RecAt.lt (uh HL) e).1;have hb9:Below w.heap.size w1 w9:=((Z3 _ _).alloc hsx _).trans ((Z3 _ _).grown (uh HG9) (by simp;omega) hgo);have hb8:=(uh BB).trans hb9;go_wp2_with fail;go_roundw
     case rel=>exact ⟨k+1,by omega,by go_num,by rw [uh HY (uh Hq)];exact uh HP9,hb8⟩
     case measure=>exact ms
   ·obtain rfl:k=ss.length:=by omega
    go_wp2_with fail;go_ret
    exact ⟨_,rfl,uh HL,uh BB⟩):Calls prog 208 #[v,.func (Fn.func f) #[] cap] w fun e w'=> ∃ v',e= .returned v'/\NumsAt w.heap.size w' v' (ZP p ss ss.length)/\Below w.heap.size w w':=s p h hl (Z9 hp)
theorem IG {w:World} {v:Value} {ss:List Z2} {R:Nat} {bn:Int} (h:Xc w v ss) (hl:ss.length<=1000) (hc0:w.cell? ⟨R,0,none⟩=some (.int .i64 bn)) (hR:R<w.heap.size):Calls prog 208 #[v,.func (Fn.func 209) #[] #[.pointer (some ⟨R,0,none⟩)]] w fun e w'=> ∃ v',e= .returned v'/\NumsAt w.heap.size w' v' (ZP (atB bn) ss ss.length)/\Below w.heap.size w w':=DL h hl (fun st be rk my gu lo hi hd ca ut wk _ hb=>JH st be rk my gu lo hi hd ca ut wk bn R _ (((hb.cell (p:=⟨R,0,none⟩) hR).trans hc0)) (Y0 hR hb.size))
theorem Nk {w:World} {v:Value} {ss:List Z2} {R:Nat} {bn:Int} (h:Xc w v ss) (hl:ss.length<=1000) (hc0:w.cell? ⟨R,0,none⟩=some (.int .i64 bn)) (hR:R<w.heap.size):Calls prog 208 #[v,.func (Fn.func 291) #[] #[.pointer (some ⟨R,0,none⟩)]] w fun e w'=> ∃ v',e= .returned v'/\NumsAt w.heap.size w' v' (ZP (Yw bn) ss ss.length)/\Below w.heap.size w w':=DL h hl (fun st be rk my gu lo hi hd ca ut wk _ hb=>N9 st be rk my gu lo hi hd ca ut wk bn R _ (((hb.cell (p:=⟨R,0,none⟩) hR).trans hc0)) (Y0 hR hb.size))
theorem Lk {w:World} {v:Value} {ss:List Yg} (h:Us w v ss) (hl:ss.length<=1000):Calls prog 253 #[v,.func (Fn.func 125) #[] #[]] w fun e w'=> ∃ v',e= .returned v'/\NumsAt w.heap.size w' v' (ZP Sr ss ss.length)/\Below w.heap.size w w':=by
 obtain ⟨a,cap,rfl,hc,hm,hr⟩:=h;have Hr:=Z9 hr;clear hr;go_enter func253,ntmps253;go_wp2_with fail
 go_loopw [5,11] (fun l i wr=> ∃ k:Nat,k<=ss.length/\i= .int .i64 k/\NumsAt w.heap.size wr l (ZP Sr ss k)/\Below w.heap.size w wr) (fun _ i _=>ss.length-(intOf i).toNat)
 case atStart=>exact ⟨0,ZA _,rfl,Zq rfl (Z0 _),(ba _ _)⟩
 case round=>
  obtain ⟨k,hk,rfl,hln,hb0⟩:=hrel;obtain ⟨la,lc,rfl⟩:=RecAt.shape hln;have HL:=Z9 hln;have BB:=Z9 hb0;have hfl:=U6 Sr ss k;clear hln;by_cases hlt:k<ss.length
  ·have hlt1:(k:Int)<(ss.length:Int):=by omega
   rcases uh Hr with e0 | ⟨b,off,rfl,hbw,hcl⟩
   ·rw [e0] at hlt;simp at hlt
   obtain ⟨d0,d1,d2⟩:=Zh hcl hlt;rw [<-hb0.cell (p:=⟨b,off+k*3,none⟩) hbw] at d0;rw [<-hb0.cell (p:=⟨b,off+k*3+1,none⟩) hbw] at d1;rw [<-hb0.cell (p:=⟨b,off+k*3+2,none⟩) hbw] at d2;have HY:=Z9 (fun hh=>Yy (p:=Sr) (xs:=ss) (k:=k) hh);have HN:=Z9 (fun hh=>XZ (p:=Sr) (xs:=ss) (k:=k) hh);clear hcl hb0;generalize Z8 ss k=s at *;obtain ⟨op,who,mk⟩:=s;simp only at d0 d1 d2;have hbr:b<wr.heap.size:=Y0 hbw (uh BB).size;go_wp2_with fail;clear d0 d1 d2;obtain ⟨q,Hq⟩:=YV (Sr (op,who,mk));have hba:Below wr.heap.size wr (wr.alloc (.cells #[.bool op,.int .i64 who,.int .i64 mk] 40)):=ba _ _;replace BB:=bt BB hba;replace HL:=Z9 (RecAt.later (uh HL) hba);clear hba;refine ck (Calls.bool_of (P8 op who mk _) (uh Hq)) fun w1 hb=> ?_;replace BB:=bt BB hb;replace HL:=Z9 (RecAt.later (uh HL) hb);clear hb;cases q
   ·go_wp2_with fail
    go_roundw
    case rel=>exact ⟨k+1,by omega,by go_num,by rw [uh HN (uh Hq)];exact uh HL,uh BB⟩
    case measure=>exact ms
   ·have hsx:=(uh BB).size
    go_wp2_with (at_builtin;refine ZG tyN rfl (.tmp 19) (.tmp 21) 157 underlying157 rfl w.heap.size _ _ (ZP Sr ss k) [(k:Int)] rfl rfl (RecAt.later (uh HL) ((ba _ _))) (WH (k:Int) rfl (Z0 _) (by omega)) (by simp;omega) (by simp;omega) ?_;intro u9 w9 hp9 hg9 hat9;have HP9:=Z9 hp9;have HG9:=Z9 hg9;clear hp9 hg9 hat9)
    have hgo:∀ i,(Value.slice la (ZP Sr ss k).length lc).ownBlock=some i->w.heap.size<=i:=fun i e=>(RecAt.lt (uh HL) e).1;have hb9:Below w.heap.size w1 w9:=((Z3 _ _).alloc hsx _).trans ((Z3 _ _).grown (uh HG9) (by simp;omega) hgo);have hb8:=(uh BB).trans hb9;go_wp2_with fail;go_roundw
    case rel=>exact ⟨k+1,by omega,by go_num,by rw [uh HY (uh Hq)];exact uh HP9,hb8⟩
    case measure=>exact ms
  ·obtain rfl:k=ss.length:=by omega
   go_wp2_with fail;go_ret;exact ⟨_,rfl,uh HL,uh BB⟩
def LC (m:Z6) (s:Z2):Int:=Zl (pushS m s) (m.sm.length:Int)
def SK (m:Z6) (rank may guild:Int):Z6 × Int:=
 if ZM m then (if Zm (XV rank may guild) && decide (guild<m.gd.length) then (if m.sm.length=12 then (m,4) else (if LC m (XV rank may guild)<0 then (m,2) else
  (ZH (setS (pushS m (XV rank may guild)) m.sm.length (Jw (XV rank may guild) (LC m (XV rank may guild)) (WO m (LC m (XV rank may guild))))),0))) else (m,3)) else (W7,3)
theorem GM {rank may guild:Int} (h:Zm (XV rank may guild)=true):YN (XV rank may guild)=true:=by
 unfold Zm at h;rw [Q9 (by show (1:Int) ≠ 0;omega),Bool.false_or] at h;exact h
theorem GL {m:Z6} (h:Loose m) {rank may guild:Int} (hs:Zm (XV rank may guild)=true) (hg:guild<m.gd.length):Loose (pushS m (XV rank may guild))\/m.sm.length>=12:=by
 by_cases hl:m.sm.length<12
 ·left
  obtain ⟨j,hj,_⟩:=h.openD;exact h.pushS hl (Xi.2 (.inr ⟨GM hs,hg,by show (0:Int)<_;omega⟩)) (Uq rfl)
 ·right;omega
theorem Ca {m:Z6} (h:Loose m) {b:Nat} (hb:b<m.dk.length):Wt (WO m (b:Int)) (Z8 m.dk b).2.2=true:=by
 have hmk:WO m (b:Int)=(Z8 m.dk b).2.2:=by unfold WO;simp
 obtain ⟨k0,k1⟩:=SL (h.desk b hb);rw [hmk];exact Pn (by omega) (by omega) (by omega) (by omega) (by omega) (by omega)
theorem YH {m:Z6} (h:Loose m):m.sm.length<=12:=by
 have hd:=h.head;unfold Yx at hd;simp only [ZO,YZ] at hd;exact hd.2.2.1
theorem DY {m:Z6} (h:ZM m=true) (rank may guild:Int):ZM (SK m rank may guild).1=true:=by
 unfold SK;rw [h];simp only [if_true]
 split
 ·rename_i hs
  simp only [ZO,YZ] at hs
  split
  ·exact h
  ·rename_i hl
   split
   ·exact h
   ·rename_i hb
    have hlo:=ZU h;have h12:=YH hlo
    have hx:Loose (pushS m (XV rank may guild)):=by
     rcases GL hlo hs.1 hs.2 with e | e
     ·exact e
     ·omega
    rcases Ul (pushS m (XV rank may guild)) (m.sm.length:Int) with ⟨e,_⟩ | ⟨b,hbl,e,hm⟩
    ·exact absurd (show LC m (XV rank may guild)<0 by unfold LC;rw [e];omega) hb
    ·have ec:LC m (XV rank may guild)=(b:Int):=e
     rw [ec];unfold Zk at hm;simp only [ZO,Zp] at hm
     have hat:Z8 (pushS m (XV rank may guild)).sm m.sm.length=XV rank may guild:=by
      show Z8 (m.sm++[XV rank may guild]) m.sm.length=_;rw [Vn,if_pos rfl]
     rw [hat] at hm;obtain ⟨k1,k2⟩:=Gr (m:=pushS m (XV rank may guild)) (s:=XV rank may guild) (b:=b) (had:=WO m (b:Int)) hx (GM hs.1) hs.2 hbl hm.1 hm.2 (Ca hlo hbl);exact YS (hx.setS (by unfold pushS;simp) k1 k2)
 ·exact h
def DK (m:Z6) (s:Z2) (b:Int):Int:=YB (YY (Xs s) (WO m s.2.1) (WO m b)) (WO m b)
def OD (m:Z6) (k:Nat) (b:Int):Z6:=setS m k (Jw (Z8 m.sm k) b (DK m (Z8 m.sm k) b))
def Td (m:Z6) (who:Int):Z6 × Int:=
 if ZM m then (if Yn m who then (if (Z8 m.sm who.toNat).1=1 then (if Zl m who<0 then (m,2) else (if YA (OD m who.toNat (Zl m who)) then (ZH (OD m who.toNat (Zl m who)),0) else (m,4))) else (m,2)) else (m,1)) else (W7,3)
theorem Fm {m:Z6} (h:ZM m=true) (who:Int):ZM (Td m who).1=true:=by
 unfold Td;rw [h];simp only [if_true]
 split
 ·split
  ·split
   ·exact h
   ·split
    ·rename_i hl
     exact YS (Ro hl)
    ·exact h
  ·exact h
 ·exact h
theorem Km (m:Z6) (k:Nat) (s t:Z2):setS (setS m k s) k t=setS m k t:=by unfold setS;simp
def VS (m:Z6) (k:Nat) (may:Int):Z6:=setS m k (Sn (Z8 m.sm k) may)
def Vu (m:Z6) (who may:Int):Z6 × Int:=
 if ZM m then (if Yn m who then (if inB may 1 255 then (if ZL (Z8 m.sm who.toNat) && !V6 may (Z8 m.sm who.toNat).2.1 then
  (if Zl (VS m who.toNat may) who<0 then (m,2) else (ZH (setS (VS m who.toNat may) who.toNat (putS (VS m who.toNat may) (Sn (Z8 m.sm who.toNat) may) (Zl (VS m who.toNat may) who))),0))
  else (ZH (VS m who.toNat may),0)) else (m,3)) else (m,1)) else (W7,3)
theorem Ke {s:Z2} {may:Int} (h:YN s=true) (m0:1<=may) (m1:may<=255):YN (Sn s may)=true:=by
 obtain ⟨st,be,rk,my,gu,lo',hi',hd,ca,ut,wk⟩:=s;obtain ⟨x0,x1,x2,x3,x4,x5,x6,x7,x8,x9⟩:=Y2 h;exact Ud x0 x1 x2 ⟨m0,m1⟩ x4 x5 x6 x7 x8 x9
theorem Fz {m:Z6} (h:ZM m=true) (who may:Int):ZM (Vu m who may).1=true:=by
 unfold Vu;rw [h];simp only [if_true]
 split
 ·rename_i hw
  obtain ⟨k,rfl,hk,hs⟩:=YK hw;rw [show ((k:Int)).toNat=k by simp];have hlo:=ZU h
  split
  ·rename_i hm
   obtain ⟨m0,m1⟩:=ZN hm
   split
   ·rename_i hp
    simp only [ZO,Bool.not_eq_true'] at hp
    split
    ·exact h
    ·rename_i hb
     rcases Ul (VS m k may) (k:Int) with ⟨e,_⟩ | ⟨b,hbl,e,hma⟩
     ·exact absurd (show Zl (VS m k may) (k:Int)<0 by rw [e];omega) hb
     ·rw [e]
      obtain ⟨p,g1,b1⟩:=hlo.limits hk hs;obtain ⟨a0,a1,a2,a3,a4⟩:=hlo.at hk hp.1;unfold Zk at hma;simp only [ZO,Zp] at hma
      have hat:Z8 (VS m k may).sm k=Sn (Z8 m.sm k) may:=by
       show Z8 (m.sm.set k _) k=_;rw [ZD hk,if_pos rfl]
      rw [hat] at hma;have:=Ml (m:=m) hlo (s:=Sn (Z8 m.sm k) may) (b:=b) (Ke p m0 m1) hp.1 g1 a0 a1 a4 hbl hma.1 hma.2;unfold VS;rw [Km];exact YS (hlo.setS hk this.1 this.2)
   ·rename_i hp
    refine YS (Ao hlo hk hs m0 m1 ?_);cases h1:ZL (Z8 m.sm k)
    ·exact .inl rfl
    ·right
     cases h2:V6 may (Z8 m.sm k).2.1
     ·rw [h1,h2] at hp;exact absurd rfl hp
     ·rfl
  ·exact h
 ·exact h
def Qq (m:Z6) (who g:Int):Z6 × Int:=
 if Yn m who then (if inB g (-1) ((m.gd.length:Int)-1) then (ZH (setS m who.toNat (I8 (Z8 m.sm who.toNat) g)),0) else (m,3)) else (m,1)
theorem Eh {m:Z6} (h:ZM m=true) (who g:Int):ZM (Qq m who g).1=true:=by
 unfold Qq
 split
 ·rename_i hw
  obtain ⟨k,rfl,hk,hs⟩:=YK hw;rw [show ((k:Int)).toNat=k by simp]
  split
  ·rename_i hg
   have:=ZN hg;exact YS (BU (ZU h) hk hs this.1 (by omega))
  ·exact h
 ·exact h
def SH (m:Z6) (r:Nat):Int:=Xk (ZQ m.rm r) (Y3 m r m.dk.length).1
theorem CP {m:Z6} (h:Loose m) {r:Nat} (hr:r<m.rm.length):0<=SH m r/\SH m r<(ZQ m.rm r).2.length:=by
 have hd:=h.head;unfold Yx at hd;simp only [ZO,YZ] at hd;obtain ⟨r1,r2,r3,r4⟩:=Zj hd.1;have hmem:ZQ m.rm r ∈ m.rm:=by unfold ZQ;simp [List.getD,hr]
 have hrb:=List.all_eq_true.1 r3 _ hmem;have hu:=QU m r (YH h) m.dk.length
 have hlen:1<=(ZQ m.rm r).2.length:=by
  have hx:=hrb;unfold Y8 at hx;simp only [ZO] at hx;have:=ZN hx.2.1;omega
 have hn:=MA (Y3 m r m.dk.length).1 (ZQ m.rm r).2 hlen;unfold SH Xk;rw [hrb,Zn (by omega) (by omega)];simp only [Bool.and_self,if_true];omega
def Pm (m:Z6):Nat->Z6
 | 0=>m
 | k+1=>Ik (Pm m k) k (SH m k)
theorem Qx (m:Z6):∀ k,(Pm m k).rm=m.rm/\(Pm m k).gd=m.gd/\(Pm m k).sm=m.sm/\(Pm m k).dk=m.dk/\(Pm m k).now=m.now/\(Pm m k).pc.length=m.pc.length
 | 0=>⟨rfl,rfl,rfl,rfl,rfl,rfl⟩
 | k+1=>by
  obtain ⟨a,b,c,d,e,f⟩:=Qx m k;refine ⟨a,b,c,d,e,?_⟩;show ((Pm m k).pc.set k _).length=_;rw [V1,f]
theorem JK {m:Z6} (h:Loose m):∀ k,k<=m.pc.length->Loose (Pm m k)
 | 0,_=>h
 | k+1,hk=>by
  have ih:=JK h k (by omega);have hd:=h.head;unfold Yx at hd;simp only [ZO,YZ] at hd;have hr:k<m.rm.length:=by have:=hd.2.2.2.2.1;omega
  have hw:=CP h hr;have hs:=(Qx m k).1;exact J0 ih (by rw [hs];exact hr) hw.1 (by rw [hs];exact hw.2)
def DN (m:Z6):Z6:=ZH (Pm m m.pc.length)
theorem Bw {m:Z6} (h:ZM m=true):ZM (DN m)=true:=YS (JK (ZU h) _ (Z0 _))
def SQ (m:Z6) (b:Int):Int:=(Z7 (ZQ m.rm (Xl m.rm b)).2 (Z8 m.pc (Xl m.rm b)).toNat).1
def yU (s:Z2) (u:Int):Z2:=(s.1,s.2.1,s.2.2.1,s.2.2.2.1,s.2.2.2.2.1,s.2.2.2.2.2.1,s.2.2.2.2.2.2.1,s.2.2.2.2.2.2.2.1,s.2.2.2.2.2.2.2.2.1,u,s.2.2.2.2.2.2.2.2.2.2)
def Bp (s:Z2):Int:=s.2.2.2.2.2.2.2.2.2.1
def PV (m:Z6) (n:Int) (s:Z2):Option Z2:=
 if s.1=0 then some s else if s.1=3 then (if (WC s (n*SQ m s.2.1)).2 then some (yU (WC s (n*SQ m s.2.1)).1 (ZF (Bp (WC s (n*SQ m s.2.1)).1) (SQ m s.2.1) n)) else none) else some (yU s (ZF (Bp s) 0 n))
def Xu (m:Z6) (n:Int):Nat->Option (List Z2)
 | 0=>some m.sm
 | k+1=>match Xu m n k with
  | none=>none
  | some ss=>match PV m n (Z8 m.sm k) with
   | none=>none
   | some t=>some (ss.set k t)
theorem OA {m:Z6} {n:Int} : ∀ {k:Nat} {ss:List Z2},Xu m n k=some ss->ss.length=m.sm.length/\ ∀ j,k<=j->Z8 ss j=Z8 m.sm j
 | 0,ss,h=>by cases h;exact ⟨rfl,fun _ _=>rfl⟩
 | k+1,ss,h=>by
  unfold Xu at h;cases ht:Xu m n k with
  | none=>rw [ht] at h;cases h
  | some s0=>
   rw [ht] at h;simp only at h;cases h1:PV m n (Z8 m.sm k) with
   | none=>rw [h1] at h;cases h
   | some t=>
    rw [h1] at h;cases h;obtain ⟨e1,e2⟩:=OA ht;refine ⟨by simpa using e1,fun j hj=> ?_⟩;rw [<-e2 j (by omega)];unfold Z8;simp [List.getD,List.getElem?_set_ne (show k ≠ j by omega)]
theorem Oz {m:Z6} {n:Int} {k:Nat} : ∀ d,Xu m n k=none->Xu m n (k+d)=none
 | 0,h=>h
 | d+1,h=>by
  have:=Oz d h;show Xu m n (k+d+1)=none;unfold Xu;rw [this]
def RY (m:Z6) (n:Int) (ss:List Z2):Z6:={ m with sm:=ss,now:=m.now+n }
def RX (m:Z6) (n:Int):Z6 × Int:=
 if ZM m then (if inB n 1 20 then (match Xu m n m.sm.length with
  | none=>(m,4)
  | some ss=>if YA (RY m n ss) then (ZH (RY m n ss),0) else (m,4)) else (m,3)) else (W7,3)
theorem Fa {m:Z6} (h:ZM m=true) (n:Int):ZM (RX m n).1=true:=by
 unfold RX;rw [h];simp only [if_true]
 split
 ·split
  ·exact h
  ·split
   ·rename_i hl
    exact YS (Ro hl)
   ·exact h
 ·exact h
def YM (m:Z6) (who:Int):Int:=if ZM m && Yn m who then ZC m who else -1
def Ve (m:Z6) (b:Int):Int:=if ZM m && Y1 m b then Zx m b (-1) else -1
set_option linter.unusedSimpArgs false
set_option maxRecDepth 100000
theorem My {B g:Nat} {w:World} (hg:g=w.heap.size) (hB:B<=g):OwnHall B (w.alloc (.cells #[] 130)) (.slice (some ⟨g,0,none⟩) 0 0) []:=by
 subst hg;exact ⟨⟨by simp [Rw],.inr ⟨_,0,#[],rfl,hB,heap_alloc_new w _,Z0 _,ZA _,by simp,by simp [Rw]⟩⟩,fun _ h=>(by cases h),fun _ h=>(by cases h),List.Pairwise.nil⟩
theorem DZ {w:World} {v:Value} {ps:List Z4} (h:IsPaces w v ps) (hl:ps.length<=1000):Calls prog 222 #[v] w fun e w'=> ∃ v',e= .returned v'/\PacesAt w.heap.size w' v' ps/\Below w.heap.size w w':=by
 have HR:=Z9 (IsPaces.rec (h.below ((Z3 _ _).alloc (Z0 _) (.cells #[] 139))));obtain ⟨a,cap,rfl,hc,hm,hr⟩:=h;clear hr;go_enter func222,ntmps222;go_wp2_with (at_builtin;refine ZG Bm rfl (.tmp 3) (.tmp 4) 199 underlying199 rfl w.heap.size _ _ [] ps rfl rfl (Zq rfl (Z0 _)) (uh HR) (by simp;omega) (by simp) ?_;intro u9 w9 hp9 hg9 hat9;rw [List.nil_append] at hp9;have HP9:=Z9 hp9;have HG9:=Z9 hg9;clear hp9 hg9 hat9)
 have hb9:Below w.heap.size w w9:=((ba _ _)).trans ((Z3 _ _).grown (uh HG9) (by simp) (fun i e=>by cases e;exact Z0 _));go_wp2_with fail;go_ret;exact ⟨_,rfl,uh HP9,hb9⟩
theorem LF {w:World} {v:Value} {rs:List ZY} (h:IsRooms w v rs) (hl:rs.length<=1000) (hp:∀ r ∈ rs,r.2.length<=1000) :
  Calls prog 166 #[.agg #[v]] w fun e w'=> ∃ v' qs,e= .returned (.agg #[v'])/\qs.map (·.1)=rs/\OwnHall w.heap.size w' v' qs/\Below w.heap.size w w':=by
 obtain ⟨a,cap,rfl,hc,hm,hr⟩:=h;have Hr:=Z9 hr;have HP:=Z9 hp;clear hr hp;go_enter func166,ntmps166;go_wp2_with fail
 go_loopw [3,10] (fun u i wr=> ∃ (k:Nat) (qs:List (ZY × Value)) (ua:Option Addr) (uc:Nat),k<=rs.length/\i= .int .i64 k/\u= .slice ua k uc/\Blk wr (w.heap.size+1) 26 #[.slice none 0 0]/\OwnHall (w.heap.size+2) wr (.slice ua k uc) qs/\qs.map (·.1)=rs.take k/\Below w.heap.size w wr) (fun _ i _=>rs.length-(intOf i).toNat)
 case atStart=>
  refine ⟨0,[],_,_,ZA _,rfl,rfl,?_,My (by simp) (by simp),rfl,(((ba _ _)).alloc (by simp) _).alloc (by simp;omega) _⟩;have k:=Blk.new (w.alloc (.cells #[.slice a rs.length cap] 26)) 26 #[.slice none 0 0];rw [XG] at k;exact k.alloc _
 case round=>
  obtain ⟨k,qs,ua,uc,hk,rfl,rfl,kr,ho,hq,hb⟩:=hrel;have hql:qs.length=k:=by have:=congrArg List.length hq;simp at this;omega
  have Hql:=Z9 hql;clear hql;have Kr:=Z9 kr;have Ho:=Z9 ho;have Hq:=Z9 hq;have Hb:=Z9 hb;have hsz:=kr.lt;by_cases hlt:k<rs.length
  ·have hlt1:(k:Int)<(rs.length:Int):=by omega
   rcases uh Hr with e0 | ⟨b,off,rfl,hbw,hcl⟩
   ·rw [e0] at hlt;simp at hlt
   obtain ⟨c0,pv,c1,hpv⟩:=hcl k hlt;rw [<-hb.cell (p:=⟨b,off+k*2,none⟩) hbw] at c0;rw [<-hb.cell (p:=⟨b,off+k*2+1,none⟩) hbw] at c1;have Hpv:=Z9 (hpv.below (hb.mono (Z0 _)));have hpl:=uh HP (ZQ rs k) (by unfold ZQ;simp [List.getD,hlt]);have Htk:Hid (rs.take (k+1)=rs.take k++[ZQ rs k]):=Z9 (by rw [List.take_succ_eq_append_getElem hlt];unfold ZQ;simp [List.getD,hlt]);generalize ZQ rs k=r at *;obtain ⟨n,ps⟩:=r;simp only at c0 hpl hpv;obtain ⟨pa,pc,rfl,_,_,_⟩:=hpv;have hbw':b<wr.heap.size:=by have:=hb.size;omega
   clear hcl kr ho hq hb;go_wp2_with fail;clear c0 c1;have hba:Below wr.heap.size wr (wr.alloc (.cells #[.int .i64 n,.slice pa ps.length pc] 130)):=ba _ _;have KB:Hid (Blk (wr.alloc (.cells #[.int .i64 n,.slice pa ps.length pc] 130)) wr.heap.size 130 #[.int .i64 n,.slice pa ps.length pc]):=Z9 (Blk.new wr _ _);replace Kr:=bl Kr hba;have HLB:Hid (∀ i,(Value.slice ua k uc).ownBlock=some i->i<wr.heap.size):=Z9 (fun i e=>((uh Ho).lt (.inl e)).2);replace Ho:=Z9 ((uh Ho).later hba);replace Hb:=Z9 ((uh Hb).trans (hba.mono (uh Hb).size));replace Hpv:=Z9 ((uh Hpv).below hba);have hsz2:w.heap.size+2<=(wr.alloc (.cells #[.int .i64 n,.slice pa ps.length pc] 130)).heap.size:=by have:=(uh Kr).lt;simp at this ⊢;omega
   clear hba;generalize wr.alloc (.cells #[.int .i64 n,.slice pa ps.length pc] 130)=X at *;generalize wr.heap.size=rb at *;have s0:=(uh KB).cell (i:=0) (v:= .int .i64 n) rfl;have s1:=(uh KB).cell (i:=1) (v:= .slice pa ps.length pc) rfl;refine ZI (S:=fun w'=>w'.cell? ⟨rb,0,none⟩=some (.int .i64 n)/\w'.cell? ⟨rb,1,none⟩=some (.slice pa ps.length pc)) (by kernel_rfl) (Wz _ _) (by kernel_rfl) ⟨s0,s1⟩ (fun hHeld=> ?_);simp only [WA,WB,YL,YF,Nat.zero_add,Nat.reduceAdd]
   iterate 5 refine tz ?_
   refine rd 5 rfl (fun K hK=> ?_);go_simp;refine (DZ ((uh Hpv).below (Z3 _ _).drew) hpl).mono ?_;rintro e9 w4 ⟨v4,rfl,hp4,hb4⟩;obtain ⟨pa4,pc4,rfl⟩:=PacesAt.shape hp4;have X4:Below X.heap.size X w4:=(Z3 X.heap.size X).drew.trans hb4;have HO4:Hid (PacesAt X.heap.size w4 (.slice pa4 ps.length pc4) ps):=Z9 hp4;have HX4:=Z9 X4;have hz4:=X4.size;have t0:=(X4.cell (p:=⟨rb,0,none⟩) (uh KB).lt).trans s0;have t1:=(X4.cell (p:=⟨rb,1,none⟩) (uh KB).lt).trans s1;clear hp4 hb4 X4;refine hK.out _ _ ⟨t0,t1⟩ (fun hHeld=> ?_);clear hK K
   (try simp only [Act.put,sA,sZ,sS])
   refine tp 6 ?_;have KB5:=((uh KB).below (uh HX4) (uh KB).lt).alloc (.cells #[.int .i64 n,.slice pa4 ps.length pc4] 130);have u0:=KB5.cell (i:=0) (v:= .int .i64 n) rfl;have u1:=KB5.cell (i:=1) (v:= .slice pa ps.length pc) rfl;refine rd 7 rfl (fun K hK=> ?_);go_simp;refine hK.out _ _ ⟨u0,u1⟩ (fun hHeld=> ?_);clear hK K
   (try simp only [Act.put,sA,sZ,sS])
   obtain ⟨v5,w5,hrun5,hown5,hg5,hat5⟩:=RR (w:=w4.alloc (.cells #[.int .i64 n,.slice pa4 ps.length pc4] 130)) (t:=24) (ty:=24) (base:=w.heap.size+2) (v:= .slice ua k uc) (n:=k) (xs:=Rw qs) underlying24 (World.ownsRow.alloc (by have h9:=((uh Ho).later (uh HX4)).row;rw [uh Hql] at h9;exact h9) _) (g:=w4.heap.size) (c:=1) (Y4 w4 (i:=0) rfl) (Y4 w4 (i:=1) rfl) rfl (by omega) (by simp;omega);obtain ⟨a5,c5,rfl⟩:=J8 hown5;have hn5:∀ i,(Value.slice ua k uc).ownBlock=some i->w.heap.size+2<=i/\i<X.heap.size:=fun i e=>(uh Ho).lt (.inl e);have hrbX:=(uh KB).lt;have RB:Hid (∀ i,(Value.slice ua k uc).ownBlock=some i->i ≠ rb):=Z9 (fun i e e2=>by have:=uh HLB i e;omega);have KB6:=KB5.same (w':=w5) (hg5.block _ KB5.lt (fun e=>uh RB _ e.symm rfl));have y0:=KB6.cell (i:=0) (v:= .int .i64 n) rfl;have y1:=KB6.cell (i:=1) (v:= .slice pa ps.length pc) rfl;have HO5:=Z9 hown5;have HG5:=Z9 hg5;have HA5:=Z9 hat5;have R5:=Z9 hrun5
   have X5:Hid (Below (w.heap.size+2) X w5):=Z9 (by
    have q1:Below X.heap.size X w4:=uh HX4;have q2:Below w4.heap.size w4 (w4.alloc (.cells #[.int .i64 n,.slice pa4 ps.length pc4] 130)):=ba _ _;have q3:Below (w.heap.size+2) (w4.alloc (.cells #[.int .i64 n,.slice pa4 ps.length pc4] 130)) w5:=(Z3 _ _).grown (uh HG5) (by have:=q1.size;simp;omega) (fun i e=>((uh Ho).lt (.inl e)).1)
    exact ((q1.mono (by omega)).trans (q2.mono (by have:=q1.size;omega))).trans q3)
   have hp5:OwnHall (w.heap.size+2) w5 (.slice a5 (k+1) c5) (qs++[((n,ps),.slice pa4 ps.length pc4)]):=by
    have q1:OwnHall (w.heap.size+2) w4 (.slice ua k uc) qs:=(uh Ho).later (uh HX4);have q2:PacesAt X.heap.size w4 (.slice pa4 ps.length pc4) ps:=uh HO4;have q3:PacesAt (w.heap.size+2) w4 (.slice pa4 ps.length pc4) ps:=q2.mono (by omega);refine OwnHall.push (w:=w4) (w1:=w5) (v:= .slice ua k uc) (o:= .cells #[.int .i64 n,.slice pa4 ps.length pc4] 130) q1 q3 ?_ ?_ ?_ (uh HG5) (uh HA5)
    ·intro b' e e'
     have h8:=(q2.lt e).1;have h9:=((uh Ho).lt (.inl e')).2;omega
    ·intro q hq' b' e e'
     have h8:=(q2.lt e').1;have h9:=((uh Ho).lt (.inr ⟨q,hq',e⟩)).2;omega
    ·rw [uh Hql];exact uh HO5
   have HP5:=Z9 hp5;clear hp5 hown5 hg5 hat5 hrun5 KB5 KB6;refine rd 8 rfl (fun K hK=> ?_);refine XY rfl (.tmp 14) (.tmp 21) 24 rfl rfl rfl (uh R5) ?_;refine hK.out _ _ ⟨y0,y1⟩ (fun hHeld=> ?_);clear hK K
   (try simp only [Act.put,sA,sZ,sS])
   refine wpAnyH_done (by kernel_rfl) ?_ _;refine ZK rfl rfl ?_;go_simp;clear hHeld;go_wp2_with fail;go_roundw
   case rel=>
    exact ⟨k+1,qs++[((n,ps),.slice pa4 ps.length pc4)],a5,c5,by omega,by go_num,rfl,(uh Kr).below (uh X5) (by omega),uh HP5,by rw [List.map_append,uh Hq,uh Htk];rfl,(uh Hb).trans ((uh X5).mono (by omega))⟩
   case measure=>exact ms
  ·obtain rfl:k=rs.length:=by omega
   have r0:=kr.cell (i:=0) rfl;have r1:=kr.free 0;go_wp2_with fail;rw [List.take_length] at hq;refine Zz (v:= .agg #[.slice ua rs.length uc]) (by simp [results,results166,go_sem, *]) rfl ⟨_,qs,rfl,hq,?_,?_⟩
   ·exact (ho.same fun i h0 hi=>heap_setCell_other _ _ _ _ (by show i ≠ w.heap.size+1;omega)).mono (by omega)
   ·exact hb.setCell (by show _<=w.heap.size+1;omega) _
def TI (rs:List ZY):Z6:=⟨rs,[],[],List.replicate (ZW rs).toNat (true,-1,0),List.replicate rs.length 0,0⟩
open Draw (St Off Row Cur)
theorem FullSmy.away {n₀ bc:Nat} {w w':World} {v0 v1 v2 v3 v4:Value} {m:Z6} {qs:List (ZY × Value)} (h:FullSmy n₀ w v0 v1 v2 v3 v4 m qs) (ho:Off bc w w') (hb:bc<n₀):FullSmy n₀ w' v0 v1 v2 v3 v4 m qs:=
 h.keep fun k e=>ho.block k (h.own e).2 (by have:=(h.own e).1;omega)
theorem Blk.away {bc R:Nat} {w w':World} {t:TypeId} {cs:Array Value} (h:Blk w R t cs) (ho:Off bc w w') (hb:R ≠ bc):Blk w' R t cs:=h.same (ho.block R h.lt hb)
theorem XD {bc:Nat} {w w':World} (h:Below w.heap.size w w'):Off bc w w':=⟨h.os,h.tape,h.output,h.size,fun k hk _=>h.block k hk⟩
theorem Off.newer {bc tb:Nat} {w0 w:World} (h:Off bc w0 w) (ht:w0.heap.size<=tb) (o:Nat) (v:Value):Off bc w0 (w.setCell ⟨tb,o,none⟩ v):=
 ⟨h.os,h.tape,h.output,by simpa using h.size,fun k hk hn=>(heap_setCell_other _ _ _ _ (by show k ≠ tb;omega)).trans (h.block k hk hn)⟩
theorem St.newer {a:Option Addr} {len cap bc tb:Nat} {w:World} (h:St a len cap bc w) (ht:bc<tb) (o:Nat) (v:Value):St a len cap bc (w.setCell ⟨tb,o,none⟩ v):=
 Xn h ((Z3 _ _).setCell (p:=⟨tb,o,none⟩) (by show bc+1<=tb;omega) _)
end Go.Proofs.YtgdpaigcmoifbaaGreat
