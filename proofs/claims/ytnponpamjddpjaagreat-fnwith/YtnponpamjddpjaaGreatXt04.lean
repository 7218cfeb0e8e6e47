/- Part 4 of what the proof rests on. No condition but those that a theorem names. -/
import Derived.Test.YtnponpamjddpjaaGreatXt03
import Derived.Deep.DeepCutAuto
set_option maxHeartbeats 8000000
set_option maxRecDepth 100000
namespace Go.Proofs.YtnponpamjddpjaaGreat
open Go.ChangeShapes Go.WideShapes Go.ChangeAt Go.RowKit Go.Sort
set_option linter.unusedVariables false
variable {w w' w0 w1 w2 w3 w₀ wr W W' X A B C : World} {v v0 v1 v2 v3 v4 u u0 u1 u2 u3 u4 : Value} {m : Z3}
theorem tyG:QT 97 3 (.agg #[.int .i64 0,.int .i64 0,.int .i64 0]) Xs:=⟨by kernel_rfl,rfl,Ye,by omega,by omega,fun x u hu=>by
 simp only [Xs,List.mem_cons,List.not_mem_nil,or_false] at hu
 rcases hu with rfl | rfl | rfl<;>rfl⟩
theorem tyS:QT 41 11 (.agg #[.int .i64 0,.int .i64 0,.int .i64 0,.int .i64 0,.int .i64 0,.int .i64 0,.int .i64 0,.int .i64 0,.int .i64 0,.int .i64 0,.int .i64 0]) ZR:=⟨by kernel_rfl,rfl,ZW,by omega,by omega,fun x u hu=>by
 simp only [ZR,List.mem_cons,List.not_mem_nil,or_false] at hu
 rcases hu with rfl | rfl | rfl | rfl | rfl | rfl | rfl | rfl | rfl | rfl | rfl<;>rfl⟩
theorem tyD:QT 55 3 (.agg #[.bool false,.int .i64 0,.int .i64 0]) XA:=⟨by kernel_rfl,rfl,ZF,by omega,by omega,fun x u hu=>by
 simp only [XA,List.mem_cons,List.not_mem_nil,or_false] at hu
 rcases hu with rfl | rfl | rfl<;>rfl⟩
theorem tyN:QT 2 1 (.int .i64 0) Uj:=⟨by kernel_rfl,rfl,YJ,by omega,by omega,fun x u hu=>by
 simp only [Uj,List.mem_cons,List.not_mem_nil,or_false] at hu
 rcases hu with rfl<;>rfl⟩
structure Few (m:Z3):Prop where
 rooms:m.rooms.length<=1000
 paces:∀ r ∈ m.rooms,r.2.length<=1000
 guilds:m.guilds.length<=1000
 smiths:m.smiths.length<=800
 desks:m.desks.length<=1000
 nums:m.paces.length<=1000
theorem I2 {n₀:Nat}  {qs:List (Z0 × Value)} (s0 s1 s2 s3:Nat) (hh:OwnHall n₀ w v0 qs) (hr:qs.map (·.1)=m.rooms) (hg:GuildsAt n₀ w v1 m.guilds) (hs:SmithsAt n₀ w v2 m.smiths) (hd:DesksAt n₀ w v3 m.desks) (hp:NumsAt n₀ w v4 m.paces)
  (l0:∀ b,(v0.ownBlock=some b\/ ∃ q ∈ qs,q.2.ownBlock=some b)->b<s0) (l1:∀ b,v1.ownBlock=some b->s0<=b/\b<s1) (l2:∀ b,v2.ownBlock=some b->s1<=b/\b<s2) (l3:∀ b,v3.ownBlock=some b->s2<=b/\b<s3) (l4:∀ b,v4.ownBlock=some b->s3<=b) (h1:s0<=s1) (h2:s1<=s2) (h3:s2<=s3) :
  FullSmy n₀ w v0 v1 v2 v3 v4 m qs:=by
 refine ⟨hh,hr,hg,hs,hd,hp,⟨?_,?_⟩,⟨?_,?_⟩,⟨?_,?_⟩,⟨?_,?_⟩,?_,?_,?_,?_,?_,?_⟩
 ·intro b e e';have:=(l1 b e).1;have:=l0 b (.inl e');omega
 ·intro q hq b e e';have:=(l1 b e).1;have:=l0 b (.inr ⟨q,hq,e'⟩);omega
 ·intro b e e';have:=(l2 b e).1;have:=l0 b (.inl e');omega
 ·intro q hq b e e';have:=(l2 b e).1;have:=l0 b (.inr ⟨q,hq,e'⟩);omega
 ·intro b e e';have:=(l3 b e).1;have:=l0 b (.inl e');omega
 ·intro q hq b e e';have:=(l3 b e).1;have:=l0 b (.inr ⟨q,hq,e'⟩);omega
 ·intro b e e';have:=l4 b e;have:=l0 b (.inl e');omega
 ·intro q hq b e e';have:=l4 b e;have:=l0 b (.inr ⟨q,hq,e'⟩);omega
 ·intro b e e';have:=l1 b e;have:=l2 b e';omega
 ·intro b e e';have:=l1 b e;have:=l3 b e';omega
 ·intro b e e';have:=l1 b e;have:=l4 b e';omega
 ·intro b e e';have:=l2 b e;have:=l3 b e';omega
 ·intro b e e';have:=l2 b e;have:=l4 b e';omega
 ·intro b e e';have:=l3 b e;have:=l4 b e';omega
theorem J3  {ps:List ZA} (h:XI w v ps) (hl:ps.length<=1000) :
  Calls Tryz.prog 155 #[v] w fun e w'=> ∃ v',e= .returned v'/\GuildsAt w.heap.size w' v' ps/\Below w.heap.size w w':=by
 have Hv:=Z9 h
 obtain ⟨a,cap,rfl,hc,hm,hr⟩:=h
 clear hr
 go_enter Tryz.func155,Tryz.ntmps155
 go_wp2_with (at_builtin;refine ZN tyG rfl (.tmp 3) (.tmp 4) 27 Tryz.underlying27 rfl w.heap.size _ _ [] ps rfl rfl (Zb rfl (Nat.le_refl _)) ((uh Hv).below ((Below.refl _ _).alloc (Nat.le_refl _) _)) (by simp;omega) (by simp) ?_;intro v' w1 hown hgrow hat)
 go_ret
 refine ⟨v',rfl,by simpa using hown,((Below.refl _ _).alloc (Nat.le_refl _) _).trans ((Below.refl _ _).grown hgrow (by simp) (fun k e=> ?_))⟩
 cases e;exact Nat.le_refl _
theorem ZC  (h:Smy w v0 v1 v2 v3 v4 m) (hF:Few m) :
  Calls Tryz.prog 84 #[.agg #[v0,v1,v2,v3,v4,.int .i64 m.now]] w fun e w'=> ∃ u0 u1 u2 u3 u4 qs,e= .returned (.agg #[u0,u1,u2,u3,u4,.int .i64 m.now])/\FullSmy w.heap.size w' u0 u1 u2 u3 u4 m qs/\Below w.heap.size w w':=by
 have Hv:=Z9 h
 have HF:=Z9 hF
 obtain ⟨a0,p0,a1,p1,a2,p2,a3,p3,a4,p4,rfl,rfl,rfl,rfl,rfl,_,_,_,_,_,_,_,_,_,_⟩:=h.five
 clear h hF
 go_enter Tryz.func84,Tryz.ntmps84
 go_wp2_with fail
 obtain ⟨W,hW,kb,kr,BB⟩:=YP w 32 (S6 a0 p0 a1 p1 a2 p2 a3 p3 a4 p4 m) 32 E6
 rw [hW]
 clear hW
 have hW:w.heap.size+2<=W.heap.size:=by have:=(uh kr).lt;omega
 refine (WC ((uh Hv).below (uh BB)).rooms (uh HF).rooms (uh HF).paces).mono ?_
 rintro e w1 ⟨u0,qs,rfl,hmap,hp,hb⟩
 have Hmap:=Z9 hmap
 clear hmap
 have n0:Hid (OwnHall (w.heap.size+2) w1 u0 qs):=Z9 (hp.mono hW)
 replace kb:=bl kb hb
 replace kr:=bl kr hb
 replace BB:=bt BB hb
 have hW1:w.heap.size+2<=w1.heap.size:=by have:=hb.size;omega
 obtain ⟨b0,q0,rfl⟩:=hp.shape
 have hql:qs.length=m.rooms.length:=by rw [<-uh Hmap,List.length_map]
 rw [hql] at n0 ⊢
 have L0:Hid (∀ b,((Value.slice b0 m.rooms.length q0).ownBlock=some b\/ ∃ q ∈ qs,q.2.ownBlock=some b)->b<w1.heap.size):=Z9 (fun b e=>((uh n0).lt e).2)
 clear hp hql hb hW
 have o0:=(uh kb).cell (i:=0) (v:= .slice a0 m.rooms.length p0) rfl
 have f0:=(uh kb).free 0
 go_upto_region 2 with fail
 clear o0 f0
 replace kb:Hid (Blk (w1.setCell ⟨w.heap.size,0,none⟩ (.slice b0 m.rooms.length q0)) w.heap.size 32 #[.slice b0 m.rooms.length q0,.slice a1 m.guilds.length p1,.slice a2 m.smiths.length p2,.slice a3 m.desks.length p3,.slice a4 m.paces.length p4,.int .i64 m.now]):=Z9 ((uh kb).set 0 _)
 replace kr:Hid (Blk (w1.setCell ⟨w.heap.size,0,none⟩ (.slice b0 m.rooms.length q0)) (w.heap.size+1) 32 #[.slice none 0 0,.slice none 0 0,.slice none 0 0,.slice none 0 0,.slice none 0 0,.int .i64 0]):=Z9 ((uh kr).other (a:=⟨w.heap.size,0,none⟩) (by show w.heap.size+1 ≠ w.heap.size;omega) _)
 replace BB:Hid (Below w.heap.size w (w1.setCell ⟨w.heap.size,0,none⟩ (.slice b0 m.rooms.length q0))):=Z9 ((uh BB).setCell (p:=⟨w.heap.size,0,none⟩) (Nat.le_refl _) _)
 replace n0:=Z9 ((uh n0).set_old w.heap.size 0 (.slice b0 m.rooms.length q0) (by omega))
 have g0:w1.heap.size<=(w1.setCell ⟨w.heap.size,0,none⟩ (.slice b0 m.rooms.length q0)).heap.size:=by simp
 generalize w1.setCell ⟨w.heap.size,0,none⟩ (.slice b0 m.rooms.length q0)=X0 at *
 have c1:=(uh kb).cell (i:=1) (v:= .slice a1 m.guilds.length p1) rfl
 go_wp2_with fail
 clear c1
 refine (J3 ((uh Hv).below (uh BB)).guilds (uh HF).guilds).mono ?_
 rintro e w2 ⟨u1,rfl,hp,hb⟩
 have n1:Hid (GuildsAt (w.heap.size+2) w2 u1 m.guilds):=Z9 (RecAt.mono hp (by omega))
 have M1:Hid (∀ b,u1.ownBlock=some b->w1.heap.size<=b/\b<w2.heap.size):=Z9 (fun b e=>⟨Nat.le_trans g0 (RecAt.lt hp e).1,(RecAt.lt hp e).2⟩)
 replace kb:=bl kb hb
 replace kr:=bl kr hb
 replace n0:=Z9 ((uh n0).later hb)
 replace BB:=bt BB hb
 have z1:w1.heap.size<=w2.heap.size:=Nat.le_trans g0 hb.size
 obtain ⟨b1,q1,rfl⟩:=RecAt.shape hp
 clear hp hb
 have o1:=(uh kb).cell (i:=1) (v:= .slice a1 m.guilds.length p1) rfl
 have f1:=(uh kb).free 1
 go_upto_region 3 with fail
 clear o1 f1
 replace kb:Hid (Blk (w2.setCell ⟨w.heap.size,1,none⟩ (.slice b1 m.guilds.length q1)) w.heap.size 32 #[.slice b0 m.rooms.length q0,.slice b1 m.guilds.length q1,.slice a2 m.smiths.length p2,.slice a3 m.desks.length p3,.slice a4 m.paces.length p4,.int .i64 m.now]):=Z9 ((uh kb).set 1 _)
 replace kr:Hid (Blk (w2.setCell ⟨w.heap.size,1,none⟩ (.slice b1 m.guilds.length q1)) (w.heap.size+1) 32 #[.slice none 0 0,.slice none 0 0,.slice none 0 0,.slice none 0 0,.slice none 0 0,.int .i64 0]):=Z9 ((uh kr).other (a:=⟨w.heap.size,1,none⟩) (by show w.heap.size+1 ≠ w.heap.size;omega) _)
 replace BB:Hid (Below w.heap.size w (w2.setCell ⟨w.heap.size,1,none⟩ (.slice b1 m.guilds.length q1))):=Z9 ((uh BB).setCell (p:=⟨w.heap.size,1,none⟩) (Nat.le_refl _) _)
 replace n0:=Z9 ((uh n0).set_old w.heap.size 1 (.slice b1 m.guilds.length q1) (by omega))
 replace n1:=Z9 (RecAt.set_old (uh n1) w.heap.size 1 (.slice b1 m.guilds.length q1) (by omega))
 have g1:w2.heap.size<=(w2.setCell ⟨w.heap.size,1,none⟩ (.slice b1 m.guilds.length q1)).heap.size:=by simp
 generalize w2.setCell ⟨w.heap.size,1,none⟩ (.slice b1 m.guilds.length q1)=X1 at *
 have c2:=(uh kb).cell (i:=2) (v:= .slice a2 m.smiths.length p2) rfl
 have HX:=Z9 (((uh Hv).below (uh BB)).smiths)
 have hl9:=(uh HF).smiths
 have hlt9:=(uh kb).lt
 go_upto_region 4 with (at_builtin;refine ZN tyS rfl (.tmp 11) (.tmp 13) 28 Tryz.underlying28 rfl X1.heap.size _ _ [] m.smiths rfl rfl (Zb rfl (Nat.le_refl _)) (IsRec.below (uh HX) ((Below.refl _ _).alloc (Nat.le_refl _) _)) (by simp;omega) (by simp) ?_;intro u2 w3 hp9 hg9 hat9;rw [List.nil_append] at hp9;have hb9:Below X1.heap.size X1 w3:=((Below.refl _ _).alloc (Nat.le_refl _) _).trans ((Below.refl _ _).grown hg9 (by simp) (fun k e=>by cases e;exact Nat.le_refl _));have k9:=(uh kb).below hb9 (uh kb).lt;have o9:=k9.cell (i:=2) (v:= .slice a2 m.smiths.length p2) rfl;have f9:=k9.free 2;obtain ⟨a9,c9,hu9⟩:=RecAt.shape hp9;subst hu9;have hp:=Z9 hp9;have hb:=Z9 hb9;clear hp9 hb9 k9 hg9 hat9)
 clear c2 HX hl9 hlt9 o9 f9
 replace hp:=uh hp
 replace hb:=uh hb
 obtain ⟨u2,hu2⟩:∃ u,u=Value.slice a9 m.smiths.length c9:=⟨_,rfl⟩
 rw [<-hu2] at hp ⊢
 clear hu2
 have n2:Hid (SmithsAt (w.heap.size+2) w3 u2 m.smiths):=Z9 (RecAt.mono hp (by omega))
 have M2:Hid (∀ b,u2.ownBlock=some b->w2.heap.size<=b/\b<w3.heap.size):=Z9 (fun b e=>⟨Nat.le_trans g1 (RecAt.lt hp e).1,(RecAt.lt hp e).2⟩)
 replace kb:=bl kb hb
 replace kr:=bl kr hb
 replace n0:=Z9 ((uh n0).later hb)
 replace n1:=Z9 (RecAt.later (uh n1) hb)
 replace BB:=bt BB hb
 have z2:w2.heap.size<=w3.heap.size:=Nat.le_trans g1 hb.size
 obtain ⟨b2,q2,rfl⟩:=RecAt.shape hp
 clear hp hb
 replace kb:Hid (Blk (w3.setCell ⟨w.heap.size,2,none⟩ (.slice b2 m.smiths.length q2)) w.heap.size 32 #[.slice b0 m.rooms.length q0,.slice b1 m.guilds.length q1,.slice b2 m.smiths.length q2,.slice a3 m.desks.length p3,.slice a4 m.paces.length p4,.int .i64 m.now]):=Z9 ((uh kb).set 2 _)
 replace kr:Hid (Blk (w3.setCell ⟨w.heap.size,2,none⟩ (.slice b2 m.smiths.length q2)) (w.heap.size+1) 32 #[.slice none 0 0,.slice none 0 0,.slice none 0 0,.slice none 0 0,.slice none 0 0,.int .i64 0]):=Z9 ((uh kr).other (a:=⟨w.heap.size,2,none⟩) (by show w.heap.size+1 ≠ w.heap.size;omega) _)
 replace BB:Hid (Below w.heap.size w (w3.setCell ⟨w.heap.size,2,none⟩ (.slice b2 m.smiths.length q2))):=Z9 ((uh BB).setCell (p:=⟨w.heap.size,2,none⟩) (Nat.le_refl _) _)
 replace n0:=Z9 ((uh n0).set_old w.heap.size 2 (.slice b2 m.smiths.length q2) (by omega))
 replace n1:=Z9 (RecAt.set_old (uh n1) w.heap.size 2 (.slice b2 m.smiths.length q2) (by omega))
 replace n2:=Z9 (RecAt.set_old (uh n2) w.heap.size 2 (.slice b2 m.smiths.length q2) (by omega))
 have g2:w3.heap.size<=(w3.setCell ⟨w.heap.size,2,none⟩ (.slice b2 m.smiths.length q2)).heap.size:=by simp
 generalize w3.setCell ⟨w.heap.size,2,none⟩ (.slice b2 m.smiths.length q2)=X2 at *
 have c3:=(uh kb).cell (i:=3) (v:= .slice a3 m.desks.length p3) rfl
 have HX:=Z9 (((uh Hv).below (uh BB)).desks)
 have hl9:=(uh HF).desks
 have hlt9:=(uh kb).lt
 go_upto_region 5 with (at_builtin;refine ZN tyD rfl (.tmp 16) (.tmp 18) 29 Tryz.underlying29 rfl X2.heap.size _ _ [] m.desks rfl rfl (Zb rfl (Nat.le_refl _)) (IsRec.below (uh HX) ((Below.refl _ _).alloc (Nat.le_refl _) _)) (by simp;omega) (by simp) ?_;intro u3 w4 hp9 hg9 hat9;rw [List.nil_append] at hp9;have hb9:Below X2.heap.size X2 w4:=((Below.refl _ _).alloc (Nat.le_refl _) _).trans ((Below.refl _ _).grown hg9 (by simp) (fun k e=>by cases e;exact Nat.le_refl _));have k9:=(uh kb).below hb9 (uh kb).lt;have o9:=k9.cell (i:=3) (v:= .slice a3 m.desks.length p3) rfl;have f9:=k9.free 3;obtain ⟨a9,c9,hu9⟩:=RecAt.shape hp9;subst hu9;have hp:=Z9 hp9;have hb:=Z9 hb9;clear hp9 hb9 k9 hg9 hat9)
 clear c3 HX hl9 hlt9 o9 f9
 replace hp:=uh hp
 replace hb:=uh hb
 obtain ⟨u3,hu3⟩:∃ u,u=Value.slice a9 m.desks.length c9:=⟨_,rfl⟩
 rw [<-hu3] at hp ⊢
 clear hu3
 have n3:Hid (DesksAt (w.heap.size+2) w4 u3 m.desks):=Z9 (RecAt.mono hp (by omega))
 have M3:Hid (∀ b,u3.ownBlock=some b->w3.heap.size<=b/\b<w4.heap.size):=Z9 (fun b e=>⟨Nat.le_trans g2 (RecAt.lt hp e).1,(RecAt.lt hp e).2⟩)
 replace kb:=bl kb hb
 replace kr:=bl kr hb
 replace n0:=Z9 ((uh n0).later hb)
 replace n1:=Z9 (RecAt.later (uh n1) hb)
 replace n2:=Z9 (RecAt.later (uh n2) hb)
 replace BB:=bt BB hb
 have z3:w3.heap.size<=w4.heap.size:=Nat.le_trans g2 hb.size
 obtain ⟨b3,q3,rfl⟩:=RecAt.shape hp
 clear hp hb
 replace kb:Hid (Blk (w4.setCell ⟨w.heap.size,3,none⟩ (.slice b3 m.desks.length q3)) w.heap.size 32 #[.slice b0 m.rooms.length q0,.slice b1 m.guilds.length q1,.slice b2 m.smiths.length q2,.slice b3 m.desks.length q3,.slice a4 m.paces.length p4,.int .i64 m.now]):=Z9 ((uh kb).set 3 _)
 replace kr:Hid (Blk (w4.setCell ⟨w.heap.size,3,none⟩ (.slice b3 m.desks.length q3)) (w.heap.size+1) 32 #[.slice none 0 0,.slice none 0 0,.slice none 0 0,.slice none 0 0,.slice none 0 0,.int .i64 0]):=Z9 ((uh kr).other (a:=⟨w.heap.size,3,none⟩) (by show w.heap.size+1 ≠ w.heap.size;omega) _)
 replace BB:Hid (Below w.heap.size w (w4.setCell ⟨w.heap.size,3,none⟩ (.slice b3 m.desks.length q3))):=Z9 ((uh BB).setCell (p:=⟨w.heap.size,3,none⟩) (Nat.le_refl _) _)
 replace n0:=Z9 ((uh n0).set_old w.heap.size 3 (.slice b3 m.desks.length q3) (by omega))
 replace n1:=Z9 (RecAt.set_old (uh n1) w.heap.size 3 (.slice b3 m.desks.length q3) (by omega))
 replace n2:=Z9 (RecAt.set_old (uh n2) w.heap.size 3 (.slice b3 m.desks.length q3) (by omega))
 replace n3:=Z9 (RecAt.set_old (uh n3) w.heap.size 3 (.slice b3 m.desks.length q3) (by omega))
 have g3:w4.heap.size<=(w4.setCell ⟨w.heap.size,3,none⟩ (.slice b3 m.desks.length q3)).heap.size:=by simp
 generalize w4.setCell ⟨w.heap.size,3,none⟩ (.slice b3 m.desks.length q3)=X3 at *
 have c4:=(uh kb).cell (i:=4) (v:= .slice a4 m.paces.length p4) rfl
 have HX:=Z9 (((uh Hv).below (uh BB)).paces)
 have hl9:=(uh HF).nums
 have hlt9:=(uh kb).lt
 go_upto_region 6 with (at_builtin;refine ZN tyN rfl (.tmp 21) (.tmp 23) 30 Tryz.underlying30 rfl X3.heap.size _ _ [] m.paces rfl rfl (Zb rfl (Nat.le_refl _)) (IsRec.below (uh HX) ((Below.refl _ _).alloc (Nat.le_refl _) _)) (by simp;omega) (by simp) ?_;intro u4 w5 hp9 hg9 hat9;rw [List.nil_append] at hp9;have hb9:Below X3.heap.size X3 w5:=((Below.refl _ _).alloc (Nat.le_refl _) _).trans ((Below.refl _ _).grown hg9 (by simp) (fun k e=>by cases e;exact Nat.le_refl _));have k9:=(uh kb).below hb9 (uh kb).lt;have o9:=k9.cell (i:=4) (v:= .slice a4 m.paces.length p4) rfl;have f9:=k9.free 4;obtain ⟨a9,c9,hu9⟩:=RecAt.shape hp9;subst hu9;have hp:=Z9 hp9;have hb:=Z9 hb9;clear hp9 hb9 k9 hg9 hat9)
 clear c4 HX hl9 hlt9 o9 f9
 replace hp:=uh hp
 replace hb:=uh hb
 obtain ⟨u4,hu4⟩:∃ u,u=Value.slice a9 m.paces.length c9:=⟨_,rfl⟩
 rw [<-hu4] at hp ⊢
 clear hu4
 have n4:Hid (NumsAt (w.heap.size+2) w5 u4 m.paces):=Z9 (RecAt.mono hp (by omega))
 have M4:Hid (∀ b,u4.ownBlock=some b->w4.heap.size<=b/\b<w5.heap.size):=Z9 (fun b e=>⟨Nat.le_trans g3 (RecAt.lt hp e).1,(RecAt.lt hp e).2⟩)
 replace kb:=bl kb hb
 replace kr:=bl kr hb
 replace n0:=Z9 ((uh n0).later hb)
 replace n1:=Z9 (RecAt.later (uh n1) hb)
 replace n2:=Z9 (RecAt.later (uh n2) hb)
 replace n3:=Z9 (RecAt.later (uh n3) hb)
 replace BB:=bt BB hb
 have z4:w4.heap.size<=w5.heap.size:=Nat.le_trans g3 hb.size
 obtain ⟨b4,q4,rfl⟩:=RecAt.shape hp
 clear hp hb
 replace kb:Hid (Blk (w5.setCell ⟨w.heap.size,4,none⟩ (.slice b4 m.paces.length q4)) w.heap.size 32 #[.slice b0 m.rooms.length q0,.slice b1 m.guilds.length q1,.slice b2 m.smiths.length q2,.slice b3 m.desks.length q3,.slice b4 m.paces.length q4,.int .i64 m.now]):=Z9 ((uh kb).set 4 _)
 replace kr:Hid (Blk (w5.setCell ⟨w.heap.size,4,none⟩ (.slice b4 m.paces.length q4)) (w.heap.size+1) 32 #[.slice none 0 0,.slice none 0 0,.slice none 0 0,.slice none 0 0,.slice none 0 0,.int .i64 0]):=Z9 ((uh kr).other (a:=⟨w.heap.size,4,none⟩) (by show w.heap.size+1 ≠ w.heap.size;omega) _)
 replace BB:Hid (Below w.heap.size w (w5.setCell ⟨w.heap.size,4,none⟩ (.slice b4 m.paces.length q4))):=Z9 ((uh BB).setCell (p:=⟨w.heap.size,4,none⟩) (Nat.le_refl _) _)
 replace n0:=Z9 ((uh n0).set_old w.heap.size 4 (.slice b4 m.paces.length q4) (by omega))
 replace n1:=Z9 (RecAt.set_old (uh n1) w.heap.size 4 (.slice b4 m.paces.length q4) (by omega))
 replace n2:=Z9 (RecAt.set_old (uh n2) w.heap.size 4 (.slice b4 m.paces.length q4) (by omega))
 replace n3:=Z9 (RecAt.set_old (uh n3) w.heap.size 4 (.slice b4 m.paces.length q4) (by omega))
 replace n4:=Z9 (RecAt.set_old (uh n4) w.heap.size 4 (.slice b4 m.paces.length q4) (by omega))
 have g4:w5.heap.size<=(w5.setCell ⟨w.heap.size,4,none⟩ (.slice b4 m.paces.length q4)).heap.size:=by simp
 generalize w5.setCell ⟨w.heap.size,4,none⟩ (.slice b4 m.paces.length q4)=X4 at *
 obtain ⟨c0,c1,c2,c3,c4,c5⟩:=(uh kb).c6
 obtain ⟨o0,o1,o2,o3,o4,o5⟩:=(uh kr).c6
 obtain ⟨f0,f1,f2,f3,f4,f5⟩:=(uh kr).f6
 go_wp2_with fail
 refine bodyPost_ret (v:= .agg #[.slice b0 m.rooms.length q0,.slice b1 m.guilds.length q1,.slice b2 m.smiths.length q2,.slice b3 m.desks.length q3,.slice b4 m.paces.length q4,.int .i64 m.now]) (by simp [results,Tryz.results84,go_sem, *]) rfl ⟨_,_,_,_,_,qs,rfl,?_,?_⟩
 ·refine FullSmy.mono (n₀:=w.heap.size+2) (I2 w1.heap.size w2.heap.size w3.heap.size w4.heap.size ?_ (uh Hmap) ?_ ?_ ?_ ?_ (uh L0) (uh M1) (uh M2) (uh M3) (fun b e=>(uh M4 b e).1) z1 z2 z3) (by omega)
  ·iterate 6 (refine OwnHall.set_old ?_ _ _ _ (by omega))
   exact uh n0
  ·iterate 6 (refine RecAt.set_old ?_ _ _ _ (by omega))
   exact uh n1
  ·iterate 6 (refine RecAt.set_old ?_ _ _ _ (by omega))
   exact uh n2
  ·iterate 6 (refine RecAt.set_old ?_ _ _ _ (by omega))
   exact uh n3
  ·iterate 6 (refine RecAt.set_old ?_ _ _ _ (by omega))
   exact uh n4
 ·iterate 6 (refine Below.setCell ?_ (by show _<=w.heap.size+1;omega) _)
  exact uh BB
set_option linter.unusedSimpArgs false
set_option maxRecDepth 100000
theorem PJ {B g:Nat} (hg:g=w.heap.size) (hB:B<=g):OwnHall B (w.alloc (.cells #[] 61)) (.slice (some ⟨g,0,none⟩) 0 0) []:=by
 subst hg
 exact ⟨⟨by simp [TU],.inr ⟨_,0,#[],rfl,hB,heap_alloc_new w _,Nat.le_refl _,Nat.zero_le _,by simp,by simp [TU]⟩⟩,fun _ h=>(by cases h),fun _ h=>(by cases h),List.Pairwise.nil⟩
theorem JE  {ps:List Z6} (h:IsPaces w v ps) (hl:ps.length<=1000):Calls Tryz.prog 208 #[v] w fun e w'=> ∃ v',e= .returned v'/\PacesAt w.heap.size w' v' ps/\Below w.heap.size w w':=by
 have HR:=Z9 (IsPaces.rec (h.below ((Below.refl _ _).alloc (Nat.le_refl _) (.cells #[] 150))))
 obtain ⟨a,cap,rfl,hc,hm,hr⟩:=h
 clear hr
 go_enter Tryz.func208,Tryz.ntmps208
 go_wp2_with (at_builtin;refine ZN GK rfl (.tmp 3) (.tmp 4) 188 Tryz.underlying188 rfl w.heap.size _ _ [] ps rfl rfl (Zb rfl (Nat.le_refl _)) (uh HR) (by simp;omega) (by simp) ?_;intro u9 w9 hp9 hg9 hat9;rw [List.nil_append] at hp9;have HP9:=Z9 hp9;have HG9:=Z9 hg9;clear hp9 hg9 hat9)
 have hb9:Below w.heap.size w w9:=((Below.refl _ _).alloc (Nat.le_refl _) _).trans ((Below.refl _ _).grown (uh HG9) (by simp) (fun i e=>by cases e;exact Nat.le_refl _))
 go_wp2_with fail
 go_ret
 exact ⟨_,rfl,uh HP9,hb9⟩
theorem Pe  {rs:List Z0} (h:IsRooms w v rs) (hl:rs.length<=1000) (hp:∀ r ∈ rs,r.2.length<=1000) :
  Calls Tryz.prog 146 #[.agg #[v]] w fun e w'=> ∃ v' qs,e= .returned (.agg #[v'])/\qs.map (·.1)=rs/\OwnHall w.heap.size w' v' qs/\Below w.heap.size w w':=by
 obtain ⟨a,cap,rfl,hc,hm,hr⟩:=h
 have Hr:=Z9 hr
 have HP:=Z9 hp
 clear hr hp
 go_enter Tryz.func146,Tryz.ntmps146
 go_wp2_with fail
 go_loopw [3,10] (fun u i wr=> ∃ (k:Nat) (qs:List (Z0 × Value)) (ua:Option Addr) (uc:Nat),k<=rs.length/\i= .int .i64 k/\u= .slice ua k uc/\Blk wr (w.heap.size+1) 26 #[.slice none 0 0]/\OwnHall (w.heap.size+2) wr (.slice ua k uc) qs/\qs.map (·.1)=rs.take k/\Below w.heap.size w wr) (fun _ i _=>rs.length-(intOf i).toNat)
 case atStart=>
  refine ⟨0,[],_,_,Nat.zero_le _,rfl,rfl,?_,PJ (by simp) (by simp),rfl,(((Below.refl _ _).alloc (Nat.le_refl _) _).alloc (by simp) _).alloc (by simp;omega) _⟩
  have k:=Blk.new (w.alloc (.cells #[.slice a rs.length cap] 26)) 26 #[.slice none 0 0]
  rw [World.size_alloc] at k
  exact k.alloc _
 case round=>
  obtain ⟨k,qs,ua,uc,hk,rfl,rfl,kr,ho,hq,hb⟩:=hrel
  have hql:qs.length=k:=by have:=congrArg List.length hq;simp at this;omega
  have Hql:=Z9 hql
  clear hql
  have Kr:=Z9 kr
  have Ho:=Z9 ho
  have Hq:=Z9 hq
  have Hb:=Z9 hb
  have hsz:=kr.lt
  by_cases hlt:k<rs.length
  ·have hlt1:(k:Int)<(rs.length:Int):=by omega
   rcases uh Hr with e0 | ⟨b,off,rfl,hbw,hcl⟩
   ·rw [e0] at hlt;simp at hlt
   obtain ⟨c0,pv,c1,hpv⟩:=hcl k hlt
   rw [<-hb.cell (p:=⟨b,off+k*2,none⟩) hbw] at c0
   rw [<-hb.cell (p:=⟨b,off+k*2+1,none⟩) hbw] at c1
   have Hpv:=Z9 (hpv.below (hb.mono (Nat.le_refl _)))
   have hpl:=uh HP (ZV rs k) (by unfold ZV;simp [List.getD,hlt])
   have Htk:Hid (rs.take (k+1)=rs.take k++[ZV rs k]):=Z9 (by rw [List.take_succ_eq_append_getElem hlt];unfold ZV;simp [List.getD,hlt])
   generalize ZV rs k=r at *
   obtain ⟨n,ps⟩:=r
   simp only at c0 hpl hpv
   obtain ⟨pa,pc,rfl,_,_,_⟩:=hpv
   have hbw':b<wr.heap.size:=by have:=hb.size;omega
   clear hcl kr ho hq hb
   go_wp2_with fail
   clear c0 c1
   have hba:Below wr.heap.size wr (wr.alloc (.cells #[.int .i64 n,.slice pa ps.length pc] 61)):=(Below.refl _ _).alloc (Nat.le_refl _) _
   have KB:Hid (Blk (wr.alloc (.cells #[.int .i64 n,.slice pa ps.length pc] 61)) wr.heap.size 61 #[.int .i64 n,.slice pa ps.length pc]):=Z9 (Blk.new wr _ _)
   replace Kr:=bl Kr hba
   have HLB:Hid (∀ i,(Value.slice ua k uc).ownBlock=some i->i<wr.heap.size):=Z9 (fun i e=>((uh Ho).lt (.inl e)).2)
   replace Ho:=Z9 ((uh Ho).later hba)
   replace Hb:=Z9 ((uh Hb).trans (hba.mono (uh Hb).size))
   replace Hpv:=Z9 ((uh Hpv).below hba)
   have hsz2:w.heap.size+2<=(wr.alloc (.cells #[.int .i64 n,.slice pa ps.length pc] 61)).heap.size:=by have:=(uh Kr).lt;simp at this ⊢;omega
   clear hba
   generalize wr.alloc (.cells #[.int .i64 n,.slice pa ps.length pc] 61)=X at *
   generalize wr.heap.size=rb at *
   have s0:=(uh KB).cell (i:=0) (v:= .int .i64 n) rfl
   have s1:=(uh KB).cell (i:=1) (v:= .slice pa ps.length pc) rfl
   refine ZP (S:=fun w'=>w'.cell? ⟨rb,0,none⟩=some (.int .i64 n)/\w'.cell? ⟨rb,1,none⟩=some (.slice pa ps.length pc)) (by kernel_rfl) (List.cons_ne_nil _ _) (by kernel_rfl) ⟨s0,s1⟩ (fun hHeld=> ?_)
   simp only [List.dropLast_cons_cons,List.dropLast_singleton,List.length_cons,List.length_nil,Nat.zero_add,Nat.reduceAdd]
   (refine tk 0 rfl (by assumption) ?_;(try simp only [Act.put,sA,sZ,sS]))
   (refine tk 1 rfl (by assumption) ?_;(try simp only [Act.put,sA,sZ,sS]))
   (refine tk 2 rfl (by assumption) ?_;(try simp only [Act.put,sA,sZ,sS]))
   (refine tk 3 rfl (by assumption) ?_;(try simp only [Act.put,sA,sZ,sS]))
   (refine tk 4 rfl (by assumption) ?_;(try simp only [Act.put,sA,sZ,sS]))
   refine rd 5 rfl (fun K hK=> ?_)
   go_simp
   refine (JE ((uh Hpv).below (Below.refl _ _).drew) hpl).mono ?_
   rintro e9 w4 ⟨v4,rfl,hp4,hb4⟩
   obtain ⟨pa4,pc4,rfl⟩:=PacesAt.shape hp4
   have X4:Below X.heap.size X w4:=(Below.refl X.heap.size X).drew.trans hb4
   have HO4:Hid (PacesAt X.heap.size w4 (.slice pa4 ps.length pc4) ps):=Z9 hp4
   have HX4:=Z9 X4
   have hz4:=X4.size
   have t0:=(X4.cell (p:=⟨rb,0,none⟩) (uh KB).lt).trans s0
   have t1:=(X4.cell (p:=⟨rb,1,none⟩) (uh KB).lt).trans s1
   clear hp4 hb4 X4
   refine hK.out _ _ ⟨t0,t1⟩ (fun hHeld=> ?_)
   clear hK K
   (try simp only [Act.put,sA,sZ,sS])
   (refine tk 6 rfl (by assumption) ?_;(try simp only [Act.put,sA,sZ,sS]))
   have KB5:=((uh KB).below (uh HX4) (uh KB).lt).alloc (.cells #[.int .i64 n,.slice pa4 ps.length pc4] 61)
   have u0:=KB5.cell (i:=0) (v:= .int .i64 n) rfl
   have u1:=KB5.cell (i:=1) (v:= .slice pa ps.length pc) rfl
   refine rd 7 rfl (fun K hK=> ?_)
   go_simp
   refine hK.out _ _ ⟨u0,u1⟩ (fun hHeld=> ?_)
   clear hK K
   (try simp only [Act.put,sA,sZ,sS])
   obtain ⟨v5,w5,hrun5,hown5,hg5,hat5⟩:=Ud (w:=w4.alloc (.cells #[.int .i64 n,.slice pa4 ps.length pc4] 61)) (t:=24) (ty:=24) (base:=w.heap.size+2) (v:= .slice ua k uc) (n:=k) (xs:=TU qs) Tryz.underlying24 (World.ownsRow.alloc (by have h9:=((uh Ho).later (uh HX4)).row;rw [uh Hql] at h9;exact h9) _) (g:=w4.heap.size) (c:=1) (Z2 w4 (i:=0) rfl) (Z2 w4 (i:=1) rfl) rfl (by omega) (by simp;omega)
   obtain ⟨a5,c5,rfl⟩:=Oc hown5
   have hn5:∀ i,(Value.slice ua k uc).ownBlock=some i->w.heap.size+2<=i/\i<X.heap.size:=fun i e=>(uh Ho).lt (.inl e)
   have hrbX:=(uh KB).lt
   have RB:Hid (∀ i,(Value.slice ua k uc).ownBlock=some i->i ≠ rb):=Z9 (fun i e e2=>by have:=uh HLB i e;omega)
   have KB6:=KB5.same (w':=w5) (hg5.block _ KB5.lt (fun e=>uh RB _ e.symm rfl))
   have y0:=KB6.cell (i:=0) (v:= .int .i64 n) rfl
   have y1:=KB6.cell (i:=1) (v:= .slice pa ps.length pc) rfl
   have HO5:=Z9 hown5
   have HG5:=Z9 hg5
   have HA5:=Z9 hat5
   have R5:=Z9 hrun5
   have X5:Hid (Below (w.heap.size+2) X w5):=Z9 (by
    have q1:Below X.heap.size X w4:=uh HX4
    have q2:Below w4.heap.size w4 (w4.alloc (.cells #[.int .i64 n,.slice pa4 ps.length pc4] 61)):=(Below.refl _ _).alloc (Nat.le_refl _) _
    have q3:Below (w.heap.size+2) (w4.alloc (.cells #[.int .i64 n,.slice pa4 ps.length pc4] 61)) w5:=(Below.refl _ _).grown (uh HG5) (by have:=q1.size;simp;omega) (fun i e=>((uh Ho).lt (.inl e)).1)
    exact ((q1.mono (by omega)).trans (q2.mono (by have:=q1.size;omega))).trans q3)
   have hp5:OwnHall (w.heap.size+2) w5 (.slice a5 (k+1) c5) (qs++[((n,ps),.slice pa4 ps.length pc4)]):=by
    have q1:OwnHall (w.heap.size+2) w4 (.slice ua k uc) qs:=(uh Ho).later (uh HX4)
    have q2:PacesAt X.heap.size w4 (.slice pa4 ps.length pc4) ps:=uh HO4
    have q3:PacesAt (w.heap.size+2) w4 (.slice pa4 ps.length pc4) ps:=q2.mono (by omega)
    refine OwnHall.push (w:=w4) (w1:=w5) (v:= .slice ua k uc) (o:= .cells #[.int .i64 n,.slice pa4 ps.length pc4] 61) q1 q3 ?_ ?_ ?_ (uh HG5) (uh HA5)
    ·intro b' e e'
     have h8:=(q2.lt e).1
     have h9:=((uh Ho).lt (.inl e')).2
     omega
    ·intro q hq' b' e e'
     have h8:=(q2.lt e').1
     have h9:=((uh Ho).lt (.inr ⟨q,hq',e⟩)).2
     omega
    ·rw [uh Hql];exact uh HO5
   have HP5:=Z9 hp5
   clear hp5 hown5 hg5 hat5 hrun5 KB5 KB6
   refine rd 8 rfl (fun K hK=> ?_)
   refine Xi rfl (.tmp 14) (.tmp 21) 24 rfl rfl rfl (uh R5) ?_
   refine hK.out _ _ ⟨y0,y1⟩ (fun hHeld=> ?_)
   clear hK K
   (try simp only [Act.put,sA,sZ,sS])
   refine wpAnyH_done (by kernel_rfl) ?_ _
   refine ZI rfl rfl ?_
   go_simp
   clear hHeld
   go_wp2_with fail
   go_roundw
   case rel=>
    exact ⟨k+1,qs++[((n,ps),.slice pa4 ps.length pc4)],a5,c5,by omega,by go_num,rfl,(uh Kr).below (uh X5) (by omega),uh HP5,by rw [List.map_append,uh Hq,uh Htk];rfl,(uh Hb).trans ((uh X5).mono (by omega))⟩
   case measure=>simp [intOf];omega
  ·obtain rfl:k=rs.length:=by omega
   have r0:=kr.cell (i:=0) rfl
   have r1:=kr.free 0
   go_wp2_with fail
   rw [List.take_length] at hq
   refine bodyPost_ret (v:= .agg #[.slice ua rs.length uc]) (by simp [results,Tryz.results146,go_sem, *]) rfl ⟨_,qs,rfl,hq,?_,?_⟩
   ·exact (ho.same fun i h0 hi=>heap_setCell_other _ _ _ _ (by show i ≠ w.heap.size+1;omega)).mono (by omega)
   ·exact hb.setCell (by show _<=w.heap.size+1;omega) _
def Vp (rs:List Z0):Z3:=⟨rs,[],[],List.replicate (ZY rs).toNat (true,-1,0),List.replicate rs.length 0,0⟩
end Go.Proofs.YtnponpamjddpjaaGreat
