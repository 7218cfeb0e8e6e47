/- Part 8 of what the proof rests on. No condition but those that a theorem names. -/
import Derived.Test.YtffcgajndmhpkaaGreatDoorXt07
import Derived.Deep.DeepCutAuto
import Derived.Laws.StructEq
set_option maxHeartbeats 8000000
set_option maxRecDepth 100000
namespace Go.Proofs.YtffcgajndmhpkaaGreatDoor
open Go.ChangeShapes Go.WideShapes Go.ChangeAt Go.RowKit Go.Sort
set_option linter.unusedVariables false
variable {w w' w0 w1 w2 w3 w₀ wr W W' X A B C : World} {v v0 v1 v2 v3 v4 u u0 u1 u2 u3 u4 : Value} {m : Z6}
theorem tyG:PX 88 3 (.agg #[.int .i64 0,.int .i64 0,.int .i64 0]) Xo:=⟨by kernel_rfl,rfl,Ye,by omega,by omega,fun x u hu=>by
 simp only [Xo,List.mem_cons,List.not_mem_nil,or_false] at hu
 rcases hu with rfl | rfl | rfl<;>rfl⟩
theorem tyS:PX 39 11 (.agg E11) ZX:=⟨by kernel_rfl,rfl,ZW,by omega,by omega,fun x u hu=>by
 simp only [ZX,List.mem_cons,List.not_mem_nil,or_false] at hu
 rcases hu with rfl | rfl | rfl | rfl | rfl | rfl | rfl | rfl | rfl | rfl | rfl<;>rfl⟩
theorem tyD:PX 53 3 (.agg #[.bool false,.int .i64 0,.int .i64 0]) XA:=⟨by kernel_rfl,rfl,ZF,by omega,by omega,fun x u hu=>by
 simp only [XA,List.mem_cons,List.not_mem_nil,or_false] at hu
 rcases hu with rfl | rfl | rfl<;>rfl⟩
theorem tyN:PX 2 1 (.int .i64 0) TJ:=⟨by kernel_rfl,rfl,YH,by omega,by omega,fun x u hu=>by
 simp only [TJ,List.mem_cons,List.not_mem_nil,or_false] at hu
 rcases hu with rfl<;>rfl⟩
structure Few (m:Z6):Prop where
 rooms:m.rooms.length<=1000
 paces:∀ r ∈ m.rooms,r.2.length<=1000
 guilds:m.guilds.length<=1000
 smiths:m.smiths.length<=800
 desks:m.desks.length<=1000
 nums:m.paces.length<=1000
theorem F6 {n₀:Nat}  {qs:List (Z2 × Value)} (s0 s1 s2 s3:Nat) (hh:OwnHall n₀ w v0 qs) (hr:qs.map (·.1)=m.rooms) (hg:GuildsAt n₀ w v1 m.guilds) (hs:SmithsAt n₀ w v2 m.smiths) (hd:DesksAt n₀ w v3 m.desks) (hp:NumsAt n₀ w v4 m.paces)
  (l0:∀ b,(v0.ownBlock=some b\/ ∃ q ∈ qs,q.2.ownBlock=some b)->b<s0) (l1:∀ b,v1.ownBlock=some b->s0<=b/\b<s1) (l2:∀ b,v2.ownBlock=some b->s1<=b/\b<s2) (l3:∀ b,v3.ownBlock=some b->s2<=b/\b<s3) (l4:∀ b,v4.ownBlock=some b->s3<=b) (h1:s0<=s1) (h2:s1<=s2) (h3:s2<=s3) :
  FullSmy n₀ w v0 v1 v2 v3 v4 m qs:=by
 refine ⟨hh,hr,hg,hs,hd,hp,⟨?_,?_⟩,⟨?_,?_⟩,⟨?_,?_⟩,⟨?_,?_⟩,?_,?_,?_,?_,?_,?_⟩
 ·intro b e e';have:=(l1 b e).1;have:=l0 b (.inl e');omega
 ·intro q hq b e e';have:=(l1 b e).1;have:=l0 b (.inr ⟨q,hq,e'⟩);omega
 ·intro b e e';have:=(l2 b e).1;have:=l0 b (.inl e');omega
 ·intro q hq b e e';have:=(l2 b e).1;have:=l0 b (.inr ⟨q,hq,e'⟩);omega
 ·intro b e e';have:=(l3 b e).1;have:=l0 b (.inl e');omega
 ·intro q hq b e e';have:=(l3 b e).1;have:=l0 b (.inr ⟨q,hq,e'⟩);omega
 ·intro b e e';have:=l4 b e;have:=l0 b (.inl e');omega
 ·intro q hq b e e';have:=l4 b e;have:=l0 b (.inr ⟨q,hq,e'⟩);omega
 ·intro b e e';have:=l1 b e;have:=l2 b e';omega
 ·intro b e e';have:=l1 b e;have:=l3 b e';omega
 ·intro b e e';have:=l1 b e;have:=l4 b e';omega
 ·intro b e e';have:=l2 b e;have:=l3 b e';omega
 ·intro b e e';have:=l2 b e;have:=l4 b e';omega
 ·intro b e e';have:=l3 b e;have:=l4 b e';omega
theorem Ib  {ps:List ZA} (h:XJ w v ps) (hl:ps.length<=1000) :
  Calls Tryz.prog 99 #[v] w fun e w'=> ∃ v',e= .returned v'/\GuildsAt w.heap.size w' v' ps/\Below w.heap.size w w':=by
 have Hv:=Z9 h
 obtain ⟨a,cap,rfl,hc,hm,hr⟩:=h
 clear hr
 go_enter Tryz.func99,Tryz.ntmps99
 go_wp2_with (at_builtin;refine ZN tyG rfl (.tmp 3) (.tmp 4) 27 Tryz.underlying27 rfl w.heap.size _ _ [] ps rfl rfl (Y8 rfl (Nat.le_refl _)) ((uh Hv).below ((ba _ _))) (by simp;omega) (by simp) ?_;intro v' w1 hown hgrow hat)
 go_ret
 refine ⟨v',rfl,by simpa using hown,((ba _ _)).trans ((Below.refl _ _).grown hgrow (by simp) (fun k e=> ?_))⟩
 cases e;exact Nat.le_refl _
theorem Ys  (h:Smy w v0 v1 v2 v3 v4 m) (hF:Few m) :
  Calls Tryz.prog 39 #[.agg #[v0,v1,v2,v3,v4,.int .i64 m.now]] w fun e w'=> ∃ u0 u1 u2 u3 u4 qs,e= .returned (.agg #[u0,u1,u2,u3,u4,.int .i64 m.now])/\FullSmy w.heap.size w' u0 u1 u2 u3 u4 m qs/\Below w.heap.size w w':=by
 have Hv:=Z9 h
 have HF:=Z9 hF
 obtain ⟨a0,p0,a1,p1,a2,p2,a3,p3,a4,p4,rfl,rfl,rfl,rfl,rfl,_,_,_,_,_,_,_,_,_,_⟩:=h.five
 clear h hF
 go_enter Tryz.func39,Tryz.ntmps39
 go_wp2_with fail
 obtain ⟨W,hW,kb,kr,BB⟩:=YK w 32 (S6 a0 p0 a1 p1 a2 p2 a3 p3 a4 p4 m) 32 E6
 rw [hW]
 clear hW
 have hW:w.heap.size+2<=W.heap.size:=by have:=(uh kr).lt;omega
 refine (OC ((uh Hv).below (uh BB)).rooms (uh HF).rooms (uh HF).paces).mono ?_
 rintro e w1 ⟨u0,qs,rfl,hmap,hp,hb⟩
 have Hmap:=Z9 hmap
 clear hmap
 have n0:Hid (OwnHall (w.heap.size+2) w1 u0 qs):=Z9 (hp.mono hW)
 replace kb:=bl kb hb
 replace kr:=bl kr hb
 replace BB:=bt BB hb
 have hW1:w.heap.size+2<=w1.heap.size:=by have:=hb.size;omega
 obtain ⟨b0,q0,rfl⟩:=hp.shape
 have hql:qs.length=m.rooms.length:=by rw [<-uh Hmap,List.length_map]
 rw [hql] at n0 ⊢
 have L0:Hid (∀ b,((Value.slice b0 m.rooms.length q0).ownBlock=some b\/ ∃ q ∈ qs,q.2.ownBlock=some b)->b<w1.heap.size):=Z9 (fun b e=>((uh n0).lt e).2)
 clear hp hql hb hW
 have o0:=(uh kb).cell (i:=0) (v:= .slice a0 m.rooms.length p0) rfl
 have f0:=(uh kb).free 0
 go_upto_region 2 with fail
 clear o0 f0
 replace kb:Hid (Blk (w1.setCell ⟨w.heap.size,0,none⟩ (.slice b0 m.rooms.length q0)) w.heap.size 32 (S6 b0 q0 a1 p1 a2 p2 a3 p3 a4 p4 m)):=Z9 ((uh kb).set 0 _)
 replace kr:Hid (Blk (w1.setCell ⟨w.heap.size,0,none⟩ (.slice b0 m.rooms.length q0)) (w.heap.size+1) 32 E6):=Z9 ((uh kr).other (a:=⟨w.heap.size,0,none⟩) (by show w.heap.size+1 ≠ w.heap.size;omega) _)
 replace BB:Hid (Below w.heap.size w (w1.setCell ⟨w.heap.size,0,none⟩ (.slice b0 m.rooms.length q0))):=Z9 ((uh BB).setCell (p:=⟨w.heap.size,0,none⟩) (Nat.le_refl _) _)
 replace n0:=Z9 ((uh n0).set_old w.heap.size 0 (.slice b0 m.rooms.length q0) (by omega))
 have g0:w1.heap.size<=(w1.setCell ⟨w.heap.size,0,none⟩ (.slice b0 m.rooms.length q0)).heap.size:=by simp
 generalize w1.setCell ⟨w.heap.size,0,none⟩ (.slice b0 m.rooms.length q0)=X0 at *
 have c1:=(uh kb).cell (i:=1) (v:= .slice a1 m.guilds.length p1) rfl
 go_wp2_with fail
 clear c1
 refine (Ib ((uh Hv).below (uh BB)).guilds (uh HF).guilds).mono ?_
 rintro e w2 ⟨u1,rfl,hp,hb⟩
 have n1:Hid (GuildsAt (w.heap.size+2) w2 u1 m.guilds):=Z9 (RecAt.mono hp (by omega))
 have M1:Hid (∀ b,u1.ownBlock=some b->w1.heap.size<=b/\b<w2.heap.size):=Z9 (fun b e=>⟨Nat.le_trans g0 (RecAt.lt hp e).1,(RecAt.lt hp e).2⟩)
 replace kb:=bl kb hb
 replace kr:=bl kr hb
 replace n0:=Z9 ((uh n0).later hb)
 replace BB:=bt BB hb
 have z1:w1.heap.size<=w2.heap.size:=Nat.le_trans g0 hb.size
 obtain ⟨b1,q1,rfl⟩:=RecAt.shape hp
 clear hp hb
 have o1:=(uh kb).cell (i:=1) (v:= .slice a1 m.guilds.length p1) rfl
 have f1:=(uh kb).free 1
 go_upto_region 3 with fail
 clear o1 f1
 replace kb:Hid (Blk (w2.setCell ⟨w.heap.size,1,none⟩ (.slice b1 m.guilds.length q1)) w.heap.size 32 (S6 b0 q0 b1 q1 a2 p2 a3 p3 a4 p4 m)):=Z9 ((uh kb).set 1 _)
 replace kr:Hid (Blk (w2.setCell ⟨w.heap.size,1,none⟩ (.slice b1 m.guilds.length q1)) (w.heap.size+1) 32 E6):=Z9 ((uh kr).other (a:=⟨w.heap.size,1,none⟩) (by show w.heap.size+1 ≠ w.heap.size;omega) _)
 replace BB:Hid (Below w.heap.size w (w2.setCell ⟨w.heap.size,1,none⟩ (.slice b1 m.guilds.length q1))):=Z9 ((uh BB).setCell (p:=⟨w.heap.size,1,none⟩) (Nat.le_refl _) _)
 replace n0:=Z9 ((uh n0).set_old w.heap.size 1 (.slice b1 m.guilds.length q1) (by omega))
 replace n1:=Z9 (RecAt.set_old (uh n1) w.heap.size 1 (.slice b1 m.guilds.length q1) (by omega))
 have g1:w2.heap.size<=(w2.setCell ⟨w.heap.size,1,none⟩ (.slice b1 m.guilds.length q1)).heap.size:=by simp
 generalize w2.setCell ⟨w.heap.size,1,none⟩ (.slice b1 m.guilds.length q1)=X1 at *
 have c2:=(uh kb).cell (i:=2) (v:= .slice a2 m.smiths.length p2) rfl
 have HX:=Z9 (((uh Hv).below (uh BB)).smiths)
 have hl9:=(uh HF).smiths
 have hlt9:=(uh kb).lt
 go_upto_region 4 with (at_builtin;refine ZN tyS rfl (.tmp 11) (.tmp 13) 28 Tryz.underlying28 rfl X1.heap.size _ _ [] m.smiths rfl rfl (Y8 rfl (Nat.le_refl _)) (IsRec.below (uh HX) ((ba _ _))) (by simp;omega) (by simp) ?_;intro u2 w3 hp9 hg9 hat9;rw [List.nil_append] at hp9;have hb9:Below X1.heap.size X1 w3:=((ba _ _)).trans ((Below.refl _ _).grown hg9 (by simp) (fun k e=>by cases e;exact Nat.le_refl _));have k9:=(uh kb).below hb9 (uh kb).lt;have o9:=k9.cell (i:=2) (v:= .slice a2 m.smiths.length p2) rfl;have f9:=k9.free 2;obtain ⟨a9,c9,hu9⟩:=RecAt.shape hp9;subst hu9;have hp:=Z9 hp9;have hb:=Z9 hb9;clear hp9 hb9 k9 hg9 hat9)
 clear c2 HX hl9 hlt9 o9 f9
 replace hp:=uh hp
 replace hb:=uh hb
 obtain ⟨u2,hu2⟩:∃ u,u=Value.slice a9 m.smiths.length c9:=⟨_,rfl⟩
 rw [<-hu2] at hp ⊢
 clear hu2
 have n2:Hid (SmithsAt (w.heap.size+2) w3 u2 m.smiths):=Z9 (RecAt.mono hp (by omega))
 have M2:Hid (∀ b,u2.ownBlock=some b->w2.heap.size<=b/\b<w3.heap.size):=Z9 (fun b e=>⟨Nat.le_trans g1 (RecAt.lt hp e).1,(RecAt.lt hp e).2⟩)
 replace kb:=bl kb hb
 replace kr:=bl kr hb
 replace n0:=Z9 ((uh n0).later hb)
 replace n1:=Z9 (RecAt.later (uh n1) hb)
 replace BB:=bt BB hb
 have z2:w2.heap.size<=w3.heap.size:=Nat.le_trans g1 hb.size
 obtain ⟨b2,q2,rfl⟩:=RecAt.shape hp
 clear hp hb
 replace kb:Hid (Blk (w3.setCell ⟨w.heap.size,2,none⟩ (.slice b2 m.smiths.length q2)) w.heap.size 32 (S6 b0 q0 b1 q1 b2 q2 a3 p3 a4 p4 m)):=Z9 ((uh kb).set 2 _)
 replace kr:Hid (Blk (w3.setCell ⟨w.heap.size,2,none⟩ (.slice b2 m.smiths.length q2)) (w.heap.size+1) 32 E6):=Z9 ((uh kr).other (a:=⟨w.heap.size,2,none⟩) (by show w.heap.size+1 ≠ w.heap.size;omega) _)
 replace BB:Hid (Below w.heap.size w (w3.setCell ⟨w.heap.size,2,none⟩ (.slice b2 m.smiths.length q2))):=Z9 ((uh BB).setCell (p:=⟨w.heap.size,2,none⟩) (Nat.le_refl _) _)
 replace n0:=Z9 ((uh n0).set_old w.heap.size 2 (.slice b2 m.smiths.length q2) (by omega))
 replace n1:=Z9 (RecAt.set_old (uh n1) w.heap.size 2 (.slice b2 m.smiths.length q2) (by omega))
 replace n2:=Z9 (RecAt.set_old (uh n2) w.heap.size 2 (.slice b2 m.smiths.length q2) (by omega))
 have g2:w3.heap.size<=(w3.setCell ⟨w.heap.size,2,none⟩ (.slice b2 m.smiths.length q2)).heap.size:=by simp
 generalize w3.setCell ⟨w.heap.size,2,none⟩ (.slice b2 m.smiths.length q2)=X2 at *
 have c3:=(uh kb).cell (i:=3) (v:= .slice a3 m.desks.length p3) rfl
 have HX:=Z9 (((uh Hv).below (uh BB)).desks)
 have hl9:=(uh HF).desks
 have hlt9:=(uh kb).lt
 go_upto_region 5 with (at_builtin;refine ZN tyD rfl (.tmp 16) (.tmp 18) 29 Tryz.underlying29 rfl X2.heap.size _ _ [] m.desks rfl rfl (Y8 rfl (Nat.le_refl _)) (IsRec.below (uh HX) ((ba _ _))) (by simp;omega) (by simp) ?_;intro u3 w4 hp9 hg9 hat9;rw [List.nil_append] at hp9;have hb9:Below X2.heap.size X2 w4:=((ba _ _)).trans ((Below.refl _ _).grown hg9 (by simp) (fun k e=>by cases e;exact Nat.le_refl _));have k9:=(uh kb).below hb9 (uh kb).lt;have o9:=k9.cell (i:=3) (v:= .slice a3 m.desks.length p3) rfl;have f9:=k9.free 3;obtain ⟨a9,c9,hu9⟩:=RecAt.shape hp9;subst hu9;have hp:=Z9 hp9;have hb:=Z9 hb9;clear hp9 hb9 k9 hg9 hat9)
 clear c3 HX hl9 hlt9 o9 f9
 replace hp:=uh hp
 replace hb:=uh hb
 obtain ⟨u3,hu3⟩:∃ u,u=Value.slice a9 m.desks.length c9:=⟨_,rfl⟩
 rw [<-hu3] at hp ⊢
 clear hu3
 have n3:Hid (DesksAt (w.heap.size+2) w4 u3 m.desks):=Z9 (RecAt.mono hp (by omega))
 have M3:Hid (∀ b,u3.ownBlock=some b->w3.heap.size<=b/\b<w4.heap.size):=Z9 (fun b e=>⟨Nat.le_trans g2 (RecAt.lt hp e).1,(RecAt.lt hp e).2⟩)
 replace kb:=bl kb hb
 replace kr:=bl kr hb
 replace n0:=Z9 ((uh n0).later hb)
 replace n1:=Z9 (RecAt.later (uh n1) hb)
 replace n2:=Z9 (RecAt.later (uh n2) hb)
 replace BB:=bt BB hb
 have z3:w3.heap.size<=w4.heap.size:=Nat.le_trans g2 hb.size
 obtain ⟨b3,q3,rfl⟩:=RecAt.shape hp
 clear hp hb
 replace kb:Hid (Blk (w4.setCell ⟨w.heap.size,3,none⟩ (.slice b3 m.desks.length q3)) w.heap.size 32 (S6 b0 q0 b1 q1 b2 q2 b3 q3 a4 p4 m)):=Z9 ((uh kb).set 3 _)
 replace kr:Hid (Blk (w4.setCell ⟨w.heap.size,3,none⟩ (.slice b3 m.desks.length q3)) (w.heap.size+1) 32 E6):=Z9 ((uh kr).other (a:=⟨w.heap.size,3,none⟩) (by show w.heap.size+1 ≠ w.heap.size;omega) _)
 replace BB:Hid (Below w.heap.size w (w4.setCell ⟨w.heap.size,3,none⟩ (.slice b3 m.desks.length q3))):=Z9 ((uh BB).setCell (p:=⟨w.heap.size,3,none⟩) (Nat.le_refl _) _)
 replace n0:=Z9 ((uh n0).set_old w.heap.size 3 (.slice b3 m.desks.length q3) (by omega))
 replace n1:=Z9 (RecAt.set_old (uh n1) w.heap.size 3 (.slice b3 m.desks.length q3) (by omega))
 replace n2:=Z9 (RecAt.set_old (uh n2) w.heap.size 3 (.slice b3 m.desks.length q3) (by omega))
 replace n3:=Z9 (RecAt.set_old (uh n3) w.heap.size 3 (.slice b3 m.desks.length q3) (by omega))
 have g3:w4.heap.size<=(w4.setCell ⟨w.heap.size,3,none⟩ (.slice b3 m.desks.length q3)).heap.size:=by simp
 generalize w4.setCell ⟨w.heap.size,3,none⟩ (.slice b3 m.desks.length q3)=X3 at *
 have c4:=(uh kb).cell (i:=4) (v:= .slice a4 m.paces.length p4) rfl
 have HX:=Z9 (((uh Hv).below (uh BB)).paces)
 have hl9:=(uh HF).nums
 have hlt9:=(uh kb).lt
 go_upto_region 6 with (at_builtin;refine ZN tyN rfl (.tmp 21) (.tmp 23) 30 Tryz.underlying30 rfl X3.heap.size _ _ [] m.paces rfl rfl (Y8 rfl (Nat.le_refl _)) (IsRec.below (uh HX) ((ba _ _))) (by simp;omega) (by simp) ?_;intro u4 w5 hp9 hg9 hat9;rw [List.nil_append] at hp9;have hb9:Below X3.heap.size X3 w5:=((ba _ _)).trans ((Below.refl _ _).grown hg9 (by simp) (fun k e=>by cases e;exact Nat.le_refl _));have k9:=(uh kb).below hb9 (uh kb).lt;have o9:=k9.cell (i:=4) (v:= .slice a4 m.paces.length p4) rfl;have f9:=k9.free 4;obtain ⟨a9,c9,hu9⟩:=RecAt.shape hp9;subst hu9;have hp:=Z9 hp9;have hb:=Z9 hb9;clear hp9 hb9 k9 hg9 hat9)
 clear c4 HX hl9 hlt9 o9 f9
 replace hp:=uh hp
 replace hb:=uh hb
 obtain ⟨u4,hu4⟩:∃ u,u=Value.slice a9 m.paces.length c9:=⟨_,rfl⟩
 rw [<-hu4] at hp ⊢
 clear hu4
 have n4:Hid (NumsAt (w.heap.size+2) w5 u4 m.paces):=Z9 (RecAt.mono hp (by omega))
 have M4:Hid (∀ b,u4.ownBlock=some b->w4.heap.size<=b/\b<w5.heap.size):=Z9 (fun b e=>⟨Nat.le_trans g3 (RecAt.lt hp e).1,(RecAt.lt hp e).2⟩)
 replace kb:=bl kb hb
 replace kr:=bl kr hb
 replace n0:=Z9 ((uh n0).later hb)
 replace n1:=Z9 (RecAt.later (uh n1) hb)
 replace n2:=Z9 (RecAt.later (uh n2) hb)
 replace n3:=Z9 (RecAt.later (uh n3) hb)
 replace BB:=bt BB hb
 have z4:w4.heap.size<=w5.heap.size:=Nat.le_trans g3 hb.size
 obtain ⟨b4,q4,rfl⟩:=RecAt.shape hp
 clear hp hb
 replace kb:Hid (Blk (w5.setCell ⟨w.heap.size,4,none⟩ (.slice b4 m.paces.length q4)) w.heap.size 32 (S6 b0 q0 b1 q1 b2 q2 b3 q3 b4 q4 m)):=Z9 ((uh kb).set 4 _)
 replace kr:Hid (Blk (w5.setCell ⟨w.heap.size,4,none⟩ (.slice b4 m.paces.length q4)) (w.heap.size+1) 32 E6):=Z9 ((uh kr).other (a:=⟨w.heap.size,4,none⟩) (by show w.heap.size+1 ≠ w.heap.size;omega) _)
 replace BB:Hid (Below w.heap.size w (w5.setCell ⟨w.heap.size,4,none⟩ (.slice b4 m.paces.length q4))):=Z9 ((uh BB).setCell (p:=⟨w.heap.size,4,none⟩) (Nat.le_refl _) _)
 replace n0:=Z9 ((uh n0).set_old w.heap.size 4 (.slice b4 m.paces.length q4) (by omega))
 replace n1:=Z9 (RecAt.set_old (uh n1) w.heap.size 4 (.slice b4 m.paces.length q4) (by omega))
 replace n2:=Z9 (RecAt.set_old (uh n2) w.heap.size 4 (.slice b4 m.paces.length q4) (by omega))
 replace n3:=Z9 (RecAt.set_old (uh n3) w.heap.size 4 (.slice b4 m.paces.length q4) (by omega))
 replace n4:=Z9 (RecAt.set_old (uh n4) w.heap.size 4 (.slice b4 m.paces.length q4) (by omega))
 have g4:w5.heap.size<=(w5.setCell ⟨w.heap.size,4,none⟩ (.slice b4 m.paces.length q4)).heap.size:=by simp
 generalize w5.setCell ⟨w.heap.size,4,none⟩ (.slice b4 m.paces.length q4)=X4 at *
 obtain ⟨c0,c1,c2,c3,c4,c5⟩:=(uh kb).c6
 obtain ⟨o0,o1,o2,o3,o4,o5⟩:=(uh kr).c6
 obtain ⟨f0,f1,f2,f3,f4,f5⟩:=(uh kr).f6
 go_wp2_with fail
 refine bodyPost_ret (v:= .agg (S6 b0 q0 b1 q1 b2 q2 b3 q3 b4 q4 m)) (by simp [results,Tryz.results39,go_sem, *]) rfl ⟨_,_,_,_,_,qs,rfl,?_,?_⟩
 ·refine FullSmy.mono (n₀:=w.heap.size+2) (F6 w1.heap.size w2.heap.size w3.heap.size w4.heap.size ?_ (uh Hmap) ?_ ?_ ?_ ?_ (uh L0) (uh M1) (uh M2) (uh M3) (fun b e=>(uh M4 b e).1) z1 z2 z3) (by omega)
  ·iterate 6 (refine OwnHall.set_old ?_ _ _ _ (by omega))
   exact uh n0
  ·iterate 6 (refine RecAt.set_old ?_ _ _ _ (by omega))
   exact uh n1
  ·iterate 6 (refine RecAt.set_old ?_ _ _ _ (by omega))
   exact uh n2
  ·iterate 6 (refine RecAt.set_old ?_ _ _ _ (by omega))
   exact uh n3
  ·iterate 6 (refine RecAt.set_old ?_ _ _ _ (by omega))
   exact uh n4
 ·iterate 6 (refine Below.setCell ?_ (by show _<=w.heap.size+1;omega) _)
  exact uh BB
def YF:Z6:=⟨[],[],[],[],[],0⟩
def UT (m:Z6) (who:Int):Bool:=inB who 0 ((m.smiths.length:Int)-1) && !((Z8 m.smiths who.toNat).1 ==0)
theorem Xm {who:Int} (h:UT m who=true):∃ k:Nat,who=(k:Int)/\k<m.smiths.length/\(Z8 m.smiths k).1 ≠ 0:=by
 unfold UT at h
 simp only [Bool.and_eq_true,Bool.not_eq_true',beq_eq_false_iff_ne] at h
 have h1:=ZU h.1
 exact ⟨who.toNat,by omega,by omega,h.2⟩
theorem XE (h:Loose m):Few m:=by
 have hd:=h.head
 unfold YY at hd
 simp only [Bool.and_eq_true,decide_eq_true_eq] at hd
 obtain ⟨h1,h2,h3,h4,h5,_⟩:=hd
 obtain ⟨r1,r2,r3,r4⟩:=Zo h1
 have hg:=(Wk h2).2
 refine ⟨by omega,fun r hr=> ?_,by omega,by omega,by omega,by omega⟩
 have hrb:=List.all_eq_true.1 r3 r hr
 unfold Zn at hrb
 simp only [Bool.and_eq_true] at hrb
 have:=ZU hrb.2.1
 omega
def Tp (m:Z6) (who:Int):Z6 × Int:=
 if ZO m then (if UT m who then (if ZP (Z8 m.smiths who.toNat) then (ZQ (setS m who.toNat (stS (Z8 m.smiths who.toNat) 1)),0) else (m,2)) else (m,1)) else (YF,3)
def UN (m:Z6) (who:Int):Z6 × Int:=
 if ZO m then (if UT m who then (ZQ (setS m who.toNat XV),0) else (m,1)) else (YF,3)
def Vp (m:Z6) (who lo hi:Int):Z6 × Int:=
 if ZO m then (if UT m who then (if Yj lo hi then (ZQ (setS m who.toNat (Ii (Z8 m.smiths who.toNat) lo hi)),0) else (m,3)) else (m,1)) else (YF,3)
def Vt (m:Z6) (who rank:Int):Z6 × Int:=
 if ZO m then (if UT m who then (if (Yo (Z8 m.smiths who.toNat) rank).2 then (ZQ (setS m who.toNat (Yo (Z8 m.smiths who.toNat) rank).1),0) else (m,3)) else (m,1)) else (YF,3)
theorem IB (h:ZO m=true) (who:Int):ZO (Tp m who).1=true:=by
 unfold Tp
 rw [h]
 simp only [if_true]
 split
 ·rename_i hw
  obtain ⟨k,rfl,hk,hs⟩:=Xm hw
  rw [show ((k:Int)).toNat=k by simp]
  split
  ·rename_i hp
   exact Y0 (EZ (ZT h) hk hp)
  ·exact h
 ·exact h
theorem JZ (h:ZO m=true) (who:Int):ZO (UN m who).1=true:=by
 unfold UN
 rw [h]
 simp only [if_true]
 split
 ·rename_i hw
  obtain ⟨k,rfl,hk,hs⟩:=Xm hw
  rw [show ((k:Int)).toNat=k by simp]
  exact Y0 (G8 (ZT h) hk)
 ·exact h
theorem J4 (h:ZO m=true) (who lo hi:Int):ZO (Vp m who lo hi).1=true:=by
 unfold Vp
 rw [h]
 simp only [if_true]
 split
 ·rename_i hw
  obtain ⟨k,rfl,hk,hs⟩:=Xm hw
  rw [show ((k:Int)).toNat=k by simp]
  split
  ·rename_i hp
   exact Y0 (DF (ZT h) hk hs hp)
  ·exact h
 ·exact h
theorem Iz (h:ZO m=true) (who rank:Int):ZO (Vt m who rank).1=true:=by
 unfold Vt
 rw [h]
 simp only [if_true]
 split
 ·rename_i hw
  obtain ⟨k,rfl,hk,hs⟩:=Xm hw
  rw [show ((k:Int)).toNat=k by simp]
  split
  ·rename_i hp
   exact Y0 (EY (ZT h) hk (Prod.ext rfl hp))
  ·exact h
 ·exact h
open Go.ChangeShapes Go.WideShapes Go.ChangeAt Go.RowKit
theorem Fq (x u:Int) (w:World) (h1:0<=u) (h2:u<=1024) (h3:0<=x) (h4:x<=1024):Calls Tryz.prog 268 #[.int .i64 x,.int .i64 u] w fun e w'=>e= .returned (.int .i64 ((31*u+x) / 32))/\w'=w:=by
 go_enter Tryz.func268,Tryz.ntmps268
 go_wp2
 go_ret
 exact ⟨rfl,rfl⟩
theorem L9 (x u:Int) (n:Nat) (w:World) (h1:0<=u) (h2:u<=1024) (h3:0<=x) (h4:x<=1024) (hn:n<=1000) :
  Calls Tryz.prog 267 #[.func (Fn.func 268) #[.int .i64 x] #[],.int .i64 u,.int .i64 n] w fun e w'=>e= .returned (.int .i64 (Vb x n u))/\w'=w:=by
 go_enter Tryz.func267,Tryz.ntmps267
 go_wp2_with fail
 go_loop [1,8] (fun s i=> ∃ k:Nat,k<=n/\i= .int .i64 k/\s= .int .i64 (Vb x k u)) (fun _ i=>n-(intOf i).toNat)
 case atStart=>exact ⟨0,Nat.zero_le _,rfl,rfl⟩
 case round=>
  obtain ⟨k,hk,rfl,rfl⟩:=hrel
  obtain ⟨f1,f2⟩:=Oa x h3 h4 k u h1 h2
  have Hs:=Z9 (RZ x k u)
  generalize hz:Vb x k u=z at *
  have Hz:=Z9 hz
  clear hz
  by_cases hlt:k<n
  ·go_wp2_with fail
   refine (Fq x z _ f1 f2 h3 h4).mono ?_
   rintro e w' ⟨rfl,rfl⟩
   go_wp2_with fail
   go_round
   case rel=>exact ⟨k+1,by omega,by go_num,by rw [uh Hs]⟩
   case measure=>exact ms
  ·go_wp2_with fail
   go_ret
   exact ⟨ZD (by rw [<-uh Hz,show k=n from by omega]),rfl⟩
theorem Rw (u x n:Int) (w:World):Calls Tryz.prog 210 #[.int .i64 u,.int .i64 x,.int .i64 n] w fun e w'=>e= .returned (.int .i64 (ZZ u x n))/\Below w.heap.size w w':=by
 refine EA u x n 0 1024 0 1024 0 1000 ?_ ?_ ?_ ?_
 ·intro ha
  have hv:ZZ u x n= -1:=by simp [ZZ,ha]
  rw [hv];clear hv
  go_enter Tryz.func210,Tryz.ntmps210
  go_wp2_with fail
  refine (Ug u x _ _ rfl).mono ?_
  rintro e w' ⟨rfl,rfl⟩
  go_wp2_with fail
  go_ret
  exact ⟨rfl,(ba _ _)⟩
 ·intro ha hb
  have hv:ZZ u x n= -1:=by simp [ZZ,hb]
  rw [hv];clear hv
  go_enter Tryz.func210,Tryz.ntmps210
  go_wp2_with fail
  refine (Ug u x _ _ rfl).mono ?_
  rintro e w' ⟨rfl,rfl⟩
  go_wp2_with fail
  go_ret
  exact ⟨rfl,(ba _ _)⟩
 ·intro ha hb hc
  have hv:ZZ u x n= -1:=by simp [ZZ,hc]
  rw [hv];clear hv
  go_enter Tryz.func210,Tryz.ntmps210
  go_wp2_with fail
  refine (Ug u x _ _ rfl).mono ?_
  rintro e w' ⟨rfl,rfl⟩
  go_wp2_with fail
  refine (Sq n _ _ (by simp)).mono ?_
  rintro e w' ⟨rfl,rfl⟩
  go_wp2_with fail
  go_ret
  exact ⟨rfl,((ba _ _)).alloc (by simp) _⟩
 ·intro ha hb hc
  have hv:ZZ u x n=Vb x n.toNat u:=by simp [ZZ,ha,hb,hc]
  rw [hv];clear hv
  obtain ⟨a0,a1⟩:=ZU ha
  obtain ⟨b0,b1⟩:=ZU hb
  obtain ⟨c0,c1⟩:=ZU hc
  obtain ⟨m,rfl⟩:=Int.eq_ofNat_of_zero_le c0
  rw [Int.toNat_natCast]
  go_enter Tryz.func210,Tryz.ntmps210
  go_wp2_with fail
  refine (Ug u x _ _ rfl).mono ?_
  rintro e w' ⟨rfl,rfl⟩
  go_wp2_with fail
  refine (Sq m _ _ (by simp)).mono ?_
  rintro e w' ⟨rfl,rfl⟩
  go_wp2_with fail
  refine (L9 x u m _ a0 a1 b0 b1 (by omega)).mono ?_
  rintro e w' ⟨rfl,rfl⟩
  go_wp2_with fail
  go_ret
  exact ⟨rfl,((ba _ _)).alloc (by simp) _⟩
theorem WI (u x n:Int) (w:World):Calls Tryz.prog 14 #[.int .i64 u,.int .i64 x,.int .i64 n] w fun e w'=>e= .returned (.int .i64 (ZZ u x n))/\w'=w:=by
 refine EA u x n 0 1024 0 1024 0 1000 ?_ ?_ ?_ ?_
 ·intro ha
  have hv:ZZ u x n= -1:=by simp [ZZ,ha]
  rw [hv];clear hv
  go_enter Tryz.func14,Tryz.ntmps14
  go_wp2_with (first | (go_at_call 49;refine (UX _ _).mono ?_;rintro e w' ⟨rfl,rfl⟩) | (go_at_call 40;refine (Z1 _ _ _ _).mono ?_;rintro e w' ⟨rfl,rfl⟩))
  go_ret
  exact ⟨rfl,rfl⟩
 ·intro ha hb
  have hv:ZZ u x n= -1:=by simp [ZZ,hb]
  rw [hv];clear hv
  go_enter Tryz.func14,Tryz.ntmps14
  go_wp2_with (first | (go_at_call 49;refine (UX _ _).mono ?_;rintro e w' ⟨rfl,rfl⟩) | (go_at_call 40;refine (Z1 _ _ _ _).mono ?_;rintro e w' ⟨rfl,rfl⟩))
  go_ret
  exact ⟨rfl,rfl⟩
 ·intro ha hb hc
  have hv:ZZ u x n= -1:=by simp [ZZ,hc]
  rw [hv];clear hv
  go_enter Tryz.func14,Tryz.ntmps14
  go_wp2_with (first | (go_at_call 49;refine (UX _ _).mono ?_;rintro e w' ⟨rfl,rfl⟩) | (go_at_call 40;refine (Z1 _ _ _ _).mono ?_;rintro e w' ⟨rfl,rfl⟩))
  go_ret
  exact ⟨rfl,rfl⟩
 ·intro ha hb hc
  have hv:ZZ u x n=Vb x n.toNat u:=by simp [ZZ,ha,hb,hc]
  rw [hv];clear hv
  obtain ⟨a0,a1⟩:=ZU ha
  obtain ⟨b0,b1⟩:=ZU hb
  obtain ⟨c0,c1⟩:=ZU hc
  obtain ⟨m,rfl⟩:=Int.eq_ofNat_of_zero_le c0
  rw [Int.toNat_natCast]
  go_enter Tryz.func14,Tryz.ntmps14
  go_wp2_with (first | (go_at_call 49;refine (UX _ _).mono ?_;rintro e w' ⟨rfl,rfl⟩) | (go_at_call 40;refine (Z1 _ _ _ _).mono ?_;rintro e w' ⟨rfl,rfl⟩))
  go_loop [0,2] (fun s i=> ∃ k:Nat,k<=m/\i= .int .i64 ((m:Int)-k)/\s= .int .i64 (Vb x k u)) (fun _ i=>(intOf i).toNat)
  case atStart=>exact ⟨0,Nat.zero_le _,by simp,rfl⟩
  case round=>
   obtain ⟨k,hk,rfl,rfl⟩:=hrel
   obtain ⟨f1,f2⟩:=Oa x b0 b1 k u a0 a1
   have Hs:=Z9 (RZ x k u)
   generalize hz:Vb x k u=z at *
   have Hz:=Z9 hz
   clear hz
   by_cases hlt:k<m
   ·go_wp2_with fail
    go_round
    case rel=>exact ⟨k+1,by omega,by go_num,by rw [uh Hs]⟩
    case measure=>exact ms
   ·go_wp2_with fail
    go_ret
    exact ⟨ZD (by rw [<-uh Hz,show k=m from by omega]),rfl⟩
def NW (m:Z6) (s:Z3):Int:=Yz (pushS m s) (m.smiths.length:Int)
def Ul (m:Z6) (rank may guild:Int):Z6 × Int:=
 if ZO m then (if ZJ (YI rank may guild) && decide (guild<m.guilds.length) then (if m.smiths.length=12 then (m,4) else (if NW m (YI rank may guild)<0 then (m,2) else
  (ZQ (setS (pushS m (YI rank may guild)) m.smiths.length (OY (YI rank may guild) (NW m (YI rank may guild)) (XO m (NW m (YI rank may guild))))),0))) else (m,3)) else (YF,3)
theorem Ke {rank may guild:Int} (h:ZJ (YI rank may guild)=true):Zw (YI rank may guild)=true:=by
 unfold ZJ at h
 rw [Up (by show (1:Int) ≠ 0;omega),Bool.false_or] at h
 exact h
theorem Kd (h:Loose m) {rank may guild:Int} (hs:ZJ (YI rank may guild)=true) (hg:guild<m.guilds.length):Loose (pushS m (YI rank may guild))\/m.smiths.length>=12:=by
 by_cases hl:m.smiths.length<12
 ·left
  obtain ⟨j,hj,_⟩:=h.openD
  exact h.pushS hl (Yl.2 (.inr ⟨Ke hs,hg,by show (0:Int)<_;omega⟩)) (VG rfl)
 ·right;omega
theorem Fb (h:Loose m) {b:Nat} (hb:b<m.desks.length):Xz (XO m (b:Int)) (Z8 m.desks b).2.2=true:=by
 have hmk:XO m (b:Int)=(Z8 m.desks b).2.2:=by unfold XO;simp
 obtain ⟨k0,k1⟩:=SW (h.desk b hb)
 rw [hmk]
 exact Pt (by omega) (by omega) (by omega) (by omega) (by omega) (by omega)
theorem Za (h:Loose m):m.smiths.length<=12:=by
 have hd:=h.head
 unfold YY at hd
 simp only [Bool.and_eq_true,decide_eq_true_eq] at hd
 exact hd.2.2.1
theorem GO (h:ZO m=true) (rank may guild:Int):ZO (Ul m rank may guild).1=true:=by
 unfold Ul
 rw [h]
 simp only [if_true]
 split
 ·rename_i hs
  simp only [Bool.and_eq_true,decide_eq_true_eq] at hs
  split
  ·exact h
  ·rename_i hl
   split
   ·exact h
   ·rename_i hb
    have hlo:=ZT h
    have h12:=Za hlo
    have hx:Loose (pushS m (YI rank may guild)):=by
     rcases Kd hlo hs.1 hs.2 with e | e
     ·exact e
     ·omega
    rcases VC (pushS m (YI rank may guild)) (m.smiths.length:Int) with ⟨e,_⟩ | ⟨b,hbl,e,hm⟩
    ·exact absurd (show NW m (YI rank may guild)<0 by unfold NW;rw [e];omega) hb
    ·have ec:NW m (YI rank may guild)=(b:Int):=e
     rw [ec]
     unfold Yg at hm
     simp only [Bool.and_eq_true,Int.toNat_natCast] at hm
     have hat:Z8 (pushS m (YI rank may guild)).smiths m.smiths.length=YI rank may guild:=by
      show Z8 (m.smiths++[YI rank may guild]) m.smiths.length=_
      rw [Wr,if_pos rfl]
     rw [hat] at hm
     obtain ⟨k1,k2⟩:=DH (m:=pushS m (YI rank may guild)) (s:=YI rank may guild) (b:=b) (had:=XO m (b:Int)) hx (Ke hs.1) hs.2 hbl hm.1 hm.2 (Fb hlo hbl)
     exact Y0 (hx.setS (by unfold pushS;simp) k1 k2)
 ·exact h
def GC (m:Z6) (s:Z3) (b:Int):Int:=Y1 (Zq (XL s) (XO m s.2.1) (XO m b)) (XO m b)
def Tz (m:Z6) (k:Nat) (b:Int):Z6:=setS m k (OY (Z8 m.smiths k) b (GC m (Z8 m.smiths k) b))
def UF (m:Z6) (who:Int):Z6 × Int:=
 if ZO m then (if UT m who then (if (Z8 m.smiths who.toNat).1=1 then (if Yz m who<0 then (m,2) else (if Ze (Tz m who.toNat (Yz m who)) then (ZQ (Tz m who.toNat (Yz m who)),0) else (m,4))) else (m,2)) else (m,1)) else (YF,3)
theorem I2 (h:ZO m=true) (who:Int):ZO (UF m who).1=true:=by
 unfold UF
 rw [h]
 simp only [if_true]
 split
 ·split
  ·split
   ·exact h
   ·split
    ·rename_i hl
     exact Y0 (Th hl)
    ·exact h
  ·exact h
 ·exact h
theorem MT (m:Z6) (k:Nat) (s t:Z3):setS (setS m k s) k t=setS m k t:=by unfold setS;simp
def XZ (m:Z6) (k:Nat) (may:Int):Z6:=setS m k (TY (Z8 m.smiths k) may)
def Wz (m:Z6) (who may:Int):Z6 × Int:=
 if ZO m then (if UT m who then (if inB may 1 255 then (if ZP (Z8 m.smiths who.toNat) && !Wf may (Z8 m.smiths who.toNat).2.1 then
  (if Yz (XZ m who.toNat may) who<0 then (m,2) else (ZQ (setS (XZ m who.toNat may) who.toNat (putS (XZ m who.toNat may) (TY (Z8 m.smiths who.toNat) may) (Yz (XZ m who.toNat may) who))),0))
  else (ZQ (XZ m who.toNat may),0)) else (m,3)) else (m,1)) else (YF,3)
theorem MN {s:Z3} {may:Int} (h:Zw s=true) (m0:1<=may) (m1:may<=255):Zw (TY s may)=true:=by
 obtain ⟨st,be,rk,my,gu,lo',hi',hd,ca,ut,wk⟩:=s
 obtain ⟨x0,x1,x2,x3,x4,x5,x6,x7,x8,x9⟩:=Zu h
 exact Ux x0 x1 x2 ⟨m0,m1⟩ x4 x5 x6 x7 x8 x9
theorem I9 (h:ZO m=true) (who may:Int):ZO (Wz m who may).1=true:=by
 unfold Wz
 rw [h]
 simp only [if_true]
 split
 ·rename_i hw
  obtain ⟨k,rfl,hk,hs⟩:=Xm hw
  rw [show ((k:Int)).toNat=k by simp]
  have hlo:=ZT h
  split
  ·rename_i hm
   obtain ⟨m0,m1⟩:=ZU hm
   split
   ·rename_i hp
    simp only [Bool.and_eq_true,Bool.not_eq_true'] at hp
    split
    ·exact h
    ·rename_i hb
     rcases VC (XZ m k may) (k:Int) with ⟨e,_⟩ | ⟨b,hbl,e,hma⟩
     ·exact absurd (show Yz (XZ m k may) (k:Int)<0 by rw [e];omega) hb
     ·rw [e]
      obtain ⟨p,g1,b1⟩:=hlo.limits hk hs
      obtain ⟨a0,a1,a2,a3,a4⟩:=hlo.at hk hp.1
      unfold Yg at hma
      simp only [Bool.and_eq_true,Int.toNat_natCast] at hma
      have hat:Z8 (XZ m k may).smiths k=TY (Z8 m.smiths k) may:=by
       show Z8 (m.smiths.set k _) k=_
       rw [ZK hk,if_pos rfl]
      rw [hat] at hma
      have:=Ox (m:=m) hlo (s:=TY (Z8 m.smiths k) may) (b:=b) (MN p m0 m1) hp.1 g1 a0 a1 a4 hbl hma.1 hma.2
      unfold XZ
      rw [MT]
      exact Y0 (hlo.setS hk this.1 this.2)
   ·rename_i hp
    refine Y0 (DG hlo hk hs m0 m1 ?_)
    cases h1:ZP (Z8 m.smiths k)
    ·exact .inl rfl
    ·right
     cases h2:Wf may (Z8 m.smiths k).2.1
     ·rw [h1,h2] at hp;exact absurd rfl hp
     ·rfl
  ·exact h
 ·exact h
def Sp (m:Z6) (who g:Int):Z6 × Int:=
 if UT m who then (if inB g (-1) ((m.guilds.length:Int)-1) then (ZQ (setS m who.toNat (QI (Z8 m.smiths who.toNat) g)),0) else (m,3)) else (m,1)
theorem G7 (h:ZO m=true) (who g:Int):ZO (Sp m who g).1=true:=by
 unfold Sp
 split
 ·rename_i hw
  obtain ⟨k,rfl,hk,hs⟩:=Xm hw
  rw [show ((k:Int)).toNat=k by simp]
  split
  ·rename_i hg
   have:=ZU hg
   exact Y0 (EW (ZT h) hk hs this.1 (by omega))
  ·exact h
 ·exact h
def Uh (m:Z6) (r:Nat):Int:=XM (ZV m.rooms r) (Y3 m r m.desks.length).1
theorem FT (h:Loose m) {r:Nat} (hr:r<m.rooms.length):0<=Uh m r/\Uh m r<(ZV m.rooms r).2.length:=by
 have hd:=h.head
 unfold YY at hd
 simp only [Bool.and_eq_true,decide_eq_true_eq] at hd
 obtain ⟨r1,r2,r3,r4⟩:=Zo hd.1
 have hmem:ZV m.rooms r ∈ m.rooms:=by unfold ZV;simp [List.getD,hr]
 have hrb:=List.all_eq_true.1 r3 _ hmem
 have hu:=Rd m r (Za h) m.desks.length
 have hlen:1<=(ZV m.rooms r).2.length:=by
  have hx:=hrb
  unfold Zn at hx
  simp only [Bool.and_eq_true] at hx
  have:=ZU hx.2.1
  omega
 have hn:=Kp (Y3 m r m.desks.length).1 (ZV m.rooms r).2 hlen
 unfold Uh XM
 rw [hrb,Zp (by omega) (by omega)]
 simp only [Bool.and_self,if_true]
 omega
def Rl (m:Z6):Nat->Z6
 | 0=>m
 | k+1=>UQ (Rl m k) k (Uh m k)
theorem Sz (m:Z6):∀ k,(Rl m k).rooms=m.rooms/\(Rl m k).guilds=m.guilds/\(Rl m k).smiths=m.smiths/\(Rl m k).desks=m.desks/\(Rl m k).now=m.now/\(Rl m k).paces.length=m.paces.length
 | 0=>⟨rfl,rfl,rfl,rfl,rfl,rfl⟩
 | k+1=>by
  obtain ⟨a,b,c,d,e,f⟩:=Sz m k
  refine ⟨a,b,c,d,e,?_⟩
  show ((Rl m k).paces.set k _).length=_
  rw [List.length_set,f]
theorem Mn (h:Loose m):∀ k,k<=m.paces.length->Loose (Rl m k)
 | 0,_=>h
 | k+1,hk=>by
  have ih:=Mn h k (by omega)
  have hd:=h.head
  unfold YY at hd
  simp only [Bool.and_eq_true,decide_eq_true_eq] at hd
  have hr:k<m.rooms.length:=by have:=hd.2.2.2.2.1;omega
  have hw:=FT h hr
  have hs:=(Sz m k).1
  exact MC ih (by rw [hs];exact hr) hw.1 (by rw [hs];exact hw.2)
def GG (m:Z6):Z6:=ZQ (Rl m m.paces.length)
theorem ED (h:ZO m=true):ZO (GG m)=true:=Y0 (Mn (ZT h) _ (Nat.le_refl _))
def ZI (m:Z6) (b:Int):Int:=(Z7 (ZV m.rooms (XN m.rooms b)).2 (Z8 m.paces (XN m.rooms b)).toNat).1
def Pl (s:Z3) (u:Int):Z3:=(s.1,s.2.1,s.2.2.1,s.2.2.2.1,s.2.2.2.2.1,s.2.2.2.2.2.1,s.2.2.2.2.2.2.1,s.2.2.2.2.2.2.2.1,s.2.2.2.2.2.2.2.2.1,u,s.2.2.2.2.2.2.2.2.2.2)
def Re (s:Z3):Int:=s.2.2.2.2.2.2.2.2.2.1
def WS (m:Z6) (n:Int) (s:Z3):Option Z3:=
 if s.1=0 then some s else if s.1=3 then (if (ZH s (n*ZI m s.2.1)).2 then some (Pl (ZH s (n*ZI m s.2.1)).1 (ZZ (Re (ZH s (n*ZI m s.2.1)).1) (ZI m s.2.1) n)) else none) else some (Pl s (ZZ (Re s) 0 n))
def Zs (m:Z6) (n:Int):Nat->Option (List Z3)
 | 0=>some m.smiths
 | k+1=>match Zs m n k with
  | none=>none
  | some ss=>match WS m n (Z8 m.smiths k) with
   | none=>none
   | some t=>some (ss.set k t)
theorem Xv {n:Int} : ∀ {k:Nat} {ss:List Z3},Zs m n k=some ss->ss.length=m.smiths.length/\ ∀ j,k<=j->Z8 ss j=Z8 m.smiths j
 | 0,ss,h=>by cases h;exact ⟨rfl,fun _ _=>rfl⟩
 | k+1,ss,h=>by
  unfold Zs at h
  cases ht:Zs m n k with
  | none=>rw [ht] at h;cases h
  | some s0=>
   rw [ht] at h
   simp only at h
   cases h1:WS m n (Z8 m.smiths k) with
   | none=>rw [h1] at h;cases h
   | some t=>
    rw [h1] at h
    cases h
    obtain ⟨e1,e2⟩:=Xv ht
    refine ⟨by simpa using e1,fun j hj=> ?_⟩
    rw [<-e2 j (by omega)]
    unfold Z8
    simp [List.getD,List.getElem?_set_ne (show k ≠ j by omega)]
theorem Tx {n:Int} {k:Nat} : ∀ d,Zs m n k=none->Zs m n (k+d)=none
 | 0,h=>h
 | d+1,h=>by
  have:=Tx d h
  show Zs m n (k+d+1)=none
  unfold Zs
  rw [this]
def XT (m:Z6) (n:Int) (ss:List Z3):Z6:={ m with smiths:=ss,now:=m.now+n }
def Xw (m:Z6) (n:Int):Z6 × Int:=
 if ZO m then (if inB n 1 20 then (match Zs m n m.smiths.length with
  | none=>(m,4)
  | some ss=>if Ze (XT m n ss) then (ZQ (XT m n ss),0) else (m,4)) else (m,3)) else (YF,3)
theorem Pj (h:ZO m=true) (n:Int):ZO (Xw m n).1=true:=by
 unfold Xw
 rw [h]
 simp only [if_true]
 split
 ·split
  ·exact h
  ·split
   ·rename_i hl
    exact Y0 (Th hl)
   ·exact h
 ·exact h
theorem Qn (x0 x1 x2 x3 x4 x5 x6 x7 x8 x9 x10 y0 y1 y2 y3 y4 y5 y6 y7 y8 y9 y10:Int) (w:World):(Op.equalIn 10000 39 (.agg (I11 x0 x1 x2 x3 x4 x5 x6 x7 x8 x9 x10)) (.agg (I11 y0 y1 y2 y3 y4 y5 y6 y7 y8 y9 y10))).run Tryz.prog w= .ok (Uz (x0,x1,x2,x3,x4,x5,x6,x7,x8,x9,x10) (y0,y1,y2,y3,y4,y5,y6,y7,y8,y9,y10)) w:=by
 have u:=Tryz.underlying2
 have a:=Tryz.isAgg2
 have z:=Tryz.sizeOf2
 have hS:Tryz.prog.underlying 39=some (.struct (Tryz.prog.fieldsOf 39)):=by kernel_rfl
 have hp:Tryz.prog.stoodInHeld 39=false:=by kernel_rfl
 rw [show (10000:Nat)=9999+1 from rfl,run_equalIn_agg w 9999 39 _ _ hS hp]
 simp only [Program.fieldsOf,Tryz.underlying39]
 go_simp
 unfold Uz
 by_cases h0:x0=y0
 rotate_left
 ·simp [h0]
 subst h0
 by_cases h1:x1=y1
 rotate_left
 ·simp [h1]
 subst h1
 by_cases h2:x2=y2
 rotate_left
 ·simp [h2]
 subst h2
 by_cases h3:x3=y3
 rotate_left
 ·simp [h3]
 subst h3
 by_cases h4:x4=y4
 rotate_left
 ·simp [h4]
 subst h4
 by_cases h5:x5=y5
 rotate_left
 ·simp [h5]
 subst h5
 by_cases h6:x6=y6
 rotate_left
 ·simp [h6]
 subst h6
 by_cases h7:x7=y7
 rotate_left
 ·simp [h7]
 subst h7
 by_cases h8:x8=y8
 rotate_left
 ·simp [h8]
 subst h8
 by_cases h9:x9=y9
 rotate_left
 ·simp [h9]
 subst h9
 by_cases h10:x10=y10
 rotate_left
 ·simp [h10]
 subst h10
 simp
theorem MU (x0 x1 x2 x3 x4 x5 x6 x7 x8 x9 x10 y0 y1 y2 y3 y4 y5 y6 y7 y8 y9 y10:Int) (w:World):(binOp .eql 39 (.agg (I11 x0 x1 x2 x3 x4 x5 x6 x7 x8 x9 x10)) (.agg (I11 y0 y1 y2 y3 y4 y5 y6 y7 y8 y9 y10))).run Tryz.prog w= .ok (.bool (Uz (x0,x1,x2,x3,x4,x5,x6,x7,x8,x9,x10) (y0,y1,y2,y3,y4,y5,y6,y7,y8,y9,y10))) w:=by
 rw [run_eql_struct,Qn];rfl
theorem Q2 (x0 x1 x2 x3 x4 x5 x6 x7 x8 x9 x10 y0 y1 y2 y3 y4 y5 y6 y7 y8 y9 y10:Int) (w:World):(binOp .neq 39 (.agg (I11 x0 x1 x2 x3 x4 x5 x6 x7 x8 x9 x10)) (.agg (I11 y0 y1 y2 y3 y4 y5 y6 y7 y8 y9 y10))).run Tryz.prog w= .ok (.bool (!Uz (x0,x1,x2,x3,x4,x5,x6,x7,x8,x9,x10) (y0,y1,y2,y3,y4,y5,y6,y7,y8,y9,y10))) w:=by
 rw [run_neq_struct,Qn];rfl
theorem Vi {r x:Int} (h:Zy r=x) (w:World):Calls Tryz.prog 262 #[.int .i64 r] w fun e w'=>e= .returned (.int .i64 x)/\w'=w:=by
 have:=QN r w;rw [h] at this;exact this
theorem YV {r x:Int} (h:Zy r=x) (w:World):Calls Tryz.prog 102 #[.int .i64 r] w fun e w'=>e= .returned (.int .i64 x)/\w'=w:=by
 have:=Q9 r w;rw [h] at this;exact this
end Go.Proofs.YtffcgajndmhpkaaGreatDoor
