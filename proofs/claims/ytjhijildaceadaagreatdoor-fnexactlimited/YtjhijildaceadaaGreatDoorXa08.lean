/- Part 8 of what the proof rests on. No condition but those that a theorem names. -/
import Derived.Test.YtjhijildaceadaaGreatDoorXa07
import Derived.LaidEql
import Derived.Stop.Asserts
import Derived.RowKitTokens
import Derived.Below
set_option maxHeartbeats 8000000
set_option maxRecDepth 100000
namespace Go.Proofs.YtjhijildaceadaaGreatDoor
open Go.ChangeShapes Go.WideShapes Go.ChangeAt Go.RowKit Go.Sort
set_option linter.unusedVariables false
theorem Ob:∀ (qs:List (Z3 × Value)) (k:Int),(YL k qs).map (·.2)=qs.map (·.2)
 | [],_=>rfl
 | q::qs,k=>by
  have:=Ob qs (k+1+2*(q.1.2.length:Int))
  simp only [YL,List.map_cons]
  rw [this]
theorem Eu {qs:List (Z3 × Value)} {k:Int} {q:Z3 × Value} (h:q ∈ YL k qs):∃ q' ∈ qs,q'.2=q.2:=by
 have:q.2 ∈ (YL k qs).map (·.2):=List.mem_map.2 ⟨q,h,rfl⟩
 rw [Ob] at this
 exact List.mem_map.1 this
theorem OffHall.marked {u v:Value} {qs:List (Z3 × Value)} (h:OffHall u v qs) (k:Int):OffHall u v (YL k qs):=
 ⟨h.1,fun q hq=>by obtain ⟨q',h1,h2⟩:=Eu hq;rw [<-h2];exact h.2 q' h1⟩
structure SmyOnly (v0 v1 v2 v3 v4:Value) (qs:List (Z3 × Value)) (w w':World):Prop where
 os:w'.os=w.os
 tape:w'.tape=w.tape
 output:w'.output=w.output
 size:w.heap.size<=w'.heap.size
 block:∀ k,k<w.heap.size->v0.ownBlock ≠ some k->(∀ q ∈ qs,q.2.ownBlock ≠ some k)->v1.ownBlock ≠ some k->v2.ownBlock ≠ some k->v3.ownBlock ≠ some k->v4.ownBlock ≠ some k->w'.heap[k]?=w.heap[k]?
def UK (k:Int) (m:Z4) (qs:List (Z3 × Value)):Z4:=
 { rooms:=(YL k qs).map (·.1),guilds:=Wv Vh 3 (Yd k qs) m.guilds.length,smiths:=Wv Vi 11 (Yd k qs+3*(m.guilds.length:Int)) m.smiths.length,desks:=Wv UZ 3 (Yd k qs+3*(m.guilds.length:Int)+11*(m.smiths.length:Int)) m.desks.length,paces:=Ul (Yd k qs+3*(m.guilds.length:Int)+11*(m.smiths.length:Int)+3*(m.desks.length:Int)) m.paces.length,now:=m.now }
def SI (k:Int) (m:Z4) (qs:List (Z3 × Value)):Int:=Yd k qs+3*(m.guilds.length:Int)+11*(m.smiths.length:Int)+3*(m.desks.length:Int)+(m.paces.length:Int)
theorem Oy {m:Z4} {qs:List (Z3 × Value)} (hs:QB m.rooms) (hm:qs.map (·.1)=m.rooms):qs.length<=1048576/\ ∀ q ∈ qs,q.1.2.length<=1048576:=by
 have hl:qs.length=m.rooms.length:=by rw [<-hm,List.length_map]
 refine ⟨by have:=hs.1;omega,fun q hq=> ?_⟩
 have hq':q.1 ∈ m.rooms:=by rw [<-hm];exact List.mem_map.2 ⟨q,hq,rfl⟩
 obtain ⟨j,hj,e⟩:=List.getElem_of_mem hq'
 have:=hs.2 j hj
 have hat:ZY m.rooms j=m.rooms[j]:=by unfold ZY;simp [List.getD,hj]
 rw [hat,e] at this
 exact this
theorem NR {qs:List (Z3 × Value)} (hl:qs.length<=1048576) (hp:∀ q ∈ qs,q.1.2.length<=1048576) (k:Int):k<=Yd k qs/\Yd k qs<=k+2199024304128:=by
 have:=QW hp k qs.length (Nat.le_refl _)
 rw [List.take_length] at this
 omega
theorem OwnHall.keep {n₀:Nat} {w w':World} {u v:Value} {qs:List (Z3 × Value)} (h:OwnHall n₀ w v qs) (hg:w.grownBy w' u.ownBlock) (ho:OffHall u v qs):OwnHall n₀ w' v qs:=
 ⟨YM h.row fun k e=>hg.block k (h.lt (.inl e)).2 (fun e'=>ho.1 k e'.symm e),fun q hq=>YM (h.paces q hq) fun k e=>hg.block k (h.lt (.inr ⟨q,hq,e⟩)).2 (fun e'=>ho.2 q hq k e'.symm e),h.off,h.apart⟩
theorem Za {n₀:Nat} {w:World} {v0 v1 v2 v3 v4:Value} {m:Z4} {qs:List (Z3 × Value)} (k:Int) (h:FullSmy n₀ w v0 v1 v2 v3 v4 m qs) (hs:YT m) (hn:n₀<=w.heap.size) (hk0:0<=k) (hk1:k<=1000000000) :
  Calls Tryz.prog 52 #[.agg #[v0,v1,v2,v3,v4,.int .i64 m.now],.int .i64 k] w fun e w'=>e= .returned (.int .i64 (SI k m qs))/\FullSmy n₀ w' v0 v1 v2 v3 v4 (UK k m qs) (YL k qs)/\SmyOnly v0 v1 v2 v3 v4 qs w w':=by
 obtain ⟨sq,sp⟩:=Oy hs.rooms h.rooms
 obtain ⟨e0,e1⟩:=NR sq sp k
 have Sp:=Z9 sp
 obtain ⟨_,s1,s2,s3,s4⟩:=hs
 have hql:qs.length=m.rooms.length:=by rw [<-h.rooms,List.length_map]
 have Hf:=Z9 h
 have Ha:=Z9 (h.below ((Below.refl _ _).alloc (Nat.le_refl _) (.cells #[v0,v1,v2,v3,v4,.int .i64 m.now] 32)))
 obtain ⟨a0,p0,rfl⟩:=h.hall.shape
 obtain ⟨a1,p1,rfl⟩:=RecAt.shape h.guilds
 obtain ⟨a2,p2,rfl⟩:=RecAt.shape h.smiths
 obtain ⟨a3,p3,rfl⟩:=RecAt.shape h.desks
 obtain ⟨a4,p4,rfl⟩:=RecAt.shape h.paces
 rw [hql] at *
 clear h sp hql
 unfold SI
 generalize hke:Yd k qs=ke at *
 have Hke:=Z9 hke
 clear hke
 go_enter Tryz.func52,Tryz.ntmps52
 go_wp2_with fail
 have kb:Hid (Blk (w.alloc (.cells #[.slice a0 m.rooms.length p0,.slice a1 m.guilds.length p1,.slice a2 m.smiths.length p2,.slice a3 m.desks.length p3,.slice a4 m.paces.length p4,.int .i64 m.now] 32)) w.heap.size 32 #[.slice a0 m.rooms.length p0,.slice a1 m.guilds.length p1,.slice a2 m.smiths.length p2,.slice a3 m.desks.length p3,.slice a4 m.paces.length p4,.int .i64 m.now]):=Z9 (Blk.new w _ _)
 have OO:Hid (SmyOnly (.slice a0 m.rooms.length p0) (.slice a1 m.guilds.length p1) (.slice a2 m.smiths.length p2) (.slice a3 m.desks.length p3) (.slice a4 m.paces.length p4) qs w (w.alloc (.cells #[.slice a0 m.rooms.length p0,.slice a1 m.guilds.length p1,.slice a2 m.smiths.length p2,.slice a3 m.desks.length p3,.slice a4 m.paces.length p4,.int .i64 m.now] 32))):=Z9 ⟨rfl,rfl,rfl,by simp,fun k hk _ _ _ _ _ _=>Below.heap_alloc w _ k hk⟩
 have Ln:Hid (∀ b,((Value.slice a0 m.rooms.length p0).ownBlock=some b\/ ∃ q ∈ qs,q.2.ownBlock=some b)->b<w.heap.size):=Z9 (fun b e=>((uh Hf).hall.lt e).2)
 have L1:Hid (∀ b,(Value.slice a1 m.guilds.length p1).ownBlock=some b->b<w.heap.size):=Z9 (fun b e=>(RecAt.lt (uh Hf).guilds e).2)
 have L2:Hid (∀ b,(Value.slice a2 m.smiths.length p2).ownBlock=some b->b<w.heap.size):=Z9 (fun b e=>(RecAt.lt (uh Hf).smiths e).2)
 have L3:Hid (∀ b,(Value.slice a3 m.desks.length p3).ownBlock=some b->b<w.heap.size):=Z9 (fun b e=>(RecAt.lt (uh Hf).desks e).2)
 have L4:Hid (∀ b,(Value.slice a4 m.paces.length p4).ownBlock=some b->b<w.heap.size):=Z9 (fun b e=>(RecAt.lt (uh Hf).paces e).2)
 have n0:=Z9 (uh Ha).hall
 have n1:=Z9 (uh Ha).guilds
 have n2:=Z9 (uh Ha).smiths
 have n3:=Z9 (uh Ha).desks
 have n4:=Z9 (uh Ha).paces
 have hsz:w.heap.size<(w.alloc (.cells #[.slice a0 m.rooms.length p0,.slice a1 m.guilds.length p1,.slice a2 m.smiths.length p2,.slice a3 m.desks.length p3,.slice a4 m.paces.length p4,.int .i64 m.now] 32)).heap.size:=(uh kb).lt
 clear Ha
 generalize w.alloc (.cells #[.slice a0 m.rooms.length p0,.slice a1 m.guilds.length p1,.slice a2 m.smiths.length p2,.slice a3 m.desks.length p3,.slice a4 m.paces.length p4,.int .i64 m.now] 32)=W at *
 refine (Lm k (uh n0) (by omega) hk0 hk1 (by omega) (uh Sp)).mono ?_
 rintro e w1 ⟨rfl,ho,hb⟩
 rw [uh Hke]
 replace n0:=Z9 ho
 replace n1:=Z9 (RecAt.same (uh n1) fun b e=>hb.block b (RecAt.lt (uh n1) e).2 ((uh Hf).h1.1 b e) (fun q hq=>(uh Hf).h1.2 q hq b e))
 replace n2:=Z9 (RecAt.same (uh n2) fun b e=>hb.block b (RecAt.lt (uh n2) e).2 ((uh Hf).h2.1 b e) (fun q hq=>(uh Hf).h2.2 q hq b e))
 replace n3:=Z9 (RecAt.same (uh n3) fun b e=>hb.block b (RecAt.lt (uh n3) e).2 ((uh Hf).h3.1 b e) (fun q hq=>(uh Hf).h3.2 q hq b e))
 replace n4:=Z9 (RecAt.same (uh n4) fun b e=>hb.block b (RecAt.lt (uh n4) e).2 ((uh Hf).h4.1 b e) (fun q hq=>(uh Hf).h4.2 q hq b e))
 replace kb:=Z9 ((uh kb).same (hb.block w.heap.size hsz (fun e=>by have:=uh Ln _ (.inl e);omega) (fun q hq e=>by have:=uh Ln _ (.inr ⟨q,hq,e⟩);omega)))
 replace OO:=Z9 (⟨hb.os.trans (uh OO).os,hb.tape.trans (uh OO).tape,hb.output.trans (uh OO).output,Nat.le_trans (uh OO).size hb.size,fun k hk h0 hq h1 h2 h3 h4=>(hb.block k (Nat.lt_of_lt_of_le hk (uh OO).size) h0 hq).trans ((uh OO).block k hk h0 hq h1 h2 h3 h4)⟩:SmyOnly _ _ _ _ _ qs w w1)
 replace hsz:w.heap.size<w1.heap.size:=Nat.lt_of_lt_of_le hsz hb.size
 clear ho hb
 have c1:=(uh kb).cell (i:=1) (v:= .slice a1 m.guilds.length p1) rfl
 go_wp2_with fail
 clear c1
 refine (N9 (ke) (uh n1) (by omega) (by omega) (by omega)).mono ?_
 rintro e w2 ⟨rfl,ho,hg⟩
 have hlt1:=fun b e=>uh L1 b e
 replace n0:=Z9 (OwnHall.keep (uh n0) hg ((uh Hf).h1.marked k))
 replace n2:=Z9 (RecAt.grown (uh n2) hg (fun b e=>fun e2=>((uh Hf).a12).symm b e e2))
 replace n3:=Z9 (RecAt.grown (uh n3) hg (fun b e=>fun e2=>((uh Hf).a13).symm b e e2))
 replace n4:=Z9 (RecAt.grown (uh n4) hg (fun b e=>fun e2=>((uh Hf).a14).symm b e e2))
 replace n1:=Z9 ho
 replace kb:=Z9 ((uh kb).same (hg.block w.heap.size hsz (fun e=>by have:=hlt1 _ e.symm;omega)))
 replace OO:=Z9 (⟨hg.os.trans (uh OO).os,hg.tape.trans (uh OO).tape,hg.output.trans (uh OO).output,Nat.le_trans (uh OO).size hg.size,fun k hk h0 hq h1 h2 h3 h4=>(hg.block k (Nat.lt_of_lt_of_le hk (uh OO).size) (fun e=>h1 e.symm)).trans ((uh OO).block k hk h0 hq h1 h2 h3 h4)⟩:SmyOnly _ _ _ _ _ qs w w2)
 replace hsz:w.heap.size<w2.heap.size:=Nat.lt_of_lt_of_le hsz hg.size
 clear ho hg hlt1
 have c2:=(uh kb).cell (i:=2) (v:= .slice a2 m.smiths.length p2) rfl
 go_wp2_with fail
 clear c2
 refine (Oc (ke+3*(m.guilds.length:Int)) (uh n2) (by omega) (by omega) (by omega)).mono ?_
 rintro e w3 ⟨rfl,ho,hg⟩
 have hlt2:=fun b e=>uh L2 b e
 replace n0:=Z9 (OwnHall.keep (uh n0) hg ((uh Hf).h2.marked k))
 replace n1:=Z9 (RecAt.grown (uh n1) hg (fun b e=>fun e2=>(uh Hf).a12 b e e2))
 replace n3:=Z9 (RecAt.grown (uh n3) hg (fun b e=>fun e2=>((uh Hf).a23).symm b e e2))
 replace n4:=Z9 (RecAt.grown (uh n4) hg (fun b e=>fun e2=>((uh Hf).a24).symm b e e2))
 replace n2:=Z9 ho
 replace kb:=Z9 ((uh kb).same (hg.block w.heap.size hsz (fun e=>by have:=hlt2 _ e.symm;omega)))
 replace OO:=Z9 (⟨hg.os.trans (uh OO).os,hg.tape.trans (uh OO).tape,hg.output.trans (uh OO).output,Nat.le_trans (uh OO).size hg.size,fun k hk h0 hq h1 h2 h3 h4=>(hg.block k (Nat.lt_of_lt_of_le hk (uh OO).size) (fun e=>h2 e.symm)).trans ((uh OO).block k hk h0 hq h1 h2 h3 h4)⟩:SmyOnly _ _ _ _ _ qs w w3)
 replace hsz:w.heap.size<w3.heap.size:=Nat.lt_of_lt_of_le hsz hg.size
 clear ho hg hlt2
 have c3:=(uh kb).cell (i:=3) (v:= .slice a3 m.desks.length p3) rfl
 go_wp2_with fail
 clear c3
 refine (MQ (ke+3*(m.guilds.length:Int)+11*(m.smiths.length:Int)) (uh n3) (by omega) (by omega) (by omega)).mono ?_
 rintro e w4 ⟨rfl,ho,hg⟩
 have hlt3:=fun b e=>uh L3 b e
 replace n0:=Z9 (OwnHall.keep (uh n0) hg ((uh Hf).h3.marked k))
 replace n1:=Z9 (RecAt.grown (uh n1) hg (fun b e=>fun e2=>(uh Hf).a13 b e e2))
 replace n2:=Z9 (RecAt.grown (uh n2) hg (fun b e=>fun e2=>(uh Hf).a23 b e e2))
 replace n4:=Z9 (RecAt.grown (uh n4) hg (fun b e=>fun e2=>((uh Hf).a34).symm b e e2))
 replace n3:=Z9 ho
 replace kb:=Z9 ((uh kb).same (hg.block w.heap.size hsz (fun e=>by have:=hlt3 _ e.symm;omega)))
 replace OO:=Z9 (⟨hg.os.trans (uh OO).os,hg.tape.trans (uh OO).tape,hg.output.trans (uh OO).output,Nat.le_trans (uh OO).size hg.size,fun k hk h0 hq h1 h2 h3 h4=>(hg.block k (Nat.lt_of_lt_of_le hk (uh OO).size) (fun e=>h3 e.symm)).trans ((uh OO).block k hk h0 hq h1 h2 h3 h4)⟩:SmyOnly _ _ _ _ _ qs w w4)
 replace hsz:w.heap.size<w4.heap.size:=Nat.lt_of_lt_of_le hsz hg.size
 clear ho hg hlt3
 have c4:=(uh kb).cell (i:=4) (v:= .slice a4 m.paces.length p4) rfl
 go_wp2_with fail
 clear c4
 refine (Lp (ke+3*(m.guilds.length:Int)+11*(m.smiths.length:Int)+3*(m.desks.length:Int)) (uh n4) (by omega) (by omega) (by omega)).mono ?_
 rintro e w5 ⟨rfl,ho,hg⟩
 have hlt4:=fun b e=>uh L4 b e
 replace n0:=Z9 (OwnHall.keep (uh n0) hg ((uh Hf).h4.marked k))
 replace n1:=Z9 (RecAt.grown (uh n1) hg (fun b e=>fun e2=>(uh Hf).a14 b e e2))
 replace n2:=Z9 (RecAt.grown (uh n2) hg (fun b e=>fun e2=>(uh Hf).a24 b e e2))
 replace n3:=Z9 (RecAt.grown (uh n3) hg (fun b e=>fun e2=>(uh Hf).a34 b e e2))
 replace n4:=Z9 ho
 replace kb:=Z9 ((uh kb).same (hg.block w.heap.size hsz (fun e=>by have:=hlt4 _ e.symm;omega)))
 replace OO:=Z9 (⟨hg.os.trans (uh OO).os,hg.tape.trans (uh OO).tape,hg.output.trans (uh OO).output,Nat.le_trans (uh OO).size hg.size,fun k hk h0 hq h1 h2 h3 h4=>(hg.block k (Nat.lt_of_lt_of_le hk (uh OO).size) (fun e=>h4 e.symm)).trans ((uh OO).block k hk h0 hq h1 h2 h3 h4)⟩:SmyOnly _ _ _ _ _ qs w w5)
 replace hsz:w.heap.size<w5.heap.size:=Nat.lt_of_lt_of_le hsz hg.size
 clear ho hg hlt4
 go_wp2_with fail
 go_ret
 refine ⟨rfl,⟨uh n0,rfl,?_,?_,?_,?_,(uh Hf).h1.marked k,(uh Hf).h2.marked k,(uh Hf).h3.marked k,(uh Hf).h4.marked k,(uh Hf).a12,(uh Hf).a13,(uh Hf).a14,(uh Hf).a23,(uh Hf).a24,(uh Hf).a34⟩,uh OO⟩
 ·show RecAt _ _ _ _ _ _ (UK k m qs).guilds
  unfold UK
  rw [uh Hke]
  exact uh n1
 ·show RecAt _ _ _ _ _ _ (UK k m qs).smiths
  unfold UK
  rw [uh Hke]
  exact uh n2
 ·show RecAt _ _ _ _ _ _ (UK k m qs).desks
  unfold UK
  rw [uh Hke]
  exact uh n3
 ·show RecAt _ _ _ _ _ _ (UK k m qs).paces
  unfold UK
  rw [uh Hke]
  exact uh n4
theorem Y8 {n₀:Nat} {w:World} {v0 v1 v2 v3 v4:Value} {m:Z4} {qs:List (Z3 × Value)} (k:Int) (h:FullSmy n₀ w v0 v1 v2 v3 v4 (UK k m qs) (YL k qs)) (hr:QB m.rooms) (hm:qs.map (·.1)=m.rooms) (hs:YT m) (hk0:0<=k) (hk1:k<=1000000000) :
  Calls Tryz.prog 53 #[.agg #[v0,v1,v2,v3,v4,.int .i64 m.now],.int .i64 k] w fun e w'=>e= .returned (.int .i64 (SI k m qs))/\Below w.heap.size w w':=by
 obtain ⟨sq,sp⟩:=Oy hr hm
 obtain ⟨e0,e1⟩:=NR sq sp k
 have Sp:=Z9 sp
 obtain ⟨_,s1,s2,s3,s4⟩:=hs
 have Hf:=Z9 h
 obtain ⟨a0,p0,rfl⟩:=h.hall.shape
 obtain ⟨a1,p1,rfl⟩:=RecAt.shape h.guilds
 obtain ⟨a2,p2,rfl⟩:=RecAt.shape h.smiths
 obtain ⟨a3,p3,rfl⟩:=RecAt.shape h.desks
 obtain ⟨a4,p4,rfl⟩:=RecAt.shape h.paces
 have l0:(YL k qs).length=m.rooms.length:=by rw [Xc,<-hm,List.length_map]
 have l1:(UK k m qs).guilds.length=m.guilds.length:=Yh _ _ _ _
 have l2:(UK k m qs).smiths.length=m.smiths.length:=Yh _ _ _ _
 have l3:(UK k m qs).desks.length=m.desks.length:=Yh _ _ _ _
 have l4:(UK k m qs).paces.length=m.paces.length:=U8 _ _
 rw [l0,l1,l2,l3,l4] at Hf ⊢
 clear h sp l0 l1 l2 l3 l4
 unfold SI
 have G1:Hid (∀ w',Below w.heap.size w w'->Y5 w' (.slice a1 m.guilds.length p1) (Wv Vh 3 (Yd k qs) m.guilds.length)):=Z9 fun w' hb=>GuildsAt.list (RecAt.later (uh Hf).guilds hb)
 have G2:Hid (∀ w',Below w.heap.size w w'->Ym w' (.slice a2 m.smiths.length p2) (Wv Vi 11 (Yd k qs+3*(m.guilds.length:Int)) m.smiths.length)):=Z9 fun w' hb=>SmithsAt.list (RecAt.later (uh Hf).smiths hb)
 have G3:Hid (∀ w',Below w.heap.size w w'->Xx w' (.slice a3 m.desks.length p3) (Wv UZ 3 (Yd k qs+3*(m.guilds.length:Int)+11*(m.smiths.length:Int)) m.desks.length)):=Z9 fun w' hb=>DesksAt.list (RecAt.later (uh Hf).desks hb)
 have G4:Hid (∀ w',Below w.heap.size w w'->NumsAt n₀ w' (.slice a4 m.paces.length p4) (Ul (Yd k qs+3*(m.guilds.length:Int)+11*(m.smiths.length:Int)+3*(m.desks.length:Int)) m.paces.length)):=Z9 fun w' hb=>RecAt.later (uh Hf).paces hb
 have G0:Hid (∀ w',Below w.heap.size w w'->IsRooms w' (.slice a0 m.rooms.length p0) ((YL k qs).map (·.1))):=Z9 fun w' hb=>((uh Hf).hall.later hb).rooms
 have HH:=Z9 (fun (w':World) (h9:IsRooms w' (.slice a0 m.rooms.length p0) ((YL k qs).map (·.1)))=>Lb k h9 hk0 hk1 sq (uh Sp))
 generalize Yd k qs=ke at *
 go_enter Tryz.func53,Tryz.ntmps53
 go_wp2_with fail
 obtain ⟨W,hW,BB,kb⟩:=Jz w 32 (S6 a0 p0 a1 p1 a2 p2 a3 p3 a4 p4 m)
 rw [hW]
 (try rw [hW] at Hv);clear hW
 refine (uh HH _ (uh G0 _ (uh BB))).mono ?_
 rintro e w1 ⟨rfl,hb⟩
 replace kb:=bl kb hb
 replace BB:=bt BB hb
 clear hb
 have c1:=(uh kb).cell (i:=1) (v:= .slice a1 m.guilds.length p1) rfl
 go_wp2_with fail
 clear c1
 refine (Nw (ke) _ (uh G1 _ (uh BB)) (by omega) (by omega) (by omega)).mono ?_
 rintro e w' ⟨rfl,h9⟩
 subst w'
 have c2:=(uh kb).cell (i:=2) (v:= .slice a2 m.smiths.length p2) rfl
 go_wp2_with fail
 clear c2
 refine (Nz (ke+3*(m.guilds.length:Int)) _ (uh G2 _ (uh BB)) (by omega) (by omega) (by omega)).mono ?_
 rintro e w' ⟨rfl,h9⟩
 subst w'
 have c3:=(uh kb).cell (i:=3) (v:= .slice a3 m.desks.length p3) rfl
 go_wp2_with fail
 clear c3
 refine (MJ (ke+3*(m.guilds.length:Int)+11*(m.smiths.length:Int)) _ (uh G3 _ (uh BB)) (by omega) (by omega) (by omega)).mono ?_
 rintro e w' ⟨rfl,h9⟩
 subst w'
 have c4:=(uh kb).cell (i:=4) (v:= .slice a4 m.paces.length p4) rfl
 go_wp2_with fail
 clear c4
 refine (Ld (ke+3*(m.guilds.length:Int)+11*(m.smiths.length:Int)+3*(m.desks.length:Int)) _ (uh G4 _ (uh BB)) (by omega) (by omega) (by omega)).mono ?_
 rintro e w' ⟨rfl,h9⟩
 subst w'
 go_wp2_with fail
 go_ret
 exact ⟨rfl,uh BB⟩
def XW (v0 v1 v2 v3 v4:Value) (qs:List (Z3 × Value)) (k:Nat):Prop:=v0.ownBlock=some k\/(∃ q ∈ qs,q.2.ownBlock=some k)\/v1.ownBlock=some k\/v2.ownBlock=some k\/v3.ownBlock=some k\/v4.ownBlock=some k
section
variable {n₀ : Nat} {w w' : World} {v0 v1 v2 v3 v4 : Value} {m : Z4} {qs : List (Z3 × Value)}
theorem FullSmy.own (h:FullSmy n₀ w v0 v1 v2 v3 v4 m qs) {k:Nat} (e:XW v0 v1 v2 v3 v4 qs k):n₀<=k/\k<w.heap.size:=by
 rcases e with e | e | e | e | e | e
 ·exact h.hall.lt (.inl e)
 ·exact h.hall.lt (.inr e)
 ·exact RecAt.lt h.guilds e
 ·exact RecAt.lt h.smiths e
 ·exact RecAt.lt h.desks e
 ·exact RecAt.lt h.paces e
theorem FullSmy.keep (h:FullSmy n₀ w v0 v1 v2 v3 v4 m qs) (hs:∀ k,XW v0 v1 v2 v3 v4 qs k->w'.heap[k]?=w.heap[k]?):FullSmy n₀ w' v0 v1 v2 v3 v4 m qs:=
 ⟨⟨YM h.hall.row (fun k e=>hs k (.inl e)),fun q hq=>YM (h.hall.paces q hq) (fun k e=>hs k (.inr (.inl ⟨q,hq,e⟩))),h.hall.off,h.hall.apart⟩,h.rooms,RecAt.same h.guilds fun k e=>hs k (.inr (.inr (.inl e))),RecAt.same h.smiths fun k e=>hs k (.inr (.inr (.inr (.inl e)))),RecAt.same h.desks fun k e=>hs k (.inr (.inr (.inr (.inr (.inl e))))),RecAt.same h.paces fun k e=>hs k (.inr (.inr (.inr (.inr (.inr e))))),h.h1,h.h2,h.h3,h.h4,h.a12,h.a13,h.a14,h.a23,h.a24,h.a34⟩
end
end Go.Proofs.YtjhijildaceadaaGreatDoor
namespace Go.Proofs.YtjhijildaceadaaGreatDoor
open Go.ChangeShapes Go.WideShapes Go.ChangeAt Go.RowKit Go.Sort
set_option linter.unusedVariables false
section
variable {w w' : World}
theorem SmyOnly.at {u0 u1 u2 u3 u4:Value} {rs:List (Z3 × Value)} (h:SmyOnly u0 u1 u2 u3 u4 rs w w') {k:Nat} (hk:k<w.heap.size) (hn:¬ XW u0 u1 u2 u3 u4 rs k):w'.heap[k]?=w.heap[k]?:=
 h.block k hk (fun e=>hn (.inl e)) (fun q hq e=>hn (.inr (.inl ⟨q,hq,e⟩))) (fun e=>hn (.inr (.inr (.inl e)))) (fun e=>hn (.inr (.inr (.inr (.inl e))))) (fun e=>hn (.inr (.inr (.inr (.inr (.inl e)))))) (fun e=>hn (.inr (.inr (.inr (.inr (.inr e))))))
theorem SmyOnly.below {u0 u1 u2 u3 u4:Value} {rs:List (Z3 × Value)} {B:Nat} (h:SmyOnly u0 u1 u2 u3 u4 rs w w') (hB:B<=w.heap.size) (ho:∀ k,XW u0 u1 u2 u3 u4 rs k->B<=k):Below B w w':=
 ⟨h.os,h.tape,h.output,h.size,fun k hk=>h.at (by omega) (fun e=>by have:=ho k e;omega)⟩
end
theorem VM {m:Z4} {qs:List (Z3 × Value)} (hs:YT m) (hm:qs.map (·.1)=m.rooms):1<=SI 1 m qs/\SI 1 m qs<=10000000000000:=by
 obtain ⟨sq,sp⟩:=Oy hs.rooms hm
 obtain ⟨e0,e1⟩:=NR sq sp 1
 obtain ⟨_,s1,s2,s3,s4⟩:=hs
 unfold SI
 omega
end Go.Proofs.YtjhijildaceadaaGreatDoor
namespace Go.Proofs.YtjhijildaceadaaGreatDoor
open Go.ChangeShapes Go.WideShapes Go.ChangeAt Go.RowKit
set_option linter.unusedVariables false
set_option linter.unusedSimpArgs false
abbrev Zv (a:Addr):Value:= .iface 344 (.pointer (some a))
abbrev Qm (b:Nat):Value:= .iface 159 (.pointer (some ⟨b,0,none⟩))
abbrev rty (t:Nat):Value:= .iface 268 (.agg #[.pointer (some ⟨6,t,none⟩)])
theorem tyE (v:Value) (w:World):(callFunc 301 #[.iface 344 v]).run Tryz.prog w= .ok (.value (rty 344)) w:=by
 rw [@run_callFunc_extern Tryz.prog 301 _ Extern.ReflectliteType.typeOf Tryz.func301 (by kernel_rfl) (by kernel_rfl) (by kernel_rfl) (by kernel_rfl)]
 kernel_rfl
theorem tyR (v:Value) (w:World):(callFunc 301 #[.iface 159 v]).run Tryz.prog w= .ok (.value (rty 159)) w:=by
 rw [@run_callFunc_extern Tryz.prog 301 _ Extern.ReflectliteType.typeOf Tryz.func301 (by kernel_rfl) (by kernel_rfl) (by kernel_rfl) (by kernel_rfl)]
 kernel_rfl
theorem Bo (v : Value) (w : World) : (method 484 268 v "Comparable").run Tryz.prog w = .ok (421, v) w := by kernel_rfl
theorem Bh (w:World):(callFunc 421 #[.agg #[.pointer (some ⟨6,344,none⟩)]]).run Tryz.prog w= .ok (.value (.bool true)) w:=by
 rw [@run_callFunc_extern Tryz.prog 421 _ (Extern.ReflectliteType.method fun t => do Extern.Rtype.noPackHeld "Comparable" t; pure (.bool (← typeInfo t).comparable)) Tryz.func421 (by kernel_rfl) (by kernel_rfl) (by kernel_rfl) (by kernel_rfl)]
 kernel_rfl
theorem Gk:(Tryz.prog.info? 344).map (·.comparable)=some true:=by kernel_rfl
theorem Gl:(Tryz.prog.info? 371).map (·.size)=some 1:=by kernel_rfl
theorem BO (v:Value) (xT:TypeId) (w:World):(Instr.typeAssert (.iface 344 v) xT 313 true).run Tryz.prog w= .ok (.tuple #[.nilIface,.bool false]) w:=run_typeAssert_lacksB Tryz.underlying313 (by kernel_rfl) (by kernel_rfl) v xT w
theorem Qg (v:Value) (xT:TypeId) (w:World):(Instr.typeAssert (.iface 344 v) xT 276 true).run Tryz.prog w= .ok (.tuple #[.nilIface,.bool false]) w:=run_typeAssert_lacksB Tryz.underlying276 (by kernel_rfl) (by kernel_rfl) v xT w
theorem RI (v:Value) (xT:TypeId) (w:World):(Instr.typeAssert (.iface 344 v) xT 278 true).run Tryz.prog w= .ok (.tuple #[.nilIface,.bool false]) w:=run_typeAssert_lacksB Tryz.underlying278 (by kernel_rfl) (by kernel_rfl) v xT w
theorem BP (v:Value) (xT:TypeId) (w:World):(Instr.typeAssert (.iface 159 v) xT 313 true).run Tryz.prog w= .ok (.tuple #[.nilIface,.bool false]) w:=run_typeAssert_lacksB Tryz.underlying313 (by kernel_rfl) (by kernel_rfl) v xT w
theorem Nv (v:Value) (xT:TypeId) (w:World):(Instr.typeAssert (.iface 159 v) xT 276 true).run Tryz.prog w= .ok (.tuple #[.iface 159 v,.bool true]) w:=run_typeAssert_hasB Tryz.underlying276 (by kernel_rfl) v xT w
theorem Fs (v : Value) (w : World) : (method 484 159 v "Unwrap").run Tryz.prog w = .ok (404, v) w := by kernel_rfl
theorem QV {a b:Addr} {ca cb:Array Value} {ta tb:TypeId} (w:World) (hne:a ≠ b) (ha:w.heap[a.block]?=some (.cells ca ta (0,0))) (hb:w.heap[b.block]?=some (.cells cb tb (0,0))):Calls Tryz.prog 248 #[Zv a,Zv b] w fun e w'=>e= .returned (.bool false)/\w'=w:=by
 obtain ⟨i,hi,hcmp⟩:=Option.map_eq_some_iff.1 Gk
 obtain ⟨j,hj,hjs⟩:=Option.map_eq_some_iff.1 Gl
 have tT:=tyE
 have cT:=Bh
 have mR:=Bo
 have nE:=BO
 have uE:=Qg
 have vE:=RI
 have heq:=run_eql_iface_ptr_other (P:=Tryz.prog) w Tryz.underlying97 Tryz.underlying344 hi hcmp hj (by rw [hjs];decide) hne ha hb
 go_enter Tryz.func248,Tryz.ntmps248
 go_wp2
 refine wp_loop_rounds 1 ?_
 rw [rounds_succ]
 go_wp2
 go_ret
 exact ⟨rfl,rfl⟩
theorem Vg (pb:Nat) (b:Addr) (w:World) (h1:w.cell? ⟨pb,6,none⟩=some (Zv b)):Calls Tryz.prog 248 #[Qm pb,Zv b] w fun e w'=>e= .returned (.bool true)/\w'=w:=by
 obtain ⟨i,hi,hcmp⟩:=Option.map_eq_some_iff.1 Gk
 obtain ⟨j,hj,hjs⟩:=Option.map_eq_some_iff.1 Gl
 have tT:=tyE
 have cT:=Bh
 have mR:=Bo
 have nW:=BP
 have uW:=Nv
 have mU:=Fs
 have heq:=run_eql_iface_ptr_same (P:=Tryz.prog) w b Tryz.underlying97 Tryz.underlying344 hi hcmp hj
 have hty:=run_eql_iface_types (P:=Tryz.prog) 159 344 (.pointer (some ⟨pb,0,none⟩)) (.pointer (some b)) Tryz.underlying97 (by decide) w
 go_enter Tryz.func248,Tryz.ntmps248
 go_wp2
 refine wp_loop_rounds 2 ?_
 rw [rounds_succ]
 go_wp2
 rw [rounds_succ]
 go_wp2
 go_ret
 exact ⟨rfl,rfl⟩
theorem Y4 (pb:Nat) {a b:Addr} {ca cb:Array Value} {ta tb:TypeId} (w:World) (h1:w.cell? ⟨pb,6,none⟩=some (Zv a)) (hne:a ≠ b) (ha:w.heap[a.block]?=some (.cells ca ta (0,0))) (hb:w.heap[b.block]?=some (.cells cb tb (0,0))):Calls Tryz.prog 248 #[Qm pb,Zv b] w fun e w'=>e= .returned (.bool false)/\w'=w:=by
 obtain ⟨i,hi,hcmp⟩:=Option.map_eq_some_iff.1 Gk
 obtain ⟨j,hj,hjs⟩:=Option.map_eq_some_iff.1 Gl
 have tT:=tyE
 have cT:=Bh
 have mR:=Bo
 have nE:=BO
 have uE:=Qg
 have vE:=RI
 have nW:=BP
 have uW:=Nv
 have mU:=Fs
 have heq:=run_eql_iface_ptr_other (P:=Tryz.prog) w Tryz.underlying97 Tryz.underlying344 hi hcmp hj (by rw [hjs];decide) hne ha hb
 have hty:=run_eql_iface_types (P:=Tryz.prog) 159 344 (.pointer (some ⟨pb,0,none⟩)) (.pointer (some b)) Tryz.underlying97 (by decide) w
 go_enter Tryz.func248,Tryz.ntmps248
 go_wp2
 refine wp_loop_rounds 2 ?_
 rw [rounds_succ]
 go_wp2
 rw [rounds_succ]
 go_wp2
 go_ret
 exact ⟨rfl,rfl⟩
abbrev tgt (b:Nat):Value:= .iface 161 (.pointer (some ⟨b,0,none⟩))
abbrev Ks (b:Nat):Value:= .agg #[.pointer (some ⟨6,161,none⟩),.pointer (some ⟨b,0,none⟩),.int .u64 150]
abbrev Fb (b:Nat):Value:= .agg #[.pointer (some ⟨6,159,none⟩),.pointer (some ⟨b,0,none⟩),.int .u64 406]
abbrev DX (b:Nat):Value:= .agg #[.pointer (some ⟨6,159,none⟩),.pointer (some ⟨b,0,none⟩),.int .u64 150]
open Extern.ReflectliteValue in
theorem A9 (b:Nat) (w:World):(callFunc 244 #[tgt b]).run Tryz.prog w= .ok (.value (Ks w.heap.size)) (w.alloc (.cells #[.pointer (some ⟨b,0,none⟩)] 161)):=by
 rw [@run_callFunc_extern Tryz.prog 244 _ (fun args=>unpack (args.getD 0 (.tuple #[]))) Tryz.func244 (by kernel_rfl) (by kernel_rfl) (by kernel_rfl) (by kernel_rfl)]
 kernel_rfl
open Extern.ReflectliteValue in
theorem AX (b:Nat) (w:World):(callFunc 244 #[Qm b]).run Tryz.prog w= .ok (.value (DX w.heap.size)) (w.alloc (.cells #[.pointer (some ⟨b,0,none⟩)] 159)):=by
 rw [@run_callFunc_extern Tryz.prog 244 _ (fun args=>unpack (args.getD 0 (.tuple #[]))) Tryz.func244 (by kernel_rfl) (by kernel_rfl) (by kernel_rfl) (by kernel_rfl)]
 kernel_rfl
open Extern.ReflectliteValue in
theorem BS (b:Nat) (w:World):(callFunc 245 #[Ks b]).run Tryz.prog w= .ok (.value (rty 161)) w:=by
 rw [@run_callFunc_extern Tryz.prog 245 _ (methodAny (valueError "reflectlite.Value.Type" 0) fun t _ _ _ => Extern.ReflectliteType.toType t) Tryz.func245 (by kernel_rfl) (by kernel_rfl) (by kernel_rfl) (by kernel_rfl)]
 kernel_rfl
theorem BM (p : Value) (w : World) : (method 484 268 (.agg #[p]) "Kind").run Tryz.prog w = .ok (396, p) w := by kernel_rfl
theorem BK (v : Value) (w : World) : (method 484 268 v "Elem").run Tryz.prog w = .ok (422, v) w := by kernel_rfl
theorem BL (v : Value) (w : World) : (method 484 268 v "Implements").run Tryz.prog w = .ok (423, v) w := by kernel_rfl
theorem BJ (v : Value) (w : World) : (method 484 268 v "AssignableTo").run Tryz.prog w = .ok (420, v) w := by kernel_rfl
theorem BH (w:World):(callFunc 396 #[.pointer (some ⟨6,161,none⟩)]).run Tryz.prog w= .ok (.value (.int .u8 22)) w:=by
 rw [@run_callFunc_extern Tryz.prog 396 _ (Extern.ReflectliteType.abiMethod fun t=>do pure (.int .u8 (<-Extern.Rtype.kind t))) Tryz.func396 (by kernel_rfl) (by kernel_rfl) (by kernel_rfl) (by kernel_rfl)]
 kernel_rfl
theorem BI (w:World):(callFunc 396 #[.pointer (some ⟨6,159,none⟩)]).run Tryz.prog w= .ok (.value (.int .u8 22)) w:=by
 rw [@run_callFunc_extern Tryz.prog 396 _ (Extern.ReflectliteType.abiMethod fun t=>do pure (.int .u8 (<-Extern.Rtype.kind t))) Tryz.func396 (by kernel_rfl) (by kernel_rfl) (by kernel_rfl) (by kernel_rfl)]
 kernel_rfl
theorem BE (w:World):(callFunc 422 #[.agg #[.pointer (some ⟨6,161,none⟩)]]).run Tryz.prog w= .ok (.value (rty 159)) w:=by
 rw [@run_callFunc_extern Tryz.prog 422 _ (Extern.ReflectliteType.method Extern.ReflectliteType.elem) Tryz.func422 (by kernel_rfl) (by kernel_rfl) (by kernel_rfl) (by kernel_rfl)]
 kernel_rfl
theorem BG (w:World):(callFunc 423 #[.agg #[.pointer (some ⟨6,159,none⟩)],rty 97]).run Tryz.prog w= .ok (.value (.bool true)) w:=by
 rw [@run_callFunc_extern Tryz.prog 423 _ (Extern.ReflectliteType.relation "Implements" Extern.ReflectliteType.implements_) Tryz.func423 (by kernel_rfl) (by kernel_rfl) (by kernel_rfl) (by kernel_rfl)]
 kernel_rfl
theorem A0 (w:World):(callFunc 420 #[.agg #[.pointer (some ⟨6,344,none⟩)],rty 159]).run Tryz.prog w= .ok (.value (.bool false)) w:=by
 rw [@run_callFunc_extern Tryz.prog 420 _ (Extern.ReflectliteType.relation "AssignableTo" Extern.ReflectliteType.assignableTo) Tryz.func420 (by kernel_rfl) (by kernel_rfl) (by kernel_rfl) (by kernel_rfl)]
 kernel_rfl
theorem A1 (w:World):(callFunc 420 #[.agg #[.pointer (some ⟨6,159,none⟩)],rty 159]).run Tryz.prog w= .ok (.value (.bool true)) w:=by
 rw [@run_callFunc_extern Tryz.prog 420 _ (Extern.ReflectliteType.relation "AssignableTo" Extern.ReflectliteType.assignableTo) Tryz.func420 (by kernel_rfl) (by kernel_rfl) (by kernel_rfl) (by kernel_rfl)]
 kernel_rfl
theorem A4 (v:Value) (xT:TypeId) (w:World):(Instr.typeAssert (.iface 344 v) xT 273 true).run Tryz.prog w= .ok (.tuple #[.nilIface,.bool false]) w:=run_typeAssert_lacksB Tryz.underlying273 (by kernel_rfl) (by kernel_rfl) v xT w
open Extern.ReflectliteValue in
theorem A8 (b:Nat) (x:Addr) (w:World) (hc:w.cell? ⟨b,0,none⟩=some (.pointer (some x))):(callFunc 246 #[Ks b]).run Tryz.prog w= .ok (.value (.bool false)) w:=by
 rw [@run_callFunc_extern Tryz.prog 246 _ (Extern.ReflectliteValue.method (valueError "reflectlite.Value.IsNil" 0) isNil) Tryz.func246 (by kernel_rfl) (by kernel_rfl) (by kernel_rfl) (by kernel_rfl)]
 have hp:(parts (Ks b)).run Tryz.prog w= .ok (some (161,⟨b,0,none⟩,150)) w:=by kernel_rfl
 have ha:(isAgg 161).run Tryz.prog w= .ok false w:=by kernel_rfl
 have hl:(loadVar 161 ⟨b,0,none⟩).run Tryz.prog w= .ok (.pointer (some x)) w:=by simp [loadVar,ha,run_load,hc]
 show ((do match ← parts (Ks b) with | none => valueError "reflectlite.Value.IsNil" 0 | some (t, a, fl) => isNil t a fl (fl % 32) : Sem Value).run Tryz.prog w).andThen _ = _
 simp [hp,isNil,hl]
open Extern.ReflectliteValue in
theorem A7 (b r:Nat) (w:World) (hc:w.cell? ⟨b,0,none⟩=some (.pointer (some ⟨r,0,none⟩))):(callFunc 302 #[Ks b]).run Tryz.prog w= .ok (.value (Fb r)) w:=by
 rw [@run_callFunc_extern Tryz.prog 302 _ (Extern.ReflectliteValue.method (valueError "reflectlite.Value.Elem" 0) elem) Tryz.func302 (by kernel_rfl) (by kernel_rfl) (by kernel_rfl) (by kernel_rfl)]
 have hp:(parts (Ks b)).run Tryz.prog w= .ok (some (161,⟨b,0,none⟩,150)) w:=by kernel_rfl
 have ha:(isAgg 161).run Tryz.prog w= .ok false w:=by kernel_rfl
 have hl:(loadVar 161 ⟨b,0,none⟩).run Tryz.prog w= .ok (.pointer (some ⟨r,0,none⟩)) w:=by simp [loadVar,ha,run_load,hc]
 have he:(Extern.Rtype.elem? 161).run Tryz.prog w= .ok (some 159) w:=by kernel_rfl
 have hm:(mk 159 ⟨r,0,none⟩ flagAddr).run Tryz.prog w= .ok (Fb r) w:=by kernel_rfl
 show ((do match ← parts (Ks b) with | none => valueError "reflectlite.Value.Elem" 0 | some (t, a, fl) => elem t a fl (fl % 32) : Sem Value).run Tryz.prog w).andThen _ = _
 simp [hp,elem,hl,he,hm]
open Extern.ReflectliteValue in
theorem AY (b r p:Nat) (w:World) (hc:w.cell? ⟨b,0,none⟩=some (.pointer (some ⟨p,0,none⟩))) (hr:w.cell? ⟨r,0,none⟩=some (.pointer none)) (hzr:w.frozen? ⟨r,0,none⟩=false):(callFunc 303 #[Fb r,DX b]).run Tryz.prog w= .ok (.value (.tuple #[])) (w.setCell ⟨r,0,none⟩ (.pointer (some ⟨p,0,none⟩))):=by
 rw [@run_callFunc_extern Tryz.prog 303 _ Extern.ReflectliteValue.set Tryz.func303 (by kernel_rfl) (by kernel_rfl) (by kernel_rfl) (by kernel_rfl)]
 have hp:(parts (Fb r)).run Tryz.prog w= .ok (some (159,⟨r,0,none⟩,406)) w:=by kernel_rfl
 have hq:(parts (DX b)).run Tryz.prog w= .ok (some (159,⟨b,0,none⟩,150)) w:=by kernel_rfl
 have ha:(isAgg 159).run Tryz.prog w= .ok false w:=by kernel_rfl
 have hl:(loadVar 159 ⟨b,0,none⟩).run Tryz.prog w= .ok (.pointer (some ⟨p,0,none⟩)) w:=by simp [loadVar,ha,run_load,hc]
 have hd:(Extern.Rtype.directlyAssignable 159 159).run Tryz.prog w= .ok true w:=by kernel_rfl
 have hs:(storeVar 159 ⟨r,0,none⟩ (.pointer (some ⟨p,0,none⟩))).run Tryz.prog w= .ok () (w.setCell ⟨r,0,none⟩ (.pointer (some ⟨p,0,none⟩))):=by
  have hz:(sizeOf 159).run Tryz.prog w= .ok 1 w:=by kernel_rfl
  simp [storeVar,hz,storeCells,Value.cells]
  show (store ⟨r,0,none⟩ (.pointer (some ⟨p,0,none⟩))).run Tryz.prog w=_
  rw [run_store _ _ _ _ _ rfl,hr]
  simp [hzr]
 have h0:(Extern.ReflectliteValue.set #[Fb r,DX b]).run Tryz.prog w= .ok (.tuple #[]) (w.setCell ⟨r,0,none⟩ (.pointer (some ⟨p,0,none⟩))):=by
  unfold Extern.ReflectliteValue.set
  show Sem.run Tryz.prog (parts (Fb r) >>=_) w=_
  rw [Sem.run_bind,hp]
  simp only [Result.andThen_ok]
  show Sem.run Tryz.prog (parts (DX b) >>=_) w=_
  rw [Sem.run_bind,hq]
  simp only [Result.andThen_ok]
  simp [hl,hd,hs,flagAddr]
 rw [h0];rfl
theorem Bc (v:Value) (w:World):Calls Tryz.prog 181 #[.nilIface,v] w fun e w'=>e= .returned (.bool false)/\w'=w:=by
 go_enter Tryz.func181,Tryz.ntmps181
 go_wp2
 go_ret
 exact ⟨rfl,rfl⟩
abbrev asW (b:Nat) (w:World):World:=(w.alloc (.cells #[.pointer (some ⟨b,0,none⟩)] 161)).alloc (.cells #[.pointer (some ⟨6,161,none⟩),.pointer (some ⟨w.heap.size,0,none⟩),.int .u64 150] 204)
theorem Iu (b:Nat) (w:World):(asW b w).cell? ⟨w.heap.size,0,none⟩=some (.pointer (some ⟨b,0,none⟩)):=by go_simp
theorem Sd (b:Nat) (w:World):Below w.heap.size w (asW b w):=((Below.refl _ _).alloc (Nat.le_refl _) _).alloc (by simp) _
theorem AZ (a:Addr) (b:Nat) (w:World) (hT:w.cell? ⟨5,0,none⟩=some (rty 97)):Calls Tryz.prog 181 #[Zv a,tgt b] w fun e w'=>e= .returned (.bool false)/\Below w.heap.size w w':=by
 have h1:=A9
 have h2:=BS
 have h3:=BM
 have h4:=BH
 have h5:=BI
 have h6:=BK
 have h7:=BE
 have h8:=BL
 have h9:=BG
 have h10:=A8 w.heap.size ⟨b,0,none⟩ (asW b w) (Iu b w)
 have hT2:(asW b w).cell? ⟨5,0,none⟩=some (rty 97):=((Sd b w).cell (World.block_lt_of_cell? _ _ hT)).trans hT
 have t1:=tyE
 have t2:=BJ
 have t3:=A0
 have t4:=A4
 have uE:=Qg
 have vE:=RI
 go_enter Tryz.func181,Tryz.ntmps181
 go_wp2
 refine wp_loop_rounds 1 ?_
 rw [rounds_succ]
 go_wp2
 go_ret
 exact ⟨rfl,((Sd b w).alloc (by simp;omega) _)⟩
theorem Eb {n:Nat} {w W:World} {b:Nat} {v:Value} (h:Below n w W) (hn:n<=b):Below n w (W.setCell ⟨b,0,none⟩ v):=Below.setCell h hn v
abbrev asX (b:Nat) (w:World):World:=(asW b w).alloc (.cells #[.pointer (some ⟨6,161,none⟩),.pointer (some ⟨w.heap.size,0,none⟩),.int .u64 150] 204)
abbrev asY (b p:Nat) (w:World):World:=(asX b w).alloc (.cells #[.pointer (some ⟨p,0,none⟩)] 159)
theorem Cy (b:Nat) (w:World):(asX b w).cell? ⟨w.heap.size,0,none⟩=some (.pointer (some ⟨b,0,none⟩)):=by go_simp
theorem Cz (b:Nat) (w:World):(asX b w).heap.size=w.heap.size+1+1+1:=by simp
theorem CA (b p:Nat) (w:World):(asY b p w).cell? ⟨w.heap.size+1+1+1,0,none⟩=some (.pointer (some ⟨p,0,none⟩)):=by go_simp
theorem PW (b p:Nat) (w:World):Below w.heap.size w (asY b p w):=((Sd b w).alloc (by simp;omega) _).alloc (by simp;omega) _
theorem Bd (b p:Nat) (w:World) (hT:w.cell? ⟨5,0,none⟩=some (rty 97)) (hb:w.cell? ⟨b,0,none⟩=some (.pointer none)) (hz:w.frozen? ⟨b,0,none⟩=false):Calls Tryz.prog 181 #[Qm p,tgt b] w fun e w'=>e= .returned (.bool true)/\w'.cell? ⟨b,0,none⟩=some (.pointer (some ⟨p,0,none⟩))/\ ∀ n,n<=b->n<=w.heap.size->Below n w w':=by
 have h1:=A9
 have h2:=BS
 have h3:=BM
 have h4:=BH
 have h5:=BI
 have h6:=BK
 have h7:=BE
 have h8:=BL
 have h9:=BG
 have h10:=A8 w.heap.size ⟨b,0,none⟩ (asW b w) (Iu b w)
 have hT2:(asW b w).cell? ⟨5,0,none⟩=some (rty 97):=((Sd b w).cell (World.block_lt_of_cell? _ _ hT)).trans hT
 have t1:=tyR
 have t2:=BJ
 have t3:=A1
 have k1:=AX p (asX b w)
 rw [Cz] at k1
 have k2:=A7 w.heap.size b (asX b w) (Cy b w)
 have hlt:=World.block_lt_of_cell? _ _ hb
 have hb2:(asY b p w).cell? ⟨b,0,none⟩=some (.pointer none):=((PW b p w).cell hlt).trans hb
 have hz2:(asY b p w).frozen? ⟨b,0,none⟩=false:=((PW b p w).frozen hlt).trans hz
 have k3:=AY (w.heap.size+1+1+1) b p (asY b p w) (CA b p w) hb2 hz2
 go_enter Tryz.func181,Tryz.ntmps181
 go_wp2
 refine wp_loop_rounds 1 ?_
 rw [rounds_succ]
 go_wp2
 go_ret
 exact ⟨rfl,World.cell?_setCell_same _ _ _ hb2,fun n hn hnw=>Eb ((PW b p w).mono hnw) hn⟩
end Go.Proofs.YtjhijildaceadaaGreatDoor
