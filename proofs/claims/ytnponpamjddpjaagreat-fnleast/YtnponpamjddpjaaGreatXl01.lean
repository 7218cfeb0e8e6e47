/- Part 1 of what the proof rests on besides. No condition but those that a theorem names. -/
import Derived.Test.YtnponpamjddpjaaGreatXt41
set_option maxHeartbeats 8000000
set_option maxRecDepth 100000
namespace Go.Proofs.YtnponpamjddpjaaGreat
open Go.ChangeShapes Go.WideShapes Go.ChangeAt Go.RowKit Go.Sort
set_option linter.unusedVariables false
def V3 (m:Z3) (b:Int):List Z6:=if ZK m && Vu m b then atV m.smiths b m.smiths.length else []
theorem Eh {m:Z3} (h:ZK m=true):m.smiths.length<=12:=by
 unfold ZK YZ YS at h
 simp only [Bool.and_eq_true,decide_eq_true_eq] at h
 exact h.1.1.2.2.1
theorem Er {ss:List Z4} {b:Int} (h:atV ss b ss.length=[]):XB ss b= -1:=by unfold XB;rw [h]
def V5 (m:Z3) (b:Int):Bool:=ZK m && (Vu m b && ((Z8 m.desks b.toNat).1 && decide ((atV m.smiths b m.smiths.length).length=0)))
def V4 (ds:List Ys):List Int:=ds.map fun d=>d.2.1
def V6 (m:Z3):List Int:=if ZK m then V4 m.desks else []
theorem Oh (ds:List Ys):(V4 ds).length=ds.length:=by unfold V4;simp
theorem Et {ds:List Ys} {k:Nat} (h:k<ds.length):V4 (ds.take (k+1))=V4 (ds.take k)++[(Z8 ds k).2.1]:=by
 unfold V4 Z8
 rw [List.take_add_one,List.map_append,List.getD,List.getElem?_eq_getElem h];rfl
theorem Ex {w:World} {v0 v1 v2 v3 v4:Value} {m:Z3} (b:Int) (h:Smy w v0 v1 v2 v3 v4 m) :
  Calls Tryz.prog 16 #[.agg #[v0,v1,v2,v3,v4,.int .i64 m.now],.int .i64 b] w fun e w'=> ∃ v',e= .returned v'/\EntsAt w.heap.size w' v' (V3 m b)/\Below w.heap.size w w':=by
 have Hv:=Z9 (h.alloc (.cells #[v0,v1,v2,v3,v4,.int .i64 m.now] 32))
 obtain ⟨a0,p0,a1,p1,a2,p2,a3,p3,a4,p4,rfl,rfl,rfl,rfl,rfl,_,_,_,_,_,_,_,_,_,_⟩:=h.five
 clear h
 obtain ⟨q,hq⟩:∃ q,ZK m=q:=⟨_,rfl⟩
 have Hq:=Z9 hq
 clear hq
 obtain ⟨qb,hqb⟩:∃ q,Vu m b=q:=⟨_,rfl⟩
 have Hqb:=Z9 hqb
 clear hqb
 go_enter Tryz.func16,Tryz.ntmps16
 go_wp2_with fail
 refine (Zc (uh Hq) (uh Hv)).mono ?_
 rintro e w1 ⟨rfl,hb⟩
 have kb:Hid (Blk w1 w.heap.size 32 #[.slice a0 m.rooms.length p0,.slice a1 m.guilds.length p1,.slice a2 m.smiths.length p2,.slice a3 m.desks.length p3,.slice a4 m.paces.length p4,.int .i64 m.now]):=Z9 ((Blk.new w _ _).below hb (by simp))
 have BB:Hid (Below w.heap.size w w1):=Z9 (((Below.refl _ _).alloc (Nat.le_refl _) _).trans (hb.mono (by simp)))
 replace Hv:=Z9 ((uh Hv).below hb)
 clear hb
 obtain ⟨c0,c1,c2,c3,c4,c5⟩:=(uh kb).c6
 cases q
 ·go_wp2_with fail
  go_ret
  have hz:V3 m b=[]:=by unfold V3;rw [uh Hq];rfl
  exact ⟨_,rfl,by rw [hz];exact Ww rfl (uh BB).size,(uh BB).alloc (uh BB).size _⟩
 go_wp2_with fail
 refine (Pz (uh Hqb) (uh Hv)).mono ?_
 rintro e w2 ⟨rfl,hb⟩
 clear c0 c1 c2 c3 c4 c5
 replace kb:=bl kb hb
 replace Hv:=Z9 ((uh Hv).below hb)
 replace BB:=bt BB hb
 clear hb
 obtain ⟨c0,c1,c2,c3,c4,c5⟩:=(uh kb).c6
 cases qb
 ·go_wp2_with fail
  go_ret
  have hz:V3 m b=[]:=by unfold V3;rw [uh Hq,uh Hqb];rfl
  exact ⟨_,rfl,by rw [hz];exact Ww rfl (uh BB).size,(uh BB).alloc (uh BB).size _⟩
 go_wp2_with fail
 have hfew:=Eh (uh Hq)
 refine (Ti b (uh Hv) (by omega)).mono ?_
 rintro e w3 ⟨v3,rfl,he,hb⟩
 have hz:V3 m b=atV m.smiths b m.smiths.length:=by unfold V3;rw [uh Hq,uh Hqb];rfl
 have hsz:=(uh BB).size
 have he2:=EntsAt.mono he hsz
 rw [<-hz] at he2
 have He:=Z9 he2
 have Bb:=Z9 ((uh BB).trans (hb.mono hsz))
 obtain ⟨qa,qc,rfl⟩:=EntsAt.shape he2
 clear he he2 hb hz
 go_wp2_with fail
 go_ret
 exact ⟨_,rfl,uh He,uh Bb⟩
set_option linter.unusedSimpArgs false
set_option maxRecDepth 100000
theorem Eo (ss:List Z4) (ps:List Int):(Ws ss ps).length=ps.length:=by
 have key:∀ (ps:List Int) (q:List Z6),(ps.foldl (fun q i=>Vq q (XL (Z8 ss i.toNat),i)) q).length=q.length+ps.length:=by
  intro ps
  induction ps with
  | nil=>intro q;simp
  | cons i ps ih=>intro q;rw [List.foldl_cons,ih,Gh];simp;omega
 have:=key ps []
 unfold Ws
 simpa using this
theorem Ev {w:World} {v0 v1 v2 v3 v4:Value} {m:Z3} {b:Int} {q:Bool} (hq:V5 m b=q) (h:Smy w v0 v1 v2 v3 v4 m) :
  Calls Tryz.prog 31 #[.agg #[v0,v1,v2,v3,v4,.int .i64 m.now],.int .i64 b] w fun e w'=>e= .returned (.bool q)/\Below w.heap.size w w':=by
 have Hq:=Z9 hq
 clear hq
 have Hv:=Z9 (h.alloc (.cells #[v0,v1,v2,v3,v4,.int .i64 m.now] 32))
 obtain ⟨a0,p0,a1,p1,a2,p2,a3,p3,a4,p4,rfl,rfl,rfl,rfl,rfl,_,_,_,_,_,_,_,_,_,_⟩:=h.five
 clear h
 have kb:Hid (Blk (w.alloc (.cells #[.slice a0 m.rooms.length p0,.slice a1 m.guilds.length p1,.slice a2 m.smiths.length p2,.slice a3 m.desks.length p3,.slice a4 m.paces.length p4,.int .i64 m.now] 32)) w.heap.size 32 #[.slice a0 m.rooms.length p0,.slice a1 m.guilds.length p1,.slice a2 m.smiths.length p2,.slice a3 m.desks.length p3,.slice a4 m.paces.length p4,.int .i64 m.now]):=Z9 (Blk.new w _ _)
 have BB:Hid (Below w.heap.size w (w.alloc (.cells #[.slice a0 m.rooms.length p0,.slice a1 m.guilds.length p1,.slice a2 m.smiths.length p2,.slice a3 m.desks.length p3,.slice a4 m.paces.length p4,.int .i64 m.now] 32))):=Z9 ((Below.refl _ _).alloc (Nat.le_refl _) _)
 obtain ⟨ok,hok⟩:∃ q,ZK m=q:=⟨_,rfl⟩
 have Hok:=Z9 hok
 clear hok
 go_enter Tryz.func31,Tryz.ntmps31
 go_wp2_with fail
 generalize w.alloc (.cells #[.slice a0 m.rooms.length p0,.slice a1 m.guilds.length p1,.slice a2 m.smiths.length p2,.slice a3 m.desks.length p3,.slice a4 m.paces.length p4,.int .i64 m.now] 32)=W at *
 refine (Pw _ _ _ _ _ _ _ _ (uh Hok) (uh Hv)).mono ?_
 rintro e w1 ⟨rfl,hb⟩
 replace Hv:=Z9 ((uh Hv).below hb)
 replace kb:=bl kb hb
 replace BB:=bt BB hb
 clear hb
 cases ok
 ·obtain rfl:q=false:=by rw [<-uh Hq];unfold V5;rw [uh Hok];rfl
  go_wp2_with fail
  go_ret
  exact ⟨rfl,uh BB⟩
 obtain ⟨qb,hqb⟩:∃ q,Vu m b=q:=⟨_,rfl⟩
 have Hqb:=Z9 hqb
 clear hqb
 obtain ⟨c0,c1,c2,c3,c4,c5⟩:=(uh kb).c6
 go_wp2_with fail
 clear c0 c1 c2 c3 c4 c5
 refine (Lj _ _ _ _ _ _ _ _ _ _ _ _ _ _ _ _ _).mono ?_
 rintro e w2 ⟨rfl,hb⟩
 replace Hv:=Z9 ((uh Hv).below hb)
 replace kb:=bl kb hb
 replace BB:=bt BB hb
 clear hb
 have Hqh:Hid (WJ m.desks.length b=qb):=Z9 (by rw [EF];exact uh Hqb)
 go_wp2_with fail
 refine (Q8 _ _ _ _ _).mono ?_
 rw [uh Hqh]
 rintro e w3 ⟨rfl,h9⟩
 subst w3
 cases qb
 ·obtain rfl:q=false:=by rw [<-uh Hq];unfold V5;rw [uh Hqb];simp
  go_wp2_with fail
  go_ret
  exact ⟨rfl,uh BB⟩
 obtain ⟨bn,hbn,rfl⟩:∃ k:Nat,k<m.desks.length/\b=(k:Int):=by
  have:=ZS (uh Hqb)
  exact ⟨b.toNat,by omega,by omega⟩
 have h12:=YU (ZO (uh Hok))
 have HI:Hid (V5 m (bn:Int)=WR m bn):=Z9 (by unfold V5;rw [uh Hok,uh Hqb];rfl)
 obtain ⟨_,_,hde,_,_,r3⟩:=(uh Hv).desks
 cases hde
 rcases r3 with e0 | ⟨db,off,rfl,hbw,hcl⟩
 ·rw [e0] at hbn;simp at hbn
 obtain ⟨d0,d1,d2⟩:=Zk hcl hbn
 obtain ⟨⟨op,wh,mk⟩,hrk⟩:∃ d,Z8 m.desks bn=d:=⟨_,rfl⟩
 rw [hrk] at d0 d1 d2
 simp only at d0 d1 d2
 have HI2:Hid (WR m bn=(op && decide ((atV m.smiths (bn:Int) m.smiths.length).length=0))):=Z9 (by unfold WR;rw [hrk])
 clear hcl hrk
 have hbn1:(bn:Int)<(m.desks.length:Int):=by omega
 have c3:=(uh kb).cell (i:=3) (v:= .slice (some ⟨db,off,none⟩) m.desks.length p3) rfl
 go_wp2_with fail
 clear d0 d1 d2 c3
 refine (Px op wh mk _).mono ?_
 rintro e w4 ⟨rfl,hb⟩
 replace Hv:=Z9 ((uh Hv).below hb)
 replace kb:=bl kb hb
 replace BB:=bt BB hb
 clear hb
 cases op
 ·obtain rfl:q=false:=by rw [<-uh Hq,uh HI,uh HI2];rfl
  go_wp2_with fail
  go_ret
  exact ⟨rfl,uh BB⟩
 obtain ⟨c0,c1,c2,c3,c4,c5⟩:=(uh kb).c6
 go_wp2_with fail
 clear c0 c1 c2 c3 c4 c5
 refine (Rr (bn:Int) (uh Hv) (by omega)).mono ?_
 rintro e w5 ⟨v',rfl,he,hb⟩
 obtain ⟨ua,uc,rfl⟩:=RecAt.shape he
 clear he
 replace Hv:=Z9 ((uh Hv).below hb)
 replace kb:=bl kb hb
 replace BB:=bt BB hb
 clear hb
 have HQ:Hid (q=decide ((ZU (atB (bn:Int)) m.smiths m.smiths.length).length=0)):=Z9 (by
  rw [<-uh Hq,uh HI,uh HI2,Bool.true_and,<-SR,Eo])
 generalize ZU (atB (bn:Int)) m.smiths m.smiths.length=ws at *
 go_wp2_with fail
 go_ret
 exact ⟨Z5 (by rw [uh HQ,Bool.eq_iff_iff];simp only [beq_iff_eq,decide_eq_true_eq];omega),uh BB⟩
theorem V2 (w:World) (v0 v1 v2 v3 v4:Value) (m:Z3) (h:Smy w v0 v1 v2 v3 v4 m) :
  Calls Tryz.prog 29 #[.agg #[v0,v1,v2,v3,v4,.int .i64 m.now]] w fun e w'=> ∃ v',e= .returned v'/\NumsAt w.heap.size w' v' (V6 m)/\Below w.heap.size w w':=by
 obtain ⟨M,hM⟩:∃ x,V6 m=x:=⟨_,rfl⟩
 rw [hM]
 have HM:=Z9 hM
 clear hM
 have HW:=Z9 h
 have Hv0:=Z9 ((h.alloc (.cells #[v0,v1,v2,v3,v4,.int .i64 m.now] 32)).alloc (.cells #[] 2))
 obtain ⟨a0,p0,a1,p1,a2,p2,a3,p3,a4,p4,rfl,rfl,rfl,rfl,rfl,_,_,_,_,_,_,_,_,_,_⟩:=h.five
 clear h
 have kb1:Hid (Blk ((w.alloc (.cells #[.slice a0 m.rooms.length p0,.slice a1 m.guilds.length p1,.slice a2 m.smiths.length p2,.slice a3 m.desks.length p3,.slice a4 m.paces.length p4,.int .i64 m.now] 32)).alloc (.cells #[] 2)) w.heap.size 32 #[.slice a0 m.rooms.length p0,.slice a1 m.guilds.length p1,.slice a2 m.smiths.length p2,.slice a3 m.desks.length p3,.slice a4 m.paces.length p4,.int .i64 m.now]):=Z9 ((Blk.new w _ _).alloc _)
 have BB1:Hid (Below w.heap.size w ((w.alloc (.cells #[.slice a0 m.rooms.length p0,.slice a1 m.guilds.length p1,.slice a2 m.smiths.length p2,.slice a3 m.desks.length p3,.slice a4 m.paces.length p4,.int .i64 m.now] 32)).alloc (.cells #[] 2))):=Z9 (((Below.refl _ _).alloc (Nat.le_refl _) _).alloc (by simp) _)
 have E0:Hid (NumsAt (w.heap.size+1) ((w.alloc (.cells #[.slice a0 m.rooms.length p0,.slice a1 m.guilds.length p1,.slice a2 m.smiths.length p2,.slice a3 m.desks.length p3,.slice a4 m.paces.length p4,.int .i64 m.now] 32)).alloc (.cells #[] 2)) (.slice (some ⟨w.heap.size+1,0,none⟩) 0 0) []):=Z9 (Zb (by simp) (by simp))
 obtain ⟨ok,hok⟩:∃ q,ZK m=q:=⟨_,rfl⟩
 have Hok:=Z9 hok
 clear hok
 go_enter Tryz.func29,Tryz.ntmps29
 go_wp2_with fail
 generalize (w.alloc (.cells #[.slice a0 m.rooms.length p0,.slice a1 m.guilds.length p1,.slice a2 m.smiths.length p2,.slice a3 m.desks.length p3,.slice a4 m.paces.length p4,.int .i64 m.now] 32)).alloc (.cells #[] 2)=W at *
 refine (Pw _ _ _ _ _ _ _ _ (uh Hok) (uh Hv0)).mono ?_
 rintro e w1 ⟨rfl,hb⟩
 replace kb1:=bl kb1 hb
 replace BB1:=Z9 ((uh BB1).trans (hb.mono (uh BB1).size))
 replace E0:=Z9 (RecAt.later (uh E0) hb)
 clear hb Hv0
 cases ok
 ·obtain rfl:M=[]:=by rw [<-uh HM];unfold V6;rw [uh Hok];rfl
  go_wp2_with fail
  go_ret
  exact ⟨_,rfl,RecAt.mono (uh E0) (Nat.le_succ _),uh BB1⟩
 obtain rfl:M=V4 m.desks:=by rw [<-uh HM];unfold V6;rw [uh Hok];rfl
 have c3:=(uh kb1).cell (i:=3) (v:= .slice a3 m.desks.length p3) rfl
 go_wp2_with fail
 clear c3
 go_loopw [3,14] (fun l i wr=> ∃ k:Nat,k<=m.desks.length/\i= .int .i64 k/\NumsAt (w.heap.size+1) wr l (V4 (m.desks.take k))/\Blk wr w.heap.size 32 #[.slice a0 m.rooms.length p0,.slice a1 m.guilds.length p1,.slice a2 m.smiths.length p2,.slice a3 m.desks.length p3,.slice a4 m.paces.length p4,.int .i64 m.now]/\Below w.heap.size w wr) (fun _ i _=>m.desks.length-(intOf i).toNat)
 case atStart=>exact ⟨0,Nat.zero_le _,rfl,uh E0,uh kb1,uh BB1⟩
 case round=>
  obtain ⟨k,hk,rfl,hl,hkb,hb0⟩:=hrel
  obtain ⟨la,lc,rfl⟩:=RecAt.shape hl
  have HL:=Z9 hl
  have kb:=Z9 hkb
  have BB:=Z9 hb0
  have Hv:=Z9 ((uh HW).below hb0)
  have hfl:(V4 (m.desks.take k)).length=k:=by rw [Oh,List.length_take];omega
  have Hfl:=Z9 hfl
  clear hl hkb hb0 hfl
  by_cases hlt:k<m.desks.length
  ·
   have hlt1:(k:Int)<(m.desks.length:Int):=by omega
   obtain ⟨_,_,hde,_,_,r3⟩:=(uh Hv).desks
   cases hde
   rcases r3 with e0 | ⟨db,off,rfl,hbw,hcl⟩
   ·rw [e0] at hlt;simp at hlt
   obtain ⟨d0,d1,d2⟩:=Zk hcl hlt
   have HT:Hid (V4 (m.desks.take (k+1))=V4 (m.desks.take k)++[(Z8 m.desks k).2.1]):=Z9 (Et hlt)
   generalize Z8 m.desks k=d at *
   obtain ⟨op,wh,mk⟩:=d
   simp only at d0 d1 d2 HT
   clear hcl
   go_upto_region 7 with fail
   clear d0 d1 d2
   obtain ⟨X,hX,hb,kd⟩:=Zy wr 55 #[.bool op,.int .i64 wh,.int .i64 mk]
   replace HL:=Z9 (RecAt.later (uh HL) hb)
   replace Hv:=Z9 ((uh Hv).below hb)
   replace kb:=bl kb hb
   replace BB:=bt BB hb
   clear hb
   rw [hX]
   clear hX
   have d1:=(uh kd).cell (i:=1) (v:= .int .i64 wh) rfl
   have hsx:=(uh BB).size
   have hlx:=(uh kb).lt
   have hfw:m.desks.length<=8:=(ZO (uh Hok)).sane.eight
   have hfl:(V4 (m.desks.take k)).length<=8:=by rw [uh Hfl];omega
   go_wp2_with (at_builtin;refine ZN tyN rfl (.tmp 18) (.tmp 21) 30 Tryz.underlying30 rfl (w.heap.size+1) _ _ (V4 (m.desks.take k)) [wh] rfl rfl (RecAt.later (uh HL) ((Below.refl _ _).alloc (Nat.le_refl _) _)) (Wk wh rfl (Nat.le_refl _) (by omega)) (by simp;omega) (by simp;omega) ?_;intro u9 w9 hp9 hg9 hat9;have HP9:=Z9 hp9;have HG9:=Z9 hg9;clear hp9 hg9 hat9)
   have hgo:∀ i,(Value.slice la (V4 (m.desks.take k)).length lc).ownBlock=some i->w.heap.size+1<=i:=fun i e=>(RecAt.lt (uh HL) e).1
   have hb9:Below (w.heap.size+1) X w9:=((Below.refl _ _).alloc hlx _).trans ((Below.refl _ _).grown (uh HG9) (by simp;omega) hgo)
   have hb8:=(uh BB).trans (hb9.mono (Nat.le_succ _))
   go_wp2_with fail
   go_roundw
   case rel=>exact ⟨k+1,by omega,by go_num,by rw [uh HT];exact uh HP9,(uh kb).below hb9 (Nat.lt_succ_self _),hb8⟩
   case measure=>simp [intOf];omega
  ·
   obtain rfl:k=m.desks.length:=by omega
   have HL9:Hid (NumsAt (w.heap.size+1) wr (.slice la (V4 (m.desks.take m.desks.length)).length lc) (V4 m.desks)):=Z9 (by have h9:=uh HL;rw [List.take_length] at h9 ⊢;exact h9)
   go_wp2_with fail
   go_ret
   exact ⟨_,rfl,RecAt.mono (uh HL9) (Nat.le_succ _),uh BB⟩
set_option maxRecDepth 100000
theorem Mp {w:World} {v0 v1 v2 v3 v4:Value} {m:Z3} {b:Int} {q:Bool} (hq:V5 m b=q) (h:Smy w v0 v1 v2 v3 v4 m) :
  Calls Tryz.prog 34 #[.agg #[v0,v1,v2,v3,v4,.int .i64 m.now],.int .i64 b] w fun e w'=>e= .returned (.bool q)/\Below w.heap.size w w':=by
 have Hq:=Z9 hq
 clear hq
 have Hv:=Z9 (h.alloc (.cells #[v0,v1,v2,v3,v4,.int .i64 m.now] 32))
 obtain ⟨a0,p0,a1,p1,a2,p2,a3,p3,a4,p4,rfl,rfl,rfl,rfl,rfl,_,_,_,_,_,_,_,_,_,_⟩:=h.five
 clear h
 have kb:Hid (Blk (w.alloc (.cells #[.slice a0 m.rooms.length p0,.slice a1 m.guilds.length p1,.slice a2 m.smiths.length p2,.slice a3 m.desks.length p3,.slice a4 m.paces.length p4,.int .i64 m.now] 32)) w.heap.size 32 #[.slice a0 m.rooms.length p0,.slice a1 m.guilds.length p1,.slice a2 m.smiths.length p2,.slice a3 m.desks.length p3,.slice a4 m.paces.length p4,.int .i64 m.now]):=Z9 (Blk.new w _ _)
 have BB:Hid (Below w.heap.size w (w.alloc (.cells #[.slice a0 m.rooms.length p0,.slice a1 m.guilds.length p1,.slice a2 m.smiths.length p2,.slice a3 m.desks.length p3,.slice a4 m.paces.length p4,.int .i64 m.now] 32))):=Z9 ((Below.refl _ _).alloc (Nat.le_refl _) _)
 obtain ⟨ok,hok⟩:∃ q,ZK m=q:=⟨_,rfl⟩
 have Hok:=Z9 hok
 clear hok
 go_enter Tryz.func34,Tryz.ntmps34
 go_wp2_with fail
 generalize w.alloc (.cells #[.slice a0 m.rooms.length p0,.slice a1 m.guilds.length p1,.slice a2 m.smiths.length p2,.slice a3 m.desks.length p3,.slice a4 m.paces.length p4,.int .i64 m.now] 32)=W at *
 refine (Zc (uh Hok) (uh Hv)).mono ?_
 rintro e w1 ⟨rfl,hb⟩
 replace Hv:=Z9 ((uh Hv).below hb)
 replace kb:=bl kb hb
 replace BB:=bt BB hb
 clear hb
 cases ok
 ·obtain rfl:q=false:=by rw [<-uh Hq];unfold V5;rw [uh Hok];rfl
  go_wp2_with fail
  go_ret
  exact ⟨rfl,uh BB⟩
 obtain ⟨qb,hqb⟩:∃ q,Vu m b=q:=⟨_,rfl⟩
 have Hqb:=Z9 hqb
 clear hqb
 obtain ⟨c0,c1,c2,c3,c4,c5⟩:=(uh kb).c6
 go_wp2_with fail
 clear c0 c1 c2 c3 c4 c5
 refine (Pz (uh Hqb) (uh Hv)).mono ?_
 rintro e w2 ⟨rfl,hb⟩
 replace Hv:=Z9 ((uh Hv).below hb)
 replace kb:=bl kb hb
 replace BB:=bt BB hb
 clear hb
 cases qb
 ·obtain rfl:q=false:=by rw [<-uh Hq];unfold V5;rw [uh Hqb];simp
  go_wp2_with fail
  go_ret
  exact ⟨rfl,uh BB⟩
 obtain ⟨bn,hbn,rfl⟩:∃ k:Nat,k<m.desks.length/\b=(k:Int):=by
  have:=ZS (uh Hqb)
  exact ⟨b.toNat,by omega,by omega⟩
 have h12:=YU (ZO (uh Hok))
 have HI:Hid (V5 m (bn:Int)=WR m bn):=Z9 (by unfold V5;rw [uh Hok,uh Hqb];rfl)
 obtain ⟨c0,c1,c2,c3,c4,c5⟩:=(uh kb).c6
 go_wp2_with fail
 clear c0 c1 c2 c3 c4 c5
 refine (Ra (uh Hv) hbn (by omega)).mono ?_
 rw [<-uh HI,uh Hq]
 rintro e w3 ⟨rfl,hb⟩
 replace Hv:=Z9 ((uh Hv).below hb)
 replace kb:=bl kb hb
 replace BB:=bt BB hb
 clear hb
 go_wp2_with fail
 go_ret
 exact ⟨rfl,uh BB⟩
theorem U2 (w:World) (v0 v1 v2 v3 v4:Value) (m:Z3) (h:Smy w v0 v1 v2 v3 v4 m) :
  Calls Tryz.prog 33 #[.agg #[v0,v1,v2,v3,v4,.int .i64 m.now]] w fun e w'=> ∃ v',e= .returned v'/\NumsAt w.heap.size w' v' (V6 m)/\Below w.heap.size w w':=by
 obtain ⟨M,hM⟩:∃ x,V6 m=x:=⟨_,rfl⟩
 rw [hM]
 have HM:=Z9 hM
 clear hM
 have HW:=Z9 h
 have Hv0:=Z9 ((h.alloc (.cells #[v0,v1,v2,v3,v4,.int .i64 m.now] 32)).alloc (.cells #[] 2))
 obtain ⟨a0,p0,a1,p1,a2,p2,a3,p3,a4,p4,rfl,rfl,rfl,rfl,rfl,_,_,_,_,_,_,_,_,_,_⟩:=h.five
 clear h
 have kb1:Hid (Blk ((w.alloc (.cells #[.slice a0 m.rooms.length p0,.slice a1 m.guilds.length p1,.slice a2 m.smiths.length p2,.slice a3 m.desks.length p3,.slice a4 m.paces.length p4,.int .i64 m.now] 32)).alloc (.cells #[] 2)) w.heap.size 32 #[.slice a0 m.rooms.length p0,.slice a1 m.guilds.length p1,.slice a2 m.smiths.length p2,.slice a3 m.desks.length p3,.slice a4 m.paces.length p4,.int .i64 m.now]):=Z9 ((Blk.new w _ _).alloc _)
 have BB1:Hid (Below w.heap.size w ((w.alloc (.cells #[.slice a0 m.rooms.length p0,.slice a1 m.guilds.length p1,.slice a2 m.smiths.length p2,.slice a3 m.desks.length p3,.slice a4 m.paces.length p4,.int .i64 m.now] 32)).alloc (.cells #[] 2))):=Z9 (((Below.refl _ _).alloc (Nat.le_refl _) _).alloc (by simp) _)
 have E0:Hid (NumsAt (w.heap.size+1) ((w.alloc (.cells #[.slice a0 m.rooms.length p0,.slice a1 m.guilds.length p1,.slice a2 m.smiths.length p2,.slice a3 m.desks.length p3,.slice a4 m.paces.length p4,.int .i64 m.now] 32)).alloc (.cells #[] 2)) (.slice (some ⟨w.heap.size+1,0,none⟩) 0 0) []):=Z9 (Zb (by simp) (by simp))
 obtain ⟨ok,hok⟩:∃ q,ZK m=q:=⟨_,rfl⟩
 have Hok:=Z9 hok
 clear hok
 go_enter Tryz.func33,Tryz.ntmps33
 go_wp2_with fail
 go_loopw [3,4] (fun l i wr=> ∃ k:Nat,k<=m.desks.length/\i= .int .i64 k/\NumsAt (w.heap.size+1) wr l (V4 (m.desks.take k))/\(k=0\/ZK m=true)/\Blk wr w.heap.size 32 #[.slice a0 m.rooms.length p0,.slice a1 m.guilds.length p1,.slice a2 m.smiths.length p2,.slice a3 m.desks.length p3,.slice a4 m.paces.length p4,.int .i64 m.now]/\Below w.heap.size w wr) (fun _ i _=>m.desks.length-(intOf i).toNat)
 case atStart=>exact ⟨0,Nat.zero_le _,rfl,uh E0,.inl rfl,uh kb1,uh BB1⟩
 case round=>
  obtain ⟨k,hk,rfl,hl,hz,hkb,hb0⟩:=hrel
  obtain ⟨la,lc,rfl⟩:=RecAt.shape hl
  have HL:=Z9 hl
  have kb:=Z9 hkb
  have BB:=Z9 hb0
  have Hz:=Z9 hz
  clear hz
  have Hv:=Z9 ((uh HW).below hb0)
  have hfl:(V4 (m.desks.take k)).length=k:=by rw [Oh,List.length_take];omega
  have Hfl:=Z9 hfl
  clear hl hkb hb0 hfl
  obtain ⟨c0,c1,c2,c3,c4,c5⟩:=(uh kb).c6
  by_cases hlt:k<m.desks.length
  ·
   have hlt1:(k:Int)<(m.desks.length:Int):=by omega
   go_wp2_with fail
   clear c0 c1 c2 c3 c4 c5
   refine (Zc (uh Hok) (uh Hv)).mono ?_
   rintro e w1 ⟨rfl,hb⟩
   replace HL:=Z9 (RecAt.later (uh HL) hb)
   replace Hv:=Z9 ((uh Hv).below hb)
   replace kb:=bl kb hb
   replace BB:=bt BB hb
   clear hb
   cases ok
   ·obtain rfl:k=0:=by
     rcases uh Hz with e | e
     ·exact e
     ·rw [uh Hok] at e;cases e
    obtain rfl:M=[]:=by rw [<-uh HM];unfold V6;rw [uh Hok];rfl
    go_wp2_with fail
    go_ret
    exact ⟨_,rfl,RecAt.mono (uh HL) (Nat.le_succ _),uh BB⟩
   obtain ⟨_,_,hde,_,_,r3⟩:=(uh Hv).desks
   cases hde
   rcases r3 with e0 | ⟨db,off,rfl,hbw,hcl⟩
   ·rw [e0] at hlt;simp at hlt
   obtain ⟨d0,d1,d2⟩:=Zk hcl hlt
   have HT:Hid (V4 (m.desks.take (k+1))=V4 (m.desks.take k)++[(Z8 m.desks k).2.1]):=Z9 (Et hlt)
   generalize Z8 m.desks k=d at *
   obtain ⟨op,wh,mk⟩:=d
   simp only at d0 d1 d2 HT
   clear hcl
   have c3:=(uh kb).cell (i:=3) (v:= .slice (some ⟨db,off,none⟩) m.desks.length p3) rfl
   obtain ⟨X,hX⟩:∃ x,x=w1:=⟨_,rfl⟩
   clear hX
   have hsx:=(uh BB).size
   have hlx:=(uh kb).lt
   have hfw:m.desks.length<=8:=(ZO (uh Hok)).sane.eight
   have hfl:(V4 (m.desks.take k)).length<=8:=by rw [uh Hfl];omega
   go_wp2_with (at_builtin;refine ZN tyN rfl (.tmp 17) (.tmp 24) 30 Tryz.underlying30 rfl (w.heap.size+1) _ _ (V4 (m.desks.take k)) [wh] rfl rfl (RecAt.later (uh HL) ((Below.refl _ _).alloc (Nat.le_refl _) _)) (Wk wh rfl (Nat.le_refl _) (by omega)) (by simp;omega) (by simp;omega) ?_;intro u9 w9 hp9 hg9 hat9;have HP9:=Z9 hp9;have HG9:=Z9 hg9;clear hp9 hg9 hat9)
   have hgo:∀ i,(Value.slice la (V4 (m.desks.take k)).length lc).ownBlock=some i->w.heap.size+1<=i:=fun i e=>(RecAt.lt (uh HL) e).1
   have hb9:Below (w.heap.size+1) w1 w9:=((Below.refl _ _).alloc hlx _).trans ((Below.refl _ _).grown (uh HG9) (by simp;omega) hgo)
   have hb8:=(uh BB).trans (hb9.mono (Nat.le_succ _))
   go_wp2_with fail
   go_roundw
   case rel=>exact ⟨k+1,by omega,by go_num,by rw [uh HT];exact uh HP9,.inr (uh Hok),(uh kb).below hb9 (Nat.lt_succ_self _),hb8⟩
   case measure=>simp [intOf];omega
  ·
   obtain rfl:k=m.desks.length:=by omega
   have HL9:Hid (NumsAt (w.heap.size+1) wr (.slice la (V4 (m.desks.take m.desks.length)).length lc) M):=Z9 (by
    have h9:=uh HL
    rw [<-uh HM]
    unfold V6
    rcases uh Hz with e | e
    ·have hd0:m.desks=[]:=List.eq_nil_of_length_eq_zero e
     rw [hd0] at h9 ⊢
     split<;>exact h9
    ·rw [e]
     simp only [if_true]
     rw [List.take_length] at h9 ⊢
     exact h9)
   go_wp2_with fail
   go_ret
   exact ⟨_,rfl,RecAt.mono (uh HL9) (Nat.le_succ _),uh BB⟩
theorem Ek {m:Z3} {b:Int} (h:V5 m b=true):V3 m b=[]/\0<=b/\b<m.desks.length/\(Z8 m.desks b.toNat).1=true:=by
 unfold V5 at h
 simp only [Bool.and_eq_true,decide_eq_true_eq] at h
 obtain ⟨h1,h2,h3,h4⟩:=h
 have hb:=ZS h2
 refine ⟨?_,hb.1,by omega,h3⟩
 unfold V3
 rw [h1,h2]
 exact List.eq_nil_of_length_eq_zero h4
theorem Es {m:Z3} (h:ZK m=false):V6 m=[]:=by unfold V6;rw [h];rfl
theorem U3 {m:Z3} (h:ZK m=true):(V6 m).length=m.desks.length:=by unfold V6;rw [h];exact Oh _
theorem En {m:Z3} (h:ZK m=true) {i:Nat} (hi:i<m.desks.length):Z8 (V6 m) i=(Z8 m.desks i).2.1:=by
 unfold V6
 rw [h]
 unfold V4 Z8
 simp [List.getD,hi]
theorem NL {m:Z3} {i:Nat} (hi:i<m.desks.length):(Z8 (Z1 m).desks i).2.1=XB m.smiths i:=by
 have a0:Z8 (Z1 m).desks i=_:=Xd m i m.desks.length (Nat.le_refl _)
 rw [a0,if_pos hi]
 unfold XC XB
 cases atV m.smiths i m.smiths.length<;>rfl
theorem Ei {m:Z3} (h:Loose m) {i:Nat} (hi:i<m.desks.length):V3 (Z1 m) i=atV m.smiths i m.smiths.length:=by
 have e6:(Z1 m).desks.length=m.desks.length:=(ZQ m m.desks.length).2.2.2.2.2
 unfold V3
 rw [Zd h]
 have hb:Vu (Z1 m) i=true:=by
  unfold Vu inB
  rw [e6]
  simp only [Bool.and_eq_true,decide_eq_true_eq]
  omega
 rw [hb]
 exact Tt m m.desks.length i
theorem El {m:Z3} {i:Nat} (hi:i<m.desks.length) (h:atV m.smiths i m.smiths.length=[]):(Z8 (Z1 m).desks i).2.1= -1:=by rw [NL hi,Er h]
theorem Ew {m:Z3} {i:Nat} (hi:i<m.desks.length) {e:Z6} {t:List Z6} (h:atV m.smiths i m.smiths.length=e::t):(Z8 (Z1 m).desks i).2.1=e.2/\0<=e.2/\e.2<m.smiths.length/\XL (Z8 (Z1 m).smiths e.2.toNat)=e.1:=by
 obtain ⟨h1,j,hj,_,_,he⟩:=VP h
 rw [NL hi,h1,he]
 refine ⟨rfl,by simp,by simpa using hj,?_⟩
 show XL (Z8 (Z1 m).smiths ((j:Int)).toNat)=XL (Z8 m.smiths j)
 rw [Int.toNat_natCast]
 unfold XL
 rw [(NK hj).2]
theorem Em {m:Z3} (hL:Loose m) {i:Nat} (hi:i<m.desks.length) {e f:Z6} {t:List Z6} (h:atV m.smiths i m.smiths.length=e::t) (hf:f ∈ t):0<=f.2/\f.2<m.smiths.length/\(Z8 (Z1 m).smiths f.2.toNat).1=2/\e.1<=f.1:=by
 obtain ⟨j,hj,hb,hp,rfl⟩:=(Yd m.smiths i f m.smiths.length).1 (by rw [h];exact List.mem_cons_of_mem _ hf)
 have hw:=UG m.smiths i m.smiths.length
 rw [h] at hw
 have hne:=(List.pairwise_cons.1 hw).1 _ hf
 refine ⟨by simp,by simpa using hj,?_,Q4 h hj hb hp⟩
 show (Z8 (Z1 m).smiths ((j:Int)).toNat).1=2
 rw [Int.toNat_natCast]
 have a0:Z8 (Z1 m).smiths j=_:=Yu m hj m.desks.length
 have hfi:=(VP h).1
 rw [a0,hb,if_pos ⟨⟨by omega,by omega⟩,hp⟩,hfi,if_neg hne]
 rfl
open Draw (St Off Row Cur)
set_option maxRecDepth 100000
theorem V1 (a:Option Addr) (len cap bc:Nat) (a0 a1 a2 a3 a4:Option Addr) (n0 n1 n2 n3 n4 p0 p1 p2 p3 p4:Nat) (now:Int) (hn:n3<=1000000) (w:World) (hs:St a len cap bc w) :
  Calls Tryz.prog 54 #[.pointer (some ⟨bc,0,none⟩),.agg #[.slice a0 n0 p0,.slice a1 n1 p1,.slice a2 n2 p2,.slice a3 n3 p3,.slice a4 n4 p4,.int .i64 now]] w fun e w'=> ∃ x:Int,e= .returned (.int .i64 x)/\St a len cap bc w'/\Off bc w w':=by
 have Hs:=Z9 hs
 have hbc:=Xx hs
 clear hs
 go_enter Tryz.func54,Tryz.ntmps54
 go_upto_region 1 with fail
 have kb:Hid (Blk (w.alloc (.cells #[.slice a0 n0 p0,.slice a1 n1 p1,.slice a2 n2 p2,.slice a3 n3 p3,.slice a4 n4 p4,.int .i64 now] 32)) w.heap.size 32 #[.slice a0 n0 p0,.slice a1 n1 p1,.slice a2 n2 p2,.slice a3 n3 p3,.slice a4 n4 p4,.int .i64 now]):=Z9 (Blk.new _ _ _)
 have HO:Hid (Off bc w (w.alloc (.cells #[.slice a0 n0 p0,.slice a1 n1 p1,.slice a2 n2 p2,.slice a3 n3 p3,.slice a4 n4 p4,.int .i64 now] 32))):=Z9 ((Off.refl _ _).alloc _)
 replace Hs:Hid (St a len cap bc (w.alloc (.cells #[.slice a0 n0 p0,.slice a1 n1 p1,.slice a2 n2 p2,.slice a3 n3 p3,.slice a4 n4 p4,.int .i64 now] 32))):=Z9 ((uh Hs).alloc _)
 generalize w.alloc (.cells #[.slice a0 n0 p0,.slice a1 n1 p1,.slice a2 n2 p2,.slice a3 n3 p3,.slice a4 n4 p4,.int .i64 now] 32)=W at *
 go_wp2_with fail
 refine (Draw.once_any a len cap bc 10 (by omega) (by omega) _ (uh Hs)).mono ?_
 rintro e w1 ⟨bq,rfl,s9,p9⟩
 replace kb:=Z9 ((uh kb).away p9 (by omega))
 replace HO:=Z9 ((uh HO).trans p9)
 replace Hs:=Z9 s9
 clear s9 p9
 have x:=(uh kb).cell (i:=3) (v:= .slice a3 n3 p3) rfl
 cases bq
 ·
  go_wp2_with fail
  refine (Tj 1 (n3:Int) _).mono ?_
  rintro e wz ⟨rfl,hwz⟩
  subst wz
  obtain ⟨mx,hmx⟩:∃ q,q=max 1 (n3:Int):=⟨_,rfl⟩
  rw [<-hmx]
  have hm0:0<mx:=by omega
  have hm1:mx<=1000001:=by omega
  clear hmx x
  go_wp2_with fail
  refine (Draw.below_any a len cap bc mx hm0 (by omega) _ (uh Hs)).mono ?_
  rintro e w2 ⟨v,rfl,v0,v1,s9,p9⟩
  have HO2:=Z9 ((uh HO).trans p9)
  have Hs2:=Z9 s9
  clear s9 p9
  go_wp2_with fail
  go_ret
  exact ⟨_,rfl,uh Hs2,uh HO2⟩
 go_wp2_with fail
 refine ZP (S:=fun w'=>w'.cell? ⟨w.heap.size,3,none⟩=some (.slice a3 n3 p3)) (by kernel_rfl) (List.cons_ne_nil _ _) (by kernel_rfl) x (fun hHeld=> ?_)
 simp only [List.dropLast_cons_cons,List.dropLast_singleton,List.length_cons,List.length_nil,Nat.zero_add,Nat.reduceAdd]
 (refine tk 0 rfl (by assumption) ?_;(try simp only [Act.put,sA,sZ,sS]))
 (refine tk 1 rfl (by assumption) ?_;(try simp only [Act.put,sA,sZ,sS]))
 (refine tk 4 rfl (by assumption) ?_;(try simp only [Act.put,sA,sZ,sS]))
 replace kb:=Z9 ((uh kb).below (Below.refl _ _).drew (uh kb).lt)
 replace HO:=Z9 ((uh HO).trans (Tc (Below.refl _ _).drew))
 replace Hs:=Z9 (UE (uh Hs))
 clear x
 generalize w1.drew=X0 at *
 refine wpAnyH_ready (rs:=[2,5]) (by kernel_rfl) (by simp) ?_
 refine AllReadyH.cons rfl (fun K hK=> ?_) (AllReadyH.cons rfl (fun K hK=> ?_) AllReadyH.nil)
 ·
  go_simp
  refine hK.out _ _ ((uh kb).cell (i:=3) rfl) (fun hHeld=> ?_)
  clear hK K
  (try simp only [Act.put,sA,sZ,sS])
  refine wpAnyH_ready (rs:=[3,5]) (by kernel_rfl) (by simp) ?_
  refine AllReadyH.cons rfl (fun K hK=> ?_) (AllReadyH.cons rfl (fun K hK=> ?_) AllReadyH.nil)
  ·
   go_simp
   have hlb:X0.heap.size ≠ bc:=by have:=(uh HO).size;omega
   obtain ⟨Wp,hWp,hba,KL⟩:=Zy X0 2 #[.int .i64 (-1),.int .i64 (n3:Int),.int .i64 8]
   replace kb:=bl kb hba
   replace HO:=Z9 ((uh HO).trans (Tc hba))
   replace Hs:=Z9 ((uh Hs).alloc (.cells #[.int .i64 (-1),.int .i64 (n3:Int),.int .i64 8] 2))
   rw [hWp]
   refine hK.out _ _ ((uh kb).cell (i:=3) rfl) (fun hHeld=> ?_)
   clear hK K
   (try simp only [Act.put,sA,sZ,sS])
   clear hba
   (try rw [hWp] at Hs);clear hWp
   generalize X0.heap.size=lb at *
   refine rd 5 rfl (fun K hK=> ?_)
   go_simp
   refine (Draw.below_any a len cap bc 3 (by omega) (by omega) _ (uh Hs)).mono ?_
   rintro e9 w5 ⟨v5,rfl,v50,v51,s9,p9⟩
   replace KL:=Z9 ((uh KL).away p9 hlb)
   replace kb:=Z9 ((uh kb).away p9 (by omega))
   replace HO:=Z9 ((uh HO).trans p9)
   replace Hs:=Z9 s9
   clear s9 p9
   refine hK.out _ _ ((uh kb).cell (i:=3) rfl) (fun hHeld=> ?_)
   clear hK K
   (try simp only [Act.put,sA,sZ,sS])
   have l0:=(uh KL).cell (i:=0) (v:= .int .i64 (-1)) rfl
   have l1:=(uh KL).cell (i:=1) (v:= .int .i64 (n3:Int)) rfl
   have l2:=(uh KL).cell (i:=2) (v:= .int .i64 8) rfl
   rcases (show v5=0\/v5=1\/v5=2 by omega) with rfl | rfl | rfl
   ·
    (refine tk 6 rfl (by assumption) ?_;(try simp only [Act.put,sA,sZ,sS]))
    refine rd 7 rfl (fun K hK=> ?_)
    go_simp
    refine hK.out _ _ ((uh kb).cell (i:=3) rfl) (fun hHeld=> ?_)
    clear hK K
    (try simp only [Act.put,sA,sZ,sS])
    refine wpAnyH_done (by kernel_rfl) ?_ _
    refine ZI rfl rfl ?_
    go_simp
    clear hHeld
    go_wp2_with fail
    go_ret
    exact ⟨_,rfl,uh Hs,uh HO⟩
   ·
    (refine tk 6 rfl (by assumption) ?_;(try simp only [Act.put,sA,sZ,sS]))
    refine rd 7 rfl (fun K hK=> ?_)
    go_simp
    refine hK.out _ _ ((uh kb).cell (i:=3) rfl) (fun hHeld=> ?_)
    clear hK K
    (try simp only [Act.put,sA,sZ,sS])
    refine wpAnyH_done (by kernel_rfl) ?_ _
    refine ZI rfl rfl ?_
    go_simp
    clear hHeld
    go_wp2_with fail
    go_ret
    exact ⟨_,rfl,uh Hs,uh HO⟩
   ·
    (refine tk 6 rfl (by assumption) ?_;(try simp only [Act.put,sA,sZ,sS]))
    refine rd 7 rfl (fun K hK=> ?_)
    go_simp
    refine hK.out _ _ ((uh kb).cell (i:=3) rfl) (fun hHeld=> ?_)
    clear hK K
    (try simp only [Act.put,sA,sZ,sS])
    refine wpAnyH_done (by kernel_rfl) ?_ _
    refine ZI rfl rfl ?_
    go_simp
    clear hHeld
    go_wp2_with fail
    go_ret
    exact ⟨_,rfl,uh Hs,uh HO⟩
  ·
   go_simp
   refine (Draw.below_any a len cap bc 3 (by omega) (by omega) _ (uh Hs)).mono ?_
   rintro e9 w5 ⟨v5,rfl,v50,v51,s9,p9⟩
   replace kb:=Z9 ((uh kb).away p9 (by omega))
   replace HO:=Z9 ((uh HO).trans p9)
   replace Hs:=Z9 s9
   clear s9 p9
   refine hK.out _ _ ((uh kb).cell (i:=3) rfl) (fun hHeld=> ?_)
   clear hK K
   (try simp only [Act.put,sA,sZ,sS])
   refine rd 3 rfl (fun K hK=> ?_)
   go_simp
   have hlb:w5.heap.size ≠ bc:=by have:=(uh HO).size;omega
   obtain ⟨Wp,hWp,hba,KL⟩:=Zy w5 2 #[.int .i64 (-1),.int .i64 (n3:Int),.int .i64 8]
   replace kb:=bl kb hba
   replace HO:=Z9 ((uh HO).trans (Tc hba))
   replace Hs:=Z9 ((uh Hs).alloc (.cells #[.int .i64 (-1),.int .i64 (n3:Int),.int .i64 8] 2))
   rw [hWp]
   refine hK.out _ _ ((uh kb).cell (i:=3) rfl) (fun hHeld=> ?_)
   clear hK K
   (try simp only [Act.put,sA,sZ,sS])
   clear hba
   (try rw [hWp] at Hs);clear hWp
   generalize w5.heap.size=lb at *
   have l0:=(uh KL).cell (i:=0) (v:= .int .i64 (-1)) rfl
   have l1:=(uh KL).cell (i:=1) (v:= .int .i64 (n3:Int)) rfl
   have l2:=(uh KL).cell (i:=2) (v:= .int .i64 8) rfl
   rcases (show v5=0\/v5=1\/v5=2 by omega) with rfl | rfl | rfl
   ·
    (refine tk 6 rfl (by assumption) ?_;(try simp only [Act.put,sA,sZ,sS]))
    refine rd 7 rfl (fun K hK=> ?_)
    go_simp
    refine hK.out _ _ ((uh kb).cell (i:=3) rfl) (fun hHeld=> ?_)
    clear hK K
    (try simp only [Act.put,sA,sZ,sS])
    refine wpAnyH_done (by kernel_rfl) ?_ _
    refine ZI rfl rfl ?_
    go_simp
    clear hHeld
    go_wp2_with fail
    go_ret
    exact ⟨_,rfl,uh Hs,uh HO⟩
   ·
    (refine tk 6 rfl (by assumption) ?_;(try simp only [Act.put,sA,sZ,sS]))
    refine rd 7 rfl (fun K hK=> ?_)
    go_simp
    refine hK.out _ _ ((uh kb).cell (i:=3) rfl) (fun hHeld=> ?_)
    clear hK K
    (try simp only [Act.put,sA,sZ,sS])
    refine wpAnyH_done (by kernel_rfl) ?_ _
    refine ZI rfl rfl ?_
    go_simp
    clear hHeld
    go_wp2_with fail
    go_ret
    exact ⟨_,rfl,uh Hs,uh HO⟩
   ·
    (refine tk 6 rfl (by assumption) ?_;(try simp only [Act.put,sA,sZ,sS]))
    refine rd 7 rfl (fun K hK=> ?_)
    go_simp
    refine hK.out _ _ ((uh kb).cell (i:=3) rfl) (fun hHeld=> ?_)
    clear hK K
    (try simp only [Act.put,sA,sZ,sS])
    refine wpAnyH_done (by kernel_rfl) ?_ _
    refine ZI rfl rfl ?_
    go_simp
    clear hHeld
    go_wp2_with fail
    go_ret
    exact ⟨_,rfl,uh Hs,uh HO⟩
 ·
  go_simp
  refine (Draw.below_any a len cap bc 3 (by omega) (by omega) _ (uh Hs)).mono ?_
  rintro e9 w5 ⟨v5,rfl,v50,v51,s9,p9⟩
  replace kb:=Z9 ((uh kb).away p9 (by omega))
  replace HO:=Z9 ((uh HO).trans p9)
  replace Hs:=Z9 s9
  clear s9 p9
  refine hK.out _ _ ((uh kb).cell (i:=3) rfl) (fun hHeld=> ?_)
  clear hK K
  (try simp only [Act.put,sA,sZ,sS])
  refine rd 2 rfl (fun K hK=> ?_)
  go_simp
  refine hK.out _ _ ((uh kb).cell (i:=3) rfl) (fun hHeld=> ?_)
  clear hK K
  (try simp only [Act.put,sA,sZ,sS])
  refine rd 3 rfl (fun K hK=> ?_)
  go_simp
  have hlb:w5.heap.size ≠ bc:=by have:=(uh HO).size;omega
  obtain ⟨Wp,hWp,hba,KL⟩:=Zy w5 2 #[.int .i64 (-1),.int .i64 (n3:Int),.int .i64 8]
  replace kb:=bl kb hba
  replace HO:=Z9 ((uh HO).trans (Tc hba))
  replace Hs:=Z9 ((uh Hs).alloc (.cells #[.int .i64 (-1),.int .i64 (n3:Int),.int .i64 8] 2))
  rw [hWp]
  refine hK.out _ _ ((uh kb).cell (i:=3) rfl) (fun hHeld=> ?_)
  clear hK K
  (try simp only [Act.put,sA,sZ,sS])
  clear hba
  (try rw [hWp] at Hs);clear hWp
  generalize w5.heap.size=lb at *
  have l0:=(uh KL).cell (i:=0) (v:= .int .i64 (-1)) rfl
  have l1:=(uh KL).cell (i:=1) (v:= .int .i64 (n3:Int)) rfl
  have l2:=(uh KL).cell (i:=2) (v:= .int .i64 8) rfl
  rcases (show v5=0\/v5=1\/v5=2 by omega) with rfl | rfl | rfl
  ·
   (refine tk 6 rfl (by assumption) ?_;(try simp only [Act.put,sA,sZ,sS]))
   refine rd 7 rfl (fun K hK=> ?_)
   go_simp
   refine hK.out _ _ ((uh kb).cell (i:=3) rfl) (fun hHeld=> ?_)
   clear hK K
   (try simp only [Act.put,sA,sZ,sS])
   refine wpAnyH_done (by kernel_rfl) ?_ _
   refine ZI rfl rfl ?_
   go_simp
   clear hHeld
   go_wp2_with fail
   go_ret
   exact ⟨_,rfl,uh Hs,uh HO⟩
  ·
   (refine tk 6 rfl (by assumption) ?_;(try simp only [Act.put,sA,sZ,sS]))
   refine rd 7 rfl (fun K hK=> ?_)
   go_simp
   refine hK.out _ _ ((uh kb).cell (i:=3) rfl) (fun hHeld=> ?_)
   clear hK K
   (try simp only [Act.put,sA,sZ,sS])
   refine wpAnyH_done (by kernel_rfl) ?_ _
   refine ZI rfl rfl ?_
   go_simp
   clear hHeld
   go_wp2_with fail
   go_ret
   exact ⟨_,rfl,uh Hs,uh HO⟩
  ·
   (refine tk 6 rfl (by assumption) ?_;(try simp only [Act.put,sA,sZ,sS]))
   refine rd 7 rfl (fun K hK=> ?_)
   go_simp
   refine hK.out _ _ ((uh kb).cell (i:=3) rfl) (fun hHeld=> ?_)
   clear hK K
   (try simp only [Act.put,sA,sZ,sS])
   refine wpAnyH_done (by kernel_rfl) ?_ _
   refine ZI rfl rfl ?_
   go_simp
   clear hHeld
   go_wp2_with fail
   go_ret
   exact ⟨_,rfl,uh Hs,uh HO⟩
set_option maxRecDepth 100000
theorem Ej (a:Option Addr) (len cap:Nat) (w:World) (hr:Row w.heap.size w a len) :
  Calls Tryz.prog 10 #[.slice a len cap] w fun e w'=> ∃ M u0 u1 u2 u3 u4 x rq,e= .returned (.tuple #[.agg #[u0,u1,u2,u3,u4,.int .i64 M.now],.int .i64 x])/\FullSmy (w.heap.size+1) w' u0 u1 u2 u3 u4 M rq/\Below w.heap.size w w':=by
 have Hr:=Z9 (Draw.row_later hr ((Below.refl _ _).alloc (Nat.le_refl _) (.cells #[.slice none 0 0,.slice none 0 0,.slice none 0 0,.slice none 0 0,.slice none 0 0,.int .i64 0] 32)))
 clear hr
 go_enter Tryz.func10,Tryz.ntmps10
 go_wp2_with fail
 have kr:Hid (Blk (w.alloc (.cells #[.slice none 0 0,.slice none 0 0,.slice none 0 0,.slice none 0 0,.slice none 0 0,.int .i64 0] 32)) w.heap.size 32 #[.slice none 0 0,.slice none 0 0,.slice none 0 0,.slice none 0 0,.slice none 0 0,.int .i64 0]):=Z9 (Blk.new _ _ _)
 have BB:Hid (Below w.heap.size w (w.alloc (.cells #[.slice none 0 0,.slice none 0 0,.slice none 0 0,.slice none 0 0,.slice none 0 0,.int .i64 0] 32))):=Z9 ((Below.refl _ _).alloc (Nat.le_refl _) _)
 have hzW:w.heap.size<(w.alloc (.cells #[.slice none 0 0,.slice none 0 0,.slice none 0 0,.slice none 0 0,.slice none 0 0,.int .i64 0] 32)).heap.size:=by simp
 generalize w.alloc (.cells #[.slice none 0 0,.slice none 0 0,.slice none 0 0,.slice none 0 0,.slice none 0 0,.int .i64 0] 32)=W at *
 refine (Draw.new_any a len cap _ (uh Hr)).mono ?_
 rintro e w1 ⟨rfl,s1,o1⟩
 have Hs:=Z9 s1
 replace kr:=Z9 ((uh kr).away o1 (by omega))
 replace BB:=Z9 ((uh BB).trans (o1.below (by omega) (uh BB).size))
 clear s1 o1 Hr
 generalize W.heap.size=cb at *
 go_wp2_with fail
 refine (PA a len cap cb _ (uh Hs)).mono ?_
 rintro e w2 ⟨M,u0,u1,u2,u3,u4,rq,rfl,hm2,hm3,hf,s2,o2⟩
 have Hm2:=Z9 hm2
 have Hm3:=Z9 hm3
 clear hm2 hm3
 have hc1:=Xx (uh Hs)
 have k6:=hf.smy
 obtain ⟨b0,q0,b1,q1,b2,q2,b3,q3,b4,q4,rfl,rfl,rfl,rfl,rfl,_,_,_,_,_,_,_,_,_,_⟩:=k6.five
 have HF:=Z9 (hf.mono (n₁:=cb+1) (by omega))
 replace Hs:=Z9 s2
 have Hs0:=Hs
 replace kr:=Z9 ((uh kr).away o2 (by omega))
 replace BB:=Z9 ((uh BB).trans (o2.below (by omega) (uh BB).size))
 clear hf s2 o2 k6
 go_upto_region 3 with fail
 obtain ⟨W2,hW2,hb,km⟩:=Zy w2 32 (S6 b0 q0 b1 q1 b2 q2 b3 q3 b4 q4 M)
 replace kr:=bl kr hb
 replace HF:=Z9 ((uh HF).below hb)
 replace Hs:=Z9 ((uh Hs).alloc (.cells #[.slice b0 M.rooms.length q0,.slice b1 M.guilds.length q1,.slice b2 M.smiths.length q2,.slice b3 M.desks.length q3,.slice b4 M.paces.length q4,.int .i64 M.now] 32))
 replace BB:=bt BB hb
 have hmb:cb+1<=w2.heap.size:=Xx (uh Hs0)
 have hown:Hid (∀ k,YC (.slice b0 M.rooms.length q0) (.slice b1 M.guilds.length q1) (.slice b2 M.smiths.length q2) (.slice b3 M.desks.length q3) (.slice b4 M.paces.length q4) rq k->k ≠ w.heap.size/\cb<k):=Z9 (fun k e=>by have:=((uh HF).own e).1;omega)
 clear hb
 rw [hW2]
 (try rw [hW2] at Hs);clear hW2
 generalize w2.heap.size=mb at *
 have hkl:M.desks.length<=1000000:=by have:=uh Hm3;omega
 obtain ⟨x0,x1,x2,x3,x4,x5⟩:=(uh km).c6
 go_wp2_with fail
 refine ZP (S:=fun w'=>w'.cell? ⟨mb,0,none⟩=some (.slice b0 M.rooms.length q0)/\w'.cell? ⟨mb,1,none⟩=some (.slice b1 M.guilds.length q1)/\w'.cell? ⟨mb,2,none⟩=some (.slice b2 M.smiths.length q2)/\w'.cell? ⟨mb,3,none⟩=some (.slice b3 M.desks.length q3)/\w'.cell? ⟨mb,4,none⟩=some (.slice b4 M.paces.length q4)/\w'.cell? ⟨mb,5,none⟩=some (.int .i64 M.now)) (by kernel_rfl) (List.cons_ne_nil _ _) (by kernel_rfl) ⟨x0,x1,x2,x3,x4,x5⟩ (fun hHeld=> ?_)
 simp only [List.dropLast_cons_cons,List.dropLast_singleton,List.length_cons,List.length_nil,Nat.zero_add,Nat.reduceAdd]
 clear x0 x1 x2 x3 x4 x5
 (refine tk 0 rfl (by assumption) ?_;(try simp only [Act.put,sA,sZ,sS]))
 (refine tk 1 rfl (by assumption) ?_;(try simp only [Act.put,sA,sZ,sS]))
 (refine tk 2 rfl (by assumption) ?_;(try simp only [Act.put,sA,sZ,sS]))
 refine rd 3 rfl (fun K hK=> ?_)
 go_simp
 refine (V1 a len cap cb _ _ _ _ _ _ _ _ _ _ _ _ _ _ _ _ hkl _ (UE (uh Hs))).mono ?_
 rintro e9 w5 ⟨x,rfl,s9,p9⟩
 have ho:=UO p9
 replace km:=Z9 ((uh km).away ho (by omega))
 replace kr:=Z9 ((uh kr).away ho (by omega))
 replace HF:=Z9 ((uh HF).keep (fun k e=>ho.block k ((uh HF).own e).2 (by have:=(uh hown k e).2;omega)))
 replace BB:=Z9 ((uh BB).trans (ho.below (by omega) (uh BB).size))
 clear s9 p9 ho
 refine hK.out _ _ (uh km).c6 (fun hHeld=> ?_)
 clear hK K
 (try simp only [Act.put,sA,sZ,sS])
 obtain ⟨o0,o1,o2,o3,o4,o5⟩:=(uh kr).c6
 obtain ⟨f0,f1,f2,f3,f4,f5⟩:=(uh kr).f6
 have kmN:Blk ((((((w5.setCell ⟨w.heap.size,0,none⟩ (.slice b0 M.rooms.length q0)).setCell ⟨w.heap.size,1,none⟩ (.slice b1 M.guilds.length q1)).setCell ⟨w.heap.size,2,none⟩ (.slice b2 M.smiths.length q2)).setCell ⟨w.heap.size,3,none⟩ (.slice b3 M.desks.length q3)).setCell ⟨w.heap.size,4,none⟩ (.slice b4 M.paces.length q4)).setCell ⟨w.heap.size,5,none⟩ (.int .i64 M.now)) mb 32 #[.slice b0 M.rooms.length q0,.slice b1 M.guilds.length q1,.slice b2 M.smiths.length q2,.slice b3 M.desks.length q3,.slice b4 M.paces.length q4,.int .i64 M.now]:=(((((((uh km).other (a:=⟨w.heap.size,0,none⟩) (by show mb ≠ w.heap.size;omega) (.slice b0 M.rooms.length q0)).other (a:=⟨w.heap.size,1,none⟩) (by show mb ≠ w.heap.size;omega) (.slice b1 M.guilds.length q1)).other (a:=⟨w.heap.size,2,none⟩) (by show mb ≠ w.heap.size;omega) (.slice b2 M.smiths.length q2)).other (a:=⟨w.heap.size,3,none⟩) (by show mb ≠ w.heap.size;omega) (.slice b3 M.desks.length q3)).other (a:=⟨w.heap.size,4,none⟩) (by show mb ≠ w.heap.size;omega) (.slice b4 M.paces.length q4)).other (a:=⟨w.heap.size,5,none⟩) (by show mb ≠ w.heap.size;omega) (.int .i64 M.now))
 refine rd 4 rfl (fun K hK=> ?_)
 go_simp
 refine hK.out _ _ ⟨kmN.cell (i:=0) rfl,kmN.cell (i:=1) rfl,kmN.cell (i:=2) rfl,kmN.cell (i:=3) rfl,kmN.cell (i:=4) rfl,kmN.cell (i:=5) rfl⟩ (fun hHeld=> ?_)
 clear hK K kmN
 (try simp only [Act.put,sA,sZ,sS])
 refine wpAnyH_done (by kernel_rfl) ?_ _
 refine ZI rfl rfl ?_
 go_simp
 clear hHeld
 go_wp2_with fail
 refine bodyPost_ret (v:= .tuple #[.agg #[.slice b0 M.rooms.length q0,.slice b1 M.guilds.length q1,.slice b2 M.smiths.length q2,.slice b3 M.desks.length q3,.slice b4 M.paces.length q4,.int .i64 M.now],.int .i64 x]) (by simp [results,Tryz.results10,go_sem, *]) rfl ⟨M,_,_,_,_,_,x,rq,rfl,?_,?_⟩
 ·refine FullSmy.mono (n₀:=cb+1) ?_ (by omega)
  iterate 6 (refine FullSmy.set_off ?_ (fun k e=>(uh hown k e).1) _ _)
  exact uh HF
 ·iterate 6 (refine Below.setCell ?_ (by show w.heap.size<=w.heap.size;omega) _)
  exact uh BB
set_option maxRecDepth 100000
theorem U4 (a:Option Addr) (len cap:Nat) (w:World) (hr:Row w.heap.size w a len) :
  Calls Tryz.prog 86 #[.slice a len cap] w fun e w'=> ∃ M u0 u1 u2 u3 u4 rq,e= .returned (.agg #[u0,u1,u2,u3,u4,.int .i64 M.now])/\FullSmy (w.heap.size+1) w' u0 u1 u2 u3 u4 M rq/\Below w.heap.size w w':=by
 have Hr:=Z9 (Draw.row_later hr ((Below.refl _ _).alloc (Nat.le_refl _) (.cells #[.slice none 0 0,.slice none 0 0,.slice none 0 0,.slice none 0 0,.slice none 0 0,.int .i64 0] 32)))
 clear hr
 go_enter Tryz.func86,Tryz.ntmps86
 go_wp2_with fail
 have kr:Hid (Blk (w.alloc (.cells #[.slice none 0 0,.slice none 0 0,.slice none 0 0,.slice none 0 0,.slice none 0 0,.int .i64 0] 32)) w.heap.size 32 #[.slice none 0 0,.slice none 0 0,.slice none 0 0,.slice none 0 0,.slice none 0 0,.int .i64 0]):=Z9 (Blk.new _ _ _)
 have BB:Hid (Below w.heap.size w (w.alloc (.cells #[.slice none 0 0,.slice none 0 0,.slice none 0 0,.slice none 0 0,.slice none 0 0,.int .i64 0] 32))):=Z9 ((Below.refl _ _).alloc (Nat.le_refl _) _)
 have hzW:w.heap.size<(w.alloc (.cells #[.slice none 0 0,.slice none 0 0,.slice none 0 0,.slice none 0 0,.slice none 0 0,.int .i64 0] 32)).heap.size:=by simp
 generalize w.alloc (.cells #[.slice none 0 0,.slice none 0 0,.slice none 0 0,.slice none 0 0,.slice none 0 0,.int .i64 0] 32)=W at *
 refine (Draw.new_any a len cap _ (uh Hr)).mono ?_
 rintro e w1 ⟨rfl,s1,o1⟩
 have Hs:=Z9 s1
 replace kr:=Z9 ((uh kr).away o1 (by omega))
 replace BB:=Z9 ((uh BB).trans (o1.below (by omega) (uh BB).size))
 clear s1 o1 Hr
 generalize W.heap.size=cb at *
 go_wp2_with fail
 refine (PA a len cap cb _ (uh Hs)).mono ?_
 rintro e w2 ⟨M,u0,u1,u2,u3,u4,rq,rfl,hm2,hm3,hf,s2,o2⟩
 have hc1:=Xx (uh Hs)
 have k6:=hf.smy
 obtain ⟨b0,q0,b1,q1,b2,q2,b3,q3,b4,q4,rfl,rfl,rfl,rfl,rfl,_,_,_,_,_,_,_,_,_,_⟩:=k6.five
 have HF:=Z9 (hf.mono (n₁:=cb+1) (by omega))
 replace kr:=Z9 ((uh kr).away o2 (by omega))
 replace BB:=Z9 ((uh BB).trans (o2.below (by omega) (uh BB).size))
 clear hf s2 o2 k6 hm2 hm3
 obtain ⟨o0,o1,o2,o3,o4,o5⟩:=(uh kr).c6
 obtain ⟨f0,f1,f2,f3,f4,f5⟩:=(uh kr).f6
 go_wp2_with fail
 refine bodyPost_ret (v:= .agg #[.slice b0 M.rooms.length q0,.slice b1 M.guilds.length q1,.slice b2 M.smiths.length q2,.slice b3 M.desks.length q3,.slice b4 M.paces.length q4,.int .i64 M.now]) (by simp [results,Tryz.results86,go_sem, *]) rfl ⟨M,_,_,_,_,_,rq,rfl,?_,?_⟩
 ·refine FullSmy.mono (n₀:=cb+1) ?_ (by omega)
  iterate 6 (refine FullSmy.set ?_ _ _ _ (by omega))
  exact uh HF
 ·iterate 6 (refine Below.setCell ?_ (by show w.heap.size<=w.heap.size;omega) _)
  exact uh BB
theorem U1 (a:Option Addr) (len cap:Nat) (w:World) (hr:Row w.heap.size w a len) :
  Calls Tryz.prog 28 #[.slice a len cap] w fun e w'=> ∃ M u0 u1 u2 u3 u4 rq,e= .returned (.agg #[u0,u1,u2,u3,u4,.int .i64 M.now])/\FullSmy (w.heap.size+1) w' u0 u1 u2 u3 u4 M rq/\Below w.heap.size w w':=by
 have Hr:=Z9 (Draw.row_later hr ((Below.refl _ _).alloc (Nat.le_refl _) (.cells #[.slice none 0 0,.slice none 0 0,.slice none 0 0,.slice none 0 0,.slice none 0 0,.int .i64 0] 32)))
 clear hr
 go_enter Tryz.func28,Tryz.ntmps28
 go_wp2_with fail
 have kr:Hid (Blk (w.alloc (.cells #[.slice none 0 0,.slice none 0 0,.slice none 0 0,.slice none 0 0,.slice none 0 0,.int .i64 0] 32)) w.heap.size 32 #[.slice none 0 0,.slice none 0 0,.slice none 0 0,.slice none 0 0,.slice none 0 0,.int .i64 0]):=Z9 (Blk.new _ _ _)
 have BB:Hid (Below w.heap.size w (w.alloc (.cells #[.slice none 0 0,.slice none 0 0,.slice none 0 0,.slice none 0 0,.slice none 0 0,.int .i64 0] 32))):=Z9 ((Below.refl _ _).alloc (Nat.le_refl _) _)
 have hzW:w.heap.size<(w.alloc (.cells #[.slice none 0 0,.slice none 0 0,.slice none 0 0,.slice none 0 0,.slice none 0 0,.int .i64 0] 32)).heap.size:=by simp
 generalize w.alloc (.cells #[.slice none 0 0,.slice none 0 0,.slice none 0 0,.slice none 0 0,.slice none 0 0,.int .i64 0] 32)=W at *
 refine (U4 a len cap _ (uh Hr)).mono ?_
 rintro e w2 ⟨M,u0,u1,u2,u3,u4,rq,rfl,hm,hb⟩
 have HF:=Z9 hm
 have k6:=hm.smy
 obtain ⟨b0,q0,b1,q1,b2,q2,b3,q3,b4,q4,rfl,rfl,rfl,rfl,rfl,_,_,_,_,_,_,_,_,_,_⟩:=k6.five
 replace kr:=Z9 ((uh kr).below hb hzW)
 replace BB:=bt BB hb
 clear hm hb Hr k6
 generalize W.heap.size=cb at *
 obtain ⟨o0,o1,o2,o3,o4,o5⟩:=(uh kr).c6
 obtain ⟨f0,f1,f2,f3,f4,f5⟩:=(uh kr).f6
 go_wp2_with fail
 refine bodyPost_ret (v:= .agg #[.slice b0 M.rooms.length q0,.slice b1 M.guilds.length q1,.slice b2 M.smiths.length q2,.slice b3 M.desks.length q3,.slice b4 M.paces.length q4,.int .i64 M.now]) (by simp [results,Tryz.results28,go_sem, *]) rfl ⟨M,_,_,_,_,_,rq,rfl,?_,?_⟩
 ·refine FullSmy.mono (n₀:=cb+1) ?_ (by omega)
  iterate 6 (refine FullSmy.set ?_ _ _ _ (by omega))
  exact uh HF
 ·iterate 6 (refine Below.setCell ?_ (by show w.heap.size<=w.heap.size;omega) _)
  exact uh BB
theorem Eu (a:Option Addr) (len cap:Nat) (w:World) (hr:Row w.heap.size w a len) :
  Calls Tryz.prog 30 #[.slice a len cap] w fun e w'=> ∃ M u0 u1 u2 u3 u4 x rq,e= .returned (.tuple #[.agg #[u0,u1,u2,u3,u4,.int .i64 M.now],.int .i64 x])/\FullSmy (w.heap.size+1) w' u0 u1 u2 u3 u4 M rq/\Below w.heap.size w w':=by
 have Hr:=Z9 (Draw.row_later hr ((Below.refl _ _).alloc (Nat.le_refl _) (.cells #[.slice none 0 0,.slice none 0 0,.slice none 0 0,.slice none 0 0,.slice none 0 0,.int .i64 0] 32)))
 clear hr
 go_enter Tryz.func30,Tryz.ntmps30
 go_wp2_with fail
 have kr:Hid (Blk (w.alloc (.cells #[.slice none 0 0,.slice none 0 0,.slice none 0 0,.slice none 0 0,.slice none 0 0,.int .i64 0] 32)) w.heap.size 32 #[.slice none 0 0,.slice none 0 0,.slice none 0 0,.slice none 0 0,.slice none 0 0,.int .i64 0]):=Z9 (Blk.new _ _ _)
 have BB:Hid (Below w.heap.size w (w.alloc (.cells #[.slice none 0 0,.slice none 0 0,.slice none 0 0,.slice none 0 0,.slice none 0 0,.int .i64 0] 32))):=Z9 ((Below.refl _ _).alloc (Nat.le_refl _) _)
 have hzW:w.heap.size<(w.alloc (.cells #[.slice none 0 0,.slice none 0 0,.slice none 0 0,.slice none 0 0,.slice none 0 0,.int .i64 0] 32)).heap.size:=by simp
 generalize w.alloc (.cells #[.slice none 0 0,.slice none 0 0,.slice none 0 0,.slice none 0 0,.slice none 0 0,.int .i64 0] 32)=W at *
 refine (Ej a len cap _ (uh Hr)).mono ?_
 rintro e w2 ⟨M,u0,u1,u2,u3,u4,x,rq,rfl,hm,hb⟩
 have HF:=Z9 hm
 have k6:=hm.smy
 obtain ⟨b0,q0,b1,q1,b2,q2,b3,q3,b4,q4,rfl,rfl,rfl,rfl,rfl,_,_,_,_,_,_,_,_,_,_⟩:=k6.five
 replace kr:=Z9 ((uh kr).below hb hzW)
 replace BB:=bt BB hb
 clear hm hb Hr k6
 generalize W.heap.size=cb at *
 obtain ⟨o0,o1,o2,o3,o4,o5⟩:=(uh kr).c6
 obtain ⟨f0,f1,f2,f3,f4,f5⟩:=(uh kr).f6
 go_wp2_with fail
 refine bodyPost_ret (v:= .tuple #[.agg #[.slice b0 M.rooms.length q0,.slice b1 M.guilds.length q1,.slice b2 M.smiths.length q2,.slice b3 M.desks.length q3,.slice b4 M.paces.length q4,.int .i64 M.now],.int .i64 x]) (by simp [results,Tryz.results30,go_sem, *]) rfl ⟨M,_,_,_,_,_,x,rq,rfl,?_,?_⟩
 ·refine FullSmy.mono (n₀:=cb+1) ?_ (by omega)
  iterate 6 (refine FullSmy.set ?_ _ _ _ (by omega))
  exact uh HF
 ·iterate 6 (refine Below.setCell ?_ (by show w.heap.size<=w.heap.size;omega) _)
  exact uh BB
end Go.Proofs.YtnponpamjddpjaaGreat
