/- Part 3 of what the proof rests on besides. No condition but those that a theorem names. -/
import Derived.Test.YthbbahagpmdooaaGreatXv02
set_option maxHeartbeats 8000000
set_option maxRecDepth 100000
namespace Go.Proofs.YthbbahagpmdooaaGreat
open Go.ChangeShapes Go.WideShapes Go.ChangeAt Go.RowKit Go.Sort
set_option linter.unusedVariables false
theorem Vi {w:World} {v:Value} {rs:List Z0} (h:IsRooms w v rs) (left:Int) (h0:0<=left) (h1:left<=1048576) :
  Calls Tryz.prog 48 #[.agg #[v],.int .i64 left] w fun e w'=> ∃ x:Int,e= .returned (.int .i64 x)/\x<=1048576/\(0<=x->VO rs)/\Below w.heap.size w w':=by
 have Hv:=Z9 h
 obtain ⟨a,cap,rfl,hc,hm,hr⟩:=h
 clear hr
 go_enter Tryz.func48,Tryz.ntmps48
 go_wp2_with fail
 refine (WD ((uh Hv).alloc _) left h0 h1).mono ?_
 rintro e w1 ⟨x,rfl,x1,hx,hb⟩
 have Hx:=Z9 hx
 have Hb:=Z9 hb
 clear hx hb
 by_cases hx0:x<0
 ·go_wp2_with fail
  go_ret
  exact ⟨-1,rfl,by omega,fun h=>by omega,((Below.refl _ _).alloc (Nat.le_refl _) _).trans ((uh Hb).mono (by simp))⟩
 ·go_wp2_with fail
  go_ret
  exact ⟨x,rfl,x1,uh Hx,((Below.refl _ _).alloc (Nat.le_refl _) _).trans ((uh Hb).mono (by simp))⟩
theorem XM {w:World} {v0 v1 v2 v3 v4:Value} {m:Z4} (h:Smy w v0 v1 v2 v3 v4 m) :
  Calls Tryz.prog 20 #[.agg #[v0,v1,v2,v3,v4,.int .i64 m.now],.int .i64 1048576] w fun e w'=> ∃ x:Int,e= .returned (.int .i64 x)/\(0<=x->VQ m)/\Below w.heap.size w w':=by
 have Hv:=Z9 h
 obtain ⟨a0,p0,rfl,_,_⟩:=IsRooms.shape h.rooms
 obtain ⟨a1,p1,rfl,hc1,hm1⟩:=IsRec.shape h.guilds
 obtain ⟨a2,p2,rfl,hc2,hm2⟩:=IsRec.shape h.smiths
 obtain ⟨a3,p3,rfl,hc3,hm3⟩:=IsRec.shape h.desks
 obtain ⟨a4,p4,rfl,hc4,hm4⟩:=IsRec.shape h.paces
 clear h
 go_enter Tryz.func20,Tryz.ntmps20
 go_wp2_with fail
 refine (Vi ((uh Hv).alloc _).rooms _ (by omega) (by omega)).mono ?_
 rintro e w1 ⟨x,rfl,x1,hx,hb⟩
 have kb:Hid (Blk w1 w.heap.size 55 #[.slice a0 m.rooms.length p0,.slice a1 m.guilds.length p1,.slice a2 m.smiths.length p2,.slice a3 m.desks.length p3,.slice a4 m.paces.length p4,.int .i64 m.now]):=Z9 ((Blk.new w _ _).below hb (by simp))
 have BB:Hid (Below w.heap.size w w1):=Z9 (((Below.refl _ _).alloc (Nat.le_refl _) _).trans (hb.mono (by simp)))
 have Hx:=Z9 hx
 clear hx hb
 have c1:=(uh kb).cell (i:=1) (v:= .slice a1 m.guilds.length p1) rfl
 have c2:=(uh kb).cell (i:=2) (v:= .slice a2 m.smiths.length p2) rfl
 have c3:=(uh kb).cell (i:=3) (v:= .slice a3 m.desks.length p3) rfl
 have c4:=(uh kb).cell (i:=4) (v:= .slice a4 m.paces.length p4) rfl
 by_cases hx0:x<0
 ·go_wp2_with fail
  go_ret
  exact ⟨-1,rfl,fun h=>by omega,uh BB⟩
 go_wp2_with fail
 refine (Xv _ _ _ _ (by omega) (by omega) (by omega) _).mono ?_
 by_cases g0:x-(m.guilds.length:Int)<0
 ·rw [Y9 g0]
  rintro e w' ⟨rfl,h9⟩
  subst w'
  go_wp2_with fail
  go_ret
  exact ⟨-1,rfl,fun h=>by omega,uh BB⟩
 rw [Zc g0]
 rintro e w' ⟨rfl,h9⟩
 subst w'
 go_wp2_with fail
 refine (XI _ _ _ _ (by omega) (by omega) (by omega) _).mono ?_
 by_cases g1:x-(m.guilds.length:Int)-(m.smiths.length:Int)<0
 ·rw [Y9 g1]
  rintro e w' ⟨rfl,h9⟩
  subst w'
  go_wp2_with fail
  go_ret
  exact ⟨-1,rfl,fun h=>by omega,uh BB⟩
 rw [Zc g1]
 rintro e w' ⟨rfl,h9⟩
 subst w'
 go_wp2_with fail
 refine (Wq _ _ _ _ (by omega) (by omega) (by omega) _).mono ?_
 by_cases g2:x-(m.guilds.length:Int)-(m.smiths.length:Int)-(m.desks.length:Int)<0
 ·rw [Y9 g2]
  rintro e w' ⟨rfl,h9⟩
  subst w'
  go_wp2_with fail
  go_ret
  exact ⟨-1,rfl,fun h=>by omega,uh BB⟩
 rw [Zc g2]
 rintro e w' ⟨rfl,h9⟩
 subst w'
 go_wp2_with fail
 refine (XB _ _ _ _ (by omega) (by omega) (by omega) _).mono ?_
 by_cases g3:x-(m.guilds.length:Int)-(m.smiths.length:Int)-(m.desks.length:Int)-(m.paces.length:Int)<0
 ·rw [Y9 g3]
  rintro e w' ⟨rfl,h9⟩
  subst w'
  go_wp2_with fail
  go_ret
  exact ⟨-1,rfl,fun h=>by omega,uh BB⟩
 rw [Zc g3]
 rintro e w' ⟨rfl,h9⟩
 subst w'
 go_wp2_with fail
 go_ret
 exact ⟨_,rfl,fun _=>⟨uh Hx (by omega),by omega,by omega,by omega,by omega⟩,uh BB⟩
theorem VC {w:World} {v:Value} {rs:List Z0} (h:IsRooms w v rs) (hs:VO rs) :
  Calls Tryz.prog 53 #[.agg #[v]] w fun e w'=> ∃ v',e= .returned (.agg #[v'])/\RoomsFrom w.heap.size w' v' rs/\Below w.heap.size w w':=by
 have Hv:=Z9 h
 obtain ⟨a,cap,rfl,hc,hm,hr⟩:=h
 clear hr
 have Hb0:Hid (∀ o1 o2 o3:Obj,Below w.heap.size w (((w.alloc o1).alloc o2).alloc o3)):=Z9 (fun o1 o2 o3=>(((Below.refl _ _).alloc (Nat.le_refl _) _).alloc (by simp) _).alloc (by simp;omega) _)
 go_enter Tryz.func53,Tryz.ntmps53
 go_wp2_with fail
 refine (WY ((uh Hv).below (uh Hb0 _ _ _)) hs).mono ?_
 rintro e w1 ⟨v',rfl,hp,hb1⟩
 simp only [World.size_alloc] at hp
 have hsz:w.heap.size+3<=w1.heap.size:=by have:=hb1.size;simp at this;omega
 obtain ⟨cc,ff⟩:=Fi hb1
 have x0:=cc (w.heap.size+2) 0 (by simp)
 have y0:=cc (w.heap.size+1) 0 (by simp)
 have fx0:=ff (w.heap.size+2) 0 (by simp)
 have fy0:=ff (w.heap.size+1) 0 (by simp)
 have Hp:=Z9 hp
 have Hb1:=Z9 hb1
 obtain ⟨a',cap',rfl,_⟩:=hp
 clear cc ff hb1
 go_wp2_with fail
 have B1:Below w.heap.size w w1:=(uh Hb0 _ _ _).trans ((uh Hb1).mono (by simp;omega))
 refine bodyPost_ret (v:= .agg #[.slice a' rs.length cap']) (by simp [results,Tryz.results53,go_sem, *]) rfl ⟨_,rfl,?_,?_⟩
 ·exact (((uh Hp).set _ _ _ (by omega)).set _ _ _ (by omega)).mono (by omega)
 ·exact (B1.setCell (by show _<=w.heap.size+1+1;omega) _).setCell (by show _<=w.heap.size+1;omega) _
theorem Zm {w:World} {v0 v1 v2 v3 v4:Value} {m:Z4} (h:Smy w v0 v1 v2 v3 v4 m) (hs:VQ m) :
  Calls Tryz.prog 21 #[.agg #[v0,v1,v2,v3,v4,.int .i64 m.now]] w fun e w'=> ∃ u0 u1 u2 u3 u4,e= .returned (.agg #[u0,u1,u2,u3,u4,.int .i64 m.now])/\OwnSmy w.heap.size w' u0 u1 u2 u3 u4 m/\Below w.heap.size w w':=by
 have Hv:=Z9 h
 have Hs:=Z9 hs
 obtain ⟨a0,p0,rfl,_,_⟩:=IsRooms.shape h.rooms
 obtain ⟨a1,p1,rfl,hc1,hm1⟩:=IsRec.shape h.guilds
 obtain ⟨a2,p2,rfl,hc2,hm2⟩:=IsRec.shape h.smiths
 obtain ⟨a3,p3,rfl,hc3,hm3⟩:=IsRec.shape h.desks
 obtain ⟨a4,p4,rfl,hc4,hm4⟩:=IsRec.shape h.paces
 clear h hs
 go_enter Tryz.func21,Tryz.ntmps21
 go_wp2_with fail
 have BB:Hid (Below w.heap.size w (((w.alloc (.cells #[.slice a0 m.rooms.length p0,.slice a1 m.guilds.length p1,.slice a2 m.smiths.length p2,.slice a3 m.desks.length p3,.slice a4 m.paces.length p4,.int .i64 m.now] 55)).alloc (.cells #[.slice none 0 0,.slice none 0 0,.slice none 0 0,.slice none 0 0,.slice none 0 0,.int .i64 0] 32)).alloc (.cells #[.slice none 0 0,.slice none 0 0,.slice none 0 0,.slice none 0 0,.slice none 0 0,.int .i64 0] 32))):=Z9 ((((Below.refl _ _).alloc (Nat.le_refl _) _).alloc (by simp) _).alloc (by simp;omega) _)
 have ka:Hid (Blk (((w.alloc (.cells #[.slice a0 m.rooms.length p0,.slice a1 m.guilds.length p1,.slice a2 m.smiths.length p2,.slice a3 m.desks.length p3,.slice a4 m.paces.length p4,.int .i64 m.now] 55)).alloc (.cells #[.slice none 0 0,.slice none 0 0,.slice none 0 0,.slice none 0 0,.slice none 0 0,.int .i64 0] 32)).alloc (.cells #[.slice none 0 0,.slice none 0 0,.slice none 0 0,.slice none 0 0,.slice none 0 0,.int .i64 0] 32)) w.heap.size 55 #[.slice a0 m.rooms.length p0,.slice a1 m.guilds.length p1,.slice a2 m.smiths.length p2,.slice a3 m.desks.length p3,.slice a4 m.paces.length p4,.int .i64 m.now]):=Z9 (((Blk.new w _ _).alloc _).alloc _)
 have kr:Hid (Blk (((w.alloc (.cells #[.slice a0 m.rooms.length p0,.slice a1 m.guilds.length p1,.slice a2 m.smiths.length p2,.slice a3 m.desks.length p3,.slice a4 m.paces.length p4,.int .i64 m.now] 55)).alloc (.cells #[.slice none 0 0,.slice none 0 0,.slice none 0 0,.slice none 0 0,.slice none 0 0,.int .i64 0] 32)).alloc (.cells #[.slice none 0 0,.slice none 0 0,.slice none 0 0,.slice none 0 0,.slice none 0 0,.int .i64 0] 32)) (w.heap.size+1) 32 #[.slice none 0 0,.slice none 0 0,.slice none 0 0,.slice none 0 0,.slice none 0 0,.int .i64 0]):=Z9 (by
  have k:=Blk.new (w.alloc (.cells #[.slice a0 m.rooms.length p0,.slice a1 m.guilds.length p1,.slice a2 m.smiths.length p2,.slice a3 m.desks.length p3,.slice a4 m.paces.length p4,.int .i64 m.now] 55)) 32 #[.slice none 0 0,.slice none 0 0,.slice none 0 0,.slice none 0 0,.slice none 0 0,.int .i64 0]
  rw [World.size_alloc] at k
  exact k.alloc _)
 have ko:Hid (Blk (((w.alloc (.cells #[.slice a0 m.rooms.length p0,.slice a1 m.guilds.length p1,.slice a2 m.smiths.length p2,.slice a3 m.desks.length p3,.slice a4 m.paces.length p4,.int .i64 m.now] 55)).alloc (.cells #[.slice none 0 0,.slice none 0 0,.slice none 0 0,.slice none 0 0,.slice none 0 0,.int .i64 0] 32)).alloc (.cells #[.slice none 0 0,.slice none 0 0,.slice none 0 0,.slice none 0 0,.slice none 0 0,.int .i64 0] 32)) (w.heap.size+1+1) 32 #[.slice none 0 0,.slice none 0 0,.slice none 0 0,.slice none 0 0,.slice none 0 0,.int .i64 0]):=Z9 (by
  have k:=Blk.new ((w.alloc (.cells #[.slice a0 m.rooms.length p0,.slice a1 m.guilds.length p1,.slice a2 m.smiths.length p2,.slice a3 m.desks.length p3,.slice a4 m.paces.length p4,.int .i64 m.now] 55)).alloc (.cells #[.slice none 0 0,.slice none 0 0,.slice none 0 0,.slice none 0 0,.slice none 0 0,.int .i64 0] 32)) 32 #[.slice none 0 0,.slice none 0 0,.slice none 0 0,.slice none 0 0,.slice none 0 0,.int .i64 0]
  rw [World.size_alloc,World.size_alloc] at k
  exact k)
 generalize ((w.alloc (.cells #[.slice a0 m.rooms.length p0,.slice a1 m.guilds.length p1,.slice a2 m.smiths.length p2,.slice a3 m.desks.length p3,.slice a4 m.paces.length p4,.int .i64 m.now] 55)).alloc (.cells #[.slice none 0 0,.slice none 0 0,.slice none 0 0,.slice none 0 0,.slice none 0 0,.int .i64 0] 32)).alloc (.cells #[.slice none 0 0,.slice none 0 0,.slice none 0 0,.slice none 0 0,.slice none 0 0,.int .i64 0] 32)=W at *
 have hW:w.heap.size+3<=W.heap.size:=by have:=(uh ko).lt;omega
 refine (VC ((uh Hv).below (uh BB)).rooms (uh Hs).rooms).mono ?_
 rintro e w1 ⟨u0,rfl,hp,hb⟩
 have n0:Hid (RoomsFrom (w.heap.size+3) w1 u0 m.rooms):=Z9 (hp.mono hW)
 replace ka:=bl ka hb
 replace kr:=bl kr hb
 replace ko:=bl ko hb
 replace BB:=bt BB hb
 have hW2:w.heap.size+3<=w1.heap.size:=by have:=hb.size;omega
 obtain ⟨b0,q0,rfl,_⟩:=hp
 clear hb
 have o0:=(uh ko).cell (i:=0) (v:= .slice none 0 0) rfl
 have f0:=(uh ko).free 0
 have c1:=(uh ka).cell (i:=1) (v:= .slice a1 m.guilds.length p1) rfl
 go_wp2_with fail
 replace ka:Hid (Blk (w1.setCell ⟨w.heap.size+1+1,0,none⟩ (.slice b0 m.rooms.length q0)) w.heap.size 55 #[.slice a0 m.rooms.length p0,.slice a1 m.guilds.length p1,.slice a2 m.smiths.length p2,.slice a3 m.desks.length p3,.slice a4 m.paces.length p4,.int .i64 m.now]):=Z9 ((uh ka).other (a:=⟨w.heap.size+1+1,0,none⟩) (by show w.heap.size ≠ w.heap.size+1+1;omega) _)
 replace kr:Hid (Blk (w1.setCell ⟨w.heap.size+1+1,0,none⟩ (.slice b0 m.rooms.length q0)) (w.heap.size+1) 32 #[.slice none 0 0,.slice none 0 0,.slice none 0 0,.slice none 0 0,.slice none 0 0,.int .i64 0]):=Z9 ((uh kr).other (a:=⟨w.heap.size+1+1,0,none⟩) (by show w.heap.size+1 ≠ w.heap.size+1+1;omega) _)
 replace ko:Hid (Blk (w1.setCell ⟨w.heap.size+1+1,0,none⟩ (.slice b0 m.rooms.length q0)) (w.heap.size+1+1) 32 #[.slice b0 m.rooms.length q0,.slice none 0 0,.slice none 0 0,.slice none 0 0,.slice none 0 0,.int .i64 0]):=Z9 ((uh ko).set 0 _)
 replace n0:=Z9 ((uh n0).set (w.heap.size+1+1) 0 (.slice b0 m.rooms.length q0) (by omega))
 replace BB:Hid (Below w.heap.size w (w1.setCell ⟨w.heap.size+1+1,0,none⟩ (.slice b0 m.rooms.length q0))):=Z9 ((uh BB).setCell (p:=⟨w.heap.size+1+1,0,none⟩) (by show w.heap.size<=w.heap.size+1+1;omega) _)
 have hW3:w.heap.size+3<=(w1.setCell ⟨w.heap.size+1+1,0,none⟩ (.slice b0 m.rooms.length q0)).heap.size:=by have:=(uh ko).lt;omega
 clear o0 f0 c1 hW hW2
 generalize (w1.setCell ⟨w.heap.size+1+1,0,none⟩ (.slice b0 m.rooms.length q0))=W at *
 have hW:=hW3
 clear hW3
 refine (XW ((uh Hv).below (uh BB)).guilds (uh Hs).guilds).mono ?_
 rintro e w2 ⟨u1,rfl,hp,hb⟩
 have n1:Hid (GuildsAt (w.heap.size+3) w2 u1 m.guilds):=Z9 (RecAt.mono hp hW)
 replace n0:=Z9 ((uh n0).below hb)
 replace ka:=bl ka hb
 replace kr:=bl kr hb
 replace ko:=bl ko hb
 replace BB:=bt BB hb
 have hW2:w.heap.size+3<=w2.heap.size:=by have:=hb.size;omega
 obtain ⟨b1,q1,rfl⟩:=RecAt.shape hp
 clear hp hb
 have o1:=(uh ko).cell (i:=1) (v:= .slice none 0 0) rfl
 have f1:=(uh ko).free 1
 have c2:=(uh ka).cell (i:=2) (v:= .slice a2 m.smiths.length p2) rfl
 go_wp2_with fail
 replace ka:Hid (Blk (w2.setCell ⟨w.heap.size+1+1,1,none⟩ (.slice b1 m.guilds.length q1)) w.heap.size 55 #[.slice a0 m.rooms.length p0,.slice a1 m.guilds.length p1,.slice a2 m.smiths.length p2,.slice a3 m.desks.length p3,.slice a4 m.paces.length p4,.int .i64 m.now]):=Z9 ((uh ka).other (a:=⟨w.heap.size+1+1,1,none⟩) (by show w.heap.size ≠ w.heap.size+1+1;omega) _)
 replace kr:Hid (Blk (w2.setCell ⟨w.heap.size+1+1,1,none⟩ (.slice b1 m.guilds.length q1)) (w.heap.size+1) 32 #[.slice none 0 0,.slice none 0 0,.slice none 0 0,.slice none 0 0,.slice none 0 0,.int .i64 0]):=Z9 ((uh kr).other (a:=⟨w.heap.size+1+1,1,none⟩) (by show w.heap.size+1 ≠ w.heap.size+1+1;omega) _)
 replace ko:Hid (Blk (w2.setCell ⟨w.heap.size+1+1,1,none⟩ (.slice b1 m.guilds.length q1)) (w.heap.size+1+1) 32 #[.slice b0 m.rooms.length q0,.slice b1 m.guilds.length q1,.slice none 0 0,.slice none 0 0,.slice none 0 0,.int .i64 0]):=Z9 ((uh ko).set 1 _)
 replace n0:=Z9 ((uh n0).set (w.heap.size+1+1) 1 (.slice b1 m.guilds.length q1) (by omega))
 replace n1:=Z9 (RecAt.set_old (uh n1) (w.heap.size+1+1) 1 (.slice b1 m.guilds.length q1) (by omega))
 replace BB:Hid (Below w.heap.size w (w2.setCell ⟨w.heap.size+1+1,1,none⟩ (.slice b1 m.guilds.length q1))):=Z9 ((uh BB).setCell (p:=⟨w.heap.size+1+1,1,none⟩) (by show w.heap.size<=w.heap.size+1+1;omega) _)
 have hW3:w.heap.size+3<=(w2.setCell ⟨w.heap.size+1+1,1,none⟩ (.slice b1 m.guilds.length q1)).heap.size:=by have:=(uh ko).lt;omega
 clear o1 f1 c2 hW hW2
 generalize (w2.setCell ⟨w.heap.size+1+1,1,none⟩ (.slice b1 m.guilds.length q1))=W at *
 have hW:=hW3
 clear hW3
 refine (X9 ((uh Hv).below (uh BB)).smiths (uh Hs).smiths).mono ?_
 rintro e w3 ⟨u2,rfl,hp,hb⟩
 have n2:Hid (SmithsAt (w.heap.size+3) w3 u2 m.smiths):=Z9 (RecAt.mono hp hW)
 replace n0:=Z9 ((uh n0).below hb)
 replace n1:=Z9 (RecAt.later (uh n1) hb)
 replace ka:=bl ka hb
 replace kr:=bl kr hb
 replace ko:=bl ko hb
 replace BB:=bt BB hb
 have hW2:w.heap.size+3<=w3.heap.size:=by have:=hb.size;omega
 obtain ⟨b2,q2,rfl⟩:=RecAt.shape hp
 clear hp hb
 have o2:=(uh ko).cell (i:=2) (v:= .slice none 0 0) rfl
 have f2:=(uh ko).free 2
 have c3:=(uh ka).cell (i:=3) (v:= .slice a3 m.desks.length p3) rfl
 go_wp2_with fail
 replace ka:Hid (Blk (w3.setCell ⟨w.heap.size+1+1,2,none⟩ (.slice b2 m.smiths.length q2)) w.heap.size 55 #[.slice a0 m.rooms.length p0,.slice a1 m.guilds.length p1,.slice a2 m.smiths.length p2,.slice a3 m.desks.length p3,.slice a4 m.paces.length p4,.int .i64 m.now]):=Z9 ((uh ka).other (a:=⟨w.heap.size+1+1,2,none⟩) (by show w.heap.size ≠ w.heap.size+1+1;omega) _)
 replace kr:Hid (Blk (w3.setCell ⟨w.heap.size+1+1,2,none⟩ (.slice b2 m.smiths.length q2)) (w.heap.size+1) 32 #[.slice none 0 0,.slice none 0 0,.slice none 0 0,.slice none 0 0,.slice none 0 0,.int .i64 0]):=Z9 ((uh kr).other (a:=⟨w.heap.size+1+1,2,none⟩) (by show w.heap.size+1 ≠ w.heap.size+1+1;omega) _)
 replace ko:Hid (Blk (w3.setCell ⟨w.heap.size+1+1,2,none⟩ (.slice b2 m.smiths.length q2)) (w.heap.size+1+1) 32 #[.slice b0 m.rooms.length q0,.slice b1 m.guilds.length q1,.slice b2 m.smiths.length q2,.slice none 0 0,.slice none 0 0,.int .i64 0]):=Z9 ((uh ko).set 2 _)
 replace n0:=Z9 ((uh n0).set (w.heap.size+1+1) 2 (.slice b2 m.smiths.length q2) (by omega))
 replace n1:=Z9 (RecAt.set_old (uh n1) (w.heap.size+1+1) 2 (.slice b2 m.smiths.length q2) (by omega))
 replace n2:=Z9 (RecAt.set_old (uh n2) (w.heap.size+1+1) 2 (.slice b2 m.smiths.length q2) (by omega))
 replace BB:Hid (Below w.heap.size w (w3.setCell ⟨w.heap.size+1+1,2,none⟩ (.slice b2 m.smiths.length q2))):=Z9 ((uh BB).setCell (p:=⟨w.heap.size+1+1,2,none⟩) (by show w.heap.size<=w.heap.size+1+1;omega) _)
 have hW3:w.heap.size+3<=(w3.setCell ⟨w.heap.size+1+1,2,none⟩ (.slice b2 m.smiths.length q2)).heap.size:=by have:=(uh ko).lt;omega
 clear o2 f2 c3 hW hW2
 generalize (w3.setCell ⟨w.heap.size+1+1,2,none⟩ (.slice b2 m.smiths.length q2))=W at *
 have hW:=hW3
 clear hW3
 refine (WE ((uh Hv).below (uh BB)).desks (uh Hs).desks).mono ?_
 rintro e w4 ⟨u3,rfl,hp,hb⟩
 have n3:Hid (DesksAt (w.heap.size+3) w4 u3 m.desks):=Z9 (RecAt.mono hp hW)
 replace n0:=Z9 ((uh n0).below hb)
 replace n1:=Z9 (RecAt.later (uh n1) hb)
 replace n2:=Z9 (RecAt.later (uh n2) hb)
 replace ka:=bl ka hb
 replace kr:=bl kr hb
 replace ko:=bl ko hb
 replace BB:=bt BB hb
 have hW2:w.heap.size+3<=w4.heap.size:=by have:=hb.size;omega
 obtain ⟨b3,q3,rfl⟩:=RecAt.shape hp
 clear hp hb
 have o3:=(uh ko).cell (i:=3) (v:= .slice none 0 0) rfl
 have f3:=(uh ko).free 3
 have c4:=(uh ka).cell (i:=4) (v:= .slice a4 m.paces.length p4) rfl
 go_wp2_with fail
 replace ka:Hid (Blk (w4.setCell ⟨w.heap.size+1+1,3,none⟩ (.slice b3 m.desks.length q3)) w.heap.size 55 #[.slice a0 m.rooms.length p0,.slice a1 m.guilds.length p1,.slice a2 m.smiths.length p2,.slice a3 m.desks.length p3,.slice a4 m.paces.length p4,.int .i64 m.now]):=Z9 ((uh ka).other (a:=⟨w.heap.size+1+1,3,none⟩) (by show w.heap.size ≠ w.heap.size+1+1;omega) _)
 replace kr:Hid (Blk (w4.setCell ⟨w.heap.size+1+1,3,none⟩ (.slice b3 m.desks.length q3)) (w.heap.size+1) 32 #[.slice none 0 0,.slice none 0 0,.slice none 0 0,.slice none 0 0,.slice none 0 0,.int .i64 0]):=Z9 ((uh kr).other (a:=⟨w.heap.size+1+1,3,none⟩) (by show w.heap.size+1 ≠ w.heap.size+1+1;omega) _)
 replace ko:Hid (Blk (w4.setCell ⟨w.heap.size+1+1,3,none⟩ (.slice b3 m.desks.length q3)) (w.heap.size+1+1) 32 #[.slice b0 m.rooms.length q0,.slice b1 m.guilds.length q1,.slice b2 m.smiths.length q2,.slice b3 m.desks.length q3,.slice none 0 0,.int .i64 0]):=Z9 ((uh ko).set 3 _)
 replace n0:=Z9 ((uh n0).set (w.heap.size+1+1) 3 (.slice b3 m.desks.length q3) (by omega))
 replace n1:=Z9 (RecAt.set_old (uh n1) (w.heap.size+1+1) 3 (.slice b3 m.desks.length q3) (by omega))
 replace n2:=Z9 (RecAt.set_old (uh n2) (w.heap.size+1+1) 3 (.slice b3 m.desks.length q3) (by omega))
 replace n3:=Z9 (RecAt.set_old (uh n3) (w.heap.size+1+1) 3 (.slice b3 m.desks.length q3) (by omega))
 replace BB:Hid (Below w.heap.size w (w4.setCell ⟨w.heap.size+1+1,3,none⟩ (.slice b3 m.desks.length q3))):=Z9 ((uh BB).setCell (p:=⟨w.heap.size+1+1,3,none⟩) (by show w.heap.size<=w.heap.size+1+1;omega) _)
 have hW3:w.heap.size+3<=(w4.setCell ⟨w.heap.size+1+1,3,none⟩ (.slice b3 m.desks.length q3)).heap.size:=by have:=(uh ko).lt;omega
 clear o3 f3 c4 hW hW2
 generalize (w4.setCell ⟨w.heap.size+1+1,3,none⟩ (.slice b3 m.desks.length q3))=W at *
 have hW:=hW3
 clear hW3
 refine (X7 ((uh Hv).below (uh BB)).paces (uh Hs).paces).mono ?_
 rintro e w5 ⟨u4,rfl,hp,hb⟩
 have n4:Hid (NumsAt (w.heap.size+3) w5 u4 m.paces):=Z9 (RecAt.mono hp hW)
 replace n0:=Z9 ((uh n0).below hb)
 replace n1:=Z9 (RecAt.later (uh n1) hb)
 replace n2:=Z9 (RecAt.later (uh n2) hb)
 replace n3:=Z9 (RecAt.later (uh n3) hb)
 replace ka:=bl ka hb
 replace kr:=bl kr hb
 replace ko:=bl ko hb
 replace BB:=bt BB hb
 have hW2:w.heap.size+3<=w5.heap.size:=by have:=hb.size;omega
 obtain ⟨b4,q4,rfl⟩:=RecAt.shape hp
 clear hp hb
 have o4:=(uh ko).cell (i:=4) (v:= .slice none 0 0) rfl
 have f4:=(uh ko).free 4
 have o0:=(uh ko).cell (i:=0) (v:= .slice b0 m.rooms.length q0) rfl
 have r0:=(uh kr).cell (i:=0) (v:= .slice none 0 0) rfl
 have rf0:=(uh kr).free 0
 have o1:=(uh ko).cell (i:=1) (v:= .slice b1 m.guilds.length q1) rfl
 have r1:=(uh kr).cell (i:=1) (v:= .slice none 0 0) rfl
 have rf1:=(uh kr).free 1
 have o2:=(uh ko).cell (i:=2) (v:= .slice b2 m.smiths.length q2) rfl
 have r2:=(uh kr).cell (i:=2) (v:= .slice none 0 0) rfl
 have rf2:=(uh kr).free 2
 have o3:=(uh ko).cell (i:=3) (v:= .slice b3 m.desks.length q3) rfl
 have r3:=(uh kr).cell (i:=3) (v:= .slice none 0 0) rfl
 have rf3:=(uh kr).free 3
 have r4:=(uh kr).cell (i:=4) (v:= .slice none 0 0) rfl
 have rf4:=(uh kr).free 4
 have o5:=(uh ko).cell (i:=5) (v:= .int .i64 0) rfl
 have r5:=(uh kr).cell (i:=5) (v:= .int .i64 0) rfl
 have rf5:=(uh kr).free 5
 have f5:=(uh ko).free 5
 have c5:=(uh ka).cell (i:=5) (v:= .int .i64 m.now) rfl
 go_wp2_with fail
 refine bodyPost_ret (v:= .agg #[.slice b0 m.rooms.length q0,.slice b1 m.guilds.length q1,.slice b2 m.smiths.length q2,.slice b3 m.desks.length q3,.slice b4 m.paces.length q4,.int .i64 m.now]) (by simp [results,Tryz.results21,go_sem,r0,r1,r2,r3,r4,r5]) rfl ⟨_,_,_,_,_,rfl,?_,?_⟩
 ·refine OwnSmy.mono ?_ (show w.heap.size<=w.heap.size+3 by omega)
  iterate 8 (refine OwnSmy.set ?_ _ _ _ (by omega))
  exact ⟨uh n0,uh n1,uh n2,uh n3,uh n4⟩
 ·iterate 8 (refine Below.setCell ?_ (by first | (show _<=w.heap.size+1+1;omega) | (show _<=w.heap.size+1;omega)) _)
  exact uh BB
theorem Xi {w:World} {v0 v1 v2 v3 v4 u0 u1 u2 u3 u4:Value} {m:Z4} (h:Smy w v0 v1 v2 v3 v4 m) (k:Smy w u0 u1 u2 u3 u4 m) :
  Calls Tryz.prog 22 #[.agg #[v0,v1,v2,v3,v4,.int .i64 m.now],.agg #[u0,u1,u2,u3,u4,.int .i64 m.now]] w fun e w'=>e= .returned (.bool true)/\Below w.heap.size w w':=by
 have Hv:=Z9 h
 have Hu:=Z9 k
 obtain ⟨a0,p0,rfl,_,_⟩:=IsRooms.shape h.rooms
 obtain ⟨a1,p1,rfl,hc1,hm1⟩:=IsRec.shape h.guilds
 obtain ⟨a2,p2,rfl,hc2,hm2⟩:=IsRec.shape h.smiths
 obtain ⟨a3,p3,rfl,hc3,hm3⟩:=IsRec.shape h.desks
 obtain ⟨a4,p4,rfl,hc4,hm4⟩:=IsRec.shape h.paces
 obtain ⟨b0,q0,b1,q1,b2,q2,b3,q3,b4,q4,rfl,rfl,rfl,rfl,rfl,_,_,_,_,_,_,_,_,_,_⟩:=k.five
 clear h k
 go_enter Tryz.func22,Tryz.ntmps22
 go_wp2_with fail
 have BB:Hid (Below w.heap.size w ((w.alloc (.cells #[.slice a0 m.rooms.length p0,.slice a1 m.guilds.length p1,.slice a2 m.smiths.length p2,.slice a3 m.desks.length p3,.slice a4 m.paces.length p4,.int .i64 m.now] 32)).alloc (.cells #[.slice b0 m.rooms.length q0,.slice b1 m.guilds.length q1,.slice b2 m.smiths.length q2,.slice b3 m.desks.length q3,.slice b4 m.paces.length q4,.int .i64 m.now] 32))):=Z9 (((Below.refl _ _).alloc (Nat.le_refl _) _).alloc (by simp) _)
 have ka:Hid (Blk ((w.alloc (.cells #[.slice a0 m.rooms.length p0,.slice a1 m.guilds.length p1,.slice a2 m.smiths.length p2,.slice a3 m.desks.length p3,.slice a4 m.paces.length p4,.int .i64 m.now] 32)).alloc (.cells #[.slice b0 m.rooms.length q0,.slice b1 m.guilds.length q1,.slice b2 m.smiths.length q2,.slice b3 m.desks.length q3,.slice b4 m.paces.length q4,.int .i64 m.now] 32)) w.heap.size 32 #[.slice a0 m.rooms.length p0,.slice a1 m.guilds.length p1,.slice a2 m.smiths.length p2,.slice a3 m.desks.length p3,.slice a4 m.paces.length p4,.int .i64 m.now]):=Z9 ((Blk.new w _ _).alloc _)
 have kb:Hid (Blk ((w.alloc (.cells #[.slice a0 m.rooms.length p0,.slice a1 m.guilds.length p1,.slice a2 m.smiths.length p2,.slice a3 m.desks.length p3,.slice a4 m.paces.length p4,.int .i64 m.now] 32)).alloc (.cells #[.slice b0 m.rooms.length q0,.slice b1 m.guilds.length q1,.slice b2 m.smiths.length q2,.slice b3 m.desks.length q3,.slice b4 m.paces.length q4,.int .i64 m.now] 32)) (w.heap.size+1) 32 #[.slice b0 m.rooms.length q0,.slice b1 m.guilds.length q1,.slice b2 m.smiths.length q2,.slice b3 m.desks.length q3,.slice b4 m.paces.length q4,.int .i64 m.now]):=Z9 (by
  have k:=Blk.new (w.alloc (.cells #[.slice a0 m.rooms.length p0,.slice a1 m.guilds.length p1,.slice a2 m.smiths.length p2,.slice a3 m.desks.length p3,.slice a4 m.paces.length p4,.int .i64 m.now] 32)) 32 #[.slice b0 m.rooms.length q0,.slice b1 m.guilds.length q1,.slice b2 m.smiths.length q2,.slice b3 m.desks.length q3,.slice b4 m.paces.length q4,.int .i64 m.now]
  rw [World.size_alloc] at k
  exact k)
 generalize (w.alloc (.cells #[.slice a0 m.rooms.length p0,.slice a1 m.guilds.length p1,.slice a2 m.smiths.length p2,.slice a3 m.desks.length p3,.slice a4 m.paces.length p4,.int .i64 m.now] 32)).alloc (.cells #[.slice b0 m.rooms.length q0,.slice b1 m.guilds.length q1,.slice b2 m.smiths.length q2,.slice b3 m.desks.length q3,.slice b4 m.paces.length q4,.int .i64 m.now] 32)=W at *
 refine (Vq ((uh Hv).below (uh BB)).rooms ((uh Hu).below (uh BB)).rooms).mono ?_
 rintro e w1 ⟨rfl,hb⟩
 replace ka:=bl ka hb
 replace kb:=bl kb hb
 replace BB:=bt BB hb
 clear hb
 have c1:=(uh ka).cell (i:=1) (v:= .slice a1 m.guilds.length p1) rfl
 have d1:=(uh kb).cell (i:=1) (v:= .slice b1 m.guilds.length q1) rfl
 go_wp2_with fail
 clear c1 d1
 refine (W5 ((uh Hv).below (uh BB)).guilds ((uh Hu).below (uh BB)).guilds).mono ?_
 rintro e w2 ⟨rfl,hb⟩
 replace ka:=bl ka hb
 replace kb:=bl kb hb
 replace BB:=bt BB hb
 clear hb
 have c2:=(uh ka).cell (i:=2) (v:= .slice a2 m.smiths.length p2) rfl
 have d2:=(uh kb).cell (i:=2) (v:= .slice b2 m.smiths.length q2) rfl
 go_wp2_with fail
 clear c2 d2
 refine (W8 ((uh Hv).below (uh BB)).smiths ((uh Hu).below (uh BB)).smiths).mono ?_
 rintro e w3 ⟨rfl,hb⟩
 replace ka:=bl ka hb
 replace kb:=bl kb hb
 replace BB:=bt BB hb
 clear hb
 have c3:=(uh ka).cell (i:=3) (v:= .slice a3 m.desks.length p3) rfl
 have d3:=(uh kb).cell (i:=3) (v:= .slice b3 m.desks.length q3) rfl
 go_wp2_with fail
 clear c3 d3
 refine (VT ((uh Hv).below (uh BB)).desks ((uh Hu).below (uh BB)).desks).mono ?_
 rintro e w4 ⟨rfl,hb⟩
 replace ka:=bl ka hb
 replace kb:=bl kb hb
 replace BB:=bt BB hb
 clear hb
 have c4:=(uh ka).cell (i:=4) (v:= .slice a4 m.paces.length p4) rfl
 have d4:=(uh kb).cell (i:=4) (v:= .slice b4 m.paces.length q4) rfl
 go_wp2_with fail
 clear c4 d4
 refine (Vs ((uh Hv).below (uh BB)).paces ((uh Hu).below (uh BB)).paces).mono ?_
 rintro e w5 ⟨rfl,hb⟩
 replace ka:=bl ka hb
 replace kb:=bl kb hb
 replace BB:=bt BB hb
 clear hb
 have c5:=(uh ka).cell (i:=5) (v:= .int .i64 m.now) rfl
 have d5:=(uh kb).cell (i:=5) (v:= .int .i64 m.now) rfl
 go_wp2_with fail
 go_ret
 exact ⟨rfl,uh BB⟩
theorem YW (v0 v1 v2 v3 v4:Value) (m:Z4) (who:Int) (w:World) (h:Smy w v0 v1 v2 v3 v4 m) :
  Calls Tryz.prog 4 #[.agg #[v0,v1,v2,v3,v4,.int .i64 m.now],.int .i64 who] w fun e w'=>e= .returned (.bool true)/\Below w.heap.size w w':=by
 obtain ⟨q,hq⟩:∃ q,XF m who=q:=⟨_,rfl⟩
 have Hq:=Z9 hq
 clear hq
 have Hv:=Z9 h
 obtain ⟨a0,p0,a1,p1,a2,p2,a3,p3,a4,p4,rfl,rfl,rfl,rfl,rfl,_,_,_,_,_,_,_,_,_,_⟩:=h.five
 clear h
 go_enter Tryz.func4,Tryz.ntmps4
 go_wp2_with fail
 refine (XM ((uh Hv).alloc _)).mono ?_
 rintro e w1 ⟨x,rfl,hx,hb⟩
 have ka:Hid (Blk w1 w.heap.size 55 #[.slice a0 m.rooms.length p0,.slice a1 m.guilds.length p1,.slice a2 m.smiths.length p2,.slice a3 m.desks.length p3,.slice a4 m.paces.length p4,.int .i64 m.now]):=Z9 ((Blk.new w _ _).below hb (by simp))
 have BB:Hid (Below w.heap.size w w1):=Z9 (((Below.refl _ _).alloc (Nat.le_refl _) _).trans (hb.mono (by simp)))
 have Hx:=Z9 hx
 clear hx hb
 by_cases hx0:x<0
 ·go_wp2_with fail
  go_ret
  exact ⟨rfl,uh BB⟩
 have Hs:=Z9 (uh Hx (by omega))
 clear Hx
 obtain ⟨c0,c1,c2,c3,c4,c5⟩:=(uh ka).c6
 go_wp2_with fail
 refine (Zm ((uh Hv).below (uh BB)) (uh Hs)).mono ?_
 rintro e w2 ⟨u0,u1,u2,u3,u4,rfl,ho,hb⟩
 clear c0 c1 c2 c3 c4 c5
 have k2:=ho.smy
 obtain ⟨b0,q0,b1,q1,b2,q2,b3,q3,b4,q4,rfl,rfl,rfl,rfl,rfl,_,_,_,_,_,_,_,_,_,_⟩:=k2.five
 have K2:=Z9 k2
 clear k2 ho
 replace ka:=bl ka hb
 replace BB:=bt BB hb
 clear hb
 go_wp2_with fail
 refine (TO (uh Hq) (uh K2)).mono ?_
 rintro e w3 ⟨rfl,hb⟩
 replace ka:=bl ka hb
 replace BB:=bt BB hb
 clear hb K2
 obtain ⟨c0,c1,c2,c3,c4,c5⟩:=(uh ka).c6
 go_wp2_with fail
 refine (Zm ((uh Hv).below (uh BB)) (uh Hs)).mono ?_
 rintro e w4 ⟨u0,u1,u2,u3,u4,rfl,ho,hb⟩
 clear c0 c1 c2 c3 c4 c5
 have k4:=ho.smy
 obtain ⟨d0,r0,d1,r1,d2,r2,d3,r3,d4,r4,rfl,rfl,rfl,rfl,rfl,_,_,_,_,_,_,_,_,_,_⟩:=k4.five
 have K4:=Z9 (k4.alloc (.cells #[.slice d0 m.rooms.length r0,.slice d1 m.guilds.length r1,.slice d2 m.smiths.length r2,.slice d3 m.desks.length r3,.slice d4 m.paces.length r4,.int .i64 m.now] 32))
 clear k4 ho
 replace ka:=bl ka hb
 replace BB:=bt BB hb
 clear hb
 go_wp2_with fail
 replace ka:=Z9 ((uh ka).alloc (.cells #[.slice d0 m.rooms.length r0,.slice d1 m.guilds.length r1,.slice d2 m.smiths.length r2,.slice d3 m.desks.length r3,.slice d4 m.paces.length r4,.int .i64 m.now] 32))
 replace BB:=Z9 ((uh BB).alloc (uh BB).size (.cells #[.slice d0 m.rooms.length r0,.slice d1 m.guilds.length r1,.slice d2 m.smiths.length r2,.slice d3 m.desks.length r3,.slice d4 m.paces.length r4,.int .i64 m.now] 32))
 have kx:Hid (Blk (w4.alloc (.cells #[.slice d0 m.rooms.length r0,.slice d1 m.guilds.length r1,.slice d2 m.smiths.length r2,.slice d3 m.desks.length r3,.slice d4 m.paces.length r4,.int .i64 m.now] 32)) w4.heap.size 32 #[.slice d0 m.rooms.length r0,.slice d1 m.guilds.length r1,.slice d2 m.smiths.length r2,.slice d3 m.desks.length r3,.slice d4 m.paces.length r4,.int .i64 m.now]):=Z9 (Blk.new _ _ _)
 generalize w4.alloc (.cells #[.slice d0 m.rooms.length r0,.slice d1 m.guilds.length r1,.slice d2 m.smiths.length r2,.slice d3 m.desks.length r3,.slice d4 m.paces.length r4,.int .i64 m.now] 32)=W at *
 generalize w4.heap.size=xb at *
 refine (Ps (uh Hq) (uh K4)).mono ?_
 rintro e w5 ⟨rfl,hb⟩
 replace K4:=Z9 ((uh K4).below hb)
 replace ka:=bl ka hb
 replace kx:=bl kx hb
 replace BB:=bt BB hb
 clear hb
 have V5:=Z9 ((uh Hv).below (uh BB))
 obtain ⟨c0,c1,c2,c3,c4,c5⟩:=(uh ka).c6
 obtain ⟨x0,x1,x2,x3,x4,x5⟩:=(uh kx).c6
 go_wp2_with fail
 go_region_with (first
  | (go_at_call 21;refine (Zm (m:=m) ?_ (uh Hs)).mono ?_;exact (uh V5).below (Below.refl _ _).drew;rintro e w6 ⟨u0,u1,u2,u3,u4,rfl,ho,hb⟩;have k6:=ho.smy;obtain ⟨f0,t0,rfl,_,_⟩:=IsRooms.shape k6.rooms;obtain ⟨f1,t1,rfl,_,_⟩:=IsRec.shape k6.guilds;obtain ⟨f2,t2,rfl,_,_⟩:=IsRec.shape k6.smiths;obtain ⟨f3,t3,rfl,_,_⟩:=IsRec.shape k6.desks;obtain ⟨f4,t4,rfl,_,_⟩:=IsRec.shape k6.paces;have K6:=Z9 k6;have Hb6:Hid (Below w5.heap.size w5 w6):=Z9 ⟨hb.os,hb.tape,hb.output,hb.size,hb.block⟩;have kx6:=(uh kx).below (uh Hb6) (uh kx).lt;have y0:=kx6.cell (i:=0) (v:= .slice d0 m.rooms.length r0) rfl;have y1:=kx6.cell (i:=1) (v:= .slice d1 m.guilds.length r1) rfl;have y2:=kx6.cell (i:=2) (v:= .slice d2 m.smiths.length r2) rfl;have y3:=kx6.cell (i:=3) (v:= .slice d3 m.desks.length r3) rfl;have y4:=kx6.cell (i:=4) (v:= .slice d4 m.paces.length r4) rfl;have y5:=kx6.cell (i:=5) (v:= .int .i64 m.now) rfl;clear k6 ho hb kx6)
  | (go_at_call 22;refine (Xi (m:=m) ?_ ?_).mono ?_;exact (uh K4).below (uh Hb6);exact uh K6;rintro e w7 ⟨rfl,hb⟩;have Hb7:=Z9 hb;clear hb))
 all_goals
  go_wp2_with fail
  go_ret
  exact ⟨rfl,(uh BB).trans (((uh Hb6).trans ((uh Hb7).mono (uh Hb6).size)).mono (uh BB).size)⟩
open Go.ChangeShapes Go.WideShapes Go.ChangeAt Go.RowKit Go.Deep
theorem YD {w:World} {b off i:Nat} {u u':Value} (h1:w.cell? ((⟨b,off,none⟩:Addr).add (i*2))=some u) (h2:w.cell? ((⟨b,off,none⟩:Addr).add (i*2+1))=some u') :
  w.cell? ⟨b,off+i*2,none⟩=some u/\w.cell? ⟨b,off+i*2+1,none⟩=some u':=by
 by_cases hi:i=0
 ·subst hi
  simp [Addr.add] at h1 h2 ⊢
  exact ⟨h1,h2⟩
 ·have h2i:¬ i*2=0:=by omega
  simp [Addr.add,h2i] at h1 h2 ⊢
  exact ⟨h1,h2⟩
theorem Vw {H:Type} {enc:TypeId × Value->H} {W:World} {spare:Nat->Bool} {held:Bool} {n:Nat} {v:Value} {y:DataW H × List MemPlace}
  (h:DataW.trod enc Tryz.prog W 0 spare held n 156 [v]=some y):∃ ps,IsPaces W v ps:=by
 rcases open_slice_pairs Tryz.underlying156 Tryz.underlying216 (by kernel_rfl) rfl rfl (by kernel_rfl) (by kernel_rfl) h with ⟨hv,_⟩ | ⟨a,len,cap,m,n',V0,V1,D0,D1,P0,P1,hv,_,hl,hm,hmm,_,hx⟩
 ·cases hv
  exact ⟨[],none,0,rfl,Nat.le_refl _,by omega,.inl rfl⟩
 ·cases hv
  have hlm:len<=m:=by rw [hmm];split<;>omega
  obtain ⟨F,hF⟩:=choose_lt (α:=Int × Int) (n:=len) (p:=fun i q=>V0 i= .int .i64 q.1/\V1 i= .int .i64 q.2) (fun i hi=>by
   obtain ⟨_,_,t0,t1⟩:=hx i (by omega)
   obtain ⟨q0,e0,_⟩:=DataW.trod_int Tryz.underlying2 t0
   obtain ⟨q1,e1,_⟩:=DataW.trod_int Tryz.underlying2 t1
   exact ⟨(q0,q1),by simpa using e0,by simpa using e1⟩)
  have hlen:((List.range len).map F).length=len:=by simp
  refine ⟨(List.range len).map F,some a,cap,by rw [hlen],by rw [hlen];exact hl,by unfold maxLen at hm;omega,?_⟩
  by_cases hz:len=0
  ·exact .inl (by simp [hz])
  ·have h0:=hx 0 (by omega)
   have sp:=World.cell?_spot h0.1
   have hlt:=World.block_lt_of_cell? _ _ h0.1
   obtain ⟨b,off,spot⟩:=a
   have hspot:spot=none:=by simpa [Addr.add] using sp
   subst hspot
   refine .inr ⟨b,off,rfl,by simpa [Addr.add] using hlt,fun k hk=> ?_⟩
   rw [hlen] at hk
   obtain ⟨c0,c1,_,_⟩:=hx k (by omega)
   obtain ⟨e0,e1⟩:=hF k hk
   have hat:Z7 ((List.range len).map F) k=F k:=by unfold Z7;simp [List.getD,hk]
   rw [hat,<-e0,<-e1]
   exact YD c0 c1
theorem Vx {H:Type} {enc:TypeId × Value->H} {W:World} {spare:Nat->Bool} {held:Bool} {n:Nat} {v:Value} {y:DataW H × List MemPlace}
  (h:DataW.trod enc Tryz.prog W 0 spare held n 48 [v]=some y):∃ rs,IsRooms W v rs:=by
 rcases open_slice_pairs Tryz.underlying48 Tryz.underlying158 (by kernel_rfl) rfl rfl (by kernel_rfl) (by kernel_rfl) h with ⟨hv,_⟩ | ⟨a,len,cap,m,n',V0,V1,D0,D1,P0,P1,hv,_,hl,hm,hmm,_,hx⟩
 ·cases hv
  exact ⟨[],none,0,rfl,Nat.le_refl _,by omega,.inl rfl⟩
 ·cases hv
  have hlm:len<=m:=by rw [hmm];split<;>omega
  obtain ⟨F,hF⟩:=choose_lt (α:=Z0) (n:=len) (p:=fun i q=>V0 i= .int .i64 q.1/\IsPaces W (V1 i) q.2) (fun i hi=>by
   obtain ⟨_,_,t0,t1⟩:=hx i (by omega)
   obtain ⟨q0,e0,_⟩:=DataW.trod_int Tryz.underlying2 t0
   obtain ⟨ps,e1⟩:=Vw t1
   exact ⟨(q0,ps),by simpa using e0,e1⟩)
  have hlen:((List.range len).map F).length=len:=by simp
  refine ⟨(List.range len).map F,some a,cap,by rw [hlen],by rw [hlen];exact hl,by unfold maxLen at hm;omega,?_⟩
  by_cases hz:len=0
  ·exact .inl (by simp [hz])
  ·have h0:=hx 0 (by omega)
   have sp:=World.cell?_spot h0.1
   have hlt:=World.block_lt_of_cell? _ _ h0.1
   obtain ⟨b,off,spot⟩:=a
   have hspot:spot=none:=by simpa [Addr.add] using sp
   subst hspot
   refine .inr ⟨b,off,rfl,by simpa [Addr.add] using hlt,fun k hk=> ?_⟩
   rw [hlen] at hk
   obtain ⟨c0,c1,_,_⟩:=hx k (by omega)
   obtain ⟨e0,e1⟩:=hF k hk
   have hat:ZS ((List.range len).map F) k=F k:=by unfold ZS;simp [List.getD,hk]
   rw [hat,<-e0]
   exact ⟨(YD c0 c1).1,V1 k,(YD c0 c1).2,e1⟩
theorem W2 {H:Type} {enc:TypeId × Value->H} {W:World} {spare:Nat->Bool} {held:Bool} {n:Nat} {v:Value} {y:DataW H × List MemPlace}
  (h:DataW.trod enc Tryz.prog W 0 spare held n 51 [v]=some y):∃ ps,Yw W v ps:=by
 refine YN (k:=3) (enc:=Xy) Tryz.underlying51 Tryz.underlying123 (by kernel_rfl) rfl (by kernel_rfl) (by omega) ?_ h
 intro cs hl hc
 match cs,hl with
 | [c0,c1,c2],_=>
  obtain ⟨u0,n0,y0,e0,t0⟩:=hc 0 _ rfl
  obtain ⟨u1,n1,y1,e1,t1⟩:=hc 1 _ rfl
  obtain ⟨u2,n2,y2,e2,t2⟩:=hc 2 _ rfl
  obtain ⟨z0,q0,_⟩:=DataW.trod_int Tryz.underlying2 t0
  obtain ⟨z1,q1,_⟩:=DataW.trod_int Tryz.underlying2 t1
  obtain ⟨z2,q2,_⟩:=DataW.trod_int Tryz.underlying2 t2
  cases e0;cases e1;cases e2;cases q0;cases q1;cases q2
  exact ⟨(z0,z1,z2),rfl⟩
theorem W4 {H:Type} {enc:TypeId × Value->H} {W:World} {spare:Nat->Bool} {held:Bool} {n:Nat} {v:Value} {y:DataW H × List MemPlace}
  (h:DataW.trod enc Tryz.prog W 0 spare held n 52 [v]=some y):∃ ps,V2 W v ps:=by
 refine YN (k:=11) (enc:=ZT) Tryz.underlying52 Tryz.underlying125 (by kernel_rfl) rfl (by kernel_rfl) (by omega) ?_ h
 intro cs hl hc
 match cs,hl with
 | [c0,c1,c2,c3,c4,c5,c6,c7,c8,c9,c10],_=>
  obtain ⟨u0,n0,y0,e0,t0⟩:=hc 0 _ rfl
  obtain ⟨u1,n1,y1,e1,t1⟩:=hc 1 _ rfl
  obtain ⟨u2,n2,y2,e2,t2⟩:=hc 2 _ rfl
  obtain ⟨u3,n3,y3,e3,t3⟩:=hc 3 _ rfl
  obtain ⟨u4,n4,y4,e4,t4⟩:=hc 4 _ rfl
  obtain ⟨u5,n5,y5,e5,t5⟩:=hc 5 _ rfl
  obtain ⟨u6,n6,y6,e6,t6⟩:=hc 6 _ rfl
  obtain ⟨u7,n7,y7,e7,t7⟩:=hc 7 _ rfl
  obtain ⟨u8,n8,y8,e8,t8⟩:=hc 8 _ rfl
  obtain ⟨u9,n9,y9,e9,t9⟩:=hc 9 _ rfl
  obtain ⟨u10,n10,y10,e10,t10⟩:=hc 10 _ rfl
  obtain ⟨z0,q0,_⟩:=DataW.trod_int Tryz.underlying2 t0
  obtain ⟨z1,q1,_⟩:=DataW.trod_int Tryz.underlying2 t1
  obtain ⟨z2,q2,_⟩:=DataW.trod_int Tryz.underlying2 t2
  obtain ⟨z3,q3,_⟩:=DataW.trod_int Tryz.underlying2 t3
  obtain ⟨z4,q4,_⟩:=DataW.trod_int Tryz.underlying2 t4
  obtain ⟨z5,q5,_⟩:=DataW.trod_int Tryz.underlying2 t5
  obtain ⟨z6,q6,_⟩:=DataW.trod_int Tryz.underlying2 t6
  obtain ⟨z7,q7,_⟩:=DataW.trod_int Tryz.underlying2 t7
  obtain ⟨z8,q8,_⟩:=DataW.trod_int Tryz.underlying2 t8
  obtain ⟨z9,q9,_⟩:=DataW.trod_int Tryz.underlying2 t9
  obtain ⟨z10,q10,_⟩:=DataW.trod_int Tryz.underlying2 t10
  cases e0;cases e1;cases e2;cases e3;cases e4;cases e5;cases e6;cases e7;cases e8;cases e9;cases e10;cases q0;cases q1;cases q2;cases q3;cases q4;cases q5;cases q6;cases q7;cases q8;cases q9;cases q10
  exact ⟨(z0,z1,z2,z3,z4,z5,z6,z7,z8,z9,z10),rfl⟩
theorem VN {H:Type} {enc:TypeId × Value->H} {W:World} {spare:Nat->Bool} {held:Bool} {n:Nat} {v:Value} {y:DataW H × List MemPlace}
  (h:DataW.trod enc Tryz.prog W 0 spare held n 53 [v]=some y):∃ ps,U8 W v ps:=by
 refine YN (k:=3) (enc:=XE) Tryz.underlying53 Tryz.underlying127 (by kernel_rfl) rfl (by kernel_rfl) (by omega) ?_ h
 intro cs hl hc
 match cs,hl with
 | [c0,c1,c2],_=>
  obtain ⟨u0,n0,y0,e0,t0⟩:=hc 0 _ rfl
  obtain ⟨u1,n1,y1,e1,t1⟩:=hc 1 _ rfl
  obtain ⟨u2,n2,y2,e2,t2⟩:=hc 2 _ rfl
  obtain ⟨z0,q0,_⟩:=DataW.trod_bool Tryz.underlying4 t0
  obtain ⟨z1,q1,_⟩:=DataW.trod_int Tryz.underlying2 t1
  obtain ⟨z2,q2,_⟩:=DataW.trod_int Tryz.underlying2 t2
  cases e0;cases e1;cases e2;cases q0;cases q1;cases q2
  exact ⟨(z0,z1,z2),rfl⟩
theorem Wp {H:Type} {enc:TypeId × Value->H} {W:World} {spare:Nat->Bool} {held:Bool} {r:Reach} {b0:Nat} {v:Value} {d:DataW H} {p:List MemPlace}
  (hv:Value.okWide Tryz.prog W r b0 55 v) (h:DataW.Trod enc Tryz.prog W 0 spare held 55 v d p):∃ v0 v1 v2 v3 v4 m,v= .agg #[v0,v1,v2,v3,v4,.int .i64 m.now]/\Smy W v0 v1 v2 v3 v4 m:=by
 obtain ⟨cs,rfl,hsz⟩:=okWide_struct Tryz.underlying55 hv
 have h1:cs.size=6:=hsz.trans (by kernel_rfl)
 obtain ⟨l⟩:=cs
 match l,h1 with
 | [c0,c1,c2,c3,c4,c5],_=>
  obtain ⟨fuel,hf⟩:=h
  obtain ⟨xs,n,_,_,hl,hxl,hF⟩:=DataW.trod_struct Tryz.underlying55 hf
  have k1:Tryz.prog.cellsOf 50=1:=by kernel_rfl
  have k2:Tryz.prog.cellsOf 51=1:=by kernel_rfl
  have k3:Tryz.prog.cellsOf 52=1:=by kernel_rfl
  have k4:Tryz.prog.cellsOf 53=1:=by kernel_rfl
  have k5:Tryz.prog.cellsOf 30=1:=by kernel_rfl
  have k6:Tryz.prog.cellsOf 2=1:=by kernel_rfl
  match xs,hxl with
  | [y0,y1,y2,y3,y4,y5],_=>
   have g0:=hF 0 _ rfl
   have g1:=hF 1 _ rfl
   have g2:=hF 2 _ rfl
   have g3:=hF 3 _ rfl
   have g4:=hF 4 _ rfl
   have g5:=hF 5 _ rfl
   simp [Value.cells,k1] at g0
   simp [Value.cells,k2] at g1
   simp [Value.cells,k3] at g2
   simp [Value.cells,k4] at g3
   simp [Value.cells,k5] at g4
   simp [Value.cells,k6] at g5
   obtain ⟨z0,n',_,_,h0⟩:=trod_struct1 Tryz.underlying50 g0
   have kr:Tryz.prog.cellsOf 48=1:=by kernel_rfl
   obtain ⟨rs,hr⟩:=Vx (v:=c0) (by simpa [kr] using h0)
   obtain ⟨gs,hg⟩:=W2 g1
   obtain ⟨ss,hs⟩:=W4 g2
   obtain ⟨ds,hd⟩:=VN g3
   obtain ⟨ps,hp⟩:=Vh g4
   obtain ⟨now,e,_⟩:=DataW.trod_int Tryz.underlying2 g5
   cases e
   exact ⟨c0,c1,c2,c3,c4,⟨rs,gs,ss,ds,ps,now⟩,rfl,⟨hr,hg,hs,hd,hp⟩⟩
end Go.Proofs.YthbbahagpmdooaaGreat
