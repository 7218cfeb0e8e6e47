/- Part 5 of what the proof rests on. No condition but those that a theorem names. -/
import Derived.Test.YtjhijildaceadaaGreatDoorXa04
set_option maxHeartbeats 8000000
set_option maxRecDepth 100000
namespace Go.Proofs.YtjhijildaceadaaGreatDoor
open Go.ChangeShapes Go.WideShapes Go.ChangeAt Go.RowKit Go.Sort
set_option linter.unusedVariables false
variable {w w' w0 w1 w2 w3 w₀ wr W W' X A B C : World} {v v0 v1 v2 v3 v4 u u0 u1 u2 u3 u4 : Value} {m : Z4}
theorem EW  {rs:List Z3} (h:IsRooms w v rs) (left:Int) (h0:0<=left) (h1:left<=1048576) :
  Calls Tryz.prog 110 #[.agg #[v],.int .i64 left] w fun e w'=> ∃ x:Int,e= .returned (.int .i64 x)/\x<=1048576/\(0<=x->QB rs)/\Below w.heap.size w w':=by
 have Hv:=Z9 h
 obtain ⟨a,cap,rfl,hc,hm,hr⟩:=h
 clear hr
 go_enter Tryz.func110,Tryz.ntmps110
 go_wp2_with fail
 refine (J6 ((uh Hv).alloc _) left h0 h1).mono ?_
 rintro e w1 ⟨x,rfl,x1,hx,hb⟩
 have Hx:=Z9 hx
 have Hb:=Z9 hb
 clear hx hb
 by_cases hx0:x<0
 ·go_wp2_with fail
  go_ret
  exact ⟨-1,rfl,by omega,fun h=>by omega,((Below.refl _ _).alloc (Nat.le_refl _) _).trans ((uh Hb).mono (by simp))⟩
 ·go_wp2_with fail
  go_ret
  exact ⟨x,rfl,x1,uh Hx,((Below.refl _ _).alloc (Nat.le_refl _) _).trans ((uh Hb).mono (by simp))⟩
theorem Wn  (h:Smy w v0 v1 v2 v3 v4 m) :
  Calls Tryz.prog 49 #[.agg #[v0,v1,v2,v3,v4,.int .i64 m.now],.int .i64 1048576] w fun e w'=> ∃ x:Int,e= .returned (.int .i64 x)/\(0<=x->YT m)/\Below w.heap.size w w':=by
 have Hv:=Z9 h
 obtain ⟨a0,p0,rfl,_,_⟩:=IsRooms.shape h.rooms
 obtain ⟨a1,p1,rfl,hc1,hm1⟩:=IsRec.shape h.guilds
 obtain ⟨a2,p2,rfl,hc2,hm2⟩:=IsRec.shape h.smiths
 obtain ⟨a3,p3,rfl,hc3,hm3⟩:=IsRec.shape h.desks
 obtain ⟨a4,p4,rfl,hc4,hm4⟩:=IsRec.shape h.paces
 clear h
 go_enter Tryz.func49,Tryz.ntmps49
 go_wp2_with fail
 refine (EW ((uh Hv).alloc _).rooms _ (by omega) (by omega)).mono ?_
 rintro e w1 ⟨x,rfl,x1,hx,hb⟩
 have kb:Hid (Blk w1 w.heap.size 61 #[.slice a0 m.rooms.length p0,.slice a1 m.guilds.length p1,.slice a2 m.smiths.length p2,.slice a3 m.desks.length p3,.slice a4 m.paces.length p4,.int .i64 m.now]):=Z9 ((Blk.new w _ _).below hb (by simp))
 have BB:Hid (Below w.heap.size w w1):=Z9 (((Below.refl _ _).alloc (Nat.le_refl _) _).trans (hb.mono (by simp)))
 have Hx:=Z9 hx
 clear hx hb
 have c1:=(uh kb).cell (i:=1) (v:= .slice a1 m.guilds.length p1) rfl
 have c2:=(uh kb).cell (i:=2) (v:= .slice a2 m.smiths.length p2) rfl
 have c3:=(uh kb).cell (i:=3) (v:= .slice a3 m.desks.length p3) rfl
 have c4:=(uh kb).cell (i:=4) (v:= .slice a4 m.paces.length p4) rfl
 by_cases hx0:x<0
 ·go_wp2_with fail
  go_ret
  exact ⟨-1,rfl,fun h=>by omega,uh BB⟩
 go_wp2_with fail
 refine (LC _ _ _ _ (by omega) (by omega) (by omega) _).mono ?_
 by_cases g0:x-(m.guilds.length:Int)<0
 ·rw [TA g0]
  rintro e w' ⟨rfl,h9⟩
  subst w'
  go_wp2_with fail
  go_ret
  exact ⟨-1,rfl,fun h=>by omega,uh BB⟩
 rw [TB g0]
 rintro e w' ⟨rfl,h9⟩
 subst w'
 go_wp2_with fail
 refine (LF _ _ _ _ (by omega) (by omega) (by omega) _).mono ?_
 by_cases g1:x-(m.guilds.length:Int)-(m.smiths.length:Int)<0
 ·rw [TA g1]
  rintro e w' ⟨rfl,h9⟩
  subst w'
  go_wp2_with fail
  go_ret
  exact ⟨-1,rfl,fun h=>by omega,uh BB⟩
 rw [TB g1]
 rintro e w' ⟨rfl,h9⟩
 subst w'
 go_wp2_with fail
 refine (J5 _ _ _ _ (by omega) (by omega) (by omega) _).mono ?_
 by_cases g2:x-(m.guilds.length:Int)-(m.smiths.length:Int)-(m.desks.length:Int)<0
 ·rw [TA g2]
  rintro e w' ⟨rfl,h9⟩
  subst w'
  go_wp2_with fail
  go_ret
  exact ⟨-1,rfl,fun h=>by omega,uh BB⟩
 rw [TB g2]
 rintro e w' ⟨rfl,h9⟩
 subst w'
 go_wp2_with fail
 refine (LD _ _ _ _ (by omega) (by omega) (by omega) _).mono ?_
 by_cases g3:x-(m.guilds.length:Int)-(m.smiths.length:Int)-(m.desks.length:Int)-(m.paces.length:Int)<0
 ·rw [TA g3]
  rintro e w' ⟨rfl,h9⟩
  subst w'
  go_wp2_with fail
  go_ret
  exact ⟨-1,rfl,fun h=>by omega,uh BB⟩
 rw [TB g3]
 rintro e w' ⟨rfl,h9⟩
 subst w'
 go_wp2_with fail
 go_ret
 exact ⟨_,rfl,fun _=>⟨uh Hx (by omega),by omega,by omega,by omega,by omega⟩,uh BB⟩
theorem HJ  {rs:List Z3} (h:IsRooms w v rs) (hs:QB rs) :
  Calls Tryz.prog 115 #[.agg #[v]] w fun e w'=> ∃ v',e= .returned (.agg #[v'])/\RoomsFrom w.heap.size w' v' rs/\Below w.heap.size w w':=by
 have Hv:=Z9 h
 obtain ⟨a,cap,rfl,hc,hm,hr⟩:=h
 clear hr
 have Hb0:Hid (∀ o1 o2 o3:Obj,Below w.heap.size w (((w.alloc o1).alloc o2).alloc o3)):=Z9 (fun o1 o2 o3=>(((Below.refl _ _).alloc (Nat.le_refl _) _).alloc (by simp) _).alloc (by simp;omega) _)
 go_enter Tryz.func115,Tryz.ntmps115
 go_wp2_with fail
 refine (Ke ((uh Hv).below (uh Hb0 _ _ _)) hs).mono ?_
 rintro e w1 ⟨v',rfl,hp,hb1⟩
 simp only [World.size_alloc] at hp
 have hsz:w.heap.size+3<=w1.heap.size:=by have:=hb1.size;simp at this;omega
 obtain ⟨cc,ff⟩:=QM hb1
 have x0:=cc (w.heap.size+2) 0 (by simp)
 have y0:=cc (w.heap.size+1) 0 (by simp)
 have fx0:=ff (w.heap.size+2) 0 (by simp)
 have fy0:=ff (w.heap.size+1) 0 (by simp)
 have Hp:=Z9 hp
 have Hb1:=Z9 hb1
 obtain ⟨a',cap',rfl,_⟩:=hp
 clear cc ff hb1
 go_wp2_with fail
 have B1:Below w.heap.size w w1:=(uh Hb0 _ _ _).trans ((uh Hb1).mono (by simp;omega))
 refine bodyPost_ret (v:= .agg #[.slice a' rs.length cap']) (by simp [results,Tryz.results115,go_sem, *]) rfl ⟨_,rfl,?_,?_⟩
 ·exact (((uh Hp).set _ _ _ (by omega)).set _ _ _ (by omega)).mono (by omega)
 ·exact (B1.setCell (by show _<=w.heap.size+1+1;omega) _).setCell (by show _<=w.heap.size+1;omega) _
theorem Zw  (h:Smy w v0 v1 v2 v3 v4 m) (hs:YT m) :
  Calls Tryz.prog 50 #[.agg #[v0,v1,v2,v3,v4,.int .i64 m.now]] w fun e w'=> ∃ u0 u1 u2 u3 u4,e= .returned (.agg #[u0,u1,u2,u3,u4,.int .i64 m.now])/\OwnSmy w.heap.size w' u0 u1 u2 u3 u4 m/\Below w.heap.size w w':=by
 have Hv:=Z9 h
 have Hs:=Z9 hs
 obtain ⟨a0,p0,rfl,_,_⟩:=IsRooms.shape h.rooms
 obtain ⟨a1,p1,rfl,hc1,hm1⟩:=IsRec.shape h.guilds
 obtain ⟨a2,p2,rfl,hc2,hm2⟩:=IsRec.shape h.smiths
 obtain ⟨a3,p3,rfl,hc3,hm3⟩:=IsRec.shape h.desks
 obtain ⟨a4,p4,rfl,hc4,hm4⟩:=IsRec.shape h.paces
 clear h hs
 go_enter Tryz.func50,Tryz.ntmps50
 go_wp2_with fail
 have BB:Hid (Below w.heap.size w (((w.alloc (.cells #[.slice a0 m.rooms.length p0,.slice a1 m.guilds.length p1,.slice a2 m.smiths.length p2,.slice a3 m.desks.length p3,.slice a4 m.paces.length p4,.int .i64 m.now] 61)).alloc (.cells #[.slice none 0 0,.slice none 0 0,.slice none 0 0,.slice none 0 0,.slice none 0 0,.int .i64 0] 32)).alloc (.cells #[.slice none 0 0,.slice none 0 0,.slice none 0 0,.slice none 0 0,.slice none 0 0,.int .i64 0] 32))):=Z9 ((((Below.refl _ _).alloc (Nat.le_refl _) _).alloc (by simp) _).alloc (by simp;omega) _)
 have ka:Hid (Blk (((w.alloc (.cells #[.slice a0 m.rooms.length p0,.slice a1 m.guilds.length p1,.slice a2 m.smiths.length p2,.slice a3 m.desks.length p3,.slice a4 m.paces.length p4,.int .i64 m.now] 61)).alloc (.cells #[.slice none 0 0,.slice none 0 0,.slice none 0 0,.slice none 0 0,.slice none 0 0,.int .i64 0] 32)).alloc (.cells #[.slice none 0 0,.slice none 0 0,.slice none 0 0,.slice none 0 0,.slice none 0 0,.int .i64 0] 32)) w.heap.size 61 #[.slice a0 m.rooms.length p0,.slice a1 m.guilds.length p1,.slice a2 m.smiths.length p2,.slice a3 m.desks.length p3,.slice a4 m.paces.length p4,.int .i64 m.now]):=Z9 (((Blk.new w _ _).alloc _).alloc _)
 have kr:Hid (Blk (((w.alloc (.cells #[.slice a0 m.rooms.length p0,.slice a1 m.guilds.length p1,.slice a2 m.smiths.length p2,.slice a3 m.desks.length p3,.slice a4 m.paces.length p4,.int .i64 m.now] 61)).alloc (.cells #[.slice none 0 0,.slice none 0 0,.slice none 0 0,.slice none 0 0,.slice none 0 0,.int .i64 0] 32)).alloc (.cells #[.slice none 0 0,.slice none 0 0,.slice none 0 0,.slice none 0 0,.slice none 0 0,.int .i64 0] 32)) (w.heap.size+1) 32 #[.slice none 0 0,.slice none 0 0,.slice none 0 0,.slice none 0 0,.slice none 0 0,.int .i64 0]):=Z9 (by
  have k:=Blk.new (w.alloc (.cells #[.slice a0 m.rooms.length p0,.slice a1 m.guilds.length p1,.slice a2 m.smiths.length p2,.slice a3 m.desks.length p3,.slice a4 m.paces.length p4,.int .i64 m.now] 61)) 32 #[.slice none 0 0,.slice none 0 0,.slice none 0 0,.slice none 0 0,.slice none 0 0,.int .i64 0]
  rw [World.size_alloc] at k
  exact k.alloc _)
 have ko:Hid (Blk (((w.alloc (.cells #[.slice a0 m.rooms.length p0,.slice a1 m.guilds.length p1,.slice a2 m.smiths.length p2,.slice a3 m.desks.length p3,.slice a4 m.paces.length p4,.int .i64 m.now] 61)).alloc (.cells #[.slice none 0 0,.slice none 0 0,.slice none 0 0,.slice none 0 0,.slice none 0 0,.int .i64 0] 32)).alloc (.cells #[.slice none 0 0,.slice none 0 0,.slice none 0 0,.slice none 0 0,.slice none 0 0,.int .i64 0] 32)) (w.heap.size+1+1) 32 #[.slice none 0 0,.slice none 0 0,.slice none 0 0,.slice none 0 0,.slice none 0 0,.int .i64 0]):=Z9 (by
  have k:=Blk.new ((w.alloc (.cells #[.slice a0 m.rooms.length p0,.slice a1 m.guilds.length p1,.slice a2 m.smiths.length p2,.slice a3 m.desks.length p3,.slice a4 m.paces.length p4,.int .i64 m.now] 61)).alloc (.cells #[.slice none 0 0,.slice none 0 0,.slice none 0 0,.slice none 0 0,.slice none 0 0,.int .i64 0] 32)) 32 #[.slice none 0 0,.slice none 0 0,.slice none 0 0,.slice none 0 0,.slice none 0 0,.int .i64 0]
  rw [World.size_alloc,World.size_alloc] at k
  exact k)
 generalize ((w.alloc (.cells #[.slice a0 m.rooms.length p0,.slice a1 m.guilds.length p1,.slice a2 m.smiths.length p2,.slice a3 m.desks.length p3,.slice a4 m.paces.length p4,.int .i64 m.now] 61)).alloc (.cells #[.slice none 0 0,.slice none 0 0,.slice none 0 0,.slice none 0 0,.slice none 0 0,.int .i64 0] 32)).alloc (.cells #[.slice none 0 0,.slice none 0 0,.slice none 0 0,.slice none 0 0,.slice none 0 0,.int .i64 0] 32)=W at *
 have hW:w.heap.size+3<=W.heap.size:=by have:=(uh ko).lt;omega
 refine (HJ ((uh Hv).below (uh BB)).rooms (uh Hs).rooms).mono ?_
 rintro e w1 ⟨u0,rfl,hp,hb⟩
 have n0:Hid (RoomsFrom (w.heap.size+3) w1 u0 m.rooms):=Z9 (hp.mono hW)
 replace ka:=bl ka hb
 replace kr:=bl kr hb
 replace ko:=bl ko hb
 replace BB:=bt BB hb
 have hW2:w.heap.size+3<=w1.heap.size:=by have:=hb.size;omega
 obtain ⟨b0,q0,rfl,_⟩:=hp
 clear hb
 have o0:=(uh ko).cell (i:=0) (v:= .slice none 0 0) rfl
 have f0:=(uh ko).free 0
 have c1:=(uh ka).cell (i:=1) (v:= .slice a1 m.guilds.length p1) rfl
 go_wp2_with fail
 replace ka:Hid (Blk (w1.setCell ⟨w.heap.size+1+1,0,none⟩ (.slice b0 m.rooms.length q0)) w.heap.size 61 #[.slice a0 m.rooms.length p0,.slice a1 m.guilds.length p1,.slice a2 m.smiths.length p2,.slice a3 m.desks.length p3,.slice a4 m.paces.length p4,.int .i64 m.now]):=Z9 ((uh ka).other (a:=⟨w.heap.size+1+1,0,none⟩) (by show w.heap.size ≠ w.heap.size+1+1;omega) _)
 replace kr:Hid (Blk (w1.setCell ⟨w.heap.size+1+1,0,none⟩ (.slice b0 m.rooms.length q0)) (w.heap.size+1) 32 #[.slice none 0 0,.slice none 0 0,.slice none 0 0,.slice none 0 0,.slice none 0 0,.int .i64 0]):=Z9 ((uh kr).other (a:=⟨w.heap.size+1+1,0,none⟩) (by show w.heap.size+1 ≠ w.heap.size+1+1;omega) _)
 replace ko:Hid (Blk (w1.setCell ⟨w.heap.size+1+1,0,none⟩ (.slice b0 m.rooms.length q0)) (w.heap.size+1+1) 32 #[.slice b0 m.rooms.length q0,.slice none 0 0,.slice none 0 0,.slice none 0 0,.slice none 0 0,.int .i64 0]):=Z9 ((uh ko).set 0 _)
 replace n0:=Z9 ((uh n0).set (w.heap.size+1+1) 0 (.slice b0 m.rooms.length q0) (by omega))
 replace BB:Hid (Below w.heap.size w (w1.setCell ⟨w.heap.size+1+1,0,none⟩ (.slice b0 m.rooms.length q0))):=Z9 ((uh BB).setCell (p:=⟨w.heap.size+1+1,0,none⟩) (by show w.heap.size<=w.heap.size+1+1;omega) _)
 have hW3:w.heap.size+3<=(w1.setCell ⟨w.heap.size+1+1,0,none⟩ (.slice b0 m.rooms.length q0)).heap.size:=by have:=(uh ko).lt;omega
 clear o0 f0 c1 hW hW2
 generalize (w1.setCell ⟨w.heap.size+1+1,0,none⟩ (.slice b0 m.rooms.length q0))=W at *
 have hW:=hW3
 clear hW3
 refine (Rk ((uh Hv).below (uh BB)).guilds (uh Hs).guilds).mono ?_
 rintro e w2 ⟨u1,rfl,hp,hb⟩
 have n1:Hid (GuildsAt (w.heap.size+3) w2 u1 m.guilds):=Z9 (RecAt.mono hp hW)
 replace n0:=Z9 ((uh n0).below hb)
 replace ka:=bl ka hb
 replace kr:=bl kr hb
 replace ko:=bl ko hb
 replace BB:=bt BB hb
 have hW2:w.heap.size+3<=w2.heap.size:=by have:=hb.size;omega
 obtain ⟨b1,q1,rfl⟩:=RecAt.shape hp
 clear hp hb
 have o1:=(uh ko).cell (i:=1) (v:= .slice none 0 0) rfl
 have f1:=(uh ko).free 1
 have c2:=(uh ka).cell (i:=2) (v:= .slice a2 m.smiths.length p2) rfl
 go_wp2_with fail
 replace ka:Hid (Blk (w2.setCell ⟨w.heap.size+1+1,1,none⟩ (.slice b1 m.guilds.length q1)) w.heap.size 61 #[.slice a0 m.rooms.length p0,.slice a1 m.guilds.length p1,.slice a2 m.smiths.length p2,.slice a3 m.desks.length p3,.slice a4 m.paces.length p4,.int .i64 m.now]):=Z9 ((uh ka).other (a:=⟨w.heap.size+1+1,1,none⟩) (by show w.heap.size ≠ w.heap.size+1+1;omega) _)
 replace kr:Hid (Blk (w2.setCell ⟨w.heap.size+1+1,1,none⟩ (.slice b1 m.guilds.length q1)) (w.heap.size+1) 32 #[.slice none 0 0,.slice none 0 0,.slice none 0 0,.slice none 0 0,.slice none 0 0,.int .i64 0]):=Z9 ((uh kr).other (a:=⟨w.heap.size+1+1,1,none⟩) (by show w.heap.size+1 ≠ w.heap.size+1+1;omega) _)
 replace ko:Hid (Blk (w2.setCell ⟨w.heap.size+1+1,1,none⟩ (.slice b1 m.guilds.length q1)) (w.heap.size+1+1) 32 #[.slice b0 m.rooms.length q0,.slice b1 m.guilds.length q1,.slice none 0 0,.slice none 0 0,.slice none 0 0,.int .i64 0]):=Z9 ((uh ko).set 1 _)
 replace n0:=Z9 ((uh n0).set (w.heap.size+1+1) 1 (.slice b1 m.guilds.length q1) (by omega))
 replace n1:=Z9 (RecAt.set_old (uh n1) (w.heap.size+1+1) 1 (.slice b1 m.guilds.length q1) (by omega))
 replace BB:Hid (Below w.heap.size w (w2.setCell ⟨w.heap.size+1+1,1,none⟩ (.slice b1 m.guilds.length q1))):=Z9 ((uh BB).setCell (p:=⟨w.heap.size+1+1,1,none⟩) (by show w.heap.size<=w.heap.size+1+1;omega) _)
 have hW3:w.heap.size+3<=(w2.setCell ⟨w.heap.size+1+1,1,none⟩ (.slice b1 m.guilds.length q1)).heap.size:=by have:=(uh ko).lt;omega
 clear o1 f1 c2 hW hW2
 generalize (w2.setCell ⟨w.heap.size+1+1,1,none⟩ (.slice b1 m.guilds.length q1))=W at *
 have hW:=hW3
 clear hW3
 refine (Rm ((uh Hv).below (uh BB)).smiths (uh Hs).smiths).mono ?_
 rintro e w3 ⟨u2,rfl,hp,hb⟩
 have n2:Hid (SmithsAt (w.heap.size+3) w3 u2 m.smiths):=Z9 (RecAt.mono hp hW)
 replace n0:=Z9 ((uh n0).below hb)
 replace n1:=Z9 (RecAt.later (uh n1) hb)
 replace ka:=bl ka hb
 replace kr:=bl kr hb
 replace ko:=bl ko hb
 replace BB:=bt BB hb
 have hW2:w.heap.size+3<=w3.heap.size:=by have:=hb.size;omega
 obtain ⟨b2,q2,rfl⟩:=RecAt.shape hp
 clear hp hb
 have o2:=(uh ko).cell (i:=2) (v:= .slice none 0 0) rfl
 have f2:=(uh ko).free 2
 have c3:=(uh ka).cell (i:=3) (v:= .slice a3 m.desks.length p3) rfl
 go_wp2_with fail
 replace ka:Hid (Blk (w3.setCell ⟨w.heap.size+1+1,2,none⟩ (.slice b2 m.smiths.length q2)) w.heap.size 61 #[.slice a0 m.rooms.length p0,.slice a1 m.guilds.length p1,.slice a2 m.smiths.length p2,.slice a3 m.desks.length p3,.slice a4 m.paces.length p4,.int .i64 m.now]):=Z9 ((uh ka).other (a:=⟨w.heap.size+1+1,2,none⟩) (by show w.heap.size ≠ w.heap.size+1+1;omega) _)
 replace kr:Hid (Blk (w3.setCell ⟨w.heap.size+1+1,2,none⟩ (.slice b2 m.smiths.length q2)) (w.heap.size+1) 32 #[.slice none 0 0,.slice none 0 0,.slice none 0 0,.slice none 0 0,.slice none 0 0,.int .i64 0]):=Z9 ((uh kr).other (a:=⟨w.heap.size+1+1,2,none⟩) (by show w.heap.size+1 ≠ w.heap.size+1+1;omega) _)
 replace ko:Hid (Blk (w3.setCell ⟨w.heap.size+1+1,2,none⟩ (.slice b2 m.smiths.length q2)) (w.heap.size+1+1) 32 #[.slice b0 m.rooms.length q0,.slice b1 m.guilds.length q1,.slice b2 m.smiths.length q2,.slice none 0 0,.slice none 0 0,.int .i64 0]):=Z9 ((uh ko).set 2 _)
 replace n0:=Z9 ((uh n0).set (w.heap.size+1+1) 2 (.slice b2 m.smiths.length q2) (by omega))
 replace n1:=Z9 (RecAt.set_old (uh n1) (w.heap.size+1+1) 2 (.slice b2 m.smiths.length q2) (by omega))
 replace n2:=Z9 (RecAt.set_old (uh n2) (w.heap.size+1+1) 2 (.slice b2 m.smiths.length q2) (by omega))
 replace BB:Hid (Below w.heap.size w (w3.setCell ⟨w.heap.size+1+1,2,none⟩ (.slice b2 m.smiths.length q2))):=Z9 ((uh BB).setCell (p:=⟨w.heap.size+1+1,2,none⟩) (by show w.heap.size<=w.heap.size+1+1;omega) _)
 have hW3:w.heap.size+3<=(w3.setCell ⟨w.heap.size+1+1,2,none⟩ (.slice b2 m.smiths.length q2)).heap.size:=by have:=(uh ko).lt;omega
 clear o2 f2 c3 hW hW2
 generalize (w3.setCell ⟨w.heap.size+1+1,2,none⟩ (.slice b2 m.smiths.length q2))=W at *
 have hW:=hW3
 clear hW3
 refine (PM ((uh Hv).below (uh BB)).desks (uh Hs).desks).mono ?_
 rintro e w4 ⟨u3,rfl,hp,hb⟩
 have n3:Hid (DesksAt (w.heap.size+3) w4 u3 m.desks):=Z9 (RecAt.mono hp hW)
 replace n0:=Z9 ((uh n0).below hb)
 replace n1:=Z9 (RecAt.later (uh n1) hb)
 replace n2:=Z9 (RecAt.later (uh n2) hb)
 replace ka:=bl ka hb
 replace kr:=bl kr hb
 replace ko:=bl ko hb
 replace BB:=bt BB hb
 have hW2:w.heap.size+3<=w4.heap.size:=by have:=hb.size;omega
 obtain ⟨b3,q3,rfl⟩:=RecAt.shape hp
 clear hp hb
 have o3:=(uh ko).cell (i:=3) (v:= .slice none 0 0) rfl
 have f3:=(uh ko).free 3
 have c4:=(uh ka).cell (i:=4) (v:= .slice a4 m.paces.length p4) rfl
 go_wp2_with fail
 replace ka:Hid (Blk (w4.setCell ⟨w.heap.size+1+1,3,none⟩ (.slice b3 m.desks.length q3)) w.heap.size 61 #[.slice a0 m.rooms.length p0,.slice a1 m.guilds.length p1,.slice a2 m.smiths.length p2,.slice a3 m.desks.length p3,.slice a4 m.paces.length p4,.int .i64 m.now]):=Z9 ((uh ka).other (a:=⟨w.heap.size+1+1,3,none⟩) (by show w.heap.size ≠ w.heap.size+1+1;omega) _)
 replace kr:Hid (Blk (w4.setCell ⟨w.heap.size+1+1,3,none⟩ (.slice b3 m.desks.length q3)) (w.heap.size+1) 32 #[.slice none 0 0,.slice none 0 0,.slice none 0 0,.slice none 0 0,.slice none 0 0,.int .i64 0]):=Z9 ((uh kr).other (a:=⟨w.heap.size+1+1,3,none⟩) (by show w.heap.size+1 ≠ w.heap.size+1+1;omega) _)
 replace ko:Hid (Blk (w4.setCell ⟨w.heap.size+1+1,3,none⟩ (.slice b3 m.desks.length q3)) (w.heap.size+1+1) 32 #[.slice b0 m.rooms.length q0,.slice b1 m.guilds.length q1,.slice b2 m.smiths.length q2,.slice b3 m.desks.length q3,.slice none 0 0,.int .i64 0]):=Z9 ((uh ko).set 3 _)
 replace n0:=Z9 ((uh n0).set (w.heap.size+1+1) 3 (.slice b3 m.desks.length q3) (by omega))
 replace n1:=Z9 (RecAt.set_old (uh n1) (w.heap.size+1+1) 3 (.slice b3 m.desks.length q3) (by omega))
 replace n2:=Z9 (RecAt.set_old (uh n2) (w.heap.size+1+1) 3 (.slice b3 m.desks.length q3) (by omega))
 replace n3:=Z9 (RecAt.set_old (uh n3) (w.heap.size+1+1) 3 (.slice b3 m.desks.length q3) (by omega))
 replace BB:Hid (Below w.heap.size w (w4.setCell ⟨w.heap.size+1+1,3,none⟩ (.slice b3 m.desks.length q3))):=Z9 ((uh BB).setCell (p:=⟨w.heap.size+1+1,3,none⟩) (by show w.heap.size<=w.heap.size+1+1;omega) _)
 have hW3:w.heap.size+3<=(w4.setCell ⟨w.heap.size+1+1,3,none⟩ (.slice b3 m.desks.length q3)).heap.size:=by have:=(uh ko).lt;omega
 clear o3 f3 c4 hW hW2
 generalize (w4.setCell ⟨w.heap.size+1+1,3,none⟩ (.slice b3 m.desks.length q3))=W at *
 have hW:=hW3
 clear hW3
 refine (Rl ((uh Hv).below (uh BB)).paces (uh Hs).paces).mono ?_
 rintro e w5 ⟨u4,rfl,hp,hb⟩
 have n4:Hid (NumsAt (w.heap.size+3) w5 u4 m.paces):=Z9 (RecAt.mono hp hW)
 replace n0:=Z9 ((uh n0).below hb)
 replace n1:=Z9 (RecAt.later (uh n1) hb)
 replace n2:=Z9 (RecAt.later (uh n2) hb)
 replace n3:=Z9 (RecAt.later (uh n3) hb)
 replace ka:=bl ka hb
 replace kr:=bl kr hb
 replace ko:=bl ko hb
 replace BB:=bt BB hb
 have hW2:w.heap.size+3<=w5.heap.size:=by have:=hb.size;omega
 obtain ⟨b4,q4,rfl⟩:=RecAt.shape hp
 clear hp hb
 have o4:=(uh ko).cell (i:=4) (v:= .slice none 0 0) rfl
 have f4:=(uh ko).free 4
 have o0:=(uh ko).cell (i:=0) (v:= .slice b0 m.rooms.length q0) rfl
 have r0:=(uh kr).cell (i:=0) (v:= .slice none 0 0) rfl
 have rf0:=(uh kr).free 0
 have o1:=(uh ko).cell (i:=1) (v:= .slice b1 m.guilds.length q1) rfl
 have r1:=(uh kr).cell (i:=1) (v:= .slice none 0 0) rfl
 have rf1:=(uh kr).free 1
 have o2:=(uh ko).cell (i:=2) (v:= .slice b2 m.smiths.length q2) rfl
 have r2:=(uh kr).cell (i:=2) (v:= .slice none 0 0) rfl
 have rf2:=(uh kr).free 2
 have o3:=(uh ko).cell (i:=3) (v:= .slice b3 m.desks.length q3) rfl
 have r3:=(uh kr).cell (i:=3) (v:= .slice none 0 0) rfl
 have rf3:=(uh kr).free 3
 have r4:=(uh kr).cell (i:=4) (v:= .slice none 0 0) rfl
 have rf4:=(uh kr).free 4
 have o5:=(uh ko).cell (i:=5) (v:= .int .i64 0) rfl
 have r5:=(uh kr).cell (i:=5) (v:= .int .i64 0) rfl
 have rf5:=(uh kr).free 5
 have f5:=(uh ko).free 5
 have c5:=(uh ka).cell (i:=5) (v:= .int .i64 m.now) rfl
 go_wp2_with fail
 refine bodyPost_ret (v:= .agg #[.slice b0 m.rooms.length q0,.slice b1 m.guilds.length q1,.slice b2 m.smiths.length q2,.slice b3 m.desks.length q3,.slice b4 m.paces.length q4,.int .i64 m.now]) (by simp [results,Tryz.results50,go_sem,r0,r1,r2,r3,r4,r5]) rfl ⟨_,_,_,_,_,rfl,?_,?_⟩
 ·refine OwnSmy.mono ?_ (show w.heap.size<=w.heap.size+3 by omega)
  iterate 8 (refine OwnSmy.set ?_ _ _ _ (by omega))
  exact ⟨uh n0,uh n1,uh n2,uh n3,uh n4⟩
 ·iterate 8 (refine Below.setCell ?_ (by first | (show _<=w.heap.size+1+1;omega) | (show _<=w.heap.size+1;omega)) _)
  exact uh BB
theorem ZK  (h:Smy w v0 v1 v2 v3 v4 m) (k:Smy w u0 u1 u2 u3 u4 m) :
  Calls Tryz.prog 51 #[.agg #[v0,v1,v2,v3,v4,.int .i64 m.now],.agg #[u0,u1,u2,u3,u4,.int .i64 m.now]] w fun e w'=>e= .returned (.bool true)/\Below w.heap.size w w':=by
 have Hv:=Z9 h
 have Hu:=Z9 k
 obtain ⟨a0,p0,rfl,_,_⟩:=IsRooms.shape h.rooms
 obtain ⟨a1,p1,rfl,hc1,hm1⟩:=IsRec.shape h.guilds
 obtain ⟨a2,p2,rfl,hc2,hm2⟩:=IsRec.shape h.smiths
 obtain ⟨a3,p3,rfl,hc3,hm3⟩:=IsRec.shape h.desks
 obtain ⟨a4,p4,rfl,hc4,hm4⟩:=IsRec.shape h.paces
 obtain ⟨b0,q0,b1,q1,b2,q2,b3,q3,b4,q4,rfl,rfl,rfl,rfl,rfl,_,_,_,_,_,_,_,_,_,_⟩:=k.five
 clear h k
 go_enter Tryz.func51,Tryz.ntmps51
 go_wp2_with fail
 have BB:Hid (Below w.heap.size w ((w.alloc (.cells #[.slice a0 m.rooms.length p0,.slice a1 m.guilds.length p1,.slice a2 m.smiths.length p2,.slice a3 m.desks.length p3,.slice a4 m.paces.length p4,.int .i64 m.now] 32)).alloc (.cells #[.slice b0 m.rooms.length q0,.slice b1 m.guilds.length q1,.slice b2 m.smiths.length q2,.slice b3 m.desks.length q3,.slice b4 m.paces.length q4,.int .i64 m.now] 32))):=Z9 (((Below.refl _ _).alloc (Nat.le_refl _) _).alloc (by simp) _)
 have ka:Hid (Blk ((w.alloc (.cells #[.slice a0 m.rooms.length p0,.slice a1 m.guilds.length p1,.slice a2 m.smiths.length p2,.slice a3 m.desks.length p3,.slice a4 m.paces.length p4,.int .i64 m.now] 32)).alloc (.cells #[.slice b0 m.rooms.length q0,.slice b1 m.guilds.length q1,.slice b2 m.smiths.length q2,.slice b3 m.desks.length q3,.slice b4 m.paces.length q4,.int .i64 m.now] 32)) w.heap.size 32 #[.slice a0 m.rooms.length p0,.slice a1 m.guilds.length p1,.slice a2 m.smiths.length p2,.slice a3 m.desks.length p3,.slice a4 m.paces.length p4,.int .i64 m.now]):=Z9 ((Blk.new w _ _).alloc _)
 have kb:Hid (Blk ((w.alloc (.cells #[.slice a0 m.rooms.length p0,.slice a1 m.guilds.length p1,.slice a2 m.smiths.length p2,.slice a3 m.desks.length p3,.slice a4 m.paces.length p4,.int .i64 m.now] 32)).alloc (.cells #[.slice b0 m.rooms.length q0,.slice b1 m.guilds.length q1,.slice b2 m.smiths.length q2,.slice b3 m.desks.length q3,.slice b4 m.paces.length q4,.int .i64 m.now] 32)) (w.heap.size+1) 32 #[.slice b0 m.rooms.length q0,.slice b1 m.guilds.length q1,.slice b2 m.smiths.length q2,.slice b3 m.desks.length q3,.slice b4 m.paces.length q4,.int .i64 m.now]):=Z9 (by
  have k:=Blk.new (w.alloc (.cells #[.slice a0 m.rooms.length p0,.slice a1 m.guilds.length p1,.slice a2 m.smiths.length p2,.slice a3 m.desks.length p3,.slice a4 m.paces.length p4,.int .i64 m.now] 32)) 32 #[.slice b0 m.rooms.length q0,.slice b1 m.guilds.length q1,.slice b2 m.smiths.length q2,.slice b3 m.desks.length q3,.slice b4 m.paces.length q4,.int .i64 m.now]
  rw [World.size_alloc] at k
  exact k)
 generalize (w.alloc (.cells #[.slice a0 m.rooms.length p0,.slice a1 m.guilds.length p1,.slice a2 m.smiths.length p2,.slice a3 m.desks.length p3,.slice a4 m.paces.length p4,.int .i64 m.now] 32)).alloc (.cells #[.slice b0 m.rooms.length q0,.slice b1 m.guilds.length q1,.slice b2 m.smiths.length q2,.slice b3 m.desks.length q3,.slice b4 m.paces.length q4,.int .i64 m.now] 32)=W at *
 refine (Ga ((uh Hv).below (uh BB)).rooms ((uh Hu).below (uh BB)).rooms).mono ?_
 rintro e w1 ⟨rfl,hb⟩
 replace ka:=bl ka hb
 replace kb:=bl kb hb
 replace BB:=bt BB hb
 clear hb
 have c1:=(uh ka).cell (i:=1) (v:= .slice a1 m.guilds.length p1) rfl
 have d1:=(uh kb).cell (i:=1) (v:= .slice b1 m.guilds.length q1) rfl
 go_wp2_with fail
 clear c1 d1
 refine (KU ((uh Hv).below (uh BB)).guilds ((uh Hu).below (uh BB)).guilds).mono ?_
 rintro e w2 ⟨rfl,hb⟩
 replace ka:=bl ka hb
 replace kb:=bl kb hb
 replace BB:=bt BB hb
 clear hb
 have c2:=(uh ka).cell (i:=2) (v:= .slice a2 m.smiths.length p2) rfl
 have d2:=(uh kb).cell (i:=2) (v:= .slice b2 m.smiths.length q2) rfl
 go_wp2_with fail
 clear c2 d2
 refine (KV ((uh Hv).below (uh BB)).smiths ((uh Hu).below (uh BB)).smiths).mono ?_
 rintro e w3 ⟨rfl,hb⟩
 replace ka:=bl ka hb
 replace kb:=bl kb hb
 replace BB:=bt BB hb
 clear hb
 have c3:=(uh ka).cell (i:=3) (v:= .slice a3 m.desks.length p3) rfl
 have d3:=(uh kb).cell (i:=3) (v:= .slice b3 m.desks.length q3) rfl
 go_wp2_with fail
 clear c3 d3
 refine (IS ((uh Hv).below (uh BB)).desks ((uh Hu).below (uh BB)).desks).mono ?_
 rintro e w4 ⟨rfl,hb⟩
 replace ka:=bl ka hb
 replace kb:=bl kb hb
 replace BB:=bt BB hb
 clear hb
 have c4:=(uh ka).cell (i:=4) (v:= .slice a4 m.paces.length p4) rfl
 have d4:=(uh kb).cell (i:=4) (v:= .slice b4 m.paces.length q4) rfl
 go_wp2_with fail
 clear c4 d4
 refine (Gb ((uh Hv).below (uh BB)).paces ((uh Hu).below (uh BB)).paces).mono ?_
 rintro e w5 ⟨rfl,hb⟩
 replace ka:=bl ka hb
 replace kb:=bl kb hb
 replace BB:=bt BB hb
 clear hb
 have c5:=(uh ka).cell (i:=5) (v:= .int .i64 m.now) rfl
 have d5:=(uh kb).cell (i:=5) (v:= .int .i64 m.now) rfl
 go_wp2_with fail
 go_ret
 exact ⟨rfl,uh BB⟩
def PacesAt (n₀:Nat) (w:World) (v:Value) (ps:List Z6):Prop:=w.ownsRow n₀ 139 2 v ps.length (Zs ps)
theorem PacesAt.lt {n₀:Nat}  {ps:List Z6} (h:PacesAt n₀ w v ps) {k:Nat} (hk:v.ownBlock=some k):n₀<=k/\k<w.heap.size:=World.ownsRow.lt h k hk
theorem PacesAt.paces {n₀:Nat}  {ps:List Z6} (h:PacesAt n₀ w v ps):IsPaces w v ps:=by
 have h':=h
 rcases h.2 with ⟨rfl,hz⟩ | ⟨g,cap,cur,rfl,hb,hg,hnc,hcm,r⟩
 ·exact ⟨none,0,by rw [hz],by omega,by omega,.inl (List.eq_nil_of_length_eq_zero hz)⟩
 ·refine ⟨_,cap,rfl,hnc,by unfold maxLen at hcm;omega,.inr ⟨g,0,rfl,(Array.getElem?_eq_some_iff.1 hg).1,fun k hk=> ?_⟩⟩
  have hp:=Wy (f:=fun p:Z6=>Value.int .i64 p.1) (g:=fun p:Z6=>Value.int .i64 p.2) ps k hk
  have hat:Z7 ps k=ps[k]:=by unfold Z7;simp [List.getD,hk]
  rw [Nat.zero_add,hat]
  exact ⟨(World.ownsRow.cellAt h' (k*2) (by omega)).trans hp.1,(World.ownsRow.cellAt h' (k*2+1) (by omega)).trans hp.2⟩
structure OwnHall (n₀:Nat) (w:World) (v:Value) (qs:List (Z3 × Value)):Prop where
 row:w.ownsRow n₀ 137 2 v qs.length (WR qs)
 paces:∀ q ∈ qs,PacesAt n₀ w q.2 q.1.2
 off:∀ q ∈ qs,∀ b,q.2.ownBlock=some b->v.ownBlock ≠ some b
 apart:(qs.map (·.2)).Pairwise fun x y=> ∀ b,x.ownBlock=some b->y.ownBlock ≠ some b
theorem OwnHall.nil (n₀:Nat) (w:World):OwnHall n₀ w (.slice none 0 0) []:=
 ⟨World.ownsRow_nil w n₀ _ _,fun _ h=>(by cases h),fun _ h=>(by cases h),List.Pairwise.nil⟩
theorem OwnHall.lt {n₀:Nat}  {qs:List (Z3 × Value)} (h:OwnHall n₀ w v qs) {k:Nat} (hk:v.ownBlock=some k\/ ∃ q ∈ qs,q.2.ownBlock=some k):n₀<=k/\k<w.heap.size:=by
 rcases hk with hk | ⟨q,hq,hk⟩
 ·exact World.ownsRow.lt h.row k hk
 ·exact (h.paces q hq).lt hk
theorem OwnHall.same {n₀:Nat}  {qs:List (Z3 × Value)} (h:OwnHall n₀ w v qs) (hs:∀ k,n₀<=k->k<w.heap.size->w'.heap[k]?=w.heap[k]?):OwnHall n₀ w' v qs:=
 ⟨YM h.row (fun k e=>hs k (h.lt (.inl e)).1 (h.lt (.inl e)).2),fun q hq=>YM (h.paces q hq) (fun k e=>hs k (h.lt (.inr ⟨q,hq,e⟩)).1 (h.lt (.inr ⟨q,hq,e⟩)).2),h.off,h.apart⟩
theorem OwnHall.later {n₀:Nat}  {qs:List (Z3 × Value)} (h:OwnHall n₀ w v qs) (hb:Below w.heap.size w w'):OwnHall n₀ w' v qs:=h.same (fun k _ hk=>hb.block k hk)
theorem OwnHall.mono {n₀ n₁:Nat}  {qs:List (Z3 × Value)} (h:OwnHall n₀ w v qs) (hn:n₁<=n₀):OwnHall n₁ w v qs:=
 ⟨S0 h.row hn,fun q hq=>S0 (h.paces q hq) hn,h.off,h.apart⟩
theorem OwnHall.rooms {n₀:Nat}  {qs:List (Z3 × Value)} (h:OwnHall n₀ w v qs):IsRooms w v (qs.map (·.1)):=by
 have h':=h.row
 have hlen:(qs.map (·.1)).length=qs.length:=by simp
 rcases h.row.2 with ⟨rfl,hz⟩ | ⟨g,cap,cur,rfl,hb,hg,hnc,hcm,r⟩
 ·exact ⟨none,0,by rw [hlen,hz],by omega,by omega,.inl (by rw [List.eq_nil_of_length_eq_zero hz];rfl)⟩
 ·refine ⟨_,cap,by rw [hlen],by rw [hlen];exact hnc,by unfold maxLen at hcm;omega,.inr ⟨g,0,rfl,(Array.getElem?_eq_some_iff.1 hg).1,fun k hk=> ?_⟩⟩
  rw [hlen] at hk
  have hp:=Wy (f:=fun q:Z3 × Value=>Value.int .i64 q.1.1) (g:=fun q:Z3 × Value=>q.2) qs k hk
  have hat:ZY (qs.map (·.1)) k=qs[k].1:=by unfold ZY;simp [List.getD,hk]
  rw [Nat.zero_add,hat]
  exact ⟨(World.ownsRow.cellAt h' (k*2) (by omega)).trans hp.1,qs[k].2,(World.ownsRow.cellAt h' (k*2+1) (by omega)).trans hp.2,(h.paces _ (List.getElem_mem hk)).paces⟩
theorem OwnHall.push {n₀:Nat} {v v' pv:Value} {qs:List (Z3 × Value)} {rb:Int} {ps:List Z6} {o:Obj} (h:OwnHall n₀ w v qs) (hp:PacesAt n₀ w pv ps)
  (hoff:∀ b,pv.ownBlock=some b->v.ownBlock ≠ some b) (hap:∀ q ∈ qs,∀ b,q.2.ownBlock=some b->pv.ownBlock ≠ some b)
  (hown:w1.ownsRow n₀ 137 2 v' (qs.length+1) (WR qs++[.int .i64 rb,pv])) (hg:(w.alloc o).grownBy w1 v.ownBlock) (hat:v'.ownBlock=v.ownBlock\/v'.ownBlock=some (w.alloc o).heap.size) :
  OwnHall n₀ w1 v' (qs++[((rb,ps),pv)]):=by
 have hk:∀ k,k<w.heap.size->v.ownBlock ≠ some k->w1.heap[k]?=w.heap[k]?:=fun k hk hn=>(hg.block k (by simp;omega) (fun e=>hn e.symm)).trans (Below.heap_alloc w o k hk)
 have hv':∀ k,k<w.heap.size->v'.ownBlock=some k->v.ownBlock=some k:=fun k hk e=>by
  rcases hat with e' | e'
  ·rw [<-e'];exact e
  ·rw [e'] at e;simp at e;omega
 refine ⟨?_,fun q hq=> ?_,fun q hq b e=> ?_,?_⟩
 ·simpa [WR] using hown
 ·rcases List.mem_append.1 hq with hq | hq
  ·exact YM (h.paces q hq) (fun k e=>hk k (h.lt (.inr ⟨q,hq,e⟩)).2 (h.off q hq k e))
  ·obtain rfl:q=((rb,ps),pv):=by simpa using hq
   exact YM hp (fun k e=>hk k (hp.lt e).2 (hoff k e))
 ·rcases List.mem_append.1 hq with hq | hq
  ·exact fun e'=>h.off q hq b e (hv' b (h.lt (.inr ⟨q,hq,e⟩)).2 e')
  ·obtain rfl:q=((rb,ps),pv):=by simpa using hq
   exact fun e'=>hoff b e (hv' b (hp.lt e).2 e')
 ·rw [List.map_append,List.pairwise_append]
  refine ⟨h.apart,by simp,fun x hx y hy b e=> ?_⟩
  obtain ⟨q,hq,rfl⟩:=List.mem_map.1 hx
  obtain rfl:y=pv:=by simpa using hy
  exact hap q hq b e
theorem Ep:(Tryz.prog.info? 137).map (fun i=>(i.zero,i.size,i.bytes))=some (some (.agg #[.int .i64 0,.slice none 0 0]),2,32):=by kernel_rfl
theorem OwnHall.shape {n₀:Nat}  {qs:List (Z3 × Value)} (h:OwnHall n₀ w v qs):∃ a cap,v= .slice a qs.length cap:=by
 rcases h.row.2 with ⟨rfl,hz⟩ | ⟨g,cap,cur,rfl,_⟩
 ·exact ⟨none,0,by rw [hz]⟩
 ·exact ⟨_,cap,rfl⟩
theorem PacesAt.shape {n₀:Nat}  {ps:List Z6} (h:PacesAt n₀ w v ps):∃ a cap,v= .slice a ps.length cap:=by
 rcases h.2 with ⟨rfl,hz⟩ | ⟨g,cap,cur,rfl,_⟩
 ·exact ⟨none,0,by rw [hz]⟩
 ·exact ⟨_,cap,rfl⟩
theorem Mh {α:Type} {f g:α->Value} {xs:List Value} {l:List α} (hl:xs.length=l.length*2) (h:∀ k (hk:k<l.length),xs[k*2]?=some (f l[k])/\xs[k*2+1]?=some (g l[k])):xs=l.flatMap fun p=>[f p,g p]:=by
 apply List.ext_getElem?
 intro m
 by_cases hm:m<l.length*2
 ·obtain ⟨h1,h2⟩:=h (m / 2) (by omega)
  obtain ⟨g1,g2⟩:=Wy (f:=f) (g:=g) l (m / 2) (by omega)
  rcases Nat.mod_two_eq_zero_or_one m with e | e
  ·rw [show m=m / 2*2 by omega,h1,g1]
  ·rw [show m=m / 2*2+1 by omega,h2,g2]
 ·rw [List.getElem?_eq_none (by omega),List.getElem?_eq_none (by rw [St];omega)]
theorem JH {xs:List Value} {ps:List Z6} (hl:xs.length=ps.length*2) (h:Pairs xs (QU ps) ps.length):xs=Zs ps:=by
 refine Mh hl fun k hk=> ?_
 obtain ⟨u,u',h1,h2,h3,h4⟩:=h k hk
 have hat:Z7 ps k=ps[k]:=by unfold Z7;simp [List.getD,hk]
 rw [h1,h2,h3,h4,hat]
 exact ⟨rfl,rfl⟩
theorem Kd  {ps:List Z6} (h:IsPaces w v ps) (hs:ps.length<=1048576) :
  Calls Tryz.prog 313 #[v] w fun e w'=> ∃ v',e= .returned v'/\PacesAt w.heap.size w' v' ps/\Below w.heap.size w w':=by
 obtain ⟨a,cap,rfl,hc,hm,hr⟩:=h
 have Hr:=Z9 hr
 clear hr
 obtain ⟨i0,hi,hz0,hz1,hz2⟩:=info_parts I8
 go_enter Tryz.func313,Tryz.ntmps313
 go_wp2_with (at_make;refine wpList_make_full _ rfl _ _ 135 rfl w.heap.size 139 i0 (.agg #[.int .i64 0,.int .i64 0]) 2 Tryz.underlying135 hi hz0 hz1 _ _ _ _ ps.length rfl rfl rfl rfl (by rw [hz2];omega) (by unfold maxLen;omega) (Nat.le_refl _) ?_;intro w0 hown hgrow)
 have Hown:=Z9 hown
 have Hgr:=Z9 hgrow
 clear hown hgrow
 go_loopw [4] (fun i wr=> ∃ k:Nat,k<=ps.length/\i= .int .i64 k/\ ∃ xs,wr.ownsRow w.heap.size 139 2 (.slice (some ⟨w.heap.size,0,none⟩) ps.length ps.length) ps.length xs/\Pairs xs (QU ps) k/\Below w.heap.size w wr) (fun i _=>ps.length-(intOf i).toNat)
 case atStart=>exact ⟨0,Nat.zero_le _,rfl,_,uh Hown,fun j hj=>by omega,(Below.refl _ _).grown (uh Hgr) (Nat.le_refl _) (fun k e=>by cases e)⟩
 case round=>
  obtain ⟨k,hk,rfl,xs,hown,hpr,hb⟩:=hrel
  have Hb:=Z9 hb
  by_cases hlt:k<ps.length
  ·rcases uh Hr with h0 | ⟨b,off,rfl,hbw,hcl⟩
   ·rw [h0] at hlt;simp at hlt
   obtain ⟨c0,c1⟩:=hcl k hlt
   rw [<-hb.cell (p:=⟨b,off+k*2,none⟩) hbw] at c0
   rw [<-hb.cell (p:=⟨b,off+k*2+1,none⟩) hbw] at c1
   have hxs:xs.length=ps.length*2:=hown.1
   have Ho:=Z9 hown
   have Hpr:=Z9 hpr
   generalize hp:Z7 ps k=p at c0 c1
   obtain ⟨f,c⟩:=p
   simp only at c0 c1
   have Hp:=Z9 hp
   clear hcl hb hown hpr hp
   go_wp2_with fail
   refine (OP _ _ _).mono ?_
   rintro e w1 ⟨rfl,hb1⟩
   have ho1:=Ss (uh Ho) hb1
   obtain ⟨⟨x0,y0⟩,z0⟩:=VF ho1 (j:=k*2) (by omega)
   obtain ⟨⟨x1,y1⟩,z1⟩:=VF ho1 (j:=k*2+1) (by omega)
   have Hp2:=Z9 (Um ho1 (k*2) (.int .i64 f) (.int .i64 c))
   have Hb1:=Z9 hb1
   have hsz:=hb1.size
   have hsz0:=(uh Hb).size
   clear ho1 hb1
   go_wp2_with fail
   go_roundw
   case rel=>exact ⟨k+1,by omega,by go_num,_,(uh Hp2).1,(uh Hpr).next (by omega) ⟨by rw [uh Hp],by rw [uh Hp]⟩,((uh Hb).trans ((uh Hb1).mono hsz0)).trans (XJ (uh Hp2).2 (Nat.le_refl _) (by omega))⟩
   case measure=>simp [intOf];omega
  ·obtain rfl:k=ps.length:=by omega
   go_wp2_with fail
   go_ret
   exact ⟨_,rfl,by have e9:=JH hown.1 hpr;rw [e9] at hown;exact hown,hb⟩
theorem PacesAt.set {n₀:Nat}  {ps:List Z6} (h:PacesAt n₀ w v ps) (g o:Nat) (u:Value) (hg:∀ k,v.ownBlock=some k->k ≠ g):PacesAt n₀ (w.setCell ⟨g,o,none⟩ u) v ps:=
 YM h fun k e=>heap_setCell_other w _ k u (hg k e)
theorem PacesAt.mono {n₀ n₁:Nat}  {ps:List Z6} (h:PacesAt n₀ w v ps) (hn:n₁<=n₀):PacesAt n₁ w v ps:=S0 h hn
theorem PacesAt.later {n₀:Nat}  {ps:List Z6} (h:PacesAt n₀ w v ps) (hb:Below w.heap.size w w'):PacesAt n₀ w' v ps:=YM h fun k e=>hb.block k (h.lt e).2
theorem H7  {ps:List Z6} (rb:Int) (h:IsPaces w v ps) (hs:ps.length<=1048576) :
  Calls Tryz.prog 264 #[.agg #[.int .i64 rb,v]] w fun e w'=> ∃ v',e= .returned (.agg #[.int .i64 rb,v'])/\PacesAt w.heap.size w' v' ps/\Below w.heap.size w w':=by
 have Hv:=Z9 h
 obtain ⟨a,cap,rfl,hc,hm,hr⟩:=h
 clear hr
 have Hb0:Hid (∀ o1 o2 o3:Obj,Below w.heap.size w (((w.alloc o1).alloc o2).alloc o3)):=Z9 (fun o1 o2 o3=>(((Below.refl _ _).alloc (Nat.le_refl _) _).alloc (by simp) _).alloc (by simp;omega) _)
 go_enter Tryz.func264,Tryz.ntmps264
 go_wp2_with fail
 refine (Kd ((uh Hv).below (uh Hb0 _ _ _)) hs).mono ?_
 rintro e w1 ⟨v',rfl,hp,hb1⟩
 have hk:∀ k,v'.ownBlock=some k->(((w.alloc _).alloc _).alloc _).heap.size<=k:=fun k e=>(hp.lt e).1
 have hsz:w.heap.size+3<=w1.heap.size:=by have:=hb1.size;simp at this;omega
 have hk':∀ k,v'.ownBlock=some k->w.heap.size+3<=k:=fun k e=>by have:=hk k e;simp at this;omega
 obtain ⟨cc,ff⟩:=QM hb1
 have x0:=cc (w.heap.size+2) 0 (by simp)
 have x1:=cc (w.heap.size+2) 1 (by simp)
 have y0:=cc (w.heap.size+1) 0 (by simp)
 have y1:=cc (w.heap.size+1) 1 (by simp)
 have fx0:=ff (w.heap.size+2) 0 (by simp)
 have fx1:=ff (w.heap.size+2) 1 (by simp)
 have fy0:=ff (w.heap.size+1) 0 (by simp)
 have fy1:=ff (w.heap.size+1) 1 (by simp)
 have Hp:=Z9 hp
 have Hk:=Z9 hk'
 have Hb1:=Z9 hb1
 obtain ⟨a',cap',rfl⟩:=hp.shape
 clear cc ff hk hk' hb1 hp
 go_wp2_with fail
 have B1:Below w.heap.size w w1:=(uh Hb0 _ _ _).trans ((uh Hb1).mono (by simp;omega))
 refine bodyPost_ret (v:= .agg #[.int .i64 rb,.slice a' ps.length cap']) (by simp [results,Tryz.results264,go_sem, *]) rfl ⟨_,rfl,?_,?_⟩
 ·refine PacesAt.mono (n₀:=w.heap.size+1+1+1) ?_ (by omega)
  have Hp':PacesAt (w.heap.size+1+1+1) w1 (.slice a' ps.length cap') ps:=by have:=uh Hp;simpa using this
  exact ((Hp'.set _ _ _ (fun k e=>by have:=uh Hk k e;omega)).set _ _ _ (fun k e=>by have:=uh Hk k e;omega)).set _ _ _ (fun k e=>by have:=uh Hk k e;omega)
 ·exact ((B1.setCell (by show _<=w.heap.size+1+1;omega) _).setCell (by show _<=w.heap.size+1;omega) _).setCell (by show _<=w.heap.size+1;omega) _
end Go.Proofs.YtjhijildaceadaaGreatDoor
