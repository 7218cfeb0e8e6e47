/- Part 3 of what the proof rests on besides. No condition but those that a theorem names. -/
import Derived.Test.YtnponpamjddpjaaGreatXu02
set_option maxHeartbeats 8000000
set_option maxRecDepth 100000
namespace Go.Proofs.YtnponpamjddpjaaGreat
open Go.ChangeShapes Go.WideShapes Go.ChangeAt Go.RowKit Go.Sort
set_option linter.unusedVariables false
theorem UF {w:World} {v:Value} {rs:List Z0} (h:IsRooms w v rs) (left:Int) (h0:0<=left) (h1:left<=1048576) :
  Calls Tryz.prog 106 #[.agg #[v],.int .i64 left] w fun e w'=> ∃ x:Int,e= .returned (.int .i64 x)/\x<=1048576/\(0<=x->Vv rs)/\Below w.heap.size w w':=by
 have Hv:=Z9 h
 obtain ⟨a,cap,rfl,hc,hm,hr⟩:=h
 clear hr
 go_enter Tryz.func106,Tryz.ntmps106
 go_wp2_with fail
 refine (VU ((uh Hv).alloc _) left h0 h1).mono ?_
 rintro e w1 ⟨x,rfl,x1,hx,hb⟩
 have Hx:=Z9 hx
 have Hb:=Z9 hb
 clear hx hb
 by_cases hx0:x<0
 ·go_wp2_with fail
  go_ret
  exact ⟨-1,rfl,by omega,fun h=>by omega,((Below.refl _ _).alloc (Nat.le_refl _) _).trans ((uh Hb).mono (by simp))⟩
 ·go_wp2_with fail
  go_ret
  exact ⟨x,rfl,x1,uh Hx,((Below.refl _ _).alloc (Nat.le_refl _) _).trans ((uh Hb).mono (by simp))⟩
theorem Wx {w:World} {v0 v1 v2 v3 v4:Value} {m:Z3} (h:Smy w v0 v1 v2 v3 v4 m) :
  Calls Tryz.prog 49 #[.agg #[v0,v1,v2,v3,v4,.int .i64 m.now],.int .i64 1048576] w fun e w'=> ∃ x:Int,e= .returned (.int .i64 x)/\(0<=x->Vx m)/\Below w.heap.size w w':=by
 have Hv:=Z9 h
 obtain ⟨a0,p0,rfl,_,_⟩:=IsRooms.shape h.rooms
 obtain ⟨a1,p1,rfl,hc1,hm1⟩:=IsRec.shape h.guilds
 obtain ⟨a2,p2,rfl,hc2,hm2⟩:=IsRec.shape h.smiths
 obtain ⟨a3,p3,rfl,hc3,hm3⟩:=IsRec.shape h.desks
 obtain ⟨a4,p4,rfl,hc4,hm4⟩:=IsRec.shape h.paces
 clear h
 go_enter Tryz.func49,Tryz.ntmps49
 go_wp2_with fail
 refine (UF ((uh Hv).alloc _).rooms _ (by omega) (by omega)).mono ?_
 rintro e w1 ⟨x,rfl,x1,hx,hb⟩
 have kb:Hid (Blk w1 w.heap.size 73 #[.slice a0 m.rooms.length p0,.slice a1 m.guilds.length p1,.slice a2 m.smiths.length p2,.slice a3 m.desks.length p3,.slice a4 m.paces.length p4,.int .i64 m.now]):=Z9 ((Blk.new w _ _).below hb (by simp))
 have BB:Hid (Below w.heap.size w w1):=Z9 (((Below.refl _ _).alloc (Nat.le_refl _) _).trans (hb.mono (by simp)))
 have Hx:=Z9 hx
 clear hx hb
 have c1:=(uh kb).cell (i:=1) (v:= .slice a1 m.guilds.length p1) rfl
 have c2:=(uh kb).cell (i:=2) (v:= .slice a2 m.smiths.length p2) rfl
 have c3:=(uh kb).cell (i:=3) (v:= .slice a3 m.desks.length p3) rfl
 have c4:=(uh kb).cell (i:=4) (v:= .slice a4 m.paces.length p4) rfl
 by_cases hx0:x<0
 ·go_wp2_with fail
  go_ret
  exact ⟨-1,rfl,fun h=>by omega,uh BB⟩
 go_wp2_with fail
 refine (Wp _ _ _ _ (by omega) (by omega) (by omega) _).mono ?_
 by_cases g0:x-(m.guilds.length:Int)<0
 ·rw [Y5 g0]
  rintro e w' ⟨rfl,h9⟩
  subst w'
  go_wp2_with fail
  go_ret
  exact ⟨-1,rfl,fun h=>by omega,uh BB⟩
 rw [Y6 g0]
 rintro e w' ⟨rfl,h9⟩
 subst w'
 go_wp2_with fail
 refine (Wv _ _ _ _ (by omega) (by omega) (by omega) _).mono ?_
 by_cases g1:x-(m.guilds.length:Int)-(m.smiths.length:Int)<0
 ·rw [Y5 g1]
  rintro e w' ⟨rfl,h9⟩
  subst w'
  go_wp2_with fail
  go_ret
  exact ⟨-1,rfl,fun h=>by omega,uh BB⟩
 rw [Y6 g1]
 rintro e w' ⟨rfl,h9⟩
 subst w'
 go_wp2_with fail
 refine (VR _ _ _ _ (by omega) (by omega) (by omega) _).mono ?_
 by_cases g2:x-(m.guilds.length:Int)-(m.smiths.length:Int)-(m.desks.length:Int)<0
 ·rw [Y5 g2]
  rintro e w' ⟨rfl,h9⟩
  subst w'
  go_wp2_with fail
  go_ret
  exact ⟨-1,rfl,fun h=>by omega,uh BB⟩
 rw [Y6 g2]
 rintro e w' ⟨rfl,h9⟩
 subst w'
 go_wp2_with fail
 refine (Wq _ _ _ _ (by omega) (by omega) (by omega) _).mono ?_
 by_cases g3:x-(m.guilds.length:Int)-(m.smiths.length:Int)-(m.desks.length:Int)-(m.paces.length:Int)<0
 ·rw [Y5 g3]
  rintro e w' ⟨rfl,h9⟩
  subst w'
  go_wp2_with fail
  go_ret
  exact ⟨-1,rfl,fun h=>by omega,uh BB⟩
 rw [Y6 g3]
 rintro e w' ⟨rfl,h9⟩
 subst w'
 go_wp2_with fail
 go_ret
 exact ⟨_,rfl,fun _=>⟨uh Hx (by omega),by omega,by omega,by omega,by omega⟩,uh BB⟩
theorem U4 {w:World} {v:Value} {rs:List Z0} (h:IsRooms w v rs) (hs:Vv rs) :
  Calls Tryz.prog 111 #[.agg #[v]] w fun e w'=> ∃ v',e= .returned (.agg #[v'])/\RoomsFrom w.heap.size w' v' rs/\Below w.heap.size w w':=by
 have Hv:=Z9 h
 obtain ⟨a,cap,rfl,hc,hm,hr⟩:=h
 clear hr
 have Hb0:Hid (∀ o1 o2 o3:Obj,Below w.heap.size w (((w.alloc o1).alloc o2).alloc o3)):=Z9 (fun o1 o2 o3=>(((Below.refl _ _).alloc (Nat.le_refl _) _).alloc (by simp) _).alloc (by simp;omega) _)
 go_enter Tryz.func111,Tryz.ntmps111
 go_wp2_with fail
 refine (V2 ((uh Hv).below (uh Hb0 _ _ _)) hs).mono ?_
 rintro e w1 ⟨v',rfl,hp,hb1⟩
 simp only [World.size_alloc] at hp
 have hsz:w.heap.size+3<=w1.heap.size:=by have:=hb1.size;simp at this;omega
 obtain ⟨cc,ff⟩:=NR hb1
 have x0:=cc (w.heap.size+2) 0 (by simp)
 have y0:=cc (w.heap.size+1) 0 (by simp)
 have fx0:=ff (w.heap.size+2) 0 (by simp)
 have fy0:=ff (w.heap.size+1) 0 (by simp)
 have Hp:=Z9 hp
 have Hb1:=Z9 hb1
 obtain ⟨a',cap',rfl,_⟩:=hp
 clear cc ff hb1
 go_wp2_with fail
 have B1:Below w.heap.size w w1:=(uh Hb0 _ _ _).trans ((uh Hb1).mono (by simp;omega))
 refine bodyPost_ret (v:= .agg #[.slice a' rs.length cap']) (by simp [results,Tryz.results111,go_sem, *]) rfl ⟨_,rfl,?_,?_⟩
 ·exact (((uh Hp).set _ _ _ (by omega)).set _ _ _ (by omega)).mono (by omega)
 ·exact (B1.setCell (by show _<=w.heap.size+1+1;omega) _).setCell (by show _<=w.heap.size+1;omega) _
theorem Y8 {w:World} {v0 v1 v2 v3 v4:Value} {m:Z3} (h:Smy w v0 v1 v2 v3 v4 m) (hs:Vx m) :
  Calls Tryz.prog 50 #[.agg #[v0,v1,v2,v3,v4,.int .i64 m.now]] w fun e w'=> ∃ u0 u1 u2 u3 u4,e= .returned (.agg #[u0,u1,u2,u3,u4,.int .i64 m.now])/\OwnSmy w.heap.size w' u0 u1 u2 u3 u4 m/\Below w.heap.size w w':=by
 have Hv:=Z9 h
 have Hs:=Z9 hs
 obtain ⟨a0,p0,rfl,_,_⟩:=IsRooms.shape h.rooms
 obtain ⟨a1,p1,rfl,hc1,hm1⟩:=IsRec.shape h.guilds
 obtain ⟨a2,p2,rfl,hc2,hm2⟩:=IsRec.shape h.smiths
 obtain ⟨a3,p3,rfl,hc3,hm3⟩:=IsRec.shape h.desks
 obtain ⟨a4,p4,rfl,hc4,hm4⟩:=IsRec.shape h.paces
 clear h hs
 go_enter Tryz.func50,Tryz.ntmps50
 go_wp2_with fail
 have BB:Hid (Below w.heap.size w (((w.alloc (.cells #[.slice a0 m.rooms.length p0,.slice a1 m.guilds.length p1,.slice a2 m.smiths.length p2,.slice a3 m.desks.length p3,.slice a4 m.paces.length p4,.int .i64 m.now] 73)).alloc (.cells #[.slice none 0 0,.slice none 0 0,.slice none 0 0,.slice none 0 0,.slice none 0 0,.int .i64 0] 32)).alloc (.cells #[.slice none 0 0,.slice none 0 0,.slice none 0 0,.slice none 0 0,.slice none 0 0,.int .i64 0] 32))):=Z9 ((((Below.refl _ _).alloc (Nat.le_refl _) _).alloc (by simp) _).alloc (by simp;omega) _)
 have ka:Hid (Blk (((w.alloc (.cells #[.slice a0 m.rooms.length p0,.slice a1 m.guilds.length p1,.slice a2 m.smiths.length p2,.slice a3 m.desks.length p3,.slice a4 m.paces.length p4,.int .i64 m.now] 73)).alloc (.cells #[.slice none 0 0,.slice none 0 0,.slice none 0 0,.slice none 0 0,.slice none 0 0,.int .i64 0] 32)).alloc (.cells #[.slice none 0 0,.slice none 0 0,.slice none 0 0,.slice none 0 0,.slice none 0 0,.int .i64 0] 32)) w.heap.size 73 #[.slice a0 m.rooms.length p0,.slice a1 m.guilds.length p1,.slice a2 m.smiths.length p2,.slice a3 m.desks.length p3,.slice a4 m.paces.length p4,.int .i64 m.now]):=Z9 (((Blk.new w _ _).alloc _).alloc _)
 have kr:Hid (Blk (((w.alloc (.cells #[.slice a0 m.rooms.length p0,.slice a1 m.guilds.length p1,.slice a2 m.smiths.length p2,.slice a3 m.desks.length p3,.slice a4 m.paces.length p4,.int .i64 m.now] 73)).alloc (.cells #[.slice none 0 0,.slice none 0 0,.slice none 0 0,.slice none 0 0,.slice none 0 0,.int .i64 0] 32)).alloc (.cells #[.slice none 0 0,.slice none 0 0,.slice none 0 0,.slice none 0 0,.slice none 0 0,.int .i64 0] 32)) (w.heap.size+1) 32 #[.slice none 0 0,.slice none 0 0,.slice none 0 0,.slice none 0 0,.slice none 0 0,.int .i64 0]):=Z9 (by
  have k:=Blk.new (w.alloc (.cells #[.slice a0 m.rooms.length p0,.slice a1 m.guilds.length p1,.slice a2 m.smiths.length p2,.slice a3 m.desks.length p3,.slice a4 m.paces.length p4,.int .i64 m.now] 73)) 32 #[.slice none 0 0,.slice none 0 0,.slice none 0 0,.slice none 0 0,.slice none 0 0,.int .i64 0]
  rw [World.size_alloc] at k
  exact k.alloc _)
 have ko:Hid (Blk (((w.alloc (.cells #[.slice a0 m.rooms.length p0,.slice a1 m.guilds.length p1,.slice a2 m.smiths.length p2,.slice a3 m.desks.length p3,.slice a4 m.paces.length p4,.int .i64 m.now] 73)).alloc (.cells #[.slice none 0 0,.slice none 0 0,.slice none 0 0,.slice none 0 0,.slice none 0 0,.int .i64 0] 32)).alloc (.cells #[.slice none 0 0,.slice none 0 0,.slice none 0 0,.slice none 0 0,.slice none 0 0,.int .i64 0] 32)) (w.heap.size+1+1) 32 #[.slice none 0 0,.slice none 0 0,.slice none 0 0,.slice none 0 0,.slice none 0 0,.int .i64 0]):=Z9 (by
  have k:=Blk.new ((w.alloc (.cells #[.slice a0 m.rooms.length p0,.slice a1 m.guilds.length p1,.slice a2 m.smiths.length p2,.slice a3 m.desks.length p3,.slice a4 m.paces.length p4,.int .i64 m.now] 73)).alloc (.cells #[.slice none 0 0,.slice none 0 0,.slice none 0 0,.slice none 0 0,.slice none 0 0,.int .i64 0] 32)) 32 #[.slice none 0 0,.slice none 0 0,.slice none 0 0,.slice none 0 0,.slice none 0 0,.int .i64 0]
  rw [World.size_alloc,World.size_alloc] at k
  exact k)
 generalize ((w.alloc (.cells #[.slice a0 m.rooms.length p0,.slice a1 m.guilds.length p1,.slice a2 m.smiths.length p2,.slice a3 m.desks.length p3,.slice a4 m.paces.length p4,.int .i64 m.now] 73)).alloc (.cells #[.slice none 0 0,.slice none 0 0,.slice none 0 0,.slice none 0 0,.slice none 0 0,.int .i64 0] 32)).alloc (.cells #[.slice none 0 0,.slice none 0 0,.slice none 0 0,.slice none 0 0,.slice none 0 0,.int .i64 0] 32)=W at *
 have hW:w.heap.size+3<=W.heap.size:=by have:=(uh ko).lt;omega
 refine (U4 ((uh Hv).below (uh BB)).rooms (uh Hs).rooms).mono ?_
 rintro e w1 ⟨u0,rfl,hp,hb⟩
 have n0:Hid (RoomsFrom (w.heap.size+3) w1 u0 m.rooms):=Z9 (hp.mono hW)
 replace ka:=bl ka hb
 replace kr:=bl kr hb
 replace ko:=bl ko hb
 replace BB:=bt BB hb
 have hW2:w.heap.size+3<=w1.heap.size:=by have:=hb.size;omega
 obtain ⟨b0,q0,rfl,_⟩:=hp
 clear hb
 have o0:=(uh ko).cell (i:=0) (v:= .slice none 0 0) rfl
 have f0:=(uh ko).free 0
 have c1:=(uh ka).cell (i:=1) (v:= .slice a1 m.guilds.length p1) rfl
 go_wp2_with fail
 replace ka:Hid (Blk (w1.setCell ⟨w.heap.size+1+1,0,none⟩ (.slice b0 m.rooms.length q0)) w.heap.size 73 #[.slice a0 m.rooms.length p0,.slice a1 m.guilds.length p1,.slice a2 m.smiths.length p2,.slice a3 m.desks.length p3,.slice a4 m.paces.length p4,.int .i64 m.now]):=Z9 ((uh ka).other (a:=⟨w.heap.size+1+1,0,none⟩) (by show w.heap.size ≠ w.heap.size+1+1;omega) _)
 replace kr:Hid (Blk (w1.setCell ⟨w.heap.size+1+1,0,none⟩ (.slice b0 m.rooms.length q0)) (w.heap.size+1) 32 #[.slice none 0 0,.slice none 0 0,.slice none 0 0,.slice none 0 0,.slice none 0 0,.int .i64 0]):=Z9 ((uh kr).other (a:=⟨w.heap.size+1+1,0,none⟩) (by show w.heap.size+1 ≠ w.heap.size+1+1;omega) _)
 replace ko:Hid (Blk (w1.setCell ⟨w.heap.size+1+1,0,none⟩ (.slice b0 m.rooms.length q0)) (w.heap.size+1+1) 32 #[.slice b0 m.rooms.length q0,.slice none 0 0,.slice none 0 0,.slice none 0 0,.slice none 0 0,.int .i64 0]):=Z9 ((uh ko).set 0 _)
 replace n0:=Z9 ((uh n0).set (w.heap.size+1+1) 0 (.slice b0 m.rooms.length q0) (by omega))
 replace BB:Hid (Below w.heap.size w (w1.setCell ⟨w.heap.size+1+1,0,none⟩ (.slice b0 m.rooms.length q0))):=Z9 ((uh BB).setCell (p:=⟨w.heap.size+1+1,0,none⟩) (by show w.heap.size<=w.heap.size+1+1;omega) _)
 have hW3:w.heap.size+3<=(w1.setCell ⟨w.heap.size+1+1,0,none⟩ (.slice b0 m.rooms.length q0)).heap.size:=by have:=(uh ko).lt;omega
 clear o0 f0 c1 hW hW2
 generalize (w1.setCell ⟨w.heap.size+1+1,0,none⟩ (.slice b0 m.rooms.length q0))=W at *
 have hW:=hW3
 clear hW3
 refine (WQ ((uh Hv).below (uh BB)).guilds (uh Hs).guilds).mono ?_
 rintro e w2 ⟨u1,rfl,hp,hb⟩
 have n1:Hid (GuildsAt (w.heap.size+3) w2 u1 m.guilds):=Z9 (RecAt.mono hp hW)
 replace n0:=Z9 ((uh n0).below hb)
 replace ka:=bl ka hb
 replace kr:=bl kr hb
 replace ko:=bl ko hb
 replace BB:=bt BB hb
 have hW2:w.heap.size+3<=w2.heap.size:=by have:=hb.size;omega
 obtain ⟨b1,q1,rfl⟩:=RecAt.shape hp
 clear hp hb
 have o1:=(uh ko).cell (i:=1) (v:= .slice none 0 0) rfl
 have f1:=(uh ko).free 1
 have c2:=(uh ka).cell (i:=2) (v:= .slice a2 m.smiths.length p2) rfl
 go_wp2_with fail
 replace ka:Hid (Blk (w2.setCell ⟨w.heap.size+1+1,1,none⟩ (.slice b1 m.guilds.length q1)) w.heap.size 73 #[.slice a0 m.rooms.length p0,.slice a1 m.guilds.length p1,.slice a2 m.smiths.length p2,.slice a3 m.desks.length p3,.slice a4 m.paces.length p4,.int .i64 m.now]):=Z9 ((uh ka).other (a:=⟨w.heap.size+1+1,1,none⟩) (by show w.heap.size ≠ w.heap.size+1+1;omega) _)
 replace kr:Hid (Blk (w2.setCell ⟨w.heap.size+1+1,1,none⟩ (.slice b1 m.guilds.length q1)) (w.heap.size+1) 32 #[.slice none 0 0,.slice none 0 0,.slice none 0 0,.slice none 0 0,.slice none 0 0,.int .i64 0]):=Z9 ((uh kr).other (a:=⟨w.heap.size+1+1,1,none⟩) (by show w.heap.size+1 ≠ w.heap.size+1+1;omega) _)
 replace ko:Hid (Blk (w2.setCell ⟨w.heap.size+1+1,1,none⟩ (.slice b1 m.guilds.length q1)) (w.heap.size+1+1) 32 #[.slice b0 m.rooms.length q0,.slice b1 m.guilds.length q1,.slice none 0 0,.slice none 0 0,.slice none 0 0,.int .i64 0]):=Z9 ((uh ko).set 1 _)
 replace n0:=Z9 ((uh n0).set (w.heap.size+1+1) 1 (.slice b1 m.guilds.length q1) (by omega))
 replace n1:=Z9 (RecAt.set_old (uh n1) (w.heap.size+1+1) 1 (.slice b1 m.guilds.length q1) (by omega))
 replace BB:Hid (Below w.heap.size w (w2.setCell ⟨w.heap.size+1+1,1,none⟩ (.slice b1 m.guilds.length q1))):=Z9 ((uh BB).setCell (p:=⟨w.heap.size+1+1,1,none⟩) (by show w.heap.size<=w.heap.size+1+1;omega) _)
 have hW3:w.heap.size+3<=(w2.setCell ⟨w.heap.size+1+1,1,none⟩ (.slice b1 m.guilds.length q1)).heap.size:=by have:=(uh ko).lt;omega
 clear o1 f1 c2 hW hW2
 generalize (w2.setCell ⟨w.heap.size+1+1,1,none⟩ (.slice b1 m.guilds.length q1))=W at *
 have hW:=hW3
 clear hW3
 refine (W2 ((uh Hv).below (uh BB)).smiths (uh Hs).smiths).mono ?_
 rintro e w3 ⟨u2,rfl,hp,hb⟩
 have n2:Hid (SmithsAt (w.heap.size+3) w3 u2 m.smiths):=Z9 (RecAt.mono hp hW)
 replace n0:=Z9 ((uh n0).below hb)
 replace n1:=Z9 (RecAt.later (uh n1) hb)
 replace ka:=bl ka hb
 replace kr:=bl kr hb
 replace ko:=bl ko hb
 replace BB:=bt BB hb
 have hW2:w.heap.size+3<=w3.heap.size:=by have:=hb.size;omega
 obtain ⟨b2,q2,rfl⟩:=RecAt.shape hp
 clear hp hb
 have o2:=(uh ko).cell (i:=2) (v:= .slice none 0 0) rfl
 have f2:=(uh ko).free 2
 have c3:=(uh ka).cell (i:=3) (v:= .slice a3 m.desks.length p3) rfl
 go_wp2_with fail
 replace ka:Hid (Blk (w3.setCell ⟨w.heap.size+1+1,2,none⟩ (.slice b2 m.smiths.length q2)) w.heap.size 73 #[.slice a0 m.rooms.length p0,.slice a1 m.guilds.length p1,.slice a2 m.smiths.length p2,.slice a3 m.desks.length p3,.slice a4 m.paces.length p4,.int .i64 m.now]):=Z9 ((uh ka).other (a:=⟨w.heap.size+1+1,2,none⟩) (by show w.heap.size ≠ w.heap.size+1+1;omega) _)
 replace kr:Hid (Blk (w3.setCell ⟨w.heap.size+1+1,2,none⟩ (.slice b2 m.smiths.length q2)) (w.heap.size+1) 32 #[.slice none 0 0,.slice none 0 0,.slice none 0 0,.slice none 0 0,.slice none 0 0,.int .i64 0]):=Z9 ((uh kr).other (a:=⟨w.heap.size+1+1,2,none⟩) (by show w.heap.size+1 ≠ w.heap.size+1+1;omega) _)
 replace ko:Hid (Blk (w3.setCell ⟨w.heap.size+1+1,2,none⟩ (.slice b2 m.smiths.length q2)) (w.heap.size+1+1) 32 #[.slice b0 m.rooms.length q0,.slice b1 m.guilds.length q1,.slice b2 m.smiths.length q2,.slice none 0 0,.slice none 0 0,.int .i64 0]):=Z9 ((uh ko).set 2 _)
 replace n0:=Z9 ((uh n0).set (w.heap.size+1+1) 2 (.slice b2 m.smiths.length q2) (by omega))
 replace n1:=Z9 (RecAt.set_old (uh n1) (w.heap.size+1+1) 2 (.slice b2 m.smiths.length q2) (by omega))
 replace n2:=Z9 (RecAt.set_old (uh n2) (w.heap.size+1+1) 2 (.slice b2 m.smiths.length q2) (by omega))
 replace BB:Hid (Below w.heap.size w (w3.setCell ⟨w.heap.size+1+1,2,none⟩ (.slice b2 m.smiths.length q2))):=Z9 ((uh BB).setCell (p:=⟨w.heap.size+1+1,2,none⟩) (by show w.heap.size<=w.heap.size+1+1;omega) _)
 have hW3:w.heap.size+3<=(w3.setCell ⟨w.heap.size+1+1,2,none⟩ (.slice b2 m.smiths.length q2)).heap.size:=by have:=(uh ko).lt;omega
 clear o2 f2 c3 hW hW2
 generalize (w3.setCell ⟨w.heap.size+1+1,2,none⟩ (.slice b2 m.smiths.length q2))=W at *
 have hW:=hW3
 clear hW3
 refine (VV ((uh Hv).below (uh BB)).desks (uh Hs).desks).mono ?_
 rintro e w4 ⟨u3,rfl,hp,hb⟩
 have n3:Hid (DesksAt (w.heap.size+3) w4 u3 m.desks):=Z9 (RecAt.mono hp hW)
 replace n0:=Z9 ((uh n0).below hb)
 replace n1:=Z9 (RecAt.later (uh n1) hb)
 replace n2:=Z9 (RecAt.later (uh n2) hb)
 replace ka:=bl ka hb
 replace kr:=bl kr hb
 replace ko:=bl ko hb
 replace BB:=bt BB hb
 have hW2:w.heap.size+3<=w4.heap.size:=by have:=hb.size;omega
 obtain ⟨b3,q3,rfl⟩:=RecAt.shape hp
 clear hp hb
 have o3:=(uh ko).cell (i:=3) (v:= .slice none 0 0) rfl
 have f3:=(uh ko).free 3
 have c4:=(uh ka).cell (i:=4) (v:= .slice a4 m.paces.length p4) rfl
 go_wp2_with fail
 replace ka:Hid (Blk (w4.setCell ⟨w.heap.size+1+1,3,none⟩ (.slice b3 m.desks.length q3)) w.heap.size 73 #[.slice a0 m.rooms.length p0,.slice a1 m.guilds.length p1,.slice a2 m.smiths.length p2,.slice a3 m.desks.length p3,.slice a4 m.paces.length p4,.int .i64 m.now]):=Z9 ((uh ka).other (a:=⟨w.heap.size+1+1,3,none⟩) (by show w.heap.size ≠ w.heap.size+1+1;omega) _)
 replace kr:Hid (Blk (w4.setCell ⟨w.heap.size+1+1,3,none⟩ (.slice b3 m.desks.length q3)) (w.heap.size+1) 32 #[.slice none 0 0,.slice none 0 0,.slice none 0 0,.slice none 0 0,.slice none 0 0,.int .i64 0]):=Z9 ((uh kr).other (a:=⟨w.heap.size+1+1,3,none⟩) (by show w.heap.size+1 ≠ w.heap.size+1+1;omega) _)
 replace ko:Hid (Blk (w4.setCell ⟨w.heap.size+1+1,3,none⟩ (.slice b3 m.desks.length q3)) (w.heap.size+1+1) 32 #[.slice b0 m.rooms.length q0,.slice b1 m.guilds.length q1,.slice b2 m.smiths.length q2,.slice b3 m.desks.length q3,.slice none 0 0,.int .i64 0]):=Z9 ((uh ko).set 3 _)
 replace n0:=Z9 ((uh n0).set (w.heap.size+1+1) 3 (.slice b3 m.desks.length q3) (by omega))
 replace n1:=Z9 (RecAt.set_old (uh n1) (w.heap.size+1+1) 3 (.slice b3 m.desks.length q3) (by omega))
 replace n2:=Z9 (RecAt.set_old (uh n2) (w.heap.size+1+1) 3 (.slice b3 m.desks.length q3) (by omega))
 replace n3:=Z9 (RecAt.set_old (uh n3) (w.heap.size+1+1) 3 (.slice b3 m.desks.length q3) (by omega))
 replace BB:Hid (Below w.heap.size w (w4.setCell ⟨w.heap.size+1+1,3,none⟩ (.slice b3 m.desks.length q3))):=Z9 ((uh BB).setCell (p:=⟨w.heap.size+1+1,3,none⟩) (by show w.heap.size<=w.heap.size+1+1;omega) _)
 have hW3:w.heap.size+3<=(w4.setCell ⟨w.heap.size+1+1,3,none⟩ (.slice b3 m.desks.length q3)).heap.size:=by have:=(uh ko).lt;omega
 clear o3 f3 c4 hW hW2
 generalize (w4.setCell ⟨w.heap.size+1+1,3,none⟩ (.slice b3 m.desks.length q3))=W at *
 have hW:=hW3
 clear hW3
 refine (WR ((uh Hv).below (uh BB)).paces (uh Hs).paces).mono ?_
 rintro e w5 ⟨u4,rfl,hp,hb⟩
 have n4:Hid (NumsAt (w.heap.size+3) w5 u4 m.paces):=Z9 (RecAt.mono hp hW)
 replace n0:=Z9 ((uh n0).below hb)
 replace n1:=Z9 (RecAt.later (uh n1) hb)
 replace n2:=Z9 (RecAt.later (uh n2) hb)
 replace n3:=Z9 (RecAt.later (uh n3) hb)
 replace ka:=bl ka hb
 replace kr:=bl kr hb
 replace ko:=bl ko hb
 replace BB:=bt BB hb
 have hW2:w.heap.size+3<=w5.heap.size:=by have:=hb.size;omega
 obtain ⟨b4,q4,rfl⟩:=RecAt.shape hp
 clear hp hb
 have o4:=(uh ko).cell (i:=4) (v:= .slice none 0 0) rfl
 have f4:=(uh ko).free 4
 have o0:=(uh ko).cell (i:=0) (v:= .slice b0 m.rooms.length q0) rfl
 have r0:=(uh kr).cell (i:=0) (v:= .slice none 0 0) rfl
 have rf0:=(uh kr).free 0
 have o1:=(uh ko).cell (i:=1) (v:= .slice b1 m.guilds.length q1) rfl
 have r1:=(uh kr).cell (i:=1) (v:= .slice none 0 0) rfl
 have rf1:=(uh kr).free 1
 have o2:=(uh ko).cell (i:=2) (v:= .slice b2 m.smiths.length q2) rfl
 have r2:=(uh kr).cell (i:=2) (v:= .slice none 0 0) rfl
 have rf2:=(uh kr).free 2
 have o3:=(uh ko).cell (i:=3) (v:= .slice b3 m.desks.length q3) rfl
 have r3:=(uh kr).cell (i:=3) (v:= .slice none 0 0) rfl
 have rf3:=(uh kr).free 3
 have r4:=(uh kr).cell (i:=4) (v:= .slice none 0 0) rfl
 have rf4:=(uh kr).free 4
 have o5:=(uh ko).cell (i:=5) (v:= .int .i64 0) rfl
 have r5:=(uh kr).cell (i:=5) (v:= .int .i64 0) rfl
 have rf5:=(uh kr).free 5
 have f5:=(uh ko).free 5
 have c5:=(uh ka).cell (i:=5) (v:= .int .i64 m.now) rfl
 go_wp2_with fail
 refine bodyPost_ret (v:= .agg #[.slice b0 m.rooms.length q0,.slice b1 m.guilds.length q1,.slice b2 m.smiths.length q2,.slice b3 m.desks.length q3,.slice b4 m.paces.length q4,.int .i64 m.now]) (by simp [results,Tryz.results50,go_sem,r0,r1,r2,r3,r4,r5]) rfl ⟨_,_,_,_,_,rfl,?_,?_⟩
 ·refine OwnSmy.mono ?_ (show w.heap.size<=w.heap.size+3 by omega)
  iterate 8 (refine OwnSmy.set ?_ _ _ _ (by omega))
  exact ⟨uh n0,uh n1,uh n2,uh n3,uh n4⟩
 ·iterate 8 (refine Below.setCell ?_ (by first | (show _<=w.heap.size+1+1;omega) | (show _<=w.heap.size+1;omega)) _)
  exact uh BB
theorem Wj {w:World} {v0 v1 v2 v3 v4 u0 u1 u2 u3 u4:Value} {m:Z3} (h:Smy w v0 v1 v2 v3 v4 m) (k:Smy w u0 u1 u2 u3 u4 m) :
  Calls Tryz.prog 51 #[.agg #[v0,v1,v2,v3,v4,.int .i64 m.now],.agg #[u0,u1,u2,u3,u4,.int .i64 m.now]] w fun e w'=>e= .returned (.bool true)/\Below w.heap.size w w':=by
 have Hv:=Z9 h
 have Hu:=Z9 k
 obtain ⟨a0,p0,rfl,_,_⟩:=IsRooms.shape h.rooms
 obtain ⟨a1,p1,rfl,hc1,hm1⟩:=IsRec.shape h.guilds
 obtain ⟨a2,p2,rfl,hc2,hm2⟩:=IsRec.shape h.smiths
 obtain ⟨a3,p3,rfl,hc3,hm3⟩:=IsRec.shape h.desks
 obtain ⟨a4,p4,rfl,hc4,hm4⟩:=IsRec.shape h.paces
 obtain ⟨b0,q0,b1,q1,b2,q2,b3,q3,b4,q4,rfl,rfl,rfl,rfl,rfl,_,_,_,_,_,_,_,_,_,_⟩:=k.five
 clear h k
 go_enter Tryz.func51,Tryz.ntmps51
 go_wp2_with fail
 have BB:Hid (Below w.heap.size w ((w.alloc (.cells #[.slice a0 m.rooms.length p0,.slice a1 m.guilds.length p1,.slice a2 m.smiths.length p2,.slice a3 m.desks.length p3,.slice a4 m.paces.length p4,.int .i64 m.now] 32)).alloc (.cells #[.slice b0 m.rooms.length q0,.slice b1 m.guilds.length q1,.slice b2 m.smiths.length q2,.slice b3 m.desks.length q3,.slice b4 m.paces.length q4,.int .i64 m.now] 32))):=Z9 (((Below.refl _ _).alloc (Nat.le_refl _) _).alloc (by simp) _)
 have ka:Hid (Blk ((w.alloc (.cells #[.slice a0 m.rooms.length p0,.slice a1 m.guilds.length p1,.slice a2 m.smiths.length p2,.slice a3 m.desks.length p3,.slice a4 m.paces.length p4,.int .i64 m.now] 32)).alloc (.cells #[.slice b0 m.rooms.length q0,.slice b1 m.guilds.length q1,.slice b2 m.smiths.length q2,.slice b3 m.desks.length q3,.slice b4 m.paces.length q4,.int .i64 m.now] 32)) w.heap.size 32 #[.slice a0 m.rooms.length p0,.slice a1 m.guilds.length p1,.slice a2 m.smiths.length p2,.slice a3 m.desks.length p3,.slice a4 m.paces.length p4,.int .i64 m.now]):=Z9 ((Blk.new w _ _).alloc _)
 have kb:Hid (Blk ((w.alloc (.cells #[.slice a0 m.rooms.length p0,.slice a1 m.guilds.length p1,.slice a2 m.smiths.length p2,.slice a3 m.desks.length p3,.slice a4 m.paces.length p4,.int .i64 m.now] 32)).alloc (.cells #[.slice b0 m.rooms.length q0,.slice b1 m.guilds.length q1,.slice b2 m.smiths.length q2,.slice b3 m.desks.length q3,.slice b4 m.paces.length q4,.int .i64 m.now] 32)) (w.heap.size+1) 32 #[.slice b0 m.rooms.length q0,.slice b1 m.guilds.length q1,.slice b2 m.smiths.length q2,.slice b3 m.desks.length q3,.slice b4 m.paces.length q4,.int .i64 m.now]):=Z9 (by
  have k:=Blk.new (w.alloc (.cells #[.slice a0 m.rooms.length p0,.slice a1 m.guilds.length p1,.slice a2 m.smiths.length p2,.slice a3 m.desks.length p3,.slice a4 m.paces.length p4,.int .i64 m.now] 32)) 32 #[.slice b0 m.rooms.length q0,.slice b1 m.guilds.length q1,.slice b2 m.smiths.length q2,.slice b3 m.desks.length q3,.slice b4 m.paces.length q4,.int .i64 m.now]
  rw [World.size_alloc] at k
  exact k)
 generalize (w.alloc (.cells #[.slice a0 m.rooms.length p0,.slice a1 m.guilds.length p1,.slice a2 m.smiths.length p2,.slice a3 m.desks.length p3,.slice a4 m.paces.length p4,.int .i64 m.now] 32)).alloc (.cells #[.slice b0 m.rooms.length q0,.slice b1 m.guilds.length q1,.slice b2 m.smiths.length q2,.slice b3 m.desks.length q3,.slice b4 m.paces.length q4,.int .i64 m.now] 32)=W at *
 refine (UM ((uh Hv).below (uh BB)).rooms ((uh Hu).below (uh BB)).rooms).mono ?_
 rintro e w1 ⟨rfl,hb⟩
 replace ka:=bl ka hb
 replace kb:=bl kb hb
 replace BB:=bt BB hb
 clear hb
 have c1:=(uh ka).cell (i:=1) (v:= .slice a1 m.guilds.length p1) rfl
 have d1:=(uh kb).cell (i:=1) (v:= .slice b1 m.guilds.length q1) rfl
 go_wp2_with fail
 clear c1 d1
 refine (V8 ((uh Hv).below (uh BB)).guilds ((uh Hu).below (uh BB)).guilds).mono ?_
 rintro e w2 ⟨rfl,hb⟩
 replace ka:=bl ka hb
 replace kb:=bl kb hb
 replace BB:=bt BB hb
 clear hb
 have c2:=(uh ka).cell (i:=2) (v:= .slice a2 m.smiths.length p2) rfl
 have d2:=(uh kb).cell (i:=2) (v:= .slice b2 m.smiths.length q2) rfl
 go_wp2_with fail
 clear c2 d2
 refine (Wg ((uh Hv).below (uh BB)).smiths ((uh Hu).below (uh BB)).smiths).mono ?_
 rintro e w3 ⟨rfl,hb⟩
 replace ka:=bl ka hb
 replace kb:=bl kb hb
 replace BB:=bt BB hb
 clear hb
 have c3:=(uh ka).cell (i:=3) (v:= .slice a3 m.desks.length p3) rfl
 have d3:=(uh kb).cell (i:=3) (v:= .slice b3 m.desks.length q3) rfl
 go_wp2_with fail
 clear c3 d3
 refine (Vy ((uh Hv).below (uh BB)).desks ((uh Hu).below (uh BB)).desks).mono ?_
 rintro e w4 ⟨rfl,hb⟩
 replace ka:=bl ka hb
 replace kb:=bl kb hb
 replace BB:=bt BB hb
 clear hb
 have c4:=(uh ka).cell (i:=4) (v:= .slice a4 m.paces.length p4) rfl
 have d4:=(uh kb).cell (i:=4) (v:= .slice b4 m.paces.length q4) rfl
 go_wp2_with fail
 clear c4 d4
 refine (UN ((uh Hv).below (uh BB)).paces ((uh Hu).below (uh BB)).paces).mono ?_
 rintro e w5 ⟨rfl,hb⟩
 replace ka:=bl ka hb
 replace kb:=bl kb hb
 replace BB:=bt BB hb
 clear hb
 have c5:=(uh ka).cell (i:=5) (v:= .int .i64 m.now) rfl
 have d5:=(uh kb).cell (i:=5) (v:= .int .i64 m.now) rfl
 go_wp2_with fail
 go_ret
 exact ⟨rfl,uh BB⟩
def Zi (m:Z3) (b:Int):Int:=if ZK m && Vu m b then XD m b (-1) else -1
def YL (m:Z3):List Z6->Int
 | []=>0
 | e::q=>Ym m e.2+YL m q
def Zn (m:Z3):List Int->Int
 | []=>0
 | x::q=>Ym m x+Zn m q
theorem VO (m:Z3) (a b:List Z6):YL m (a++b)=YL m a+YL m b:=by
 induction a with
 | nil=>show YL m b=0+YL m b;omega
 | cons e a ih=>show Ym m e.2+YL m (a++b)=Ym m e.2+YL m a+YL m b;omega
theorem Uq (m:Z3) (a b:List Int):Zn m (a++b)=Zn m a+Zn m b:=by
 induction a with
 | nil=>show Zn m b=0+Zn m b;omega
 | cons e a ih=>show Ym m e+Zn m (a++b)=Ym m e+Zn m a+Zn m b;omega
theorem W8 (m:Z3) (a:List Int) (x:Int):Zn m (a++[x])=Zn m a+Ym m x:=by rw [Uq];show _+(Ym m x+0)=_;omega
theorem UJ (m:Z3):∀ a:List Int,0<=Zn m a/\Zn m a<=1024*a.length
 | []=>by simp [Zn]
 | x::a=>by
  have ih:=UJ m a
  have hw:=MP m x
  show 0<=Ym m x+Zn m a/\Ym m x+Zn m a<=1024*((a.length+1:Nat):Int)
  omega
theorem Uo (m:Z3) (q:List Z6) (e:Z6):YL m (Vq q e)=YL m q+Ym m e.2:=by
 have h:=VO m (q.take (XV e q)) (q.drop (XV e q))
 rw [List.take_append_drop] at h
 unfold Vq
 rw [VO,h]
 show _+(Ym m e.2+_)=_
 omega
theorem Xb (m:Z3) (but:Int):∀ (q:List Z6) (n:Int),(∀ e ∈ q,e.2 ≠ but)->q.foldl (fun n e=>if e.2=but then n else n+Ym m e.2) n=n+YL m q
 | [],n,_=>by show n=n+0;omega
 | e::q,n,h=>by
  have h0:=h e (by simp)
  have ih:=Xb m but q (if e.2=but then n else n+Ym m e.2) (fun x hx=>h x (by simp [hx]))
  rw [List.foldl_cons,ih,if_neg h0]
  show _=n+(Ym m e.2+YL m q)
  omega
theorem UI (m:Z3) (b:Int):XD m b (-1)=YL m (atV m.smiths b m.smiths.length):=by
 have:=Xb m (-1) (atV m.smiths b m.smiths.length) 0 (fun e he=>by
  obtain ⟨i,_,_,_,rfl⟩:=(Yd m.smiths b e m.smiths.length).1 he
  show (i:Int) ≠ -1
  omega)
 unfold XD Vo
 omega
theorem T8 (b:Int) (s:Z4):atB b s=decide (s.2.1=b/\ZT s=true):=by
 unfold atB ZT
 rw [Bool.eq_iff_iff]
 simp only [Bool.and_eq_true,decide_eq_true_eq,beq_iff_eq]
 exact ⟨fun h=>⟨h.2,h.1⟩,fun h=>⟨h.2,h.1⟩⟩
theorem Xj (m:Z3) (ss:List Z4) (b:Int):∀ k,Zn m (ZU (atB b) ss k)=YL m (atV ss b k)
 | 0=>rfl
 | k+1=>by
  have ih:=Xj m ss b k
  by_cases hat:(Z8 ss k).2.1=b/\ZT (Z8 ss k)=true
  ·rw [YH (by rw [T8];exact decide_eq_true hat),W8,Sb hat.1 hat.2,Uo,ih]
  ·rw [Yc (by rw [T8];exact decide_eq_false hat),O5 hat,ih]
theorem Vl (m:Z3) (b:Int):Zn m (ZU (atB b) m.smiths m.smiths.length)=XD m b (-1):=by rw [Xj,UI]
theorem UE (m:Z3) {ws:List Int} {k:Nat} (h:k<ws.length):Zn m (ws.take (k+1))=Zn m (ws.take k)+Ym m (Z8 ws k):=by rw [NI h,W8]
structure Ua (m:Z3):Prop where
 guilds:Zh m.guilds=true
 each:∀ i,i<m.smiths.length->(Z8 m.smiths i).1 ≠ 0->isB m.guilds (Z8 m.smiths i).2.2.2.2.1=true/\Yl (Z8 m.smiths i).2.2.2.2.2.1 (Z8 m.smiths i).2.2.2.2.2.2.1=true
theorem Loose.wants {m:Z3} (h:Loose m):Ua m:=by
 have hd:=h.head
 unfold YS at hd
 simp only [Bool.and_eq_true,decide_eq_true_eq] at hd
 refine ⟨hd.2.1,fun i hi hs=> ?_⟩
 obtain ⟨hp,hg,_⟩:=h.limits hi hs
 have hgs:=hd.2.1
 generalize Z8 m.smiths i=s at *
 obtain ⟨st,be,rk,my,gu,lo,hi,hd,ca,ut,wk⟩:=s
 obtain ⟨_,_,_,_,⟨g0,g5⟩,hpair,_⟩:=Zg hp
 simp only at hg
 exact ⟨by unfold isB;rw [hgs,Zj g0 (by omega)];rfl,hpair⟩
structure Bx (w W:World) (R:Nat) (a0:Option Addr) (p0:Nat) (a1:Option Addr) (p1:Nat) (a2:Option Addr) (p2:Nat) (a3:Option Addr) (p3:Nat) (a4:Option Addr) (p4:Nat) (m:Z3):Prop where
 smy:Smy W (.slice a0 m.rooms.length p0) (.slice a1 m.guilds.length p1) (.slice a2 m.smiths.length p2) (.slice a3 m.desks.length p3) (.slice a4 m.paces.length p4) m
 blk:Blk W R 32 #[.slice a0 m.rooms.length p0,.slice a1 m.guilds.length p1,.slice a2 m.smiths.length p2,.slice a3 m.desks.length p3,.slice a4 m.paces.length p4,.int .i64 m.now]
 bb:Below w.heap.size w W
section
variable {w W X : World} {R : Nat} {a0 a1 a2 a3 a4 : Option Addr} {p0 p1 p2 p3 p4 : Nat} {m : Z3}
theorem Bx.next (h:Bx w W R a0 p0 a1 p1 a2 p2 a3 p3 a4 p4 m) (hb:Below W.heap.size W X):Bx w X R a0 p0 a1 p1 a2 p2 a3 p3 a4 p4 m:=⟨h.smy.below hb,h.blk.below hb h.blk.lt,h.bb.trans (hb.mono h.bb.size)⟩
theorem Bx.cells (h:Bx w W R a0 p0 a1 p1 a2 p2 a3 p3 a4 p4 m):W.cell? ⟨R,0,none⟩=some (.slice a0 m.rooms.length p0)/\W.cell? ⟨R,1,none⟩=some (.slice a1 m.guilds.length p1)/\W.cell? ⟨R,2,none⟩=some (.slice a2 m.smiths.length p2)/\W.cell? ⟨R,3,none⟩=some (.slice a3 m.desks.length p3)/\W.cell? ⟨R,4,none⟩=some (.slice a4 m.paces.length p4)/\W.cell? ⟨R,5,none⟩=some (.int .i64 m.now):=h.blk.c6
end
theorem Bx.new {w:World} {v0 v1 v2 v3 v4:Value} {m:Z3} (h:Smy w v0 v1 v2 v3 v4 m):∃ a0 p0 a1 p1 a2 p2 a3 p3 a4 p4,v0= .slice a0 m.rooms.length p0/\v1= .slice a1 m.guilds.length p1/\v2= .slice a2 m.smiths.length p2/\v3= .slice a3 m.desks.length p3/\v4= .slice a4 m.paces.length p4/\Bx w (w.alloc (.cells #[.slice a0 m.rooms.length p0,.slice a1 m.guilds.length p1,.slice a2 m.smiths.length p2,.slice a3 m.desks.length p3,.slice a4 m.paces.length p4,.int .i64 m.now] 32)) w.heap.size a0 p0 a1 p1 a2 p2 a3 p3 a4 p4 m:=by
 obtain ⟨a0,p0,a1,p1,a2,p2,a3,p3,a4,p4,rfl,rfl,rfl,rfl,rfl,_⟩:=h.five
 exact ⟨a0,p0,a1,p1,a2,p2,a3,p3,a4,p4,rfl,rfl,rfl,rfl,rfl,h.alloc _,Blk.new _ _ _,(Below.refl _ _).alloc (Nat.le_refl _) _⟩
end Go.Proofs.YtnponpamjddpjaaGreat
namespace Go.Proofs.YtnponpamjddpjaaGreat
open Go.ChangeShapes Go.WideShapes Go.ChangeAt Go.RowKit Go.Sort
set_option linter.unusedVariables false
set_option maxRecDepth 100000
theorem Uy {w:World} {v0 v1 v2 v3 v4:Value} {m:Z3} {k:Nat} (h:Smy w v0 v1 v2 v3 v4 m) (hL:Ua m) (hk:k<m.smiths.length) (hs:(Z8 m.smiths k).1 ≠ 0):Calls Tryz.prog 63 #[.agg #[v0,v1,v2,v3,v4,.int .i64 m.now],.int .i64 (k:Int)] w fun e w'=>e= .returned (.int .i64 (Ym m (k:Int)))/\Below w.heap.size w w':=by
 have hw:Ym m (k:Int)=Qi m.guilds (Z8 m.smiths k):=rfl
 rw [hw]
 clear hw
 have Hg0:=Z9 h.guilds
 obtain ⟨a0,p0,rfl,_,_⟩:=IsRooms.shape h.rooms
 obtain ⟨a1,p1,rfl,_,_⟩:=IsRec.shape h.guilds
 obtain ⟨a2,p2,rfl,hc2,hm2,r2⟩:=h.smiths
 obtain ⟨a3,p3,rfl,_,_⟩:=IsRec.shape h.desks
 obtain ⟨a4,p4,rfl,_,_⟩:=IsRec.shape h.paces
 clear h
 obtain ⟨hg1,hpair⟩:=hL.each k hk hs
 rcases r2 with e0 | ⟨sb,off,rfl,hbw,hcl⟩
 ·rw [e0] at hk;simp at hk
 have hk1:(k:Int)<(m.smiths.length:Int):=by omega
 obtain ⟨d0,d1,d2,d3,d4,d5,d6,d7,d8,d9,d10⟩:=ZD hcl hk
 clear hcl hs hL
 generalize Z8 m.smiths k=ss at *
 obtain ⟨st,be,rk,my,gu,lo,hi,hd,ca,ut,wk⟩:=ss
 simp only at d0 d1 d2 d3 d4 d5 d6 d7 d8 d9 d10 hg1 hpair
 obtain ⟨nr,hnr⟩:∃ nr,QC (bnd m.guilds gu) lo hi=nr:=⟨_,rfl⟩
 have HW:Hid (Y9 m.guilds gu lo hi=nr):=Z9 (by rw [<-hnr];exact Xq hg1 hpair)
 have HX:Hid (Qi m.guilds (st,be,rk,my,gu,lo,hi,hd,ca,ut,wk)=min (max ut nr.1) nr.2):=Z9 (by rw [<-hnr];rfl)
 rw [uh HX]
 clear hpair hg1 HX hnr
 obtain ⟨nl,nh⟩:=nr
 dsimp only
 have hne:sb ≠ w.heap.size:=Nat.ne_of_lt hbw
 have hbw2:sb<w.heap.size+1:=by omega
 have BB:Hid (Below w.heap.size w ((w.alloc (.cells #[.slice a0 m.rooms.length p0,.slice a1 m.guilds.length p1,.slice (some ⟨sb,off,none⟩) m.smiths.length p2,.slice a3 m.desks.length p3,.slice a4 m.paces.length p4,.int .i64 m.now] 32)).alloc (.cells #[.int .i64 st,.int .i64 be,.int .i64 rk,.int .i64 my,.int .i64 gu,.int .i64 lo,.int .i64 hi,.int .i64 hd,.int .i64 ca,.int .i64 ut,.int .i64 wk] 41))):=Z9 (((Below.refl _ _).alloc (Nat.le_refl _) _).alloc (by simp) _)
 have ks:Hid (Blk ((w.alloc (.cells #[.slice a0 m.rooms.length p0,.slice a1 m.guilds.length p1,.slice (some ⟨sb,off,none⟩) m.smiths.length p2,.slice a3 m.desks.length p3,.slice a4 m.paces.length p4,.int .i64 m.now] 32)).alloc (.cells #[.int .i64 st,.int .i64 be,.int .i64 rk,.int .i64 my,.int .i64 gu,.int .i64 lo,.int .i64 hi,.int .i64 hd,.int .i64 ca,.int .i64 ut,.int .i64 wk] 41)) (w.heap.size+1) 41 #[.int .i64 st,.int .i64 be,.int .i64 rk,.int .i64 my,.int .i64 gu,.int .i64 lo,.int .i64 hi,.int .i64 hd,.int .i64 ca,.int .i64 ut,.int .i64 wk]):=Z9 (by
  have k9:=Blk.new (w.alloc (.cells #[.slice a0 m.rooms.length p0,.slice a1 m.guilds.length p1,.slice (some ⟨sb,off,none⟩) m.smiths.length p2,.slice a3 m.desks.length p3,.slice a4 m.paces.length p4,.int .i64 m.now] 32)) 41 #[.int .i64 st,.int .i64 be,.int .i64 rk,.int .i64 my,.int .i64 gu,.int .i64 lo,.int .i64 hi,.int .i64 hd,.int .i64 ca,.int .i64 ut,.int .i64 wk]
  rw [World.size_alloc] at k9
  exact k9)
 have kb:Hid (Blk ((w.alloc (.cells #[.slice a0 m.rooms.length p0,.slice a1 m.guilds.length p1,.slice (some ⟨sb,off,none⟩) m.smiths.length p2,.slice a3 m.desks.length p3,.slice a4 m.paces.length p4,.int .i64 m.now] 32)).alloc (.cells #[.int .i64 st,.int .i64 be,.int .i64 rk,.int .i64 my,.int .i64 gu,.int .i64 lo,.int .i64 hi,.int .i64 hd,.int .i64 ca,.int .i64 ut,.int .i64 wk] 41)) w.heap.size 32 #[.slice a0 m.rooms.length p0,.slice a1 m.guilds.length p1,.slice (some ⟨sb,off,none⟩) m.smiths.length p2,.slice a3 m.desks.length p3,.slice a4 m.paces.length p4,.int .i64 m.now]):=Z9 ((Blk.new w _ _).alloc _)
 have Hg2:=Z9 ((uh Hg0).below (uh BB))
 go_enter Tryz.func63,Tryz.ntmps63
 go_upto_region 2 with fail
 generalize (w.alloc (.cells #[.slice a0 m.rooms.length p0,.slice a1 m.guilds.length p1,.slice (some ⟨sb,off,none⟩) m.smiths.length p2,.slice a3 m.desks.length p3,.slice a4 m.paces.length p4,.int .i64 m.now] 32)).alloc (.cells #[.int .i64 st,.int .i64 be,.int .i64 rk,.int .i64 my,.int .i64 gu,.int .i64 lo,.int .i64 hi,.int .i64 hd,.int .i64 ca,.int .i64 ut,.int .i64 wk] 41)=W at *
 clear d0 d1 d2 d3 d4 d5 d6 d7 d8 d9 d10
 have c1:=(uh kb).cell (i:=1) (v:= .slice a1 m.guilds.length p1) rfl
 have s4:=(uh ks).cell (i:=4) (v:= .int .i64 gu) rfl
 have s5:=(uh ks).cell (i:=5) (v:= .int .i64 lo) rfl
 have s6:=(uh ks).cell (i:=6) (v:= .int .i64 hi) rfl
 go_wp2_with fail
 refine (XN gu lo hi (uh Hg2)).mono ?_
 rw [uh HW]
 rintro e w1 ⟨rfl,hb⟩
 replace ks:=bl ks hb
 replace BB:=bt BB hb
 clear hb c1 s4 s5 s6 HW
 have s9:=(uh ks).cell (i:=9) (v:= .int .i64 ut) rfl
 go_wp2_with (go_at_call 127;refine (Qx _ _ _ _).mono ?_;rintro e w' ⟨rfl,h9⟩;subst w')
 go_ret
 exact ⟨rfl,uh BB⟩
end Go.Proofs.YtnponpamjddpjaaGreat
