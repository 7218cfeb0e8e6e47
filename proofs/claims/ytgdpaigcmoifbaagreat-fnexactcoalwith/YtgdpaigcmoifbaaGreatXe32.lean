/- Part 32 of what the proof rests on. No condition but those that a theorem names. -/
import Derived.Test.YtgdpaigcmoifbaaGreatXe28
import Derived.Test.YtgdpaigcmoifbaaGreatXe30
set_option maxHeartbeats 8000000
set_option maxRecDepth 100000
namespace Go.Proofs.YtgdpaigcmoifbaaGreat
open Go.ChangeShapes Go.WideShapes Go.ChangeAt Go.RowKit Go.Sort Go.Proofs.Tryz
set_option linter.unusedVariables false
theorem walkFnExactCoalWith (v0 v1 v2 v3 v4 : Value) (m : SmyV) (who bench : Int) (w : World) (h : Smy w v0 v1 v2 v3 v4 m) :
  cB 6 #[.agg #[v0, v1, v2, v3, v4, .int .i64 m.now], .int .i64 who, .int .i64 bench] w (.bool true) := by
 obtain ⟨q, Hq⟩ := alAn (coalWithOfV m who bench)
 have Hv := hide h
 obtain ⟨a0, p0, a1, p1, a2, p2, a3, p3, a4, p4, rfl, rfl, rfl, rfl, rfl, _, _, _, _, _, _, _, _, _, _⟩ := h.five
 clear h
 go_enter func6, ntmps6
 go_wp2_with fail
 refine (szSmithy_any ((uh Hv).alloc _)).mono ?_
 rintro e w1 ⟨x, rfl, hx, hb⟩
 have ka : Hid (Blk w1 w.heap.size 64 (S6 a0 p0 a1 p1 a2 p2 a3 p3 a4 p4 m)) := hide ((Blk.new w _ _).below hb (by simp))
 have BB : Hid (Below w.heap.size w w1) := hide (((ba _ _)).trans (hb.mono (by simp)))
 have Hx := hide hx
 clear hx hb
 by_cases hx0 : x < 0
 ·go_wp2_with fail
  go_ret
  exact ⟨rfl, uh BB⟩
 have Hs := hide (uh Hx (by omega))
 clear Hx
 obtain ⟨c0, c1, c2, c3, c4, c5⟩ := (uh ka).c6
 go_wp2_with fail
 refine (toSmithy_any ((uh Hv).below (uh BB)) (uh Hs)).mono ?_
 rintro e w2 ⟨u0, u1, u2, u3, u4, rfl, ho, hb⟩
 clear c0 c1 c2 c3 c4 c5
 have k2 := ho.smy
 obtain ⟨b0, q0, b1, q1, b2, q2, b3, q3, b4, q4, rfl, rfl, rfl, rfl, rfl, _, _, _, _, _, _, _, _, _, _⟩ := k2.five
 have K2 := hide k2
 clear k2 ho
 replace ka := bl ka hb
 replace BB := bt BB hb
 clear hb
 go_wp2_with fail
 refine ck (specCoalWith_any (uh Hq) (uh K2)) fun w3 hb => ?_
 replace ka := bl ka hb
 replace BB := bt BB hb
 clear hb K2
 obtain ⟨c0, c1, c2, c3, c4, c5⟩ := (uh ka).c6
 go_wp2_with fail
 refine (toSmithy_any ((uh Hv).below (uh BB)) (uh Hs)).mono ?_
 rintro e w4 ⟨u0, u1, u2, u3, u4, rfl, ho, hb⟩
 clear c0 c1 c2 c3 c4 c5
 have k4 := ho.smy
 obtain ⟨d0, r0, d1, r1, d2, r2, d3, r3, d4, r4, rfl, rfl, rfl, rfl, rfl, _, _, _, _, _, _, _, _, _, _⟩ := k4.five
 have K4 := hide (k4.alloc (.cells (S6 d0 r0 d1 r1 d2 r2 d3 r3 d4 r4 m) 32))
 clear k4 ho
 replace ka := bl ka hb
 replace BB := bt BB hb
 clear hb
 go_wp2_with fail
 replace ka := hide ((uh ka).alloc (.cells (S6 d0 r0 d1 r1 d2 r2 d3 r3 d4 r4 m) 32))
 replace BB := hide ((uh BB).alloc (uh BB).size (.cells (S6 d0 r0 d1 r1 d2 r2 d3 r3 d4 r4 m) 32))
 have kx : Hid (Blk (w4.alloc (.cells (S6 d0 r0 d1 r1 d2 r2 d3 r3 d4 r4 m) 32)) w4.heap.size 32 (S6 d0 r0 d1 r1 d2 r2 d3 r3 d4 r4 m)) := hide (Blk.new _ _ _)
 generalize w4.alloc (.cells (S6 d0 r0 d1 r1 d2 r2 d3 r3 d4 r4 m) 32) = W at *
 generalize w4.heap.size = xb at *
 refine ck (implCoalWith_any (uh Hq) (uh K4)) fun w5 hb => ?_
 replace K4 := hide ((uh K4).below hb)
 replace ka := bl ka hb
 replace kx := bl kx hb
 replace BB := bt BB hb
 clear hb
 have V5 := hide ((uh Hv).below (uh BB))
 obtain ⟨c0, c1, c2, c3, c4, c5⟩ := (uh ka).c6
 obtain ⟨x0, x1, x2, x3, x4, x5⟩ := (uh kx).c6
 go_wp2_with fail
 go_region_with (first
  | (go_at_call 42; refine (toSmithy_any (m := m) ?_ (uh Hs)).mono ?_; exact (uh V5).below (alBrf _ _).drew; rintro e w6 ⟨u0, u1, u2, u3, u4, rfl, ho, hb⟩; have k6 := ho.smy; obtain ⟨f0, t0, rfl, _, _⟩ := IsRooms.shape k6.rooms; obtain ⟨f1, t1, rfl, _, _⟩ := IsRec.shape k6.guilds; obtain ⟨f2, t2, rfl, _, _⟩ := IsRec.shape k6.smiths; obtain ⟨f3, t3, rfl, _, _⟩ := IsRec.shape k6.desks; obtain ⟨f4, t4, rfl, _, _⟩ := IsRec.shape k6.paces; have K6 := hide k6; have Hb6 : Hid (Below w5.heap.size w5 w6) := hide ⟨hb.os, hb.tape, hb.output, hb.size, hb.block⟩; have kx6 := (uh kx).below (uh Hb6) (uh kx).lt; have y0 := kx6.cell (i := 0) (v := .slice d0 m.rooms.length r0) rfl; have y1 := kx6.cell (i := 1) (v := .slice d1 m.guilds.length r1) rfl; have y2 := kx6.cell (i := 2) (v := .slice d2 m.smiths.length r2) rfl; have y3 := kx6.cell (i := 3) (v := .slice d3 m.desks.length r3) rfl; have y4 := kx6.cell (i := 4) (v := .slice d4 m.paces.length r4) rfl; have y5 := kx6.cell (i := 5) (v := .int .i64 m.now) rfl; clear k6 ho hb kx6)
  | (go_at_call 43; refine (eqSmithy_yes (m := m) ?_ ?_).mono ?_; exact (uh K4).below (uh Hb6); exact uh K6; rintro e w7 ⟨rfl, hb⟩; have Hb7 := hide hb; clear hb))
 all_goals
  go_wp2_with fail
  go_ret
  exact ⟨rfl, (uh BB).trans (((uh Hb6).trans ((uh Hb7).mono (uh Hb6).size)).mono (uh BB).size)⟩
end Go.Proofs.YtgdpaigcmoifbaaGreat
