/- Part 21 of what the proof rests on. No condition but those that a theorem names. -/
import Derived.Test.YtffcgajndmhpkaaGreatDoorXe20
import Derived.Deep.SlicePairs
import Derived.LaidMore
import Derived.Stop.Joined
import Derived.Stop.LaidErr
import Derived.Stop.LaidTwo
import Derived.LaidSub
import Derived.LaidHandle
set_option maxHeartbeats 8000000
set_option maxRecDepth 100000
namespace Go.Proofs.YtffcgajndmhpkaaGreatDoor
open Go.ChangeShapes Go.WideShapes Go.ChangeAt Go.RowKit Go.Sort
set_option linter.unusedVariables false
theorem tick_small (m : SmyV) (n : Int) : SmySmall (tickV m n).1 := by
 cases h : smyB m
 ·unfold tickV; rw [h]; exact zero_small
 ·exact right_small (tick_right h n)
theorem walkFnExactTicked_of {q : Int → Addr} (hS : (∀ (w : World) (v0 v1 v2 v3 v4 : Value) (m : SmyV) (n : Int), Smy w v0 v1 v2 v3 v4 m → Calls Tryz.prog 10 #[.agg #[v0, v1, v2, v3, v4, .int .i64 m.now], .int .i64 n] w fun e w' => GotM w.heap.size (tickV m n).1 (tickV m n).2 e w' ∧ Below w.heap.size w w')) (hI : (∀ (w : World) (v0 v1 v2 v3 v4 : Value) (m : SmyV) (n : Int), Errs w q → Smy w v0 v1 v2 v3 v4 m → Calls Tryz.prog 9 #[.agg #[v0, v1, v2, v3, v4, .int .i64 m.now], .int .i64 n] w fun e w' => GotM w.heap.size (tickV m n).1 (tickV m n).2 e w' ∧ Below w.heap.size w w')) (hlen : ∀ (m : SmyV) (n : Int), SmySmall (tickV m n).1) (v0 v1 v2 v3 v4 : Value) (m : SmyV) (n : Int) (w : World) (her : Errs w q) (h : Smy w v0 v1 v2 v3 v4 m) :
  Calls Tryz.prog 5 #[.agg #[v0, v1, v2, v3, v4, .int .i64 m.now], .int .i64 n] w fun e w' => e = .returned (.bool true) ∧ Below w.heap.size w w' := by
 have HEr := hide her
 clear her
 have HS := hide hS
 have HI := hide hI
 clear hS hI
 have Hv := hide h
 obtain ⟨a0, p0, a1, p1, a2, p2, a3, p3, a4, p4, rfl, rfl, rfl, rfl, rfl, _, _, _, _, _, _, _, _, _, _⟩ := h.five
 clear h
 have hLs := hide (hlen m n)
 have HS1 := hide (fun W u0 u1 u2 u3 u4 => uh HS W u0 u1 u2 u3 u4 m n)
 have HI1 := hide (fun W u0 u1 u2 u3 u4 => uh HI W u0 u1 u2 u3 u4 m n)
 clear HS HI hlen
 obtain ⟨⟨M, cd⟩, hM⟩ : ∃ x, tickV m n = x := ⟨_, rfl⟩
 rw [hM] at hLs HS1 HI1
 simp only at hLs HS1 HI1
 clear hM
 go_enter Tryz.func5, Tryz.ntmps5
 go_wp2_with fail
 refine (szSmithy_any ((uh Hv).alloc _)).mono ?_
 rintro e w1 ⟨x, rfl, hx, hb⟩
 have ka : Hid (Blk w1 w.heap.size 61 (S6 a0 p0 a1 p1 a2 p2 a3 p3 a4 p4 m)) := hide ((Blk.new w _ _).below hb (by simp))
 have BB : Hid (Below w.heap.size w w1) := hide (((ba _ _)).trans (hb.mono (by simp)))
 have Hx := hide hx
 clear hx hb
 by_cases hx0 : x < 0
 ·go_wp2_with fail
  go_ret
  exact ⟨rfl, uh BB⟩
 have Hs := hide (uh Hx (by omega))
 have HsM := hLs
 clear Hx hLs
 obtain ⟨c0, c1, c2, c3, c4, c5⟩ := (uh ka).c6
 go_wp2_with fail
 refine (toSmithy_any ((uh Hv).below (uh BB)) (uh Hs)).mono ?_
 rintro e w2 ⟨u0, u1, u2, u3, u4, rfl, ho, hb⟩
 clear c0 c1 c2 c3 c4 c5
 have k2 := ho.smy
 obtain ⟨b0, q0, b1, q1, b2, q2, b3, q3, b4, q4, rfl, rfl, rfl, rfl, rfl, _, _, _, _, _, _, _, _, _, _⟩ := k2.five
 have K2 := hide k2
 clear k2 ho
 replace ka := bl ka hb
 replace BB := bt BB hb
 have hw2 : w.heap.size < w2.heap.size := (uh ka).lt
 clear hb
 go_wp2_with fail
 refine (uh HS1 _ _ _ _ _ _ (uh K2)).mono ?_
 rintro e w3 ⟨⟨y0, y1, y2, y3, y4, uq, rfl, ho⟩, hb⟩
 have k9 := ho.smy
 obtain ⟨ua0, uc0, ua1, uc1, ua2, uc2, ua3, uc3, ua4, uc4, rfl, rfl, rfl, rfl, rfl, _, _, _, _, _, _, _, _, _, _⟩ := k9.five
 clear k9 K2
 replace ka := bl ka hb
 replace BB := bt BB hb
 have HU := hide ho
 have LU : Hid (∀ k, OwnB (.slice ua0 M.rooms.length uc0) (.slice ua1 M.guilds.length uc1) (.slice ua2 M.smiths.length uc2) (.slice ua3 M.desks.length uc3) (.slice ua4 M.paces.length uc4) uq k → w2.heap.size ≤ k ∧ k < w3.heap.size) := hide (fun k e => ho.own e)
 have hw3 : w.heap.size < w3.heap.size := (uh ka).lt
 clear ho hb
 go_upto_region 6 with fail
 have hba : Below w3.heap.size w3 (w3.alloc (.cells (S6 ua0 uc0 ua1 uc1 ua2 uc2 ua3 uc3 ua4 uc4 M) 32)) := ba _ _
 replace ka := bl ka hba
 replace HU := hide ((uh HU).below hba)
 replace BB := bt BB hba
 have ku : Hid (Blk (w3.alloc (.cells (S6 ua0 uc0 ua1 uc1 ua2 uc2 ua3 uc3 ua4 uc4 M) 32)) w3.heap.size 32 (S6 ua0 uc0 ua1 uc1 ua2 uc2 ua3 uc3 ua4 uc4 M)) := hide (Blk.new _ _ _)
 have hsz_W3 : w3.heap.size + 1 ≤ (w3.alloc (.cells (S6 ua0 uc0 ua1 uc1 ua2 uc2 ua3 uc3 ua4 uc4 M) 32)).heap.size := by simp
 clear hba
 generalize w3.alloc (.cells (S6 ua0 uc0 ua1 uc1 ua2 uc2 ua3 uc3 ua4 uc4 M) 32) = W3 at *
 generalize w3.heap.size = ub at *
 obtain ⟨c0, c1, c2, c3, c4, c5⟩ := (uh ka).c6
 go_wp2_with fail
 clear c0 c1 c2 c3 c4 c5
 refine (toSmithy_full ((uh Hv).below (uh BB)) (uh Hs)).mono ?_
 rintro e w4 ⟨z0, z1, z2, z3, z4, xq, rfl, ho, hb⟩
 have k4 := ho.smy
 obtain ⟨d0, r0, d1, r1, d2, r2, d3, r3, d4, r4, rfl, rfl, rfl, rfl, rfl, _, _, _, _, _, _, _, _, _, _⟩ := k4.five
 clear k4
 replace ka := bl ka hb
 replace HU := hide ((uh HU).below hb)
 replace ku := bl ku hb
 replace BB := bt BB hb
 have HX := hide ho
 have LX : Hid (∀ k, OwnB (.slice d0 m.rooms.length r0) (.slice d1 m.guilds.length r1) (.slice d2 m.smiths.length r2) (.slice d3 m.desks.length r3) (.slice d4 m.paces.length r4) xq k → ub < k ∧ k < w4.heap.size) := hide (fun k e => ⟨Nat.lt_of_lt_of_le (Nat.lt_of_succ_le hsz_W3) (ho.own e).1, (ho.own e).2⟩)
 have hw4 : ub + 1 ≤ w4.heap.size := Nat.le_trans hsz_W3 hb.size
 clear ho hb hsz_W3
 go_upto_region 7 with fail
 have hba : Below w4.heap.size w4 (w4.alloc (.cells (S6 d0 r0 d1 r1 d2 r2 d3 r3 d4 r4 m) 32)) := ba _ _
 replace ka := bl ka hba
 replace HU := hide ((uh HU).below hba)
 replace ku := bl ku hba
 replace HX := hide ((uh HX).below hba)
 replace BB := bt BB hba
 have kx : Hid (Blk (w4.alloc (.cells (S6 d0 r0 d1 r1 d2 r2 d3 r3 d4 r4 m) 32)) w4.heap.size 32 (S6 d0 r0 d1 r1 d2 r2 d3 r3 d4 r4 m)) := hide (Blk.new _ _ _)
 have hsz_W4 : w4.heap.size + 1 ≤ (w4.alloc (.cells (S6 d0 r0 d1 r1 d2 r2 d3 r3 d4 r4 m) 32)).heap.size := by simp
 clear hba
 generalize w4.alloc (.cells (S6 d0 r0 d1 r1 d2 r2 d3 r3 d4 r4 m) 32) = W4 at *
 generalize w4.heap.size = xb at *
 obtain ⟨x0, x1, x2, x3, x4, x5⟩ := (uh kx).c6
 go_wp2_with fail
 clear x0 x1 x2 x3 x4 x5
 refine (uh HI1 _ _ _ _ _ _ ((uh HEr).below (uh BB)) (uh HX).smy).mono ?_
 rintro e w5 ⟨⟨y0, y1, y2, y3, y4, gq, rfl, ho⟩, hb⟩
 have k9 := ho.smy
 obtain ⟨ga0, gc0, ga1, gc1, ga2, gc2, ga3, gc3, ga4, gc4, rfl, rfl, rfl, rfl, rfl, _, _, _, _, _, _, _, _, _, _⟩ := k9.five
 clear k9
 replace ka := bl ka hb
 replace HU := hide ((uh HU).below hb)
 replace ku := bl ku hb
 replace HX := hide ((uh HX).below hb)
 replace kx := bl kx hb
 replace BB := bt BB hb
 have HG := hide ho
 have LG : Hid (∀ k, OwnB (.slice ga0 M.rooms.length gc0) (.slice ga1 M.guilds.length gc1) (.slice ga2 M.smiths.length gc2) (.slice ga3 M.desks.length gc3) (.slice ga4 M.paces.length gc4) gq k → xb < k ∧ k < w5.heap.size) := hide (fun k e => ⟨Nat.lt_of_lt_of_le (Nat.lt_of_succ_le hsz_W4) (ho.own e).1, (ho.own e).2⟩)
 have hw5 : xb + 1 ≤ w5.heap.size := Nat.le_trans hsz_W4 hb.size
 clear ho hb hsz_W4
 obtain ⟨x0, x1, x2, x3, x4, x5⟩ := (uh ku).c6
 go_upto_region 8 with fail
 clear x0 x1 x2 x3 x4 x5
 have hba : Below w5.heap.size w5 (w5.alloc (.cells (S6 ga0 gc0 ga1 gc1 ga2 gc2 ga3 gc3 ga4 gc4 M) 32)) := ba _ _
 replace ka := bl ka hba
 replace HU := hide ((uh HU).below hba)
 replace ku := bl ku hba
 replace HX := hide ((uh HX).below hba)
 replace kx := bl kx hba
 replace HG := hide ((uh HG).below hba)
 replace BB := bt BB hba
 have kg : Hid (Blk (w5.alloc (.cells (S6 ga0 gc0 ga1 gc1 ga2 gc2 ga3 gc3 ga4 gc4 M) 32)) w5.heap.size 32 (S6 ga0 gc0 ga1 gc1 ga2 gc2 ga3 gc3 ga4 gc4 M)) := hide (Blk.new _ _ _)
 have hsz_W5 : w5.heap.size + 1 ≤ (w5.alloc (.cells (S6 ga0 gc0 ga1 gc1 ga2 gc2 ga3 gc3 ga4 gc4 M) 32)).heap.size := by simp
 clear hba
 generalize w5.alloc (.cells (S6 ga0 gc0 ga1 gc1 ga2 gc2 ga3 gc3 ga4 gc4 M) 32) = W5 at *
 generalize w5.heap.size = gb at *
 clear hsz_W5
 obtain ⟨x0, x1, x2, x3, x4, x5⟩ := (uh ku).c6
 obtain ⟨y0, y1, y2, y3, y4, y5⟩ := (uh kg).c6
 go_wp2_with fail
 clear x0 x1 x2 x3 x4 x5 y0 y1 y2 y3 y4 y5
 refine ck (eqSmithy_yes (uh HG).smy (uh HU).smy) fun w6 hb => ?_
 replace ka := bl ka hb
 replace HU := hide ((uh HU).below hb)
 replace ku := bl ku hb
 replace HX := hide ((uh HX).below hb)
 replace kx := bl kx hb
 replace HG := hide ((uh HG).below hb)
 replace kg := bl kg hb
 replace BB := bt BB hb
 clear hb
 obtain ⟨c0, c1, c2, c3, c4, c5⟩ := (uh ka).c6
 obtain ⟨x0, x1, x2, x3, x4, x5⟩ := (uh kx).c6
 have V6 := hide ((uh Hv).below (uh BB))
 go_upto_region 10 with fail
 go_cut [49] (fun s wc => s = .bool false ∧ Below w6.heap.size w6 wc)
 case first =>
  go_region_with (first
   | (go_at_call 26; refine (toSmithy_any (m := m) ?_ (uh Hs)).mono ?_; exact (uh V6).below (Below.refl _ _).drew; rintro e w7 ⟨t0, t1, t2, t3, t4, rfl, ho, hb⟩; have k7 := ho.smy; obtain ⟨f0, j0, rfl, _, _⟩ := IsRooms.shape k7.rooms; obtain ⟨f1, j1, rfl, _, _⟩ := IsRec.shape k7.guilds; obtain ⟨f2, j2, rfl, _, _⟩ := IsRec.shape k7.smiths; obtain ⟨f3, j3, rfl, _, _⟩ := IsRec.shape k7.desks; obtain ⟨f4, j4, rfl, _, _⟩ := IsRec.shape k7.paces; have K7 := hide k7; have Hb7 : Hid (Below w6.heap.size w6 w7) := hide ⟨hb.os, hb.tape, hb.output, hb.size, hb.block⟩; have kx7 := (uh kx).below (uh Hb7) (uh kx).lt; have y0 := kx7.cell (i := 0) (v := .slice d0 m.rooms.length r0) rfl; have y1 := kx7.cell (i := 1) (v := .slice d1 m.guilds.length r1) rfl; have y2 := kx7.cell (i := 2) (v := .slice d2 m.smiths.length r2) rfl; have y3 := kx7.cell (i := 3) (v := .slice d3 m.desks.length r3) rfl; have y4 := kx7.cell (i := 4) (v := .slice d4 m.paces.length r4) rfl; have y5 := kx7.cell (i := 5) (v := .int .i64 m.now) rfl; clear k7 ho hb kx7)
   | (go_at_call 27; refine (eqSmithy_yes (m := m) ?_ ?_).mono ?_; exact ((uh HX).below (uh Hb7)).smy; exact uh K7; rintro e w8 ⟨rfl, hb⟩; have Hb8 := hide hb; clear hb))
  all_goals
   go_wp2_with fail
   go_meet
   exact ⟨rfl, (uh Hb7).trans ((uh Hb8).mono (uh Hb7).size)⟩
 case rest =>
  obtain ⟨rfl, hb⟩ := hcut
  obtain ⟨w8, rfl⟩ : ∃ x, x = wc := ⟨wc, rfl⟩
  clear c0 c1 c2 c3 c4 c5 x0 x1 x2 x3 x4 x5
  replace ka := bl ka hb
  replace HU := hide ((uh HU).below hb)
  replace ku := bl ku hb
  replace HX := hide ((uh HX).below hb)
  replace kx := bl kx hb
  replace HG := hide ((uh HG).below hb)
  replace kg := bl kg hb
  replace BB := bt BB hb
  clear hb V6
  obtain ⟨x0, x1, x2, x3, x4, x5⟩ := (uh kx).c6
  go_wp2_with fail
  clear x0 x1 x2 x3 x4 x5
  refine (markSmithy_any 1 ((uh HX).mono (n₁ := 0) (Nat.zero_le _)) (uh Hs) (Nat.zero_le _) (by omega) (by omega)).mono ?_
  rintro e w9 ⟨rfl, _, hon⟩
  have hen := endM_bd (uh Hs) (uh HX).rooms
  generalize endM 1 m xq = em at *
  have hwle := (uh BB).size
  replace HU := hide ((uh HU).keep fun k e => hon.at ((uh HU).own e).2 fun e9 => by have h1 := uh LU k e; have h2 := uh LX k e9; omega)
  replace HG := hide ((uh HG).keep fun k e => hon.at ((uh HG).own e).2 fun e9 => by have h1 := uh LG k e; have h2 := uh LX k e9; omega)
  replace ku := hide ((uh ku).same (hon.at (uh ku).lt fun e9 => by have h2 := uh LX _ e9; omega))
  replace kg := hide ((uh kg).same (hon.at (uh kg).lt fun e9 => by have h2 := uh LX _ e9; omega))
  replace ka := hide ((uh ka).same (hon.at (uh ka).lt fun e9 => by have h2 := uh LX _ e9; omega))
  replace BB := hide ((uh BB).trans (hon.below hwle (fun k e => by have h2 := uh LX k e; omega)))
  clear hon kx HX hwle
  have hk0 : ¬ em < 0 := by omega
  obtain ⟨x0, x1, x2, x3, x4, x5⟩ := (uh ku).c6
  obtain ⟨y0, y1, y2, y3, y4, y5⟩ := (uh kg).c6
  go_wp2_with fail
  clear x0 x1 x2 x3 x4 x5 y0 y1 y2 y3 y4 y5
  refine ck (eqSmithy_yes (uh HG).smy (uh HU).smy) fun w10 hb => ?_
  replace ka := bl ka hb
  replace HU := hide ((uh HU).below hb)
  replace ku := bl ku hb
  replace HG := hide ((uh HG).below hb)
  replace kg := bl kg hb
  replace BB := bt BB hb
  clear hb
  obtain ⟨y0, y1, y2, y3, y4, y5⟩ := (uh kg).c6
  go_wp2_with fail
  clear y0 y1 y2 y3 y4 y5
  refine (markSmithy_any 1 ((uh HG).mono (n₁ := 0) (Nat.zero_le _)) (uh HsM) (Nat.zero_le _) (by omega) (by omega)).mono ?_
  rintro e w11 ⟨rfl, hgm, hon⟩
  have hgr := (uh HG).rooms
  have hen2 := endM_bd (uh HsM) hgr
  have hwle := (uh BB).size
  replace HU := hide ((uh HU).keep fun k e => hon.at ((uh HU).own e).2 fun e9 => by have h1 := uh LU k e; have h2 := uh LG k e9; omega)
  replace ku := hide ((uh ku).same (hon.at (uh ku).lt fun e9 => by have h2 := uh LG _ e9; omega))
  replace kg := hide ((uh kg).same (hon.at (uh kg).lt fun e9 => by have h2 := uh LG _ e9; omega))
  replace ka := hide ((uh ka).same (hon.at (uh ka).lt fun e9 => by have h2 := uh LG _ e9; omega))
  replace BB := hide ((uh BB).trans (hon.below hwle (fun k e => by have h2 := uh LG k e; omega)))
  replace HG := hide hgm
  have Hgr := hide hgr
  clear hgm hon hwle hgr
  obtain ⟨y0, y1, y2, y3, y4, y5⟩ := (uh kg).c6
  go_wp2_with fail
  clear y0 y1 y2 y3 y4 y5
  refine ck (heldSmithy_yes 1 (uh HG) (uh HsM).rooms (uh Hgr) (uh HsM) (by omega) (by omega)) fun w12 hb => ?_
  replace ka := bl ka hb
  replace HU := hide ((uh HU).below hb)
  replace ku := bl ku hb
  replace HG := hide ((uh HG).below hb)
  replace kg := bl kg hb
  replace BB := bt BB hb
  clear hb
  have Hen2 := hide hen2
  obtain ⟨en, hene⟩ : ∃ x, endM 1 M gq = x := ⟨_, rfl⟩
  have hnn : ¬ en < 0 := by rw [← hene]; omega
  have Hene := hide hene
  rw [hene]
  clear hene hen2
  obtain ⟨c0, c1, c2, c3, c4, c5⟩ := (uh ka).c6
  go_wp2_with fail
  clear c0 c1 c2 c3 c4 c5
  refine (toSmithy_any ((uh Hv).below (uh BB)) (uh Hs)).mono ?_
  rintro e w13 ⟨s0, s1, s2, s3, s4, rfl, ho, hb⟩
  have k13 := ho.smy
  obtain ⟨f0, j0, f1, j1, f2, j2, f3, j3, f4, j4, rfl, rfl, rfl, rfl, rfl, _, _, _, _, _, _, _, _, _, _⟩ := k13.five
  have K13 := hide k13
  clear k13 ho
  replace ka := bl ka hb
  replace HU := hide ((uh HU).below hb)
  replace ku := bl ku hb
  replace HG := hide ((uh HG).below hb)
  replace kg := bl kg hb
  replace BB := bt BB hb
  clear hb
  go_wp2_with fail
  refine (uh HI1 _ _ _ _ _ _ ((uh HEr).below (uh BB)) (uh K13)).mono ?_
  rintro e w14 ⟨⟨y0, y1, y2, y3, y4, hq, rfl, ho⟩, hb⟩
  have k9 := ho.smy
  obtain ⟨ha0, hc0, ha1, hc1, ha2, hc2, ha3, hc3, ha4, hc4, rfl, rfl, rfl, rfl, rfl, _, _, _, _, _, _, _, _, _, _⟩ := k9.five
  clear ho K13
  replace ka := bl ka hb
  replace HU := hide ((uh HU).below hb)
  replace ku := bl ku hb
  replace HG := hide ((uh HG).below hb)
  replace kg := bl kg hb
  replace BB := bt BB hb
  have HH := hide k9
  clear k9 hb
  go_upto_region 25 with fail
  have hba : Below w14.heap.size w14 (w14.alloc (.cells (S6 ha0 hc0 ha1 hc1 ha2 hc2 ha3 hc3 ha4 hc4 M) 32)) := ba _ _
  replace ka := bl ka hba
  replace HU := hide ((uh HU).below hba)
  replace ku := bl ku hba
  replace HG := hide ((uh HG).below hba)
  replace kg := bl kg hba
  replace HH := hide ((uh HH).below hba)
  replace BB := bt BB hba
  have kh : Hid (Blk (w14.alloc (.cells (S6 ha0 hc0 ha1 hc1 ha2 hc2 ha3 hc3 ha4 hc4 M) 32)) w14.heap.size 32 (S6 ha0 hc0 ha1 hc1 ha2 hc2 ha3 hc3 ha4 hc4 M)) := hide (Blk.new _ _ _)
  have hsz_W14 : w14.heap.size + 1 ≤ (w14.alloc (.cells (S6 ha0 hc0 ha1 hc1 ha2 hc2 ha3 hc3 ha4 hc4 M) 32)).heap.size := by simp
  clear hba
  generalize w14.alloc (.cells (S6 ha0 hc0 ha1 hc1 ha2 hc2 ha3 hc3 ha4 hc4 M) 32) = W14 at *
  generalize w14.heap.size = hb2 at *
  clear hsz_W14
  obtain ⟨x0, x1, x2, x3, x4, x5⟩ := (uh ku).c6
  obtain ⟨y0, y1, y2, y3, y4, y5⟩ := (uh kh).c6
  go_wp2_with fail
  clear x0 x1 x2 x3 x4 x5 y0 y1 y2 y3 y4 y5
  refine ck (eqSmithy_yes (uh HH) (uh HU).smy) fun w15 hb => ?_
  replace ka := bl ka hb
  replace HU := hide ((uh HU).below hb)
  replace ku := bl ku hb
  replace HG := hide ((uh HG).below hb)
  replace kg := bl kg hb
  replace HH := hide ((uh HH).below hb)
  replace kh := bl kh hb
  replace BB := bt BB hb
  clear hb
  obtain ⟨y0, y1, y2, y3, y4, y5⟩ := (uh kg).c6
  go_wp2_with fail
  clear y0 y1 y2 y3 y4 y5
  refine (heldSmithy_yes 1 (uh HG) (uh HsM).rooms (uh Hgr) (uh HsM) (by omega) (by omega)).mono ?_
  rw [uh Hene]
  rintro e w16 ⟨rfl, hb⟩
  replace ka := bl ka hb
  replace HU := hide ((uh HU).below hb)
  replace ku := bl ku hb
  replace HG := hide ((uh HG).below hb)
  replace kg := bl kg hb
  replace HH := hide ((uh HH).below hb)
  replace kh := bl kh hb
  replace BB := bt BB hb
  clear hb
  go_wp2_with fail
  go_ret
  exact ⟨rfl, uh BB⟩
theorem walkFnExactTicked (v0 v1 v2 v3 v4 : Value) (m : SmyV) (n : Int) (w : World) (h : Smy w v0 v1 v2 v3 v4 m) (her : ∃ q, Errs w q) :
  Calls Tryz.prog 5 #[.agg #[v0, v1, v2, v3, v4, .int .i64 m.now], .int .i64 n] w fun e w' => e = .returned (.bool true) ∧ Below w.heap.size w w' := by
 obtain ⟨q, he⟩ := her
 exact walkFnExactTicked_of (fun _ _ _ _ _ _ _ n h => specTicked_any n h) (fun _ _ _ _ _ _ _ n he h => implTicked_any n he h) (fun m n => tick_small m n) v0 v1 v2 v3 v4 m n w he h
open Go.ChangeShapes Go.WideShapes Go.ChangeAt Go.RowKit Go.Deep
theorem addr_two {w : World} {b off i : Nat} {u u' : Value} (h1 : w.cell? ((⟨b, off, none⟩ : Addr).add (i * 2)) = some u) (h2 : w.cell? ((⟨b, off, none⟩ : Addr).add (i * 2 + 1)) = some u') :
  w.cell? ⟨b, off + i * 2, none⟩ = some u ∧ w.cell? ⟨b, off + i * 2 + 1, none⟩ = some u' := by
 by_cases hi : i = 0
 ·subst hi
  simp [Addr.add] at h1 h2 ⊢
  exact ⟨h1, h2⟩
 ·have h2i : ¬ i * 2 = 0 := by omega
  simp [Addr.add, h2i] at h1 h2 ⊢
  exact ⟨h1, h2⟩
theorem open_paces {H : Type} {enc : TypeId × Value → H} {W : World} {spare : Nat → Bool} {held : Bool} {n : Nat} {v : Value} {y : DataW H × List MemPlace}
  (h : DataW.trod enc Tryz.prog W 0 spare held n 207 [v] = some y) : ∃ ps, IsPaces W v ps := by
 rcases open_slice_pairs Tryz.underlying207 Tryz.underlying282 (by kernel_rfl) rfl rfl (by kernel_rfl) (by kernel_rfl) h with ⟨hv, _⟩ | ⟨a, len, cap, m, n', V0, V1, D0, D1, P0, P1, hv, _, hl, hm, hmm, _, hx⟩
 ·cases hv
  exact ⟨[], none, 0, rfl, Nat.le_refl _, by omega, .inl rfl⟩
 ·cases hv
  have hlm : len ≤ m := by rw [hmm]; split <;> omega
  obtain ⟨F, hF⟩ := choose_lt (α := Int × Int) (n := len) (p := fun i q => V0 i = .int .i64 q.1 ∧ V1 i = .int .i64 q.2) (fun i hi => by
   obtain ⟨_, _, t0, t1⟩ := hx i (by omega)
   obtain ⟨q0, e0, _⟩ := DataW.trod_int Tryz.underlying2 t0
   obtain ⟨q1, e1, _⟩ := DataW.trod_int Tryz.underlying2 t1
   exact ⟨(q0, q1), by simpa using e0, by simpa using e1⟩)
  have hlen : ((List.range len).map F).length = len := by simp
  refine ⟨(List.range len).map F, some a, cap, by rw [hlen], by rw [hlen]; exact hl, by unfold maxLen at hm; omega, ?_⟩
  by_cases hz : len = 0
  ·exact .inl (by simp [hz])
  ·have h0 := hx 0 (by omega)
   have sp := World.cell?_spot h0.1
   have hlt := World.block_lt_of_cell? _ _ h0.1
   obtain ⟨b, off, spot⟩ := a
   have hspot : spot = none := by simpa [Addr.add] using sp
   subst hspot
   refine .inr ⟨b, off, rfl, by simpa [Addr.add] using hlt, fun k hk => ?_⟩
   rw [hlen] at hk
   obtain ⟨c0, c1, _, _⟩ := hx k (by omega)
   obtain ⟨e0, e1⟩ := hF k hk
   have hat : paceAt ((List.range len).map F) k = F k := by unfold paceAt; simp [List.getD, hk]
   rw [hat, ← e0, ← e1]
   exact addr_two c0 c1
theorem open_rooms {H : Type} {enc : TypeId × Value → H} {W : World} {spare : Nat → Bool} {held : Bool} {n : Nat} {v : Value} {y : DataW H × List MemPlace}
  (h : DataW.trod enc Tryz.prog W 0 spare held n 54 [v] = some y) : ∃ rs, IsRooms W v rs := by
 rcases open_slice_pairs Tryz.underlying54 Tryz.underlying209 (by kernel_rfl) rfl rfl (by kernel_rfl) (by kernel_rfl) h with ⟨hv, _⟩ | ⟨a, len, cap, m, n', V0, V1, D0, D1, P0, P1, hv, _, hl, hm, hmm, _, hx⟩
 ·cases hv
  exact ⟨[], none, 0, rfl, Nat.le_refl _, by omega, .inl rfl⟩
 ·cases hv
  have hlm : len ≤ m := by rw [hmm]; split <;> omega
  obtain ⟨F, hF⟩ := choose_lt (α := RoomV) (n := len) (p := fun i q => V0 i = .int .i64 q.1 ∧ IsPaces W (V1 i) q.2) (fun i hi => by
   obtain ⟨_, _, t0, t1⟩ := hx i (by omega)
   obtain ⟨q0, e0, _⟩ := DataW.trod_int Tryz.underlying2 t0
   obtain ⟨ps, e1⟩ := open_paces t1
   exact ⟨(q0, ps), by simpa using e0, e1⟩)
  have hlen : ((List.range len).map F).length = len := by simp
  refine ⟨(List.range len).map F, some a, cap, by rw [hlen], by rw [hlen]; exact hl, by unfold maxLen at hm; omega, ?_⟩
  by_cases hz : len = 0
  ·exact .inl (by simp [hz])
  ·have h0 := hx 0 (by omega)
   have sp := World.cell?_spot h0.1
   have hlt := World.block_lt_of_cell? _ _ h0.1
   obtain ⟨b, off, spot⟩ := a
   have hspot : spot = none := by simpa [Addr.add] using sp
   subst hspot
   refine .inr ⟨b, off, rfl, by simpa [Addr.add] using hlt, fun k hk => ?_⟩
   rw [hlen] at hk
   obtain ⟨c0, c1, _, _⟩ := hx k (by omega)
   obtain ⟨e0, e1⟩ := hF k hk
   have hat : roomAt ((List.range len).map F) k = F k := by unfold roomAt; simp [List.getD, hk]
   rw [hat, ← e0]
   exact ⟨(addr_two c0 c1).1, V1 k, (addr_two c0 c1).2, e1⟩
theorem trod_guilds {H : Type} {enc : TypeId × Value → H} {W : World} {spare : Nat → Bool} {held : Bool} {n : Nat} {v : Value} {y : DataW H × List MemPlace}
  (h : DataW.trod enc Tryz.prog W 0 spare held n 57 [v] = some y) : ∃ ps, IsGuilds W v ps := by
 refine open_recs (k := 3) (enc := encGuild) Tryz.underlying57 Tryz.underlying156 (by kernel_rfl) rfl (by kernel_rfl) (by omega) ?_ h
 intro cs hl hc
 match cs, hl with
 | [c0, c1, c2], _ =>
  obtain ⟨u0, n0, y0, e0, t0⟩ := hc 0 _ rfl
  obtain ⟨u1, n1, y1, e1, t1⟩ := hc 1 _ rfl
  obtain ⟨u2, n2, y2, e2, t2⟩ := hc 2 _ rfl
  obtain ⟨z0, q0, _⟩ := DataW.trod_int Tryz.underlying2 t0
  obtain ⟨z1, q1, _⟩ := DataW.trod_int Tryz.underlying2 t1
  obtain ⟨z2, q2, _⟩ := DataW.trod_int Tryz.underlying2 t2
  cases e0; cases e1; cases e2; cases q0; cases q1; cases q2
  exact ⟨(z0, z1, z2), rfl⟩
theorem trod_smiths {H : Type} {enc : TypeId × Value → H} {W : World} {spare : Nat → Bool} {held : Bool} {n : Nat} {v : Value} {y : DataW H × List MemPlace}
  (h : DataW.trod enc Tryz.prog W 0 spare held n 58 [v] = some y) : ∃ ps, IsSmiths W v ps := by
 refine open_recs (k := 11) (enc := encSmith) Tryz.underlying58 Tryz.underlying158 (by kernel_rfl) rfl (by kernel_rfl) (by omega) ?_ h
 intro cs hl hc
 match cs, hl with
 | [c0, c1, c2, c3, c4, c5, c6, c7, c8, c9, c10], _ =>
  obtain ⟨u0, n0, y0, e0, t0⟩ := hc 0 _ rfl
  obtain ⟨u1, n1, y1, e1, t1⟩ := hc 1 _ rfl
  obtain ⟨u2, n2, y2, e2, t2⟩ := hc 2 _ rfl
  obtain ⟨u3, n3, y3, e3, t3⟩ := hc 3 _ rfl
  obtain ⟨u4, n4, y4, e4, t4⟩ := hc 4 _ rfl
  obtain ⟨u5, n5, y5, e5, t5⟩ := hc 5 _ rfl
  obtain ⟨u6, n6, y6, e6, t6⟩ := hc 6 _ rfl
  obtain ⟨u7, n7, y7, e7, t7⟩ := hc 7 _ rfl
  obtain ⟨u8, n8, y8, e8, t8⟩ := hc 8 _ rfl
  obtain ⟨u9, n9, y9, e9, t9⟩ := hc 9 _ rfl
  obtain ⟨u10, n10, y10, e10, t10⟩ := hc 10 _ rfl
  obtain ⟨z0, q0, _⟩ := DataW.trod_int Tryz.underlying2 t0
  obtain ⟨z1, q1, _⟩ := DataW.trod_int Tryz.underlying2 t1
  obtain ⟨z2, q2, _⟩ := DataW.trod_int Tryz.underlying2 t2
  obtain ⟨z3, q3, _⟩ := DataW.trod_int Tryz.underlying2 t3
  obtain ⟨z4, q4, _⟩ := DataW.trod_int Tryz.underlying2 t4
  obtain ⟨z5, q5, _⟩ := DataW.trod_int Tryz.underlying2 t5
  obtain ⟨z6, q6, _⟩ := DataW.trod_int Tryz.underlying2 t6
  obtain ⟨z7, q7, _⟩ := DataW.trod_int Tryz.underlying2 t7
  obtain ⟨z8, q8, _⟩ := DataW.trod_int Tryz.underlying2 t8
  obtain ⟨z9, q9, _⟩ := DataW.trod_int Tryz.underlying2 t9
  obtain ⟨z10, q10, _⟩ := DataW.trod_int Tryz.underlying2 t10
  cases e0; cases e1; cases e2; cases e3; cases e4; cases e5; cases e6; cases e7; cases e8; cases e9; cases e10; cases q0; cases q1; cases q2; cases q3; cases q4; cases q5; cases q6; cases q7; cases q8; cases q9; cases q10
  exact ⟨(z0, z1, z2, z3, z4, z5, z6, z7, z8, z9, z10), rfl⟩
theorem trod_desks {H : Type} {enc : TypeId × Value → H} {W : World} {spare : Nat → Bool} {held : Bool} {n : Nat} {v : Value} {y : DataW H × List MemPlace}
  (h : DataW.trod enc Tryz.prog W 0 spare held n 59 [v] = some y) : ∃ ps, IsDesks W v ps := by
 refine open_recs (k := 3) (enc := encDesk) Tryz.underlying59 Tryz.underlying160 (by kernel_rfl) rfl (by kernel_rfl) (by omega) ?_ h
 intro cs hl hc
 match cs, hl with
 | [c0, c1, c2], _ =>
  obtain ⟨u0, n0, y0, e0, t0⟩ := hc 0 _ rfl
  obtain ⟨u1, n1, y1, e1, t1⟩ := hc 1 _ rfl
  obtain ⟨u2, n2, y2, e2, t2⟩ := hc 2 _ rfl
  obtain ⟨z0, q0, _⟩ := DataW.trod_bool Tryz.underlying4 t0
  obtain ⟨z1, q1, _⟩ := DataW.trod_int Tryz.underlying2 t1
  obtain ⟨z2, q2, _⟩ := DataW.trod_int Tryz.underlying2 t2
  cases e0; cases e1; cases e2; cases q0; cases q1; cases q2
  exact ⟨(z0, z1, z2), rfl⟩
theorem open_smithy {H : Type} {enc : TypeId × Value → H} {W : World} {spare : Nat → Bool} {held : Bool} {r : Reach} {b0 : Nat} {v : Value} {d : DataW H} {p : List MemPlace}
  (hv : Value.okWide Tryz.prog W r b0 61 v) (h : DataW.Trod enc Tryz.prog W 0 spare held 61 v d p) : ∃ v0 v1 v2 v3 v4 m, v = .agg #[v0, v1, v2, v3, v4, .int .i64 m.now] ∧ Smy W v0 v1 v2 v3 v4 m := by
 obtain ⟨cs, rfl, hsz⟩ := okWide_struct Tryz.underlying61 hv
 have h1 : cs.size = 6 := hsz.trans (by kernel_rfl)
 obtain ⟨l⟩ := cs
 match l, h1 with
 | [c0, c1, c2, c3, c4, c5], _ =>
  obtain ⟨fuel, hf⟩ := h
  obtain ⟨xs, n, _, _, hl, hxl, hF⟩ := DataW.trod_struct Tryz.underlying61 hf
  have k1 : Tryz.prog.cellsOf 56 = 1 := by kernel_rfl
  have k2 : Tryz.prog.cellsOf 57 = 1 := by kernel_rfl
  have k3 : Tryz.prog.cellsOf 58 = 1 := by kernel_rfl
  have k4 : Tryz.prog.cellsOf 59 = 1 := by kernel_rfl
  have k5 : Tryz.prog.cellsOf 30 = 1 := by kernel_rfl
  have k6 : Tryz.prog.cellsOf 2 = 1 := by kernel_rfl
  match xs, hxl with
  | [y0, y1, y2, y3, y4, y5], _ =>
   have g0 := hF 0 _ rfl
   have g1 := hF 1 _ rfl
   have g2 := hF 2 _ rfl
   have g3 := hF 3 _ rfl
   have g4 := hF 4 _ rfl
   have g5 := hF 5 _ rfl
   simp [Value.cells, k1] at g0
   simp [Value.cells, k2] at g1
   simp [Value.cells, k3] at g2
   simp [Value.cells, k4] at g3
   simp [Value.cells, k5] at g4
   simp [Value.cells, k6] at g5
   obtain ⟨z0, n', _, _, h0⟩ := trod_struct1 Tryz.underlying56 g0
   have kr : Tryz.prog.cellsOf 54 = 1 := by kernel_rfl
   obtain ⟨rs, hr⟩ := open_rooms (v := c0) (by simpa [kr] using h0)
   obtain ⟨gs, hg⟩ := trod_guilds g1
   obtain ⟨ss, hs⟩ := trod_smiths g2
   obtain ⟨ds, hd⟩ := trod_desks g3
   obtain ⟨ps, hp⟩ := open_nums g4
   obtain ⟨now, e, _⟩ := DataW.trod_int Tryz.underlying2 g5
   cases e
   exact ⟨c0, c1, c2, c3, c4, ⟨rs, gs, ss, ds, ps, now⟩, rfl, ⟨hr, hg, hs, hd, hp⟩⟩
open Go.ChangeShapes Go.WideShapes Go.ChangeAt Go.RowKit
set_option maxRecDepth 100000
theorem star : "*" ++ "errors.errorString" = "*errors.errorString" := by decide
theorem rowErr (u : TypeId) (h : Tryz.prog.typeName? 3 u = some "*errors.errorString") : u = 320 :=
 typeName_ptr_named (nm := "errors.errorString") (by rw [star]; kernel_rfl) (by kernel_rfl) (by decide) u (by rw [star]; exact h)
theorem rowT : (Tryz.prog.cutTypes.find? (·.1 == "internal/reflectlite.rtype")).map (·.2) = some 222 := by kernel_rfl
theorem rowOne : ((List.range Tryz.prog.types.size).filter fun t => Tryz.prog.rowNamed t [101, 114, 114, 111, 114]) = [74] := by kernel_rfl
theorem gType : Tryz.prog.globalNamed "errors.errorType" = some 2 := by kernel_rfl
theorem sent_inj {a b : Addr} {x : Option (Array Value)} (h : x = some #[sent a]) (k : x = some #[sent b]) : a = b := by
 rw [h] at k
 simpa using k
theorem one_sent {n : String} {g : Nat} {text : List UInt8} {r : List (String × DataW Unit)} {W : World} (h : laidMet Tryz.prog ((n, .iface "*errors.errorString" (.ptr (.agg [.lit (.string text)]))) :: r) W)
  (hg : Tryz.prog.globalNamed n = some g) (ht : (Tryz.prog.globals[g]?).map (·.type) = some 74) : ∃ a, W.var? Tryz.prog n = some #[sent a] ∧ W.cell? ⟨g, 0, none⟩ = some (sent a) := by
 obtain ⟨a, s, hv, _⟩ := laid_sentinel h hg ht Tryz.underlying74 rowErr Tryz.underlying320 Tryz.underlying351 rfl rfl Tryz.underlying9 (by kernel_rfl) (by kernel_rfl)
 exact ⟨a, hv, by rw [World.var?_cell hg hv 0]; rfl⟩
theorem two_sent {n0 n1 : String} {g0 g1 : Nat} {text0 text1 : List UInt8} {r : List (String × DataW Unit)} {W : World} {a0 a1 : Addr} (h : laidMet Tryz.prog ((n0, .iface "*errors.errorString" (.ptr (.agg [.lit (.string text0)]))) :: (n1, .iface "*errors.errorString" (.ptr (.agg [.lit (.string text1)]))) :: r) W)
  (hg0 : Tryz.prog.globalNamed n0 = some g0) (ht0 : (Tryz.prog.globals[g0]?).map (·.type) = some 74) (hg1 : Tryz.prog.globalNamed n1 = some g1) (ht1 : (Tryz.prog.globals[g1]?).map (·.type) = some 74)
  (v0 : W.var? Tryz.prog n0 = some #[sent a0]) (v1 : W.var? Tryz.prog n1 = some #[sent a1]) : a0 ≠ a1 ∧ (∃ c t, W.heap[a0.block]? = some (.cells c t (0, 0))) ∧ (∃ c t, W.heap[a1.block]? = some (.cells c t (0, 0))) := by
 obtain ⟨b0, b1, s0, s1, c0, c1, t0, t1, hv0, hv1, _, _, _, _, _, _, hne, hb0, hb1⟩ := laid_sentinels2 h hg0 ht0 hg1 ht1 Tryz.underlying74 rowErr Tryz.underlying320 Tryz.underlying351 rfl rfl Tryz.underlying9 (by kernel_rfl) (by kernel_rfl)
 obtain rfl := sent_inj hv0 v0
 obtain rfl := sent_inj hv1 v1
 exact ⟨hne, ⟨c0, t0, hb0⟩, ⟨c1, t1, hb1⟩⟩
theorem g_errNone : Tryz.prog.globalNamed "loop.example/g00553/impl.errNone" = some 1 := by kernel_rfl
theorem t_errNone : (Tryz.prog.globals[1]?).map (·.type) = some 74 := by kernel_rfl
theorem g_errState : Tryz.prog.globalNamed "loop.example/g00553/impl.errState" = some 3 := by kernel_rfl
theorem t_errState : (Tryz.prog.globals[3]?).map (·.type) = some 74 := by kernel_rfl
theorem g_errRange : Tryz.prog.globalNamed "loop.example/g00553/impl.errRange" = some 0 := by kernel_rfl
theorem t_errRange : (Tryz.prog.globals[0]?).map (·.type) = some 74 := by kernel_rfl
theorem g_errFull : Tryz.prog.globalNamed "loop.example/g00553/impl.errFull" = some 4 := by kernel_rfl
theorem t_errFull : (Tryz.prog.globals[4]?).map (·.type) = some 74 := by kernel_rfl
theorem g_errLast : Tryz.prog.globalNamed "loop.example/g00553/impl.errLast" = some 5 := by kernel_rfl
theorem t_errLast : (Tryz.prog.globals[5]?).map (·.type) = some 74 := by kernel_rfl
theorem ofLaid {W : World} (h : laidMetH Tryz.prog (("errors.errorType", Rows.laid_errors_errorType) :: [("loop.example/g00553/impl.errNone", Rows.laid_loop_example_g00553_impl_errNone), ("loop.example/g00553/impl.errState", Rows.laid_loop_example_g00553_impl_errState), ("loop.example/g00553/impl.errRange", Rows.laid_loop_example_g00553_impl_errRange), ("loop.example/g00553/impl.errFull", Rows.laid_loop_example_g00553_impl_errFull), ("loop.example/g00553/impl.errLast", Rows.laid_loop_example_g00553_impl_errLast)]) W) : ∃ q, Errs W q := by
 have h' : laidMet Tryz.prog [("loop.example/g00553/impl.errNone", Rows.laid_loop_example_g00553_impl_errNone), ("loop.example/g00553/impl.errState", Rows.laid_loop_example_g00553_impl_errState), ("loop.example/g00553/impl.errRange", Rows.laid_loop_example_g00553_impl_errRange), ("loop.example/g00553/impl.errFull", Rows.laid_loop_example_g00553_impl_errFull), ("loop.example/g00553/impl.errLast", Rows.laid_loop_example_g00553_impl_errLast)] W ∧ handlesMet Tryz.prog [("errors.errorType", Rows.laid_errors_errorType)] W := h
 obtain ⟨h0, hh⟩ := h'
 have ct : W.cell? ⟨2, 0, none⟩ = some (rty 74) := by
  obtain ⟨name, u, ty, e1, e2, e3, e4, e5⟩ := hh _ (List.mem_singleton.2 rfl)
  have en : name = [101, 114, 114, 111, 114] := (Option.some.inj e1).symm
  subst en
  obtain rfl := Option.some.inj (rowT.symm.trans e2)
  have hm : ty ∈ (List.range Tryz.prog.types.size).filter fun t => Tryz.prog.rowNamed t [101, 114, 114, 111, 114] := List.mem_filter.2 ⟨List.mem_range.2 e3, e4⟩
  rw [rowOne] at hm
  obtain rfl := List.mem_singleton.1 hm
  have h9 : typeHandle Tryz.prog 74 = .pointer (some ⟨6, 74, none⟩) := by kernel_rfl
  rw [h9] at e5
  rw [World.var?_cell gType e5 0]
  rfl
 have h13 : laidMet Tryz.prog [("loop.example/g00553/impl.errNone", Rows.laid_loop_example_g00553_impl_errNone), ("loop.example/g00553/impl.errRange", Rows.laid_loop_example_g00553_impl_errRange)] W := by
  have k := h0.filter (fun x => x.1 != "loop.example/g00553/impl.errState" && x.1 != "loop.example/g00553/impl.errFull" && x.1 != "loop.example/g00553/impl.errLast")
  rwa [show List.filter (fun x => x.1 != "loop.example/g00553/impl.errState" && x.1 != "loop.example/g00553/impl.errFull" && x.1 != "loop.example/g00553/impl.errLast") [("loop.example/g00553/impl.errNone", Rows.laid_loop_example_g00553_impl_errNone), ("loop.example/g00553/impl.errState", Rows.laid_loop_example_g00553_impl_errState), ("loop.example/g00553/impl.errRange", Rows.laid_loop_example_g00553_impl_errRange), ("loop.example/g00553/impl.errFull", Rows.laid_loop_example_g00553_impl_errFull), ("loop.example/g00553/impl.errLast", Rows.laid_loop_example_g00553_impl_errLast)] = [("loop.example/g00553/impl.errNone", Rows.laid_loop_example_g00553_impl_errNone), ("loop.example/g00553/impl.errRange", Rows.laid_loop_example_g00553_impl_errRange)] from by kernel_rfl] at k
 have h14 : laidMet Tryz.prog [("loop.example/g00553/impl.errNone", Rows.laid_loop_example_g00553_impl_errNone), ("loop.example/g00553/impl.errFull", Rows.laid_loop_example_g00553_impl_errFull)] W := by
  have k := h0.filter (fun x => x.1 != "loop.example/g00553/impl.errState" && x.1 != "loop.example/g00553/impl.errRange" && x.1 != "loop.example/g00553/impl.errLast")
  rwa [show List.filter (fun x => x.1 != "loop.example/g00553/impl.errState" && x.1 != "loop.example/g00553/impl.errRange" && x.1 != "loop.example/g00553/impl.errLast") [("loop.example/g00553/impl.errNone", Rows.laid_loop_example_g00553_impl_errNone), ("loop.example/g00553/impl.errState", Rows.laid_loop_example_g00553_impl_errState), ("loop.example/g00553/impl.errRange", Rows.laid_loop_example_g00553_impl_errRange), ("loop.example/g00553/impl.errFull", Rows.laid_loop_example_g00553_impl_errFull), ("loop.example/g00553/impl.errLast", Rows.laid_loop_example_g00553_impl_errLast)] = [("loop.example/g00553/impl.errNone", Rows.laid_loop_example_g00553_impl_errNone), ("loop.example/g00553/impl.errFull", Rows.laid_loop_example_g00553_impl_errFull)] from by kernel_rfl] at k
 have h15 : laidMet Tryz.prog [("loop.example/g00553/impl.errNone", Rows.laid_loop_example_g00553_impl_errNone), ("loop.example/g00553/impl.errLast", Rows.laid_loop_example_g00553_impl_errLast)] W := by
  have k := h0.filter (fun x => x.1 != "loop.example/g00553/impl.errState" && x.1 != "loop.example/g00553/impl.errRange" && x.1 != "loop.example/g00553/impl.errFull")
  rwa [show List.filter (fun x => x.1 != "loop.example/g00553/impl.errState" && x.1 != "loop.example/g00553/impl.errRange" && x.1 != "loop.example/g00553/impl.errFull") [("loop.example/g00553/impl.errNone", Rows.laid_loop_example_g00553_impl_errNone), ("loop.example/g00553/impl.errState", Rows.laid_loop_example_g00553_impl_errState), ("loop.example/g00553/impl.errRange", Rows.laid_loop_example_g00553_impl_errRange), ("loop.example/g00553/impl.errFull", Rows.laid_loop_example_g00553_impl_errFull), ("loop.example/g00553/impl.errLast", Rows.laid_loop_example_g00553_impl_errLast)] = [("loop.example/g00553/impl.errNone", Rows.laid_loop_example_g00553_impl_errNone), ("loop.example/g00553/impl.errLast", Rows.laid_loop_example_g00553_impl_errLast)] from by kernel_rfl] at k
 have h24 : laidMet Tryz.prog [("loop.example/g00553/impl.errState", Rows.laid_loop_example_g00553_impl_errState), ("loop.example/g00553/impl.errFull", Rows.laid_loop_example_g00553_impl_errFull)] W := by
  have k := h0.filter (fun x => x.1 != "loop.example/g00553/impl.errNone" && x.1 != "loop.example/g00553/impl.errRange" && x.1 != "loop.example/g00553/impl.errLast")
  rwa [show List.filter (fun x => x.1 != "loop.example/g00553/impl.errNone" && x.1 != "loop.example/g00553/impl.errRange" && x.1 != "loop.example/g00553/impl.errLast") [("loop.example/g00553/impl.errNone", Rows.laid_loop_example_g00553_impl_errNone), ("loop.example/g00553/impl.errState", Rows.laid_loop_example_g00553_impl_errState), ("loop.example/g00553/impl.errRange", Rows.laid_loop_example_g00553_impl_errRange), ("loop.example/g00553/impl.errFull", Rows.laid_loop_example_g00553_impl_errFull), ("loop.example/g00553/impl.errLast", Rows.laid_loop_example_g00553_impl_errLast)] = [("loop.example/g00553/impl.errState", Rows.laid_loop_example_g00553_impl_errState), ("loop.example/g00553/impl.errFull", Rows.laid_loop_example_g00553_impl_errFull)] from by kernel_rfl] at k
 have h25 : laidMet Tryz.prog [("loop.example/g00553/impl.errState", Rows.laid_loop_example_g00553_impl_errState), ("loop.example/g00553/impl.errLast", Rows.laid_loop_example_g00553_impl_errLast)] W := by
  have k := h0.filter (fun x => x.1 != "loop.example/g00553/impl.errNone" && x.1 != "loop.example/g00553/impl.errRange" && x.1 != "loop.example/g00553/impl.errFull")
  rwa [show List.filter (fun x => x.1 != "loop.example/g00553/impl.errNone" && x.1 != "loop.example/g00553/impl.errRange" && x.1 != "loop.example/g00553/impl.errFull") [("loop.example/g00553/impl.errNone", Rows.laid_loop_example_g00553_impl_errNone), ("loop.example/g00553/impl.errState", Rows.laid_loop_example_g00553_impl_errState), ("loop.example/g00553/impl.errRange", Rows.laid_loop_example_g00553_impl_errRange), ("loop.example/g00553/impl.errFull", Rows.laid_loop_example_g00553_impl_errFull), ("loop.example/g00553/impl.errLast", Rows.laid_loop_example_g00553_impl_errLast)] = [("loop.example/g00553/impl.errState", Rows.laid_loop_example_g00553_impl_errState), ("loop.example/g00553/impl.errLast", Rows.laid_loop_example_g00553_impl_errLast)] from by kernel_rfl] at k
 have h35 : laidMet Tryz.prog [("loop.example/g00553/impl.errRange", Rows.laid_loop_example_g00553_impl_errRange), ("loop.example/g00553/impl.errLast", Rows.laid_loop_example_g00553_impl_errLast)] W := by
  have k := h0.filter (fun x => x.1 != "loop.example/g00553/impl.errNone" && x.1 != "loop.example/g00553/impl.errState" && x.1 != "loop.example/g00553/impl.errFull")
  rwa [show List.filter (fun x => x.1 != "loop.example/g00553/impl.errNone" && x.1 != "loop.example/g00553/impl.errState" && x.1 != "loop.example/g00553/impl.errFull") [("loop.example/g00553/impl.errNone", Rows.laid_loop_example_g00553_impl_errNone), ("loop.example/g00553/impl.errState", Rows.laid_loop_example_g00553_impl_errState), ("loop.example/g00553/impl.errRange", Rows.laid_loop_example_g00553_impl_errRange), ("loop.example/g00553/impl.errFull", Rows.laid_loop_example_g00553_impl_errFull), ("loop.example/g00553/impl.errLast", Rows.laid_loop_example_g00553_impl_errLast)] = [("loop.example/g00553/impl.errRange", Rows.laid_loop_example_g00553_impl_errRange), ("loop.example/g00553/impl.errLast", Rows.laid_loop_example_g00553_impl_errLast)] from by kernel_rfl] at k
 obtain ⟨a1, v1, c1⟩ := one_sent h0 g_errNone t_errNone
 obtain ⟨a2, v2, c2⟩ := one_sent h0.tail g_errState t_errState
 obtain ⟨a3, v3, c3⟩ := one_sent h0.tail.tail g_errRange t_errRange
 obtain ⟨a4, v4, c4⟩ := one_sent h0.tail.tail.tail g_errFull t_errFull
 obtain ⟨a5, v5, c5⟩ := one_sent h0.tail.tail.tail.tail g_errLast t_errLast
 obtain ⟨n12, b12a, b12b⟩ := two_sent h0 g_errNone t_errNone g_errState t_errState v1 v2
 obtain ⟨n13, b13a, b13b⟩ := two_sent h13 g_errNone t_errNone g_errRange t_errRange v1 v3
 obtain ⟨n14, b14a, b14b⟩ := two_sent h14 g_errNone t_errNone g_errFull t_errFull v1 v4
 obtain ⟨n15, b15a, b15b⟩ := two_sent h15 g_errNone t_errNone g_errLast t_errLast v1 v5
 obtain ⟨n23, b23a, b23b⟩ := two_sent h0.tail g_errState t_errState g_errRange t_errRange v2 v3
 obtain ⟨n24, b24a, b24b⟩ := two_sent h24 g_errState t_errState g_errFull t_errFull v2 v4
 obtain ⟨n25, b25a, b25b⟩ := two_sent h25 g_errState t_errState g_errLast t_errLast v2 v5
 obtain ⟨n34, b34a, b34b⟩ := two_sent h0.tail.tail g_errRange t_errRange g_errFull t_errFull v3 v4
 obtain ⟨n35, b35a, b35b⟩ := two_sent h35 g_errRange t_errRange g_errLast t_errLast v3 v5
 obtain ⟨n45, b45a, b45b⟩ := two_sent h0.tail.tail.tail g_errFull t_errFull g_errLast t_errLast v4 v5
 exact ⟨fun i => if i = 1 then a1 else if i = 2 then a2 else if i = 3 then a3 else if i = 4 then a4 else a5, c1, c2, c3, c4, c5, ct, b12a, b12b, b23b, b34b, b45b, n12, n13, n14, n15, n23, n24, n25, n34, n35, n45⟩
theorem grant_small (m : SmyV) (room pace : Int) : SmySmall (grantV m room pace).1 := by
 cases h : smyB m
 ·unfold grantV; rw [h]; exact zero_small
 ·exact right_small (grant_right h room pace)
theorem walkFnExactGranted_of {q : Int → Addr} (hS : (∀ (w : World) (v0 v1 v2 v3 v4 : Value) (m : SmyV) (room : Int) (pace : Int), Smy w v0 v1 v2 v3 v4 m → Calls Tryz.prog 21 #[.agg #[v0, v1, v2, v3, v4, .int .i64 m.now], .int .i64 room, .int .i64 pace] w fun e w' => GotM w.heap.size (grantV m room pace).1 (grantV m room pace).2 e w' ∧ Below w.heap.size w w')) (hI : (∀ (w : World) (v0 v1 v2 v3 v4 : Value) (m : SmyV) (room : Int) (pace : Int), Errs w q → Smy w v0 v1 v2 v3 v4 m → Calls Tryz.prog 19 #[.agg #[v0, v1, v2, v3, v4, .int .i64 m.now], .int .i64 room, .int .i64 pace] w fun e w' => GotM w.heap.size (grantV m room pace).1 (grantV m room pace).2 e w' ∧ Below w.heap.size w w')) (hlen : ∀ (m : SmyV) (room : Int) (pace : Int), SmySmall (grantV m room pace).1) (v0 v1 v2 v3 v4 : Value) (m : SmyV) (room : Int) (pace : Int) (w : World) (her : Errs w q) (h : Smy w v0 v1 v2 v3 v4 m) :
  Calls Tryz.prog 6 #[.agg #[v0, v1, v2, v3, v4, .int .i64 m.now], .int .i64 room, .int .i64 pace] w fun e w' => e = .returned (.bool true) ∧ Below w.heap.size w w' := by
 have HEr := hide her
 clear her
 have HS := hide hS
 have HI := hide hI
 clear hS hI
 have Hv := hide h
 obtain ⟨a0, p0, a1, p1, a2, p2, a3, p3, a4, p4, rfl, rfl, rfl, rfl, rfl, _, _, _, _, _, _, _, _, _, _⟩ := h.five
 clear h
 have hLs := hide (hlen m room pace)
 have HS1 := hide (fun W u0 u1 u2 u3 u4 => uh HS W u0 u1 u2 u3 u4 m room pace)
 have HI1 := hide (fun W u0 u1 u2 u3 u4 => uh HI W u0 u1 u2 u3 u4 m room pace)
 clear HS HI hlen
 obtain ⟨⟨M, cd⟩, hM⟩ : ∃ x, grantV m room pace = x := ⟨_, rfl⟩
 rw [hM] at hLs HS1 HI1
 simp only at hLs HS1 HI1
 clear hM
 go_enter Tryz.func6, Tryz.ntmps6
 go_wp2_with fail
 refine (szSmithy_any ((uh Hv).alloc _)).mono ?_
 rintro e w1 ⟨x, rfl, hx, hb⟩
 have ka : Hid (Blk w1 w.heap.size 61 (S6 a0 p0 a1 p1 a2 p2 a3 p3 a4 p4 m)) := hide ((Blk.new w _ _).below hb (by simp))
 have BB : Hid (Below w.heap.size w w1) := hide (((ba _ _)).trans (hb.mono (by simp)))
 have Hx := hide hx
 clear hx hb
 by_cases hx0 : x < 0
 ·go_wp2_with fail
  go_ret
  exact ⟨rfl, uh BB⟩
 have Hs := hide (uh Hx (by omega))
 have HsM := hLs
 clear Hx hLs
 obtain ⟨c0, c1, c2, c3, c4, c5⟩ := (uh ka).c6
 go_wp2_with fail
 refine (toSmithy_any ((uh Hv).below (uh BB)) (uh Hs)).mono ?_
 rintro e w2 ⟨u0, u1, u2, u3, u4, rfl, ho, hb⟩
 clear c0 c1 c2 c3 c4 c5
 have k2 := ho.smy
 obtain ⟨b0, q0, b1, q1, b2, q2, b3, q3, b4, q4, rfl, rfl, rfl, rfl, rfl, _, _, _, _, _, _, _, _, _, _⟩ := k2.five
 have K2 := hide k2
 clear k2 ho
 replace ka := bl ka hb
 replace BB := bt BB hb
 have hw2 : w.heap.size < w2.heap.size := (uh ka).lt
 clear hb
 go_wp2_with fail
 refine (uh HS1 _ _ _ _ _ _ (uh K2)).mono ?_
 rintro e w3 ⟨⟨y0, y1, y2, y3, y4, uq, rfl, ho⟩, hb⟩
 have k9 := ho.smy
 obtain ⟨ua0, uc0, ua1, uc1, ua2, uc2, ua3, uc3, ua4, uc4, rfl, rfl, rfl, rfl, rfl, _, _, _, _, _, _, _, _, _, _⟩ := k9.five
 clear k9 K2
 replace ka := bl ka hb
 replace BB := bt BB hb
 have HU := hide ho
 have LU : Hid (∀ k, OwnB (.slice ua0 M.rooms.length uc0) (.slice ua1 M.guilds.length uc1) (.slice ua2 M.smiths.length uc2) (.slice ua3 M.desks.length uc3) (.slice ua4 M.paces.length uc4) uq k → w2.heap.size ≤ k ∧ k < w3.heap.size) := hide (fun k e => ho.own e)
 have hw3 : w.heap.size < w3.heap.size := (uh ka).lt
 clear ho hb
 go_upto_region 6 with fail
 have hba : Below w3.heap.size w3 (w3.alloc (.cells (S6 ua0 uc0 ua1 uc1 ua2 uc2 ua3 uc3 ua4 uc4 M) 32)) := ba _ _
 replace ka := bl ka hba
 replace HU := hide ((uh HU).below hba)
 replace BB := bt BB hba
 have ku : Hid (Blk (w3.alloc (.cells (S6 ua0 uc0 ua1 uc1 ua2 uc2 ua3 uc3 ua4 uc4 M) 32)) w3.heap.size 32 (S6 ua0 uc0 ua1 uc1 ua2 uc2 ua3 uc3 ua4 uc4 M)) := hide (Blk.new _ _ _)
 have hsz_W3 : w3.heap.size + 1 ≤ (w3.alloc (.cells (S6 ua0 uc0 ua1 uc1 ua2 uc2 ua3 uc3 ua4 uc4 M) 32)).heap.size := by simp
 clear hba
 generalize w3.alloc (.cells (S6 ua0 uc0 ua1 uc1 ua2 uc2 ua3 uc3 ua4 uc4 M) 32) = W3 at *
 generalize w3.heap.size = ub at *
 obtain ⟨c0, c1, c2, c3, c4, c5⟩ := (uh ka).c6
 go_wp2_with fail
 clear c0 c1 c2 c3 c4 c5
 refine (toSmithy_full ((uh Hv).below (uh BB)) (uh Hs)).mono ?_
 rintro e w4 ⟨z0, z1, z2, z3, z4, xq, rfl, ho, hb⟩
 have k4 := ho.smy
 obtain ⟨d0, r0, d1, r1, d2, r2, d3, r3, d4, r4, rfl, rfl, rfl, rfl, rfl, _, _, _, _, _, _, _, _, _, _⟩ := k4.five
 clear k4
 replace ka := bl ka hb
 replace HU := hide ((uh HU).below hb)
 replace ku := bl ku hb
 replace BB := bt BB hb
 have HX := hide ho
 have LX : Hid (∀ k, OwnB (.slice d0 m.rooms.length r0) (.slice d1 m.guilds.length r1) (.slice d2 m.smiths.length r2) (.slice d3 m.desks.length r3) (.slice d4 m.paces.length r4) xq k → ub < k ∧ k < w4.heap.size) := hide (fun k e => ⟨Nat.lt_of_lt_of_le (Nat.lt_of_succ_le hsz_W3) (ho.own e).1, (ho.own e).2⟩)
 have hw4 : ub + 1 ≤ w4.heap.size := Nat.le_trans hsz_W3 hb.size
 clear ho hb hsz_W3
 go_upto_region 7 with fail
 have hba : Below w4.heap.size w4 (w4.alloc (.cells (S6 d0 r0 d1 r1 d2 r2 d3 r3 d4 r4 m) 32)) := ba _ _
 replace ka := bl ka hba
 replace HU := hide ((uh HU).below hba)
 replace ku := bl ku hba
 replace HX := hide ((uh HX).below hba)
 replace BB := bt BB hba
 have kx : Hid (Blk (w4.alloc (.cells (S6 d0 r0 d1 r1 d2 r2 d3 r3 d4 r4 m) 32)) w4.heap.size 32 (S6 d0 r0 d1 r1 d2 r2 d3 r3 d4 r4 m)) := hide (Blk.new _ _ _)
 have hsz_W4 : w4.heap.size + 1 ≤ (w4.alloc (.cells (S6 d0 r0 d1 r1 d2 r2 d3 r3 d4 r4 m) 32)).heap.size := by simp
 clear hba
 generalize w4.alloc (.cells (S6 d0 r0 d1 r1 d2 r2 d3 r3 d4 r4 m) 32) = W4 at *
 generalize w4.heap.size = xb at *
 obtain ⟨x0, x1, x2, x3, x4, x5⟩ := (uh kx).c6
 go_wp2_with fail
 clear x0 x1 x2 x3 x4 x5
 refine (uh HI1 _ _ _ _ _ _ ((uh HEr).below (uh BB)) (uh HX).smy).mono ?_
 rintro e w5 ⟨⟨y0, y1, y2, y3, y4, gq, rfl, ho⟩, hb⟩
 have k9 := ho.smy
 obtain ⟨ga0, gc0, ga1, gc1, ga2, gc2, ga3, gc3, ga4, gc4, rfl, rfl, rfl, rfl, rfl, _, _, _, _, _, _, _, _, _, _⟩ := k9.five
 clear k9
 replace ka := bl ka hb
 replace HU := hide ((uh HU).below hb)
 replace ku := bl ku hb
 replace HX := hide ((uh HX).below hb)
 replace kx := bl kx hb
 replace BB := bt BB hb
 have HG := hide ho
 have LG : Hid (∀ k, OwnB (.slice ga0 M.rooms.length gc0) (.slice ga1 M.guilds.length gc1) (.slice ga2 M.smiths.length gc2) (.slice ga3 M.desks.length gc3) (.slice ga4 M.paces.length gc4) gq k → xb < k ∧ k < w5.heap.size) := hide (fun k e => ⟨Nat.lt_of_lt_of_le (Nat.lt_of_succ_le hsz_W4) (ho.own e).1, (ho.own e).2⟩)
 have hw5 : xb + 1 ≤ w5.heap.size := Nat.le_trans hsz_W4 hb.size
 clear ho hb hsz_W4
 obtain ⟨x0, x1, x2, x3, x4, x5⟩ := (uh ku).c6
 go_upto_region 8 with fail
 clear x0 x1 x2 x3 x4 x5
 have hba : Below w5.heap.size w5 (w5.alloc (.cells (S6 ga0 gc0 ga1 gc1 ga2 gc2 ga3 gc3 ga4 gc4 M) 32)) := ba _ _
 replace ka := bl ka hba
 replace HU := hide ((uh HU).below hba)
 replace ku := bl ku hba
 replace HX := hide ((uh HX).below hba)
 replace kx := bl kx hba
 replace HG := hide ((uh HG).below hba)
 replace BB := bt BB hba
 have kg : Hid (Blk (w5.alloc (.cells (S6 ga0 gc0 ga1 gc1 ga2 gc2 ga3 gc3 ga4 gc4 M) 32)) w5.heap.size 32 (S6 ga0 gc0 ga1 gc1 ga2 gc2 ga3 gc3 ga4 gc4 M)) := hide (Blk.new _ _ _)
 have hsz_W5 : w5.heap.size + 1 ≤ (w5.alloc (.cells (S6 ga0 gc0 ga1 gc1 ga2 gc2 ga3 gc3 ga4 gc4 M) 32)).heap.size := by simp
 clear hba
 generalize w5.alloc (.cells (S6 ga0 gc0 ga1 gc1 ga2 gc2 ga3 gc3 ga4 gc4 M) 32) = W5 at *
 generalize w5.heap.size = gb at *
 clear hsz_W5
 obtain ⟨x0, x1, x2, x3, x4, x5⟩ := (uh ku).c6
 obtain ⟨y0, y1, y2, y3, y4, y5⟩ := (uh kg).c6
 go_wp2_with fail
 clear x0 x1 x2 x3 x4 x5 y0 y1 y2 y3 y4 y5
 refine ck (eqSmithy_yes (uh HG).smy (uh HU).smy) fun w6 hb => ?_
 replace ka := bl ka hb
 replace HU := hide ((uh HU).below hb)
 replace ku := bl ku hb
 replace HX := hide ((uh HX).below hb)
 replace kx := bl kx hb
 replace HG := hide ((uh HG).below hb)
 replace kg := bl kg hb
 replace BB := bt BB hb
 clear hb
 obtain ⟨c0, c1, c2, c3, c4, c5⟩ := (uh ka).c6
 obtain ⟨x0, x1, x2, x3, x4, x5⟩ := (uh kx).c6
 have V6 := hide ((uh Hv).below (uh BB))
 go_upto_region 10 with fail
 go_cut [53] (fun s wc => s = .bool false ∧ Below w6.heap.size w6 wc)
 case first =>
  go_region_with (first
   | (go_at_call 26; refine (toSmithy_any (m := m) ?_ (uh Hs)).mono ?_; exact (uh V6).below (Below.refl _ _).drew; rintro e w7 ⟨t0, t1, t2, t3, t4, rfl, ho, hb⟩; have k7 := ho.smy; obtain ⟨f0, j0, rfl, _, _⟩ := IsRooms.shape k7.rooms; obtain ⟨f1, j1, rfl, _, _⟩ := IsRec.shape k7.guilds; obtain ⟨f2, j2, rfl, _, _⟩ := IsRec.shape k7.smiths; obtain ⟨f3, j3, rfl, _, _⟩ := IsRec.shape k7.desks; obtain ⟨f4, j4, rfl, _, _⟩ := IsRec.shape k7.paces; have K7 := hide k7; have Hb7 : Hid (Below w6.heap.size w6 w7) := hide ⟨hb.os, hb.tape, hb.output, hb.size, hb.block⟩; have kx7 := (uh kx).below (uh Hb7) (uh kx).lt; have y0 := kx7.cell (i := 0) (v := .slice d0 m.rooms.length r0) rfl; have y1 := kx7.cell (i := 1) (v := .slice d1 m.guilds.length r1) rfl; have y2 := kx7.cell (i := 2) (v := .slice d2 m.smiths.length r2) rfl; have y3 := kx7.cell (i := 3) (v := .slice d3 m.desks.length r3) rfl; have y4 := kx7.cell (i := 4) (v := .slice d4 m.paces.length r4) rfl; have y5 := kx7.cell (i := 5) (v := .int .i64 m.now) rfl; clear k7 ho hb kx7)
   | (go_at_call 27; refine (eqSmithy_yes (m := m) ?_ ?_).mono ?_; exact ((uh HX).below (uh Hb7)).smy; exact uh K7; rintro e w8 ⟨rfl, hb⟩; have Hb8 := hide hb; clear hb))
  all_goals
   go_wp2_with fail
   go_meet
   exact ⟨rfl, (uh Hb7).trans ((uh Hb8).mono (uh Hb7).size)⟩
 case rest =>
  obtain ⟨rfl, hb⟩ := hcut
  obtain ⟨w8, rfl⟩ : ∃ x, x = wc := ⟨wc, rfl⟩
  clear c0 c1 c2 c3 c4 c5 x0 x1 x2 x3 x4 x5
  replace ka := bl ka hb
  replace HU := hide ((uh HU).below hb)
  replace ku := bl ku hb
  replace HX := hide ((uh HX).below hb)
  replace kx := bl kx hb
  replace HG := hide ((uh HG).below hb)
  replace kg := bl kg hb
  replace BB := bt BB hb
  clear hb V6
  obtain ⟨x0, x1, x2, x3, x4, x5⟩ := (uh kx).c6
  go_wp2_with fail
  clear x0 x1 x2 x3 x4 x5
  refine (markSmithy_any 1 ((uh HX).mono (n₁ := 0) (Nat.zero_le _)) (uh Hs) (Nat.zero_le _) (by omega) (by omega)).mono ?_
  rintro e w9 ⟨rfl, _, hon⟩
  have hen := endM_bd (uh Hs) (uh HX).rooms
  generalize endM 1 m xq = em at *
  have hwle := (uh BB).size
  replace HU := hide ((uh HU).keep fun k e => hon.at ((uh HU).own e).2 fun e9 => by have h1 := uh LU k e; have h2 := uh LX k e9; omega)
  replace HG := hide ((uh HG).keep fun k e => hon.at ((uh HG).own e).2 fun e9 => by have h1 := uh LG k e; have h2 := uh LX k e9; omega)
  replace ku := hide ((uh ku).same (hon.at (uh ku).lt fun e9 => by have h2 := uh LX _ e9; omega))
  replace kg := hide ((uh kg).same (hon.at (uh kg).lt fun e9 => by have h2 := uh LX _ e9; omega))
  replace ka := hide ((uh ka).same (hon.at (uh ka).lt fun e9 => by have h2 := uh LX _ e9; omega))
  replace BB := hide ((uh BB).trans (hon.below hwle (fun k e => by have h2 := uh LX k e; omega)))
  clear hon kx HX hwle
  have hk0 : ¬ em < 0 := by omega
  obtain ⟨x0, x1, x2, x3, x4, x5⟩ := (uh ku).c6
  obtain ⟨y0, y1, y2, y3, y4, y5⟩ := (uh kg).c6
  go_wp2_with fail
  clear x0 x1 x2 x3 x4 x5 y0 y1 y2 y3 y4 y5
  refine ck (eqSmithy_yes (uh HG).smy (uh HU).smy) fun w10 hb => ?_
  replace ka := bl ka hb
  replace HU := hide ((uh HU).below hb)
  replace ku := bl ku hb
  replace HG := hide ((uh HG).below hb)
  replace kg := bl kg hb
  replace BB := bt BB hb
  clear hb
  obtain ⟨y0, y1, y2, y3, y4, y5⟩ := (uh kg).c6
  go_wp2_with fail
  clear y0 y1 y2 y3 y4 y5
  refine (markSmithy_any 1 ((uh HG).mono (n₁ := 0) (Nat.zero_le _)) (uh HsM) (Nat.zero_le _) (by omega) (by omega)).mono ?_
  rintro e w11 ⟨rfl, hgm, hon⟩
  have hgr := (uh HG).rooms
  have hen2 := endM_bd (uh HsM) hgr
  have hwle := (uh BB).size
  replace HU := hide ((uh HU).keep fun k e => hon.at ((uh HU).own e).2 fun e9 => by have h1 := uh LU k e; have h2 := uh LG k e9; omega)
  replace ku := hide ((uh ku).same (hon.at (uh ku).lt fun e9 => by have h2 := uh LG _ e9; omega))
  replace kg := hide ((uh kg).same (hon.at (uh kg).lt fun e9 => by have h2 := uh LG _ e9; omega))
  replace ka := hide ((uh ka).same (hon.at (uh ka).lt fun e9 => by have h2 := uh LG _ e9; omega))
  replace BB := hide ((uh BB).trans (hon.below hwle (fun k e => by have h2 := uh LG k e; omega)))
  replace HG := hide hgm
  have Hgr := hide hgr
  clear hgm hon hwle hgr
  obtain ⟨y0, y1, y2, y3, y4, y5⟩ := (uh kg).c6
  go_wp2_with fail
  clear y0 y1 y2 y3 y4 y5
  refine ck (heldSmithy_yes 1 (uh HG) (uh HsM).rooms (uh Hgr) (uh HsM) (by omega) (by omega)) fun w12 hb => ?_
  replace ka := bl ka hb
  replace HU := hide ((uh HU).below hb)
  replace ku := bl ku hb
  replace HG := hide ((uh HG).below hb)
  replace kg := bl kg hb
  replace BB := bt BB hb
  clear hb
  have Hen2 := hide hen2
  obtain ⟨en, hene⟩ : ∃ x, endM 1 M gq = x := ⟨_, rfl⟩
  have hnn : ¬ en < 0 := by rw [← hene]; omega
  have Hene := hide hene
  rw [hene]
  clear hene hen2
  obtain ⟨c0, c1, c2, c3, c4, c5⟩ := (uh ka).c6
  go_wp2_with fail
  clear c0 c1 c2 c3 c4 c5
  refine (toSmithy_any ((uh Hv).below (uh BB)) (uh Hs)).mono ?_
  rintro e w13 ⟨s0, s1, s2, s3, s4, rfl, ho, hb⟩
  have k13 := ho.smy
  obtain ⟨f0, j0, f1, j1, f2, j2, f3, j3, f4, j4, rfl, rfl, rfl, rfl, rfl, _, _, _, _, _, _, _, _, _, _⟩ := k13.five
  have K13 := hide k13
  clear k13 ho
  replace ka := bl ka hb
  replace HU := hide ((uh HU).below hb)
  replace ku := bl ku hb
  replace HG := hide ((uh HG).below hb)
  replace kg := bl kg hb
  replace BB := bt BB hb
  clear hb
  go_wp2_with fail
  refine (uh HI1 _ _ _ _ _ _ ((uh HEr).below (uh BB)) (uh K13)).mono ?_
  rintro e w14 ⟨⟨y0, y1, y2, y3, y4, hq, rfl, ho⟩, hb⟩
  have k9 := ho.smy
  obtain ⟨ha0, hc0, ha1, hc1, ha2, hc2, ha3, hc3, ha4, hc4, rfl, rfl, rfl, rfl, rfl, _, _, _, _, _, _, _, _, _, _⟩ := k9.five
  clear ho K13
  replace ka := bl ka hb
  replace HU := hide ((uh HU).below hb)
  replace ku := bl ku hb
  replace HG := hide ((uh HG).below hb)
  replace kg := bl kg hb
  replace BB := bt BB hb
  have HH := hide k9
  clear k9 hb
  go_upto_region 25 with fail
  have hba : Below w14.heap.size w14 (w14.alloc (.cells (S6 ha0 hc0 ha1 hc1 ha2 hc2 ha3 hc3 ha4 hc4 M) 32)) := ba _ _
  replace ka := bl ka hba
  replace HU := hide ((uh HU).below hba)
  replace ku := bl ku hba
  replace HG := hide ((uh HG).below hba)
  replace kg := bl kg hba
  replace HH := hide ((uh HH).below hba)
  replace BB := bt BB hba
  have kh : Hid (Blk (w14.alloc (.cells (S6 ha0 hc0 ha1 hc1 ha2 hc2 ha3 hc3 ha4 hc4 M) 32)) w14.heap.size 32 (S6 ha0 hc0 ha1 hc1 ha2 hc2 ha3 hc3 ha4 hc4 M)) := hide (Blk.new _ _ _)
  have hsz_W14 : w14.heap.size + 1 ≤ (w14.alloc (.cells (S6 ha0 hc0 ha1 hc1 ha2 hc2 ha3 hc3 ha4 hc4 M) 32)).heap.size := by simp
  clear hba
  generalize w14.alloc (.cells (S6 ha0 hc0 ha1 hc1 ha2 hc2 ha3 hc3 ha4 hc4 M) 32) = W14 at *
  generalize w14.heap.size = hb2 at *
  clear hsz_W14
  obtain ⟨x0, x1, x2, x3, x4, x5⟩ := (uh ku).c6
  obtain ⟨y0, y1, y2, y3, y4, y5⟩ := (uh kh).c6
  go_wp2_with fail
  clear x0 x1 x2 x3 x4 x5 y0 y1 y2 y3 y4 y5
  refine ck (eqSmithy_yes (uh HH) (uh HU).smy) fun w15 hb => ?_
  replace ka := bl ka hb
  replace HU := hide ((uh HU).below hb)
  replace ku := bl ku hb
  replace HG := hide ((uh HG).below hb)
  replace kg := bl kg hb
  replace HH := hide ((uh HH).below hb)
  replace kh := bl kh hb
  replace BB := bt BB hb
  clear hb
  obtain ⟨y0, y1, y2, y3, y4, y5⟩ := (uh kg).c6
  go_wp2_with fail
  clear y0 y1 y2 y3 y4 y5
  refine (heldSmithy_yes 1 (uh HG) (uh HsM).rooms (uh Hgr) (uh HsM) (by omega) (by omega)).mono ?_
  rw [uh Hene]
  rintro e w16 ⟨rfl, hb⟩
  replace ka := bl ka hb
  replace HU := hide ((uh HU).below hb)
  replace ku := bl ku hb
  replace HG := hide ((uh HG).below hb)
  replace kg := bl kg hb
  replace HH := hide ((uh HH).below hb)
  replace kh := bl kh hb
  replace BB := bt BB hb
  clear hb
  go_wp2_with fail
  go_ret
  exact ⟨rfl, uh BB⟩
theorem walkFnExactGranted (v0 v1 v2 v3 v4 : Value) (m : SmyV) (room pace : Int) (w : World) (h : Smy w v0 v1 v2 v3 v4 m) (her : ∃ q, Errs w q) :
  Calls Tryz.prog 6 #[.agg #[v0, v1, v2, v3, v4, .int .i64 m.now], .int .i64 room, .int .i64 pace] w fun e w' => e = .returned (.bool true) ∧ Below w.heap.size w w' := by
 obtain ⟨q, he⟩ := her
 exact walkFnExactGranted_of (fun _ _ _ _ _ _ _ room pace h => specGranted_any room pace h) (fun _ _ _ _ _ _ _ room pace he h => implGranted_any room pace he h) (fun m room pace => grant_small m room pace) v0 v1 v2 v3 v4 m room pace w he h
end Go.Proofs.YtffcgajndmhpkaaGreatDoor
