/- Contracts of the draws of chapter 7's arguments: three numbers, or two, between -1000000 and 10000000; only the draw's own memory is written. Condition: the bytes of the draw can be read and are at most 4096. -/
import Derived.Test.YtbekkdneldcehaaWorkDraw
namespace Go.Proofs.Ytbekkdneldcehaa
open Go.ChangeShapes Go.WideShapes Go.ChangeAt Go.RowKit Go.Sort
open Draw (St Off Row Cur)
set_option linter.unusedVariables false

theorem tdiv_bd {a b : Int} (h0 : -1 ≤ a) (h1 : a ≤ 1000001) (hb : 0 < b) : -1 ≤ a.tdiv b ∧ a.tdiv b ≤ 1000001 := by
  by_cases ha : 0 ≤ a
  · rw [Int.tdiv_eq_ediv_of_nonneg ha]
    have g1 := Int.ediv_nonneg ha (show 0 ≤ b by omega)
    have g2 := Int.ediv_le_self b ha
    omega
  · obtain rfl : a = -1 := by omega
    rw [Int.neg_tdiv, Int.tdiv_eq_ediv_of_nonneg (by omega)]
    have g1 := Int.ediv_nonneg (show (0 : Int) ≤ 1 by omega) (show 0 ≤ b by omega)
    have g2 := Int.ediv_le_self b (show (0 : Int) ≤ 1 by omega)
    omega

theorem tdiv4_bd {a : Int} (h0 : -10 ≤ a) (h1 : a ≤ 10000020) : -3 ≤ a.tdiv 4 ∧ a.tdiv 4 ≤ 2500005 := by
  by_cases ha : 0 ≤ a
  · rw [Int.tdiv_eq_ediv_of_nonneg ha]; omega
  · have h : a = -(-a) := by omega
    rw [h, Int.neg_tdiv, Int.tdiv_eq_ediv_of_nonneg (by omega)]; omega

set_option maxRecDepth 100000 in
set_option maxHeartbeats 2000000 in
theorem drawFitsIn_any (a : Option Addr) (len cap : Nat) (w : World) (hr : Row w.heap.size w a len) :
    Calls Try.prog 22 #[.slice a len cap] w fun e w' => ∃ (x u f : Int), e = .returned (.tuple #[.int .i64 x, .int .i64 u, .int .i64 f]) ∧ -1 ≤ x ∧ x ≤ 1000001 ∧ -1 ≤ u ∧ u ≤ 1000001 ∧ -10 ≤ f ∧ f ≤ 10000000 ∧ Below w.heap.size w w' := by
  have Hr := hide hr
  clear hr
  go_enter Try.func22, Try.ntmps22
  go_wp2_with fail
  refine (Draw.new_any a len cap _ (unhide Hr)).mono ?_
  rintro e w1 ⟨rfl, hs1, ho1⟩
  have B1 : Hid (Below w.heap.size w w1) := hide (ho1.below (Nat.le_refl _) (Nat.le_refl _))
  have Hs1 := hide hs1
  clear hs1 ho1
  go_wp2_with fail
  refine (l5DrawWork_any a len cap w.heap.size _ (unhide Hs1)).mono ?_
  rintro e w2 ⟨p, rfl, p0, p1, hs2, ho2⟩
  have B2 : Hid (Below w.heap.size w w2) := hide ((unhide B1).trans (ho2.below (Nat.le_refl _) (unhide B1).size))
  have Hs2 := hide hs2
  clear hs2 ho2 B1 Hs1
  go_wp2_with fail
  refine (Draw.below_any a len cap w.heap.size 3 (by omega) (by omega) _ (unhide Hs2)).mono ?_
  rintro e w3 ⟨d, rfl, d0, d1, hs3, ho3⟩
  have B3 : Hid (Below w.heap.size w w3) := hide ((unhide B2).trans (ho3.below (Nat.le_refl _) (unhide B2).size))
  have Hs3 := hide hs3
  clear hs3 ho3 B2 Hs2
  have hd : ¬ 1 + d = 0 := by omega
  obtain ⟨x0, x1⟩ := tdiv_bd p0 p1 (show 0 < 1 + d by omega)
  go_wp2_with fail
  generalize p.tdiv (1 + d) = x at *
  clear hd p0 p1 d0 d1
  refine (l5DrawWork_any a len cap w.heap.size _ (unhide Hs3)).mono ?_
  rintro e w4 ⟨q, rfl, q0, q1, hs4, ho4⟩
  have B4 : Hid (Below w.heap.size w w4) := hide ((unhide B3).trans (ho4.below (Nat.le_refl _) (unhide B3).size))
  have Hs4 := hide hs4
  clear hs4 ho4 B3 Hs3
  go_wp2_with fail
  refine (Draw.below_any a len cap w.heap.size 4 (by omega) (by omega) _ (unhide Hs4)).mono ?_
  rintro e w5 ⟨g, rfl, g0, g1, hs5, ho5⟩
  have B5 : Hid (Below w.heap.size w w5) := hide ((unhide B4).trans (ho5.below (Nat.le_refl _) (unhide B4).size))
  have Hs5 := hide hs5
  clear hs5 ho5 B4 Hs4
  have hd : ¬ 1 + g = 0 := by omega
  obtain ⟨u0, u1⟩ := tdiv_bd q0 q1 (show 0 < 1 + g by omega)
  go_wp2_with fail
  generalize q.tdiv (1 + g) = u at *
  clear hd q0 q1 g0 g1
  refine (l5DrawWork_any a len cap w.heap.size _ (unhide Hs5)).mono ?_
  rintro e w6 ⟨r, rfl, r0, r1, hs6, ho6⟩
  have B6 : Hid (Below w.heap.size w w6) := hide ((unhide B5).trans (ho6.below (Nat.le_refl _) (unhide B5).size))
  have Hs6 := hide hs6
  clear hs6 ho6 B5 Hs5
  go_wp2_with fail
  refine (Draw.once_any a len cap w.heap.size 3 (by omega) (by omega) _ (unhide Hs6)).mono ?_
  rintro e w7 ⟨o, rfl, hs7, ho7⟩
  have B7 : Hid (Below w.heap.size w w7) := hide ((unhide B6).trans (ho7.below (Nat.le_refl _) (unhide B6).size))
  have Hs7 := hide hs7
  clear hs7 ho7 B6 Hs6
  cases o
  · go_wp2_with fail
    go_ret3
    exact ⟨x, u, r, rfl, x0, x1, u0, u1, by omega, by omega, unhide B7⟩
  · obtain ⟨t0, t1⟩ := tdiv4_bd (show -10 ≤ 5 * (x + u) + 3 by omega) (show 5 * (x + u) + 3 ≤ 10000020 by omega)
    go_wp2_with fail
    refine (Draw.from_any a len cap w.heap.size (-1) 1 (by omega) (by omega) (by omega) _ (unhide Hs7)).mono ?_
    rintro e w8 ⟨y, rfl, y0, y1, hs8, ho8⟩
    have B8 : Hid (Below w.heap.size w w8) := hide ((unhide B7).trans (ho8.below (Nat.le_refl _) (unhide B7).size))
    clear hs8 ho8 B7 Hs7
    generalize (5 * (x + u) + 3).tdiv 4 = t at *
    go_wp2_with fail
    go_ret3
    exact ⟨x, u, t + y, rfl, x0, x1, u0, u1, by omega, by omega, unhide B8⟩

set_option maxHeartbeats 1000000 in
theorem drawTooMuch_any (a : Option Addr) (len cap : Nat) (w : World) (hr : Row w.heap.size w a len) :
    Calls Try.prog 24 #[.slice a len cap] w fun e w' => ∃ (u f : Int), e = .returned (.tuple #[.int .i64 u, .int .i64 f]) ∧ -1 ≤ u ∧ u ≤ 1000001 ∧ -10 ≤ f ∧ f ≤ 10000000 ∧ Below w.heap.size w w' := by
  have Hr := hide hr
  clear hr
  go_enter Try.func24, Try.ntmps24
  go_wp2_with fail
  refine (drawFitsIn_any a len cap _ (unhide Hr)).mono ?_
  rintro e w1 ⟨x, u, f, rfl, x0, x1, u0, u1, f0, f1, hb⟩
  have Hb := hide hb
  clear hb
  go_wp2_with fail
  go_ret2
  exact ⟨u, f, rfl, u0, u1, f0, f1, unhide Hb⟩

end Go.Proofs.Ytbekkdneldcehaa
