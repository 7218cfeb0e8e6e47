/- The law on weights: they fall with the ranks, and the rank for a weight is the greatest that is enough: whatever bytes are drawn from. No condition. -/
import Derived.Test.YtbpjjjagalldgaaDraw3
import Derived.Deep.DeepCutAuto
namespace Go.Proofs.Ytbpjjjagalldgaa
open Go.ChangeShapes Go.WideShapes Go.ChangeAt Go.RowKit
open Draw (IsRow Row row_of row_later big_yes big_no drawWeightOf_any drawRankFor_any)
set_option linter.unusedVariables false

theorem implWeightOf_v {r z : Int} (h : weightV r = z) (w : World) : Calls Try.prog 10 #[.int .i64 r] w fun e w' => e = .returned (.int .i64 z) ∧ w' = w := by rw [← h]; exact implWeightOf_any r w
theorem specWeightOf_v {r z : Int} (h : weightV r = z) (w : World) : Calls Try.prog 13 #[.int .i64 r] w fun e w' => e = .returned (.int .i64 z) ∧ w' = w := by rw [← h]; exact specWeightOf_any r w
theorem implRankFor_v {x k : Int} (h : rankV x = k) (w : World) : Calls Try.prog 12 #[.int .i64 x] w fun e w' => e = .returned (.int .i64 k) ∧ w' = w := by rw [← h]; exact implRankFor_any x w
theorem specRankFor_v {x k : Int} (h : rankV x = k) (w : World) : Calls Try.prog 14 #[.int .i64 x] w fun e w' => e = .returned (.int .i64 k) ∧ w' = w := by rw [← h]; exact specRankFor_any x w

/-- What is told of the rank k for x. -/
def RankSaid (x k : Int) : Prop := (k = -6 ∧ 3125 < x) ∨ (k = 5 ∧ x ≤ 335) ∨ ∃ p q : Int, -5 ≤ k ∧ k ≤ 4 ∧ weightV k = p ∧ x ≤ p ∧ weightV (k + 1) = q ∧ q < x
theorem rank_mid {x k p q : Int} (h0 : -5 ≤ k) (h1 : k ≤ 4) (hp : weightV k = p) (hx : x ≤ p) (hq : weightV (k + 1) = q) (hy : q < x) : RankSaid x (rankV x) := by
  rw [rank_at h0 (by omega) (by rw [hp]; exact hx) (.inr (by rw [hq]; exact hy))]
  exact .inr (.inr ⟨p, q, h0, h1, hp, hx, hq, hy⟩)
theorem rankWays (x : Int) : RankSaid x (rankV x) := by
  by_cases h1 : x ≤ 335
  · rw [rank_at (r := 5) (by omega) (by omega) h1 (.inl rfl)]; exact .inr (.inl ⟨rfl, h1⟩)
  by_cases h2 : x ≤ 419
  · exact rank_mid (k := 4) (p := 419) (q := 335) (by omega) (by omega) rfl h2 rfl (by omega)
  by_cases h3 : x ≤ 524
  · exact rank_mid (k := 3) (p := 524) (q := 419) (by omega) (by omega) rfl h3 rfl (by omega)
  by_cases h4 : x ≤ 655
  · exact rank_mid (k := 2) (p := 655) (q := 524) (by omega) (by omega) rfl h4 rfl (by omega)
  by_cases h5 : x ≤ 819
  · exact rank_mid (k := 1) (p := 819) (q := 655) (by omega) (by omega) rfl h5 rfl (by omega)
  by_cases h6 : x ≤ 1024
  · exact rank_mid (k := 0) (p := 1024) (q := 819) (by omega) (by omega) rfl h6 rfl (by omega)
  by_cases h7 : x ≤ 1280
  · exact rank_mid (k := -1) (p := 1280) (q := 1024) (by omega) (by omega) rfl h7 rfl (by omega)
  by_cases h8 : x ≤ 1600
  · exact rank_mid (k := -2) (p := 1600) (q := 1280) (by omega) (by omega) rfl h8 rfl (by omega)
  by_cases h9 : x ≤ 2000
  · exact rank_mid (k := -3) (p := 2000) (q := 1600) (by omega) (by omega) rfl h9 rfl (by omega)
  by_cases h10 : x ≤ 2500
  · exact rank_mid (k := -4) (p := 2500) (q := 2000) (by omega) (by omega) rfl h10 rfl (by omega)
  by_cases h11 : x ≤ 3125
  · exact rank_mid (k := -5) (p := 3125) (q := 2500) (by omega) (by omega) rfl h11 rfl (by omega)
  have hw : weightV (-5) = 3125 := rfl
  rw [rank_none (x := x) (by omega)]
  exact .inl ⟨rfl, by omega⟩

theorem weight_pos {r : Int} (h0 : -5 ≤ r) (h1 : r ≤ 5) : 0 < weightV r := by
  rcases ranks (inB_t h0 h1) with rfl | rfl | rfl | rfl | rfl | rfl | rfl | rfl | rfl | rfl | rfl <;> decide
theorem weight_falls {r : Int} (h0 : -5 ≤ r) (h1 : r ≤ 4) : weightV (r + 1) < weightV r := by
  rcases ranks (inB_t h0 (show r ≤ 5 by omega)) with rfl | rfl | rfl | rfl | rfl | rfl | rfl | rfl | rfl | rfl | rfl
  case inr.inr.inr.inr.inr.inr.inr.inr.inr.inr => omega
  all_goals decide
/-- What is told of the weight z of r. -/
theorem weightWays {r z : Int} (h0 : -6 ≤ r) (h1 : r ≤ 6) (hz : weightV r = z) : (z = 0 ∧ r = -6) ∨ (z = 0 ∧ r = 6) ∨ (0 < z ∧ r = 5 ∧ rankV z = r) ∨ ∃ q : Int, 0 < z ∧ -5 ≤ r ∧ r ≤ 4 ∧ rankV z = r ∧ weightV (r + 1) = q ∧ q < z := by
  by_cases a : r = -6
  · subst a; exact .inl ⟨by rw [← hz]; rfl, rfl⟩
  by_cases b : r = 6
  · subst b; exact .inr (.inl ⟨by rw [← hz]; rfl, rfl⟩)
  have hp := weight_pos (r := r) (by omega) (by omega)
  by_cases c : r = 5
  · exact .inr (.inr (.inl ⟨by omega, c, rank_at (by omega) (by omega) (by omega) (.inl c)⟩))
  · have hf := weight_falls (r := r) (by omega) (by omega)
    exact .inr (.inr (.inr ⟨_, by omega, by omega, by omega, rank_at (by omega) (by omega) (by omega) (.inr (by omega)), rfl, by omega⟩))

set_option maxRecDepth 100000 in
set_option maxHeartbeats 2000000 in
theorem walkFnWeights (a0 : Option Addr) (len0 cap0 : Nat) (z0 : List Int) (w : World) (w0 : IsRow .u8 w a0 len0 cap0 z0) :
    Calls Try.prog 3 #[.slice a0 len0 cap0] w fun e w' => e = .returned (.bool true) ∧ Below w.heap.size w w' := by
  by_cases hbig : 4096 < len0
  · go_enter Try.func3, Try.ntmps3
    go_wp2_with fail
    refine (big_yes _ _ _ _ hbig).mono ?_
    rintro e w' ⟨rfl, rfl⟩
    go_wp2_with fail
    go_ret
    exact ⟨rfl, Below.refl _ _⟩
  have Hr := hide (row_of w0 (by omega))
  clear w0
  go_enter Try.func3, Try.ntmps3
  go_wp2_with fail
  refine (big_no _ _ _ _ (by omega)).mono ?_
  rintro e w' ⟨rfl, hw⟩
  subst w'
  go_wp2_with fail
  refine (drawWeightOf_any _ _ _ _ (unhide Hr)).mono ?_
  rintro e w1 ⟨r, rfl, r0, r1, b1⟩
  have Hb1 := hide b1
  clear b1
  obtain ⟨z, hz⟩ : ∃ z, weightV r = z := ⟨_, rfl⟩
  have Hz := hide hz
  clear hz
  go_wp2_with fail
  refine (implWeightOf_v (unhide Hz) _).mono ?_
  rintro e w' ⟨rfl, hw⟩
  subst w'
  go_wp2_with fail
  refine (drawRankFor_any _ _ _ _ (row_later (unhide Hr) (unhide Hb1))).mono ?_
  rintro e w2 ⟨x, rfl, b2⟩
  have Hb2 := hide ((unhide Hb1).trans (b2.mono (unhide Hb1).size))
  clear b2 Hb1 Hr
  obtain ⟨k, hk⟩ : ∃ k, rankV x = k := ⟨_, rfl⟩
  have Hk := hide hk
  clear hk
  go_wp2_with fail
  refine (implRankFor_v (unhide Hk) _).mono ?_
  rintro e w' ⟨rfl, hw⟩
  subst w'
  go_wp2_with fail
  refine (specWeightOf_v (unhide Hz) _).mono ?_
  rintro e w' ⟨rfl, hw⟩
  subst w'
  go_wp2_with fail
  refine (specRankFor_v (unhide Hk) _).mono ?_
  rintro e w' ⟨rfl, hw⟩
  subst w'
  have HQ := hide (weightWays r0 r1 (unhide Hz))
  have HK : Hid (RankSaid x k) := by have := rankWays x; rw [unhide Hk] at this; exact hide this
  clear Hz Hk
  go_upto_region 9 with fail
  go_cut [58] (fun s wc => s = .bool false ∧ wc = w2)
  case first =>
    rcases unhide HK with ⟨rfl, k1⟩ | ⟨rfl, k1⟩ | ⟨p, q, k1, k2, hp, hx, hq, hy⟩
    · clear HK
      go_wp2_with (go_at_call 10; refine (implWeightOf_v (r := -5) (z := 3125) rfl _).mono ?_; rintro e w' ⟨rfl, hw⟩; subst w')
      go_meet
      exact ⟨by first | rfl | (rw [decide_eq_false (by omega)]), rfl⟩
    · clear HK
      go_wp2_with (go_at_call 10; refine (implWeightOf_v (r := 5) (z := 335) rfl _).mono ?_; rintro e w' ⟨rfl, hw⟩; subst w')
      go_meet
      exact ⟨by first | rfl | (rw [decide_eq_false (by omega)]), rfl⟩
    · clear HK
      have Hp := hide hp
      have Hq := hide hq
      clear hp hq
      go_wp2_with fail
      refine (implWeightOf_v (unhide Hp) _).mono ?_
      rintro e w' ⟨rfl, hw⟩
      subst w'
      go_wp2_with fail
      refine (implWeightOf_v (unhide Hq) _).mono ?_
      rintro e w' ⟨rfl, hw⟩
      subst w'
      go_wp2_with fail
      go_meet
      exact ⟨by first | rfl | (rw [decide_eq_false (by omega)]), rfl⟩
  case rest =>
    obtain ⟨rfl, rfl⟩ := hcut
    clear HK
    rcases unhide HQ with ⟨rfl, rfl⟩ | ⟨rfl, rfl⟩ | ⟨q1, rfl, q2⟩ | ⟨q, q1, q2, q3, q4, q5, q6⟩
    · clear HQ
      go_wp2_with fail
      go_ret
      exact ⟨rfl, unhide Hb2⟩
    · clear HQ
      go_wp2_with fail
      go_ret
      exact ⟨rfl, unhide Hb2⟩
    · have H2 := hide q2
      clear HQ q2
      go_wp2_with fail
      refine (implRankFor_v (unhide H2) _).mono ?_
      rintro e w' ⟨rfl, hw⟩
      subst w'
      go_wp2_with fail
      refine (implWeightOf_v (r := 0) (z := 1024) rfl _).mono ?_
      rintro e w' ⟨rfl, hw⟩
      subst w'
      go_wp2_with fail
      go_ret
      exact ⟨rfl, unhide Hb2⟩
    · have H4 := hide q4
      have H5 := hide q5
      clear HQ q4 q5
      go_wp2_with fail
      refine (implWeightOf_v (unhide H5) _).mono ?_
      rintro e w' ⟨rfl, hw⟩
      subst w'
      go_wp2_with fail
      refine (implRankFor_v (unhide H4) _).mono ?_
      rintro e w' ⟨rfl, hw⟩
      subst w'
      go_wp2_with fail
      refine (implWeightOf_v (r := 0) (z := 1024) rfl _).mono ?_
      rintro e w' ⟨rfl, hw⟩
      subst w'
      go_wp2_with fail
      go_ret
      exact ⟨rfl, unhide Hb2⟩

end Go.Proofs.Ytbpjjjagalldgaa
