/- The walk of the law FnCalc: at every row of bytes it returns true and changes nothing that was in memory; no condition but that the bytes can be read. -/
import Derived.Test.YtfapfpinlkdcmaaCalc
import Derived.Test.YtfapfpinlkdcmaaDraw1
import Derived.Deep.DeepCutAuto
namespace Go.Proofs.Ytfapfpinlkdcmaa
open Go.ChangeShapes Go.WideShapes Go.ChangeAt Go.RowKit Draw
set_option linter.unusedVariables false

theorem implMulDiv_v {a b c v : Int} (h : mulDivV a b c = v) (w : World) : Calls Try.prog 11 #[.int .i64 a, .int .i64 b, .int .i64 c] w fun e w' => e = .returned (.int .i64 v) ∧ Below w.heap.size w w' := by
  rw [← h]; exact implMulDiv_any a b c w
theorem specMulDiv_v {a b c v : Int} (h : mulDivV a b c = v) (w : World) : Calls Try.prog 14 #[.int .i64 a, .int .i64 b, .int .i64 c] w fun e w' => e = .returned (.int .i64 v) ∧ w' = w := by
  rw [← h]; exact specMulDiv_any a b c w
theorem implClamped_v {x l h k : Int} (hk : min (max x l) h = k) (w : World) : Calls Try.prog 13 #[.int .i64 x, .int .i64 l, .int .i64 h] w fun e w' => e = .returned (.int .i64 k) ∧ w' = w := by
  rw [← hk]; exact implClamped_any x l h w
theorem specClamped_v {x l h k : Int} (hk : min (max x l) h = k) (w : World) : Calls Try.prog 15 #[.int .i64 x, .int .i64 l, .int .i64 h] w fun e w' => e = .returned (.int .i64 k) ∧ w' = w := by
  rw [← hk]; exact specClamped_any x l h w

theorem clampWays (x l h : Int) : (l ≤ h ∧ x < l ∧ min (max x l) h = l) ∨ (l ≤ h ∧ h < x ∧ min (max x l) h = h) ∨ (l ≤ h ∧ l ≤ x ∧ x ≤ h ∧ min (max x l) h = x) ∨ (h < l ∧ min (max x l) h = h) := by omega

theorem mulDivWays (a b c : Int) : (mulDivV a b c = -1 ∧ a < 0) ∨ (mulDivV a b c = -1 ∧ 0 ≤ a ∧ b < 0) ∨ (mulDivV a b c = -1 ∧ 0 ≤ a ∧ 0 ≤ b ∧ c < 1) ∨ (mulDivV a b c = -1 ∧ 0 ≤ a ∧ 0 ≤ b ∧ 1 ≤ c ∧ 1000000000 < a)
    ∨ (mulDivV a b c = -1 ∧ 0 ≤ a ∧ 0 ≤ b ∧ 1 ≤ c ∧ a ≤ 1000000000 ∧ 1000000000 < b) ∨ (mulDivV a b c = -1 ∧ 0 ≤ a ∧ 0 ≤ b ∧ 1 ≤ c ∧ a ≤ 1000000000 ∧ b ≤ 1000000000 ∧ 1000000000 < c)
    ∨ (0 ≤ a ∧ 0 ≤ b ∧ 1 ≤ c ∧ a ≤ 1000000000 ∧ b ≤ 1000000000 ∧ c ≤ 1000000000 ∧ mulDivV a b c = a * b / c) := by
  cases ha : inB a 0 1000000000
  · have hv : mulDivV a b c = -1 := by simp [mulDivV, ha]
    have : ¬ (0 ≤ a ∧ a ≤ 1000000000) := fun h => by rw [inB_t h.1 h.2] at ha; cases ha
    omega
  cases hb : inB b 0 1000000000
  · have hv : mulDivV a b c = -1 := by simp [mulDivV, hb]
    have : ¬ (0 ≤ b ∧ b ≤ 1000000000) := fun h => by rw [inB_t h.1 h.2] at hb; cases hb
    omega
  cases hc : inB c 1 1000000000
  · have hv : mulDivV a b c = -1 := by simp [mulDivV, hc]
    have : ¬ (1 ≤ c ∧ c ≤ 1000000000) := fun h => by rw [inB_t h.1 h.2] at hc; cases hc
    omega
  have hv : mulDivV a b c = a * b / c := by simp [mulDivV, ha, hb, hc]
  obtain ⟨a0, a1⟩ := inB_of ha
  obtain ⟨b0, b1⟩ := inB_of hb
  obtain ⟨c0, c1⟩ := inB_of hc
  exact .inr (.inr (.inr (.inr (.inr (.inr ⟨a0, b0, c0, a1, b1, c1, hv⟩)))))

theorem div_bd {m c : Int} (hm : 0 ≤ m) (hm1 : m ≤ 1000000000000000000) (hc : 1 ≤ c) : 0 ≤ m / c ∧ m / c ≤ 1000000000000000000 ∧ 0 ≤ m / c * c ∧ m / c * c ≤ m ∧ m - m / c * c < c := by
  have h1 := Int.ediv_nonneg hm (show 0 ≤ c by omega)
  have h2 := Int.mul_nonneg h1 (show 0 ≤ c by omega)
  have h3 := Int.emod_add_mul_ediv m c
  have h4 := Int.emod_nonneg m (show c ≠ 0 by omega)
  have h5 := Int.emod_lt_of_pos m (show 0 < c by omega)
  have h6 : m / c * c = c * (m / c) := Int.mul_comm _ _
  have h7 : m / c ≤ m := Int.ediv_le_self _ hm
  omega

theorem self_div {a b : Int} (a0 : 0 ≤ a) (a1 : a ≤ 1000000000) (b0 : 1 ≤ b) (b1 : b ≤ 1000000000) : mulDivV a b b = a := by
  have h1 : inB a 0 1000000000 = true := inB_t a0 a1
  have h2 : inB b 0 1000000000 = true := inB_t (by omega) b1
  have h3 : inB b 1 1000000000 = true := inB_t b0 b1
  simp only [mulDivV, h1, h2, h3, Bool.and_true, if_true]
  exact Int.mul_ediv_cancel a (by omega)

set_option maxRecDepth 100000 in
set_option maxHeartbeats 2000000 in
theorem walkFnCalc (a0 : Option Addr) (len0 cap0 : Nat) (z0 : List Int) (w : World) (w0 : IsRow .u8 w a0 len0 cap0 z0) :
    Calls Try.prog 3 #[.slice a0 len0 cap0] w fun e w' => e = .returned (.bool true) ∧ Below w.heap.size w w' := by
  by_cases hbig : 4096 < len0
  · go_enter Try.func3, Try.ntmps3
    go_wp2_with fail
    refine (big_yes _ _ _ _ hbig).mono ?_
    rintro e w' ⟨rfl, rfl⟩
    go_wp2_with fail
    go_ret
    exact ⟨rfl, Below.refl _ _⟩
  have Hr := hide (row_of w0 (by omega))
  clear w0
  go_enter Try.func3, Try.ntmps3
  go_wp2_with fail
  refine (big_no _ _ _ _ (by omega)).mono ?_
  rintro e w' ⟨rfl, rfl⟩
  go_wp2_with fail
  refine (DrawMulDiv_any _ _ _ _ (unhide Hr)).mono ?_
  rintro e w1 ⟨a, b, c, rfl, b1⟩
  have Hb1 := hide b1
  clear b1
  obtain ⟨v, hv⟩ : ∃ v, mulDivV a b c = v := ⟨_, rfl⟩
  have Hv := hide hv
  clear hv
  go_wp2_with fail
  refine (implMulDiv_v (unhide Hv) _).mono ?_
  rintro e w2 ⟨rfl, b2⟩
  have Hb2 := hide b2
  clear b2
  go_wp2_with fail
  refine (DrawClamped_any _ _ _ _ (row_later (unhide Hr) ((unhide Hb1).trans ((unhide Hb2).mono (unhide Hb1).size)))).mono ?_
  rintro e w3 ⟨x, l, h, rfl, b3⟩
  have Hb3 := hide b3
  clear b3
  obtain ⟨k, hk⟩ : ∃ k, min (max x l) h = k := ⟨_, rfl⟩
  have Hk := hide hk
  clear hk
  go_wp2_with fail
  refine (implClamped_v (unhide Hk) _).mono ?_
  rintro e w' ⟨rfl, hw⟩
  subst w'
  go_wp2_with fail
  refine (specMulDiv_v (unhide Hv) _).mono ?_
  rintro e w' ⟨rfl, hw⟩
  subst w'
  go_wp2_with fail
  refine (specClamped_v (unhide Hk) _).mono ?_
  rintro e w' ⟨rfl, hw⟩
  subst w'
  have Hw := hide (((unhide Hb1).trans ((unhide Hb2).mono (unhide Hb1).size)).trans ((unhide Hb3).mono (Nat.le_trans (unhide Hb1).size (unhide Hb2).size)))
  have hq := mulDivWays a b c
  rw [unhide Hv] at hq
  have hc := clampWays x l h
  rw [unhide Hk] at hc
  clear Hb1 Hb2 Hb3 Hr Hk
  have HC := hide hc
  clear hc
  have HQ := hide hq
  clear hq
  go_upto_region 9 with fail
  go_cut [84] (fun s wc => s = .bool false ∧ wc = w3)
  case first =>
    rcases unhide HC with ⟨r1, r2, rfl⟩ | ⟨r1, r2, rfl⟩ | ⟨r1, r2, r3, rfl⟩ | ⟨r1, rfl⟩
    all_goals
      clear HC
      go_wp2_with fail
      go_meet
      refine ⟨?_, rfl⟩
      first | rfl | (simp; omega)
  case rest =>
    obtain ⟨rfl, rfl⟩ := hcut
    clear HC
    rcases unhide HQ with ⟨rfl, q1⟩ | ⟨rfl, q1, q2⟩ | ⟨rfl, q1, q2, q3⟩ | ⟨rfl, q1, q2, q3, q4⟩ | ⟨rfl, q1, q2, q3, q4, q5⟩ | ⟨rfl, q1, q2, q3, q4, q5, q6⟩ | ⟨q1, q2, q3, q4, q5, q6, q7⟩
    case inr.inr.inr.inr.inr.inr =>
      obtain ⟨m0, m1⟩ := mul_bd q1 q4 q2 q5
      obtain ⟨d0, d1, d2, d3, d4⟩ := div_bd m0 m1 q3
      rw [← q7] at d0 d1 d2 d3 d4
      clear q7
      by_cases hb1 : b < 1
      · go_wp2_with fail
        go_ret
        exact ⟨rfl, unhide Hw⟩
      · have hs := self_div q1 q4 (by omega) q5
        have Hs := hide hs
        clear hs
        go_wp2_with fail
        refine (implMulDiv_v (unhide Hs) _).mono ?_
        rintro e w4 ⟨rfl, b4⟩
        have Hb4 := hide b4
        clear b4
        go_wp2_with fail
        go_ret
        exact ⟨rfl, (unhide Hw).trans ((unhide Hb4).mono (unhide Hw).size)⟩
    all_goals
      go_wp2_with fail
      go_ret
      exact ⟨rfl, unhide Hw⟩
end Go.Proofs.Ytfapfpinlkdcmaa
