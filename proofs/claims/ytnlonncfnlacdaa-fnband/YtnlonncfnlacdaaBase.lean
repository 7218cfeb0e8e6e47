/- Contracts of the small functions of chapter 1 and of their models: what each call returns. No condition but those that a theorem names. -/
import Derived.Test.YtnlonncfnlacdaaRows
import Derived.WalkKit
import Derived.ProofKit
import Derived.OpenShut
import Derived.Outline
namespace Go.Proofs.Ytnlonncfnlacdaa
open Go.ChangeShapes Go.WideShapes Go.ChangeAt Go.RowKit
set_option linter.unusedVariables false

theorem ret_int {k : IntKind} {a b : Int} (h : a = b) : Ending.returned (.int k a) = .returned (.int k b) := by rw [h]
theorem ret_bool {a b : Bool} (h : a = b) : Ending.returned (.bool a) = .returned (.bool b) := by rw [h]

def inB (x lo hi : Int) : Bool := decide (lo ≤ x ∧ x ≤ hi)
theorem inB_t {x lo hi : Int} (h1 : lo ≤ x) (h2 : x ≤ hi) : inB x lo hi = true := by unfold inB; exact decide_eq_true ⟨h1, h2⟩
theorem inB_f {x lo hi : Int} (h : x < lo ∨ hi < x) : inB x lo hi = false := by unfold inB; exact decide_eq_false (by omega)
theorem inB_of {x lo hi : Int} (h : inB x lo hi = true) : lo ≤ x ∧ x ≤ hi := by unfold inB at h; exact of_decide_eq_true h
theorem hide {p : Prop} (h : p) : Hid p := h
theorem unhide {p : Prop} (h : Hid p) : p := h

theorem l1Min_any (a b : Int) (w : World) : Calls Try.prog 35 #[.int .i64 a, .int .i64 b] w fun e w' => e = .returned (.int .i64 (min a b)) ∧ w' = w := by
  by_cases h : a < b
  all_goals
    go_enter Try.func35, Try.ntmps35
    go_wp2
    go_ret
    exact ⟨ret_int (by omega), rfl⟩

theorem l1Max_any (a b : Int) (w : World) : Calls Try.prog 34 #[.int .i64 a, .int .i64 b] w fun e w' => e = .returned (.int .i64 (max a b)) ∧ w' = w := by
  by_cases h : b < a
  all_goals
    go_enter Try.func34, Try.ntmps34
    go_wp2
    go_ret
    exact ⟨ret_int (by omega), rfl⟩


theorem implClamped_any (x l h : Int) (w : World) : Calls Try.prog 31 #[.int .i64 x, .int .i64 l, .int .i64 h] w fun e w' => e = .returned (.int .i64 (min (max x l) h)) ∧ w' = w := by
  by_cases c1 : x < l
  · by_cases c2 : h < l
    all_goals
      go_enter Try.func31, Try.ntmps31
      go_wp2
      all_goals (go_ret; exact ⟨ret_int (by omega), rfl⟩)
  · by_cases c2 : h < x
    all_goals
      go_enter Try.func31, Try.ntmps31
      go_wp2
      all_goals (go_ret; exact ⟨ret_int (by omega), rfl⟩)

theorem l1In_any (x lo hi : Int) (w : World) : Calls Try.prog 33 #[.int .i64 x, .int .i64 lo, .int .i64 hi] w fun e w' => e = .returned (.bool (inB x lo hi)) ∧ w' = w := by
  by_cases h1 : lo ≤ x
  · by_cases h2 : x ≤ hi
    all_goals
      go_enter Try.func33, Try.ntmps33
      go_wp2
      go_ret
      exact ⟨ret_bool (by first | exact (inB_t h1 h2).symm | exact (inB_f (by omega)).symm), rfl⟩
  · go_enter Try.func33, Try.ntmps33
    go_wp2
    go_ret
    exact ⟨ret_bool (inB_f (by omega)).symm, rfl⟩






theorem all_snoc {p : Int → Bool} {zs : List Int} {k : Nat} {z : Int} (hlt : k < zs.length) (hz : zs.getD k 0 = z) (ha : (zs.take k).all p = true) (hp : p z = true) : (zs.take (k + 1)).all p = true := by
  rw [List.take_succ_eq_append_getElem hlt, List.all_append, ha]
  have : zs[k] = z := by rw [← hz]; simp [List.getD, hlt]
  simp [this, hp]
theorem all_snoc_f {p : Int → Bool} {zs : List Int} {k : Nat} {z : Int} (hlt : k < zs.length) (hz : zs.getD k 0 = z) (hp : p z = false) : zs.all p = false := by
  have : zs[k] = z := by rw [← hz]; simp [List.getD, hlt]
  rw [List.all_eq_false]
  exact ⟨zs[k], List.getElem_mem hlt, by rw [this, hp]; simp⟩





end Go.Proofs.Ytnlonncfnlacdaa
