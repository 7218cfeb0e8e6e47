/- Rows of records that are filled, or marked, one after the other: lists alone, and the row that make lays. No condition but those that a theorem names. -/
import Derived.Test.YtmdgokjeobnnaaaDoorRecKit
namespace Go.Proofs.YtmdgokjeobnnaaaDoor
open Go.ChangeShapes Go.WideShapes Go.ChangeAt Go.RowKit Go.Sort
set_option linter.unusedVariables false

section
variable {α : Type} {t k : Nat} {enc : α → List Value}
/-- The first j of them, and behind these z. -/
def fillL (xs : List α) (z : α) (j : Nat) : List α := xs.take j ++ List.replicate (xs.length - j) z
theorem fillL_len {xs : List α} {z : α} {j : Nat} (h : j ≤ xs.length) : (fillL xs z j).length = xs.length := by unfold fillL; simp; omega
theorem fillL_zero (xs : List α) (z : α) : fillL xs z 0 = List.replicate xs.length z := by unfold fillL; simp
theorem fillL_all (xs : List α) (z : α) : fillL xs z xs.length = xs := by unfold fillL; simp
theorem fillL_set [Inhabited α] {xs : List α} {z : α} {j : Nat} (h : j < xs.length) : (fillL xs z j).set j (recAt xs j) = fillL xs z (j + 1) := by
  unfold fillL
  have hl : (xs.take j).length = j := by simp; omega
  rw [List.set_append_right _ _ (by rw [hl]; exact Nat.le_refl _), hl, Nat.sub_self, recAt_get h, List.take_succ_eq_append_getElem h, List.append_assoc]
  congr 1
  obtain ⟨m, hm⟩ : ∃ m, xs.length - j = m + 1 := ⟨xs.length - j - 1, by omega⟩
  rw [hm, List.replicate_succ, List.set_cons_zero, show xs.length - (j + 1) = m by omega]
  rfl
/-- n marks from c on, each d greater than the one ahead. -/
def markL (mk : Int → α) (d : Nat) (c : Int) (n : Nat) : List α := (List.range n).map fun i : Nat => mk (c + (d : Int) * (i : Int))
theorem markL_len (mk : Int → α) (d : Nat) (c : Int) (n : Nat) : (markL mk d c n).length = n := by simp [markL]
theorem markL_at [Inhabited α] (mk : Int → α) (d : Nat) (c : Int) {n i : Nat} (h : i < n) : recAt (markL mk d c n) i = mk (c + (d : Int) * (i : Int)) := by unfold recAt markL; simp [List.getD, h]
/-- The first j of them are marked. -/
def markedL (mk : Int → α) (d : Nat) (c : Int) (xs : List α) (j : Nat) : List α := markL mk d c j ++ xs.drop j
theorem markedL_len {mk : Int → α} {d : Nat} {c : Int} {xs : List α} {j : Nat} (h : j ≤ xs.length) : (markedL mk d c xs j).length = xs.length := by unfold markedL; simp [markL_len]; omega
theorem markedL_zero (mk : Int → α) (d : Nat) (c : Int) (xs : List α) : markedL mk d c xs 0 = xs := by unfold markedL markL; simp
theorem markedL_all (mk : Int → α) (d : Nat) (c : Int) (xs : List α) : markedL mk d c xs xs.length = markL mk d c xs.length := by unfold markedL; simp
theorem markedL_set {mk : Int → α} {d : Nat} {c : Int} {xs : List α} {j : Nat} (h : j < xs.length) : (markedL mk d c xs j).set j (mk (c + (d : Int) * (j : Int))) = markedL mk d c xs (j + 1) := by
  unfold markedL
  rw [List.set_append_right _ _ (by rw [markL_len]; exact Nat.le_refl _), markL_len, Nat.sub_self, List.drop_eq_getElem_cons h, List.set_cons_zero]
  simp [markL, List.range_succ]
/-- The row that make lays. -/
theorem made_flat [Inhabited α] (hk : ∀ x, (enc x).length = k) (h0 : 0 < k) (z : α) (zs : Array Value) (hz : zs.toList = enc z) (n : Nat) : (madeCells zs (n * k)).toList = flat enc (List.replicate n z) := by
  have hs : zs.size = k := by rw [← Array.length_toList, hz, hk]
  apply List.ext_getElem?
  intro m
  by_cases hm : m < n * k
  · have hd : m / k < n := (Nat.div_lt_iff_lt_mul h0).2 hm
    have hr : m % k < k := Nat.mod_lt _ h0
    have he : m = m / k * k + m % k := by rw [Nat.mul_comm]; exact (Nat.div_add_mod m k).symm
    have hg := flat_get hk (List.replicate n z) (m / k) (by simpa using hd) (m % k) hr
    rw [← he] at hg
    have hrec : recAt (List.replicate n z) (m / k) = z := by unfold recAt; simp [List.getD, hd]
    rw [hg, hrec, ← hz]
    simp [madeCells, hm, hs, hr]
  · rw [List.getElem?_eq_none (by simp [madeCells]; omega), List.getElem?_eq_none (by rw [flat_len hk]; simp; omega)]
end

end Go.Proofs.YtmdgokjeobnnaaaDoor
