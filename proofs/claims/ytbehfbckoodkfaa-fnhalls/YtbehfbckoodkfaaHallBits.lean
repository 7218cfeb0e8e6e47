/- Sets of benches that stand one behind the other: how two of them are joined, how many members one has, and which. No condition but those that a theorem names. -/
import Derived.Test.YtbehfbckoodkfaaHallSet
import Derived.Test.YtbehfbckoodkfaaMemSpec
namespace Go.Proofs.Ytbehfbckoodkfaa
open Go.ChangeShapes Go.WideShapes Go.ChangeAt Go.RowKit Go.Sort
set_option linter.unusedVariables false

theorem bits_join {lo hi : Int} (h0 : 0 ≤ lo) (h1 : lo ≤ hi) (h2 : hi ≤ 8) : bitsV 0 lo + bitsV lo hi = bitsV 0 hi ∧ bits .or .i64 (bitsV 0 lo) (bitsV lo hi) = bitsV 0 hi := by
  have key : ∀ hi : Fin 9, ∀ lo : Fin 9, lo.val ≤ hi.val → bitsV 0 lo.val + bitsV lo.val hi.val = bitsV 0 hi.val ∧ bits .or .i64 (bitsV 0 lo.val) (bitsV lo.val hi.val) = bitsV 0 hi.val := by decide +kernel
  have := key ⟨hi.toNat, by omega⟩ ⟨lo.toNat, by omega⟩ (by show lo.toNat ≤ hi.toNat; omega)
  simp only [show ((lo.toNat : Nat) : Int) = lo by omega, show ((hi.toNat : Nat) : Int) = hi by omega] at this
  exact this
theorem bits_range {lo hi : Int} (h0 : 0 ≤ lo) (h1 : lo ≤ hi) (h2 : hi ≤ 8) : 0 ≤ bitsV lo hi ∧ bitsV lo hi ≤ 255 := by
  have key : ∀ hi : Fin 9, ∀ lo : Fin 9, lo.val ≤ hi.val → 0 ≤ bitsV lo.val hi.val ∧ bitsV lo.val hi.val ≤ 255 := by decide +kernel
  have := key ⟨hi.toNat, by omega⟩ ⟨lo.toNat, by omega⟩ (by show lo.toNat ≤ hi.toNat; omega)
  simp only [show ((lo.toNat : Nat) : Int) = lo by omega, show ((hi.toNat : Nat) : Int) = hi by omega] at this
  exact this
theorem bits_len {lo hi : Int} (h0 : 0 ≤ lo) (h1 : lo ≤ hi) (h2 : hi ≤ 8) : ((mems (bitsV lo hi)).length : Int) = hi - lo := by
  have key : ∀ hi : Fin 9, ∀ lo : Fin 9, lo.val ≤ hi.val → ((mems (bitsV lo.val hi.val)).length : Int) = hi.val - lo.val := by decide +kernel
  have := key ⟨hi.toNat, by omega⟩ ⟨lo.toNat, by omega⟩ (by show lo.toNat ≤ hi.toNat; omega)
  simp only [show ((lo.toNat : Nat) : Int) = lo by omega, show ((hi.toNat : Nat) : Int) = hi by omega] at this
  exact this
theorem bits_mem {lo hi b : Int} (h0 : 0 ≤ lo) (h1 : lo ≤ hi) (h2 : hi ≤ 8) (hb0 : -1 ≤ b) (hb1 : b ≤ 8) : memB (bitsV lo hi) b = decide (lo ≤ b ∧ b < hi) := by
  have key : ∀ b : Fin 10, ∀ hi : Fin 9, ∀ lo : Fin 9, lo.val ≤ hi.val → memB (bitsV lo.val hi.val) ((b.val : Int) - 1) = decide ((lo.val : Int) ≤ (b.val : Int) - 1 ∧ (b.val : Int) - 1 < hi.val) := by decide +kernel
  have := key ⟨(b + 1).toNat, by omega⟩ ⟨hi.toNat, by omega⟩ ⟨lo.toNat, by omega⟩ (by show lo.toNat ≤ hi.toNat; omega)
  simp only [show ((lo.toNat : Nat) : Int) = lo by omega, show ((hi.toNat : Nat) : Int) = hi by omega, show (((b + 1).toNat : Nat) : Int) - 1 = b by omega] at this
  exact this

end Go.Proofs.Ytbehfbckoodkfaa
