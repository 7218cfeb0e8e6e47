/- Smiths as eleven plain numbers: which are right, which are gone, what they are when charged and with another rank. Numbers alone; no condition but those that a theorem names. -/
import Derived.Test.YtkagjopogihnbaaWeights
import Derived.Test.YtkagjopogihnbaaShares
import Derived.Test.YtkagjopogihnbaaGuildSpec
import Derived.Test.YtkagjopogihnbaaSmithRec
namespace Go.Proofs.Ytkagjopogihnbaa
open Go.ChangeShapes Go.WideShapes Go.ChangeAt Go.RowKit Go.Sort
set_option linter.unusedVariables false

/-- Each number is within its limits. -/
def presB (x : SmithV) : Bool :=
  inB x.1 1 3 && (inB x.2.1 0 7 && (inB x.2.2.1 (-5) 5 && (inB x.2.2.2.1 1 255 && (inB x.2.2.2.2.1 (-1) 5 && (pairB x.2.2.2.2.2.1 x.2.2.2.2.2.2.1 && (inB x.2.2.2.2.2.2.2.1 (-1000000000000) 1000000000000 &&
    (inB x.2.2.2.2.2.2.2.2.1 0 (weightV x.2.2.1 - 1) && (inB x.2.2.2.2.2.2.2.2.2.1 0 1024 && inB x.2.2.2.2.2.2.2.2.2.2 0 100000000000))))))))
/-- All are zero. -/
def zeroS : SmithV := (0, 0, 0, 0, 0, 0, 0, 0, 0, 0, 0)
/-- Number by number alike. -/
def sameB (x y : SmithV) : Bool := x.1 == y.1 && (x.2.1 == y.2.1 && (x.2.2.1 == y.2.2.1 && (x.2.2.2.1 == y.2.2.2.1 && (x.2.2.2.2.1 == y.2.2.2.2.1 && (x.2.2.2.2.2.1 == y.2.2.2.2.2.1 && (x.2.2.2.2.2.2.1 == y.2.2.2.2.2.2.1 && (x.2.2.2.2.2.2.2.1 == y.2.2.2.2.2.2.2.1 && (x.2.2.2.2.2.2.2.2.1 == y.2.2.2.2.2.2.2.2.1 && (x.2.2.2.2.2.2.2.2.2.1 == y.2.2.2.2.2.2.2.2.2.1 && (x.2.2.2.2.2.2.2.2.2.2 == y.2.2.2.2.2.2.2.2.2.2))))))))))
theorem sameB_refl (x : SmithV) : sameB x x = true := by unfold sameB; simp
theorem sameB_of {x y : SmithV} (h : sameB x y = true) : x = y := by
  obtain ⟨x0, x1, x2, x3, x4, x5, x6, x7, x8, x9, x10⟩ := x
  obtain ⟨y0, y1, y2, y3, y4, y5, y6, y7, y8, y9, y10⟩ := y
  unfold sameB at h
  simp only [Bool.and_eq_true, beq_iff_eq] at h
  obtain ⟨rfl, rfl, rfl, rfl, rfl, rfl, rfl, rfl, rfl, rfl, rfl⟩ := h
  rfl
def goneB (x : SmithV) : Bool := sameB x zeroS
def smithB (x : SmithV) : Bool := goneB x || presB x
theorem weight_in (r : Int) : 0 ≤ weightV r ∧ weightV r ≤ 3125 := by
  cases h : inB r (-5) 5
  · rw [weightV_none h]; omega
  · rcases ranks h with rfl | rfl | rfl | rfl | rfl | rfl | rfl | rfl | rfl | rfl | rfl <;> decide
theorem weight_pos {r : Int} (h : inB r (-5) 5 = true) : 335 ≤ weightV r := by
  rcases ranks h with rfl | rfl | rfl | rfl | rfl | rfl | rfl | rfl | rfl | rfl | rfl <;> decide
theorem weight_zero (r : Int) : (weightV r != 0) = inB r (-5) 5 := by
  cases h : inB r (-5) 5
  · rw [weightV_none h]; rfl
  · have := weight_pos h
    simp; omega
theorem presB_of {st be rk my gu lo hi hd ca ut wk : Int} (h : presB (st, be, rk, my, gu, lo, hi, hd, ca, ut, wk) = true) : (1 ≤ st ∧ st ≤ 3) ∧ (0 ≤ be ∧ be ≤ 7) ∧ inB rk (-5) 5 = true ∧ (1 ≤ my ∧ my ≤ 255) ∧ (-1 ≤ gu ∧ gu ≤ 5) ∧ pairB lo hi = true ∧ (-1000000000000 ≤ hd ∧ hd ≤ 1000000000000) ∧ (0 ≤ ca ∧ ca ≤ weightV rk - 1) ∧ (0 ≤ ut ∧ ut ≤ 1024) ∧ (0 ≤ wk ∧ wk ≤ 100000000000) := by
  unfold presB at h
  simp only [Bool.and_eq_true] at h
  obtain ⟨h0, h1, h2, h3, h4, h5, h6, h7, h8, h9⟩ := h
  exact ⟨inB_of h0, inB_of h1, h2, inB_of h3, inB_of h4, h5, inB_of h6, inB_of h7, inB_of h8, inB_of h9⟩
theorem goneB_of {x : SmithV} (h : goneB x = true) : x = zeroS := sameB_of h
theorem goneB_zero : goneB zeroS = true := sameB_refl _
theorem goneB_st {x : SmithV} (h : x.1 ≠ 0) : goneB x = false := by
  cases hg : goneB x
  · rfl
  · exact absurd (show x.1 = 0 by rw [goneB_of hg]; rfl) h
theorem presB_st {x : SmithV} (h : x.1 = 0) : presB x = false := by
  unfold presB
  rw [h]
  rfl
theorem presB_gone {x : SmithV} (h : presB x = true) : goneB x = false := by
  cases hg : goneB x
  · rfl
  · rw [goneB_of hg] at h; cases h

/-- Work is charged: to what it worked, and by its weight to what it had. -/
def putOn (x : SmithV) (work : Int) : SmithV :=
  (x.1, x.2.1, x.2.2.1, x.2.2.2.1, x.2.2.2.2.1, x.2.2.2.2.2.1, x.2.2.2.2.2.2.1, x.2.2.2.2.2.2.2.1 + shareN work (weightV x.2.2.1) x.2.2.2.2.2.2.2.2.1, shareL work (weightV x.2.2.1) x.2.2.2.2.2.2.2.2.1, x.2.2.2.2.2.2.2.2.2.1, x.2.2.2.2.2.2.2.2.2.2 + work)
def reRank (x : SmithV) (rank : Int) : SmithV :=
  (x.1, x.2.1, rank, x.2.2.2.1, x.2.2.2.2.1, x.2.2.2.2.2.1, x.2.2.2.2.2.2.1, x.2.2.2.2.2.2.2.1, x.2.2.2.2.2.2.2.2.1 % weightV rank, x.2.2.2.2.2.2.2.2.2.1, x.2.2.2.2.2.2.2.2.2.2)
def chargedV (x : SmithV) (work : Int) : SmithV × Bool :=
  if presB x then (if inB work 0 100000 && presB (putOn x work) then (putOn x work, true) else (x, false)) else (if goneB x then x else zeroS, false)
def rerankedV (x : SmithV) (rank : Int) : SmithV × Bool :=
  if presB x then (if inB rank (-5) 5 then (reRank x rank, true) else (x, false)) else (if goneB x then x else zeroS, false)

theorem presB_reRank {x : SmithV} {rank : Int} (h : presB x = true) (hr : inB rank (-5) 5 = true) : presB (reRank x rank) = true := by
  obtain ⟨st, be, rk, my, gu, lo, hi, hd, ca, ut, wk⟩ := x
  have hp := weight_pos hr
  have hc : inB (ca % weightV rank) 0 (weightV rank - 1) = true := inB_t (Int.emod_nonneg _ (by omega)) (by have := Int.emod_lt_of_pos ca (show 0 < weightV rank by omega); omega)
  unfold presB at h ⊢
  simp only [Bool.and_eq_true] at h
  obtain ⟨h0, h1, h2, h3, h4, h5, h6, h7, h8, h9⟩ := h
  simp only [reRank, h0, h1, h3, h4, h5, h6, h8, h9, hr, hc, Bool.and_self]
/-- Of one who is right: what the charge comes to is no less than nothing, and small. -/
theorem share_in {work W ca : Int} (w0 : 0 ≤ work) (w1 : work ≤ 100000) (r0 : 335 ≤ W) (r1 : W ≤ 3125) (c0 : 0 ≤ ca) (c1 : ca ≤ W - 1) :
    okShare work W ca = true ∧ 0 ≤ shareN work W ca ∧ shareN work W ca ≤ 400000 ∧ 0 ≤ shareL work W ca ∧ shareL work W ca ≤ W - 1 ∧ shareN work W ca * W + shareL work W ca = 1024 * work + ca := by
  have hk : okShare work W ca = true := okShare_in w0 (by omega) (by omega) (by omega) c0 (by omega)
  obtain ⟨e1, e2⟩ := share_yes hk
  rw [e1, e2]
  have hd := Int.emod_add_mul_ediv (1024 * work + ca) W
  have m0 := Int.emod_nonneg (1024 * work + ca) (show W ≠ 0 by omega)
  have m1 := Int.emod_lt_of_pos (1024 * work + ca) (show 0 < W by omega)
  have q0 : 0 ≤ (1024 * work + ca) / W := Int.ediv_nonneg (by omega) (by omega)
  have q1 : (1024 * work + ca) / W ≤ 400000 := by
    refine Int.le_of_lt_add_one (Int.ediv_lt_of_lt_mul (by omega) ?_)
    have : (335 : Int) * 400001 ≤ W * 400001 := Int.mul_le_mul_of_nonneg_right r0 (by omega)
    have e : (400000 + 1) * W = W * 400001 := by rw [Int.mul_comm]; rfl
    rw [e]
    omega
  refine ⟨hk, q0, q1, m0, by omega, ?_⟩
  rw [Int.mul_comm]
  omega
end Go.Proofs.Ytkagjopogihnbaa
