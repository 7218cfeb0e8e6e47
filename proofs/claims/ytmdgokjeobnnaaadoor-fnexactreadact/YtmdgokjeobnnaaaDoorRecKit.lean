/- Rows of records of k cells each, whatever the record: what a slice of them reads as, rows that the call itself made, how one is written into. No condition but those that a theorem names. -/
import Derived.Test.YtmdgokjeobnnaaaDoorOwnKit
import Derived.Lib.SmallJoins
namespace Go.Proofs.YtmdgokjeobnnaaaDoor
open Go.ChangeShapes Go.WideShapes Go.ChangeAt Go.RowKit Go.Sort
set_option linter.unusedVariables false

section
variable {α : Type} {t k : Nat} {enc : α → List Value}
def flat (enc : α → List Value) (xs : List α) : List Value := xs.flatMap enc
theorem flat_len (hk : ∀ x, (enc x).length = k) : ∀ xs : List α, (flat enc xs).length = xs.length * k
  | [] => by simp [flat]
  | x :: xs => by
    have ih := flat_len hk xs
    unfold flat at ih ⊢
    rw [List.flatMap_cons, List.length_append, ih, hk, List.length_cons, Nat.add_mul]; omega
theorem flat_append (xs ys : List α) : flat enc (xs ++ ys) = flat enc xs ++ flat enc ys := by unfold flat; rw [List.flatMap_append]
theorem flat_take (hk : ∀ x, (enc x).length = k) : ∀ (xs : List α) (n : Nat), flat enc (xs.take n) = (flat enc xs).take (n * k)
  | [], n => by simp [flat]
  | x :: xs, 0 => by simp [flat]
  | x :: xs, n + 1 => by
    have ih := flat_take hk xs n
    unfold flat at ih ⊢
    rw [List.take_succ_cons, List.flatMap_cons, List.flatMap_cons, ih, Nat.add_mul, Nat.one_mul, Nat.add_comm (n * k) k]
    rw [List.take_append, hk, show k + n * k - k = n * k by omega, List.take_of_length_le (l := enc x) (by rw [hk]; omega)]
/-- The cells us, from o on, in the place of what was there. -/
def setL (L : List Value) (o : Nat) : List Value → List Value
  | [] => L
  | u :: us => setL (L.set o u) (o + 1) us
def setW (w : World) (g o : Nat) : List Value → World
  | [] => w
  | u :: us => setW (w.setCell ⟨g, o, none⟩ u) g (o + 1) us
theorem setL_len : ∀ (us L : List Value) (o : Nat), (setL L o us).length = L.length
  | [], L, o => rfl
  | u :: us, L, o => by unfold setL; rw [setL_len us]; simp
theorem setL_get : ∀ (us L : List Value) (o m : Nat), o + us.length ≤ L.length → (setL L o us)[m]? = if o ≤ m ∧ m < o + us.length then us[m - o]? else L[m]?
  | [], L, o, m, h => by unfold setL; rw [if_neg (by simp)]
  | u :: us, L, o, m, h => by
    unfold setL
    have ih := setL_get us (L.set o u) (o + 1) m (by simp at h ⊢; omega)
    rw [ih]
    simp only [List.length_cons] at h ⊢
    by_cases h1 : o + 1 ≤ m ∧ m < o + 1 + us.length
    · rw [if_pos h1, if_pos (by omega), show m - o = (m - (o + 1)) + 1 by omega]; rfl
    · rw [if_neg h1]
      by_cases h2 : m = o
      · subst h2; rw [if_pos (by omega), List.getElem?_set_self (by omega)]; simp
      · rw [if_neg (by omega), List.getElem?_set_ne (by omega)]
theorem own_setW {B t n cap g sz : Nat} : ∀ (us : List Value) {w : World} {xs : List Value} (o : Nat), w.ownsRow B t sz (.slice (some ⟨g, 0, none⟩) n cap) n xs →
    (setW w g o us).ownsRow B t sz (.slice (some ⟨g, 0, none⟩) n cap) n (setL xs o us) ∧ w.grownBy (setW w g o us) (some g)
  | [], w, xs, o, h => ⟨h, grown_refl _ _⟩
  | u :: us, w, xs, o, h => by
    obtain ⟨h1, h2⟩ := World.ownsRow.stored h o u
    obtain ⟨h3, h4⟩ := own_setW us (o + 1) h1
    exact ⟨h3, grown_trans h2 h4⟩
/-- The slice v, in a block from n₀ on, holds the records xs. -/
def RecAt (t k : Nat) (enc : α → List Value) (n₀ : Nat) (w : World) (v : Value) (xs : List α) : Prop := w.ownsRow n₀ t k v xs.length (flat enc xs)
theorem RecAt.lt {n₀ : Nat} {w : World} {v : Value} {xs : List α} (h : RecAt t k enc n₀ w v xs) {i : Nat} (hi : v.ownBlock = some i) : n₀ ≤ i ∧ i < w.heap.size := World.ownsRow.lt h i hi
theorem RecAt.mono {n₀ n₁ : Nat} {w : World} {v : Value} {xs : List α} (h : RecAt t k enc n₀ w v xs) (hn : n₁ ≤ n₀) : RecAt t k enc n₁ w v xs := own_mono h hn
theorem RecAt.same {n₀ : Nat} {w w' : World} {v : Value} {xs : List α} (h : RecAt t k enc n₀ w v xs) (hs : ∀ i, v.ownBlock = some i → w'.heap[i]? = w.heap[i]?) : RecAt t k enc n₀ w' v xs := own_same h hs
theorem RecAt.later {n₀ : Nat} {w w' : World} {v : Value} {xs : List α} (h : RecAt t k enc n₀ w v xs) (hb : Below w.heap.size w w') : RecAt t k enc n₀ w' v xs := h.same fun i hi => hb.block i (h.lt hi).2
theorem RecAt.grown {n₀ : Nat} {w w' : World} {v : Value} {xs : List α} {r : Option Nat} (h : RecAt t k enc n₀ w v xs) (hg : w.grownBy w' r) (hr : ∀ i, v.ownBlock = some i → r ≠ some i) : RecAt t k enc n₀ w' v xs := h.same fun i hi => hg.block i (h.lt hi).2 (fun e => hr i hi e.symm)
theorem RecAt.shape {n₀ : Nat} {w : World} {v : Value} {xs : List α} (h : RecAt t k enc n₀ w v xs) : ∃ a cap, v = .slice a xs.length cap := by
  rcases h.2 with ⟨rfl, hz⟩ | ⟨g, cap, cur, rfl, _⟩
  · exact ⟨none, 0, by rw [hz]⟩
  · exact ⟨_, cap, rfl⟩
end

section
variable {α : Type} [Inhabited α] {t k : Nat} {enc : α → List Value}
def recAt (xs : List α) (j : Nat) : α := xs.getD j default
theorem recAt_get {xs : List α} {j : Nat} (h : j < xs.length) : recAt xs j = xs[j] := by unfold recAt; simp [List.getD, h]
theorem recAt_take {xs : List α} {n j : Nat} (h : j < n) : recAt (xs.take n) j = recAt xs j := by unfold recAt; simp [List.getD, h]
theorem recAt_mem {xs : List α} {j : Nat} (h : j < xs.length) : recAt xs j ∈ xs := by rw [recAt_get h]; exact List.getElem_mem h
theorem recAt_set {xs : List α} {i : Nat} {x : α} (h : i < xs.length) (j : Nat) : recAt (xs.set i x) j = if j = i then x else recAt xs j := by
  unfold recAt
  by_cases e : j = i
  · subst e; simp [List.getD, h]
  · rw [if_neg e]; simp [List.getD, Ne.symm e]
theorem flat_get (hk : ∀ x, (enc x).length = k) : ∀ (xs : List α) (j : Nat), j < xs.length → ∀ i, i < k → (flat enc xs)[j * k + i]? = (enc (recAt xs j))[i]?
  | x :: xs, 0, _, i, hi => by
    unfold flat recAt
    rw [List.flatMap_cons, Nat.zero_mul, Nat.zero_add, List.getElem?_append_left (by rw [hk]; exact hi)]; rfl
  | x :: xs, j + 1, h, i, hi => by
    have ih := flat_get hk xs j (by simpa using h) i hi
    unfold flat recAt at ih ⊢
    rw [List.flatMap_cons, List.getElem?_append_right (by rw [hk, Nat.add_mul]; omega), hk, show (j + 1) * k + i - k = j * k + i by rw [Nat.add_mul]; omega, ih]
    rfl
/-- A record is written into its place. -/
theorem flat_set (hk : ∀ x, (enc x).length = k) (h0 : 0 < k) (xs : List α) (j : Nat) (hj : j < xs.length) (x : α) : setL (flat enc xs) (j * k) (enc x) = flat enc (xs.set j x) := by
  have hl := flat_len hk xs
  have hjk : j * k + k ≤ xs.length * k := by rw [← Nat.succ_mul]; exact Nat.mul_le_mul_right k hj
  apply List.ext_getElem?
  intro m
  by_cases hm : m < xs.length * k
  · have hd : m / k < xs.length := (Nat.div_lt_iff_lt_mul h0).2 hm
    have hr : m % k < k := Nat.mod_lt _ h0
    have he : m = m / k * k + m % k := by rw [Nat.mul_comm]; exact (Nat.div_add_mod m k).symm
    have hg := flat_get hk (xs.set j x) (m / k) (by simpa using hd) (m % k) hr
    have hg0 := flat_get hk xs (m / k) hd (m % k) hr
    rw [← he] at hg hg0
    rw [setL_get _ _ _ _ (by rw [hl, hk]; exact hjk), hg, hk, recAt_set hj, hg0]
    by_cases e : m / k = j
    · rw [if_pos e, if_pos (by rw [← e]; omega), show m - j * k = m % k by rw [← e]; omega]
    · rw [if_neg e, if_neg]
      intro ⟨h1, h2⟩
      apply e
      exact Nat.div_eq_of_lt_le h1 (by rw [Nat.succ_mul]; exact h2)
  · rw [List.getElem?_eq_none (by rw [setL_len, hl]; omega), List.getElem?_eq_none (by rw [flat_len hk]; simp; omega)]
/-- The slice v reads as the records xs. -/
def IsRec (k : Nat) (enc : α → List Value) (w : World) (v : Value) (xs : List α) : Prop :=
  ∃ (a : Option Addr) (cap : Nat), v = .slice a xs.length cap ∧ xs.length ≤ cap ∧ cap ≤ 9223372036854775807 ∧ (xs = [] ∨ ∃ b off, a = some ⟨b, off, none⟩ ∧ b < w.heap.size ∧
    ∀ j, j < xs.length → ∀ i u, (enc (recAt xs j))[i]? = some u → w.cell? ⟨b, off + j * k + i, none⟩ = some u)
theorem IsRec.below {w w' : World} {v : Value} {xs : List α} (h : IsRec k enc w v xs) (hb : Below w.heap.size w w') : IsRec k enc w' v xs := by
  obtain ⟨a, cap, rfl, hc, hm, hr⟩ := h
  refine ⟨a, cap, rfl, hc, hm, ?_⟩
  rcases hr with hr | ⟨b, off, rfl, hlt, hcl⟩
  · exact .inl hr
  · exact .inr ⟨b, off, rfl, Nat.lt_of_lt_of_le hlt hb.size, fun j hj i u hu => (hb.cell (p := ⟨b, off + j * k + i, none⟩) hlt).trans (hcl j hj i u hu)⟩
theorem IsRec.cut {w : World} {a : Option Addr} {len cap : Nat} {xs : List α} (h : IsRec k enc w (.slice a len cap) xs) {n : Nat} (hn : n ≤ xs.length) : IsRec k enc w (.slice a n cap) (xs.take n) := by
  obtain ⟨a', cap', he, hc, hm, hr⟩ := h
  cases he
  have hl : (xs.take n).length = n := by simp; omega
  refine ⟨a, cap, by rw [hl], by omega, hm, ?_⟩
  rcases hr with hr | ⟨b, off, rfl, hlt, hcl⟩
  · exact .inl (by rw [hr]; simp)
  · refine .inr ⟨b, off, rfl, hlt, fun j hj => ?_⟩
    rw [recAt_take (by omega)]
    exact hcl j (by omega)
theorem IsRec.shape {w : World} {v : Value} {xs : List α} (h : IsRec k enc w v xs) : ∃ a cap, v = .slice a xs.length cap ∧ xs.length ≤ cap ∧ cap ≤ 9223372036854775807 := by
  obtain ⟨a, cap, rfl, hc, hm, _⟩ := h; exact ⟨a, cap, rfl, hc, hm⟩
theorem RecAt.recs (hk : ∀ x, (enc x).length = k) (h0 : 0 < k) {n₀ : Nat} {w : World} {v : Value} {xs : List α} (h : RecAt t k enc n₀ w v xs) : IsRec k enc w v xs := by
  have h' := h
  rcases h.2 with ⟨rfl, hz⟩ | ⟨g, cap, cur, rfl, hb, hg, hnc, hcm, r⟩
  · exact ⟨none, 0, by rw [hz], by omega, by omega, .inl (List.eq_nil_of_length_eq_zero hz)⟩
  · refine ⟨_, cap, rfl, hnc, by unfold maxLen at hcm; omega, .inr ⟨g, 0, rfl, (Array.getElem?_eq_some_iff.1 hg).1, fun j hj i u hu => ?_⟩⟩
    have hi : i < k := by
      rcases Nat.lt_or_ge i k with h | h
      · exact h
      · rw [List.getElem?_eq_none (by rw [hk]; exact h)] at hu; cases hu
    have hjk : j * k + k ≤ xs.length * k := by rw [← Nat.succ_mul]; exact Nat.mul_le_mul_right k hj
    rw [Nat.zero_add, World.ownsRow.cellAt h' (j * k + i) (by omega), flat_get hk xs j hj i hi]
    exact hu
/-- What a walk that writes into it asks. -/
theorem RecAt.view (hk : ∀ x, (enc x).length = k) (h0 : 0 < k) {n₀ n cap : Nat} {w : World} {a : Option Addr} {xs : List α} (h : RecAt t k enc n₀ w (.slice a n cap) xs) (hn : n = xs.length) (hl : 0 < xs.length) : ∃ g, a = some ⟨g, 0, none⟩ ∧ n₀ ≤ g ∧ g < w.heap.size ∧
    (∀ j, j < xs.length → ∀ i u, (enc (recAt xs j))[i]? = some u → w.cell? ⟨g, j * k + i, none⟩ = some u) ∧ (∀ o, w.frozen? ⟨g, o, none⟩ = false) := by
  subst hn
  have h' := h
  rcases h.2 with ⟨hv, hz⟩ | ⟨g, cap', cur, hv, hb, hg, hnc, hcm, r⟩
  · omega
  · cases hv
    refine ⟨g, rfl, hb, (Array.getElem?_eq_some_iff.1 hg).1, fun j hj i u hu => ?_, fun o => World.ownsRow.frozenAt h' o⟩
    have hi : i < k := by
      rcases Nat.lt_or_ge i k with h | h
      · exact h
      · rw [List.getElem?_eq_none (by rw [hk]; exact h)] at hu; cases hu
    have hjk : j * k + k ≤ xs.length * k := by rw [← Nat.succ_mul]; exact Nat.mul_le_mul_right k hj
    rw [World.ownsRow.cellAt h' (j * k + i) (by omega), flat_get hk xs j hj i hi]
    exact hu
/-- A record is written into it. -/
theorem RecAt.put (hk : ∀ x, (enc x).length = k) (h0 : 0 < k) {n₀ n cap g : Nat} {w : World} {xs : List α} (h : RecAt t k enc n₀ w (.slice (some ⟨g, 0, none⟩) n cap) xs) (hn : n = xs.length) {j : Nat} (hj : j < xs.length) (x : α) :
    RecAt t k enc n₀ (setW w g (j * k) (enc x)) (.slice (some ⟨g, 0, none⟩) n cap) (xs.set j x) ∧ w.grownBy (setW w g (j * k) (enc x)) (some g) := by
  subst hn
  obtain ⟨h1, h2⟩ := own_setW (enc x) (j * k) h
  rw [flat_set hk h0 xs j hj x] at h1
  refine ⟨?_, h2⟩
  unfold RecAt
  rw [List.length_set]
  exact h1
end

end Go.Proofs.YtmdgokjeobnnaaaDoor
