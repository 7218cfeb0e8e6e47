/- Rows of entries that the call itself made, and what they read as. No condition but those that a theorem names. -/
import Derived.Test.YtekobedbjemdiaaOwnKit
import Derived.Test.YtekobedbjemdiaaEntMath
namespace Go.Proofs.Ytekobedbjemdiaa
open Go.ChangeShapes Go.WideShapes Go.ChangeAt Go.RowKit Go.Sort
set_option linter.unusedVariables false

theorem infoEntry : (Try.prog.info? 26).map (fun i => (i.zero, i.size, i.bytes)) = some (some (.agg #[.int .i64 0, .int .i64 0]), 2, 16) := by kernel_rfl
theorem pcells_len (ps : List PaceV) : (pcells ps).length = ps.length * 2 := by unfold pcells; exact pairs_len ps
theorem pcells_append (ps qs : List PaceV) : pcells (ps ++ qs) = pcells ps ++ pcells qs := by unfold pcells; rw [List.flatMap_append]
theorem pcells_take : ∀ (ps : List PaceV) (n : Nat), pcells (ps.take n) = (pcells ps).take (n * 2)
  | [], n => by simp [pcells]
  | p :: ps, 0 => by simp [pcells]
  | p :: ps, n + 1 => by
    have ih := pcells_take ps n
    unfold pcells at ih ⊢
    rw [show (n + 1) * 2 = n * 2 + 2 by omega]
    simpa using ih
theorem pcells_of {xs : List Value} {ps : List PaceV} (hl : xs.length = ps.length * 2) (h : Pairs xs (isPaceOf ps) ps.length) : xs = pcells ps := by
  apply List.ext_getElem?
  intro i
  by_cases hi : i < ps.length * 2
  · obtain ⟨u, u', h1, h2, rfl, rfl⟩ := h (i / 2) (by omega)
    have hp := pairs_get (f := fun p : PaceV => Value.int .i64 p.1) (g := fun p : PaceV => Value.int .i64 p.2) ps (i / 2) (by omega)
    have e : paceAt ps (i / 2) = ps[i / 2]'(by omega) := by unfold paceAt; simp [List.getD, (by omega : i / 2 < ps.length)]
    rw [e] at h1 h2
    rcases Nat.mod_two_eq_zero_or_one i with e2 | e2
    · rw [show i = i / 2 * 2 by omega, h1]; exact hp.1.symm
    · rw [show i = i / 2 * 2 + 1 by omega, h2]; exact hp.2.symm
  · rw [List.getElem?_eq_none (by omega), List.getElem?_eq_none (by rw [pcells_len]; omega)]

/-- The slice v, in a block from n₀ on, holds the entries ps. -/
def EntsAt (n₀ : Nat) (w : World) (v : Value) (ps : List PaceV) : Prop := w.ownsRow n₀ 26 2 v ps.length (pcells ps)
theorem EntsAt.lt {n₀ : Nat} {w : World} {v : Value} {ps : List PaceV} (h : EntsAt n₀ w v ps) {k : Nat} (hk : v.ownBlock = some k) : n₀ ≤ k ∧ k < w.heap.size := World.ownsRow.lt h k hk
theorem EntsAt.mono {n₀ n₁ : Nat} {w : World} {v : Value} {ps : List PaceV} (h : EntsAt n₀ w v ps) (hn : n₁ ≤ n₀) : EntsAt n₁ w v ps := own_mono h hn
theorem EntsAt.same {n₀ : Nat} {w w' : World} {v : Value} {ps : List PaceV} (h : EntsAt n₀ w v ps) (hs : ∀ k, v.ownBlock = some k → w'.heap[k]? = w.heap[k]?) : EntsAt n₀ w' v ps := own_same h hs
theorem EntsAt.later {n₀ : Nat} {w w' : World} {v : Value} {ps : List PaceV} (h : EntsAt n₀ w v ps) (hb : Below w.heap.size w w') : EntsAt n₀ w' v ps := h.same fun k hk => hb.block k (h.lt hk).2
/-- It is held on where another row has grown or been written into. -/
theorem EntsAt.grown {n₀ : Nat} {w w' : World} {v : Value} {ps : List PaceV} {r : Option Nat} (h : EntsAt n₀ w v ps) (hg : w.grownBy w' r) (hr : ∀ k, v.ownBlock = some k → r ≠ some k) : EntsAt n₀ w' v ps := h.same fun k hk => hg.block k (h.lt hk).2 (fun e => hr k hk e.symm)
theorem EntsAt.paces {n₀ : Nat} {w : World} {v : Value} {ps : List PaceV} (h : EntsAt n₀ w v ps) : IsPaces w v ps := by
  have h' := h
  rcases h.2 with ⟨rfl, hz⟩ | ⟨g, cap, cur, rfl, hb, hg, hnc, hcm, r⟩
  · exact ⟨none, 0, by rw [hz], by omega, by omega, .inl (List.eq_nil_of_length_eq_zero hz)⟩
  · refine ⟨_, cap, rfl, hnc, by unfold maxLen at hcm; omega, .inr ⟨g, 0, rfl, (Array.getElem?_eq_some_iff.1 hg).1, fun k hk => ?_⟩⟩
    have hp := pairs_get (f := fun p : PaceV => Value.int .i64 p.1) (g := fun p : PaceV => Value.int .i64 p.2) ps k hk
    have hat : paceAt ps k = ps[k] := by unfold paceAt; simp [List.getD, hk]
    rw [Nat.zero_add, hat]
    exact ⟨(World.ownsRow.cellAt h' (k * 2) (by omega)).trans hp.1, (World.ownsRow.cellAt h' (k * 2 + 1) (by omega)).trans hp.2⟩
theorem EntsAt.shape {n₀ : Nat} {w : World} {v : Value} {ps : List PaceV} (h : EntsAt n₀ w v ps) : ∃ a cap, v = .slice a ps.length cap := by
  rcases h.2 with ⟨rfl, hz⟩ | ⟨g, cap, cur, rfl, _⟩
  · exact ⟨none, 0, by rw [hz]⟩
  · exact ⟨_, cap, rfl⟩
/-- Its first n. -/
theorem EntsAt.cut {n₀ : Nat} {w : World} {a : Option Addr} {len cap : Nat} {ps : List PaceV} (h : EntsAt n₀ w (.slice a len cap) ps) {n : Nat} (hn : n ≤ ps.length) (ha : a ≠ none) : EntsAt n₀ w (.slice a n cap) (ps.take n) := by
  have hl : (ps.take n).length = n := by simp; omega
  unfold EntsAt
  rw [hl, pcells_take]
  rcases h.2 with ⟨hv, hz⟩ | ⟨g, cap', cur, hv, hb, hg, hnc, hcm, hs, ht⟩
  · cases hv; exact absurd rfl ha
  · cases hv
    refine ⟨by rw [List.length_take, pcells_len]; omega, .inr ⟨g, cap, cur, rfl, hb, hg, by omega, hcm, hs, ?_⟩⟩
    rw [← ht, List.take_take]; congr 1; omega
theorem IsPaces.cut {w : World} {a : Option Addr} {len cap : Nat} {ps : List PaceV} (h : IsPaces w (.slice a len cap) ps) {n : Nat} (hn : n ≤ ps.length) : IsPaces w (.slice a n cap) (ps.take n) := by
  obtain ⟨a', cap', he, hc, hm, hr⟩ := h
  cases he
  have hl : (ps.take n).length = n := by simp; omega
  refine ⟨a, cap, by rw [hl], by omega, hm, ?_⟩
  rcases hr with hr | ⟨b, off, rfl, hlt, hcl⟩
  · exact .inl (by rw [hr]; simp)
  · refine .inr ⟨b, off, rfl, hlt, fun k hk => ?_⟩
    rw [paceAt_take (by omega)]
    exact hcl k (by omega)

end Go.Proofs.Ytekobedbjemdiaa
