/- A list of entries, or an entry, that is handed in, opened: what it reads as. No condition. -/
import Derived.Test.YtekobedbjemdiaaEntMem
import Derived.Lib.SmallJoins
import Derived.Deep.SlicePairs
namespace Go.Proofs.Ytekobedbjemdiaa
open Go.ChangeShapes Go.WideShapes Go.ChangeAt Go.RowKit Go.Deep
set_option linter.unusedVariables false

theorem addr_two_e {w : World} {b off i : Nat} {u u' : Value} (h1 : w.cell? ((⟨b, off, none⟩ : Addr).add (i * 2)) = some u) (h2 : w.cell? ((⟨b, off, none⟩ : Addr).add (i * 2 + 1)) = some u') :
    w.cell? ⟨b, off + i * 2, none⟩ = some u ∧ w.cell? ⟨b, off + i * 2 + 1, none⟩ = some u' := by
  by_cases hi : i = 0
  · subst hi
    simp [Addr.add] at h1 h2 ⊢
    exact ⟨h1, h2⟩
  · have h2i : ¬ i * 2 = 0 := by omega
    simp [Addr.add, h2i] at h1 h2 ⊢
    exact ⟨h1, h2⟩

theorem open_entrow {H : Type} {enc : TypeId × Value → H} {W : World} {spare : Nat → Bool} {held : Bool} {n : Nat} {v : Value} {y : DataW H × List MemPlace}
    (h : DataW.trod enc Try.prog W 0 spare held n 45 [v] = some y) : ∃ ps, IsPaces W v ps := by
  rcases open_slice_pairs Try.underlying45 Try.underlying42 (by kernel_rfl) rfl rfl (by kernel_rfl) (by kernel_rfl) h with ⟨hv, _⟩ | ⟨a, len, cap, m, n', V0, V1, D0, D1, P0, P1, hv, _, hl, hm, hmm, _, hx⟩
  · cases hv
    exact ⟨[], none, 0, rfl, Nat.le_refl _, by omega, .inl rfl⟩
  · cases hv
    have hlm : len ≤ m := by rw [hmm]; split <;> omega
    obtain ⟨F, hF⟩ := choose_lt (α := Int × Int) (n := len) (p := fun i q => V0 i = .int .i64 q.1 ∧ V1 i = .int .i64 q.2) (fun i hi => by
      obtain ⟨_, _, t0, t1⟩ := hx i (by omega)
      obtain ⟨q0, e0, _⟩ := DataW.trod_int Try.underlying2 t0
      obtain ⟨q1, e1, _⟩ := DataW.trod_int Try.underlying2 t1
      exact ⟨(q0, q1), by simpa using e0, by simpa using e1⟩)
    have hlen : ((List.range len).map F).length = len := by simp
    refine ⟨(List.range len).map F, some a, cap, by rw [hlen], by rw [hlen]; exact hl, by unfold maxLen at hm; omega, ?_⟩
    by_cases hz : len = 0
    · exact .inl (by simp [hz])
    · have h0 := hx 0 (by omega)
      have sp := World.cell?_spot h0.1
      have hlt := World.block_lt_of_cell? _ _ h0.1
      obtain ⟨b, off, spot⟩ := a
      have hspot : spot = none := by simpa [Addr.add] using sp
      subst hspot
      refine .inr ⟨b, off, rfl, by simpa [Addr.add] using hlt, fun k hk => ?_⟩
      rw [hlen] at hk
      obtain ⟨c0, c1, _, _⟩ := hx k (by omega)
      obtain ⟨e0, e1⟩ := hF k hk
      have hat : paceAt ((List.range len).map F) k = F k := by unfold paceAt; simp [List.getD, hk]
      rw [hat, ← e0, ← e1]
      exact addr_two_e c0 c1

set_option maxRecDepth 100000 in
/-- A list of entries that is handed in. -/
theorem open_ents {H : Type} {enc : TypeId × Value → H} {W : World} {spare : Nat → Bool} {held : Bool} {r : Reach} {b0 : Nat} {v : Value} {d : DataW H} {p : List MemPlace}
    (hv : Value.okWide Try.prog W r b0 45 v) (h : DataW.Trod enc Try.prog W 0 spare held 45 v d p) : ∃ ps, IsPaces W v ps := by
  obtain ⟨a, len, cap, rfl⟩ := okWide_slice Try.underlying45 hv
  obtain ⟨fuel, hf⟩ := h
  exact open_entrow (v := .slice a len cap) (by simpa [Value.cells] using hf)

set_option maxRecDepth 100000 in
/-- An entry that is handed in. -/
theorem open_ent {H : Type} {enc : TypeId × Value → H} {W : World} {spare : Nat → Bool} {held : Bool} {r : Reach} {b0 : Nat} {v : Value} {d : DataW H} {p : List MemPlace}
    (hv : Value.okWide Try.prog W r b0 42 v) (h : DataW.Trod enc Try.prog W 0 spare held 42 v d p) : ∃ a b, v = .agg #[.int .i64 a, .int .i64 b] := by
  obtain ⟨c0, c1, y0, y1, n, rfl, _, _, h0, h1⟩ := Go.Joins.open_agg2 Try.underlying42 (by kernel_rfl) (by kernel_rfl) hv h
  obtain ⟨a, e, _⟩ := DataW.trod_int Try.underlying2 h0
  obtain ⟨b, e2, _⟩ := DataW.trod_int Try.underlying2 h1
  exact ⟨a, b, by rw [show c0 = .int .i64 a by simpa using e, show c1 = .int .i64 b by simpa using e2]⟩

end Go.Proofs.Ytekobedbjemdiaa
