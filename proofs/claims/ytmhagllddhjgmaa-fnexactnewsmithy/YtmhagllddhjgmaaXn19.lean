/- What the proof rests on, part 19: lists and numbers, how they lie in memory, and contracts of the calls. No condition but those that a theorem names. -/
import Derived.Test.YtmhagllddhjgmaaXn01
import Derived.Lib.SmallJoins
import Derived.Deep.SlicePairs
import Derived.WalkKit
import Derived.ProofKit
import Derived.OpenShut
import Derived.Outline
import Derived.Deep.QuietTactic
import Derived.BigQuiet
import Derived.Laws.OwnMore
import Derived.OwnWalk
/- A room or a hall that is handed in, opened: what it reads as. No condition. -/
namespace Go.Proofs.Ytmhagllddhjgmaa
open Go.ChangeShapes Go.WideShapes Go.ChangeAt Go.RowKit Go.Deep
set_option linter.unusedVariables false

theorem addr_two {w : World} {b off i : Nat} {u u' : Value} (h1 : w.cell? ((⟨b, off, none⟩ : Addr).add (i * 2)) = some u) (h2 : w.cell? ((⟨b, off, none⟩ : Addr).add (i * 2 + 1)) = some u') :
    w.cell? ⟨b, off + i * 2, none⟩ = some u ∧ w.cell? ⟨b, off + i * 2 + 1, none⟩ = some u' := by
  by_cases hi : i = 0
  · subst hi
    simp [Addr.add] at h1 h2 ⊢
    exact ⟨h1, h2⟩
  · have h2i : ¬ i * 2 = 0 := by omega
    simp [Addr.add, h2i] at h1 h2 ⊢
    exact ⟨h1, h2⟩

theorem open_paces {H : Type} {enc : TypeId × Value → H} {W : World} {spare : Nat → Bool} {held : Bool} {n : Nat} {v : Value} {y : DataW H × List MemPlace}
    (h : DataW.trod enc Try.prog W 0 spare held n 61 [v] = some y) : ∃ ps, IsPaces W v ps := by
  rcases open_slice_pairs Try.underlying61 Try.underlying89 (by kernel_rfl) rfl rfl (by kernel_rfl) (by kernel_rfl) h with ⟨hv, _⟩ | ⟨a, len, cap, m, n', V0, V1, D0, D1, P0, P1, hv, _, hl, hm, hmm, _, hx⟩
  · cases hv
    exact ⟨[], none, 0, rfl, Nat.le_refl _, by omega, .inl rfl⟩
  · cases hv
    have hlm : len ≤ m := by rw [hmm]; split <;> omega
    obtain ⟨F, hF⟩ := choose_lt (α := Int × Int) (n := len) (p := fun i q => V0 i = .int .i64 q.1 ∧ V1 i = .int .i64 q.2) (fun i hi => by
      obtain ⟨_, _, t0, t1⟩ := hx i (by omega)
      obtain ⟨q0, e0, _⟩ := DataW.trod_int Try.underlying2 t0
      obtain ⟨q1, e1, _⟩ := DataW.trod_int Try.underlying2 t1
      exact ⟨(q0, q1), by simpa using e0, by simpa using e1⟩)
    have hlen : ((List.range len).map F).length = len := by simp
    refine ⟨(List.range len).map F, some a, cap, by rw [hlen], by rw [hlen]; exact hl, by unfold maxLen at hm; omega, ?_⟩
    by_cases hz : len = 0
    · exact .inl (by simp [hz])
    · have h0 := hx 0 (by omega)
      have sp := World.cell?_spot h0.1
      have hlt := World.block_lt_of_cell? _ _ h0.1
      obtain ⟨b, off, spot⟩ := a
      have hspot : spot = none := by simpa [Addr.add] using sp
      subst hspot
      refine .inr ⟨b, off, rfl, by simpa [Addr.add] using hlt, fun k hk => ?_⟩
      rw [hlen] at hk
      obtain ⟨c0, c1, _, _⟩ := hx k (by omega)
      obtain ⟨e0, e1⟩ := hF k hk
      have hat : paceAt ((List.range len).map F) k = F k := by unfold paceAt; simp [List.getD, hk]
      rw [hat, ← e0, ← e1]
      exact addr_two c0 c1

theorem open_rooms {H : Type} {enc : TypeId × Value → H} {W : World} {spare : Nat → Bool} {held : Bool} {n : Nat} {v : Value} {y : DataW H × List MemPlace}
    (h : DataW.trod enc Try.prog W 0 spare held n 22 [v] = some y) : ∃ rs, IsRooms W v rs := by
  rcases open_slice_pairs Try.underlying22 Try.underlying63 (by kernel_rfl) rfl rfl (by kernel_rfl) (by kernel_rfl) h with ⟨hv, _⟩ | ⟨a, len, cap, m, n', V0, V1, D0, D1, P0, P1, hv, _, hl, hm, hmm, _, hx⟩
  · cases hv
    exact ⟨[], none, 0, rfl, Nat.le_refl _, by omega, .inl rfl⟩
  · cases hv
    have hlm : len ≤ m := by rw [hmm]; split <;> omega
    obtain ⟨F, hF⟩ := choose_lt (α := RoomV) (n := len) (p := fun i q => V0 i = .int .i64 q.1 ∧ IsPaces W (V1 i) q.2) (fun i hi => by
      obtain ⟨_, _, t0, t1⟩ := hx i (by omega)
      obtain ⟨q0, e0, _⟩ := DataW.trod_int Try.underlying2 t0
      obtain ⟨ps, e1⟩ := open_paces t1
      exact ⟨(q0, ps), by simpa using e0, e1⟩)
    have hlen : ((List.range len).map F).length = len := by simp
    refine ⟨(List.range len).map F, some a, cap, by rw [hlen], by rw [hlen]; exact hl, by unfold maxLen at hm; omega, ?_⟩
    by_cases hz : len = 0
    · exact .inl (by simp [hz])
    · have h0 := hx 0 (by omega)
      have sp := World.cell?_spot h0.1
      have hlt := World.block_lt_of_cell? _ _ h0.1
      obtain ⟨b, off, spot⟩ := a
      have hspot : spot = none := by simpa [Addr.add] using sp
      subst hspot
      refine .inr ⟨b, off, rfl, by simpa [Addr.add] using hlt, fun k hk => ?_⟩
      rw [hlen] at hk
      obtain ⟨c0, c1, _, _⟩ := hx k (by omega)
      obtain ⟨e0, e1⟩ := hF k hk
      have hat : roomAt ((List.range len).map F) k = F k := by unfold roomAt; simp [List.getD, hk]
      rw [hat, ← e0]
      exact ⟨(addr_two c0 c1).1, V1 k, (addr_two c0 c1).2, e1⟩

set_option maxRecDepth 100000 in
/-- A Hall that is handed in. -/
theorem open_hall {H : Type} {enc : TypeId × Value → H} {W : World} {spare : Nat → Bool} {held : Bool} {r : Reach} {b0 : Nat} {v : Value} {d : DataW H} {p : List MemPlace}
    (hv : Value.okWide Try.prog W r b0 24 v) (h : DataW.Trod enc Try.prog W 0 spare held 24 v d p) : ∃ v0 rs, v = .agg #[v0] ∧ IsRooms W v0 rs := by
  obtain ⟨cs, rfl, hsz⟩ := okWide_struct Try.underlying24 hv
  have h1 : cs.size = 1 := hsz.trans (by kernel_rfl)
  obtain ⟨l⟩ := cs
  match l, h1 with
  | [c0], _ =>
    obtain ⟨fuel, hf⟩ := h
    obtain ⟨y0, n, _, _, h0⟩ := trod_struct1 Try.underlying24 hf
    have hc : Try.prog.cellsOf 22 = 1 := by kernel_rfl
    obtain ⟨rs, hr⟩ := open_rooms (v := c0) (by simpa [Value.cells, hc] using h0)
    exact ⟨c0, rs, rfl, hr⟩

end Go.Proofs.Ytmhagllddhjgmaa

