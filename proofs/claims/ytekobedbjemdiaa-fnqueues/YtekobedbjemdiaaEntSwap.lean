/- A contract of the heap's Swap. Conditions: those that the theorem names. -/
import Derived.Test.YtekobedbjemdiaaEntHeap1
namespace Go.Proofs.Ytekobedbjemdiaa
open Go.ChangeShapes Go.WideShapes Go.ChangeAt Go.RowKit Go.Sort
set_option linter.unusedVariables false

theorem set_some {w : World} {a p : Addr} {u v : Value} (h : w.cell? p = some v) : ∃ c, (w.setCell a u).cell? p = some c := by
  by_cases e : p = a
  · subst e; exact ⟨_, World.cell?_setCell_same _ _ _ h⟩
  · exact ⟨v, by rw [World.cell?_setCell_other _ _ _ _ (fun e2 => e e2.symm)]; exact h⟩

theorem HeapIs.swapped {n₀ bx g cap n : Nat} {w : World} {ps : List PaceV} (h : HeapIs n₀ bx (.slice (some ⟨g, 0, none⟩) n cap) w ps) (hn : n = ps.length) (hne : g ≠ bx) {i j : Nat} (hi : i < ps.length) (hj : j < ps.length) (f z f' z' : Int) (W : World) (hW : W = ((((w.setCell ⟨g, i * 2, none⟩ (.int .i64 f')).setCell ⟨g, i * 2 + 1, none⟩ (.int .i64 z')).setCell ⟨g, j * 2, none⟩ (.int .i64 f)).setCell ⟨g, j * 2 + 1, none⟩ (.int .i64 z))) :
    HeapIs n₀ bx (.slice (some ⟨g, 0, none⟩) n cap) W ((ps.set i (f', z')).set j (f, z)) ∧ Fr bx (some g) w W := by
  subst hn
  have r1 := own_pair h.row (i * 2) (.int .i64 f') (.int .i64 z')
  rw [pput _ _ _ _ hi] at r1
  have r2 := own_pair r1.1 (j * 2) (.int .i64 f) (.int .i64 z)
  rw [pput _ _ _ _ (by simpa using hj), ← hW] at r2
  have hg := grown_trans r1.2 r2.2
  clear r1 hW
  have hlt := h.lt
  have hb := hg.block bx hlt (by simpa using Ne.symm hne)
  refine ⟨⟨?_, ?_, Nat.lt_of_lt_of_le hlt hg.size, ?_, h.off⟩, Fr.of_grown hg⟩
  · exact (World.cell?_of_block (w := w) (a := ⟨bx, 0, none⟩) hb).trans h.cell
  · exact (World.frozen?_of_block (w := w) (a := ⟨bx, 0, none⟩) hb).trans h.free
  · unfold EntsAt
    rw [List.length_set, List.length_set]
    exact r2.1

set_option maxRecDepth 100000 in
set_option maxHeartbeats 4000000 in
theorem swap_any {n₀ bx : Nat} {v : Value} {w : World} {ps : List PaceV} (h : HeapIs n₀ bx v w ps) {i j : Nat} (hi : i < ps.length) (hj : j < ps.length) :
    Calls Try.prog 80 #[.pointer (some ⟨bx, 0, none⟩), .int .i64 i, .int .i64 j] w fun e w' => e = .returned (.tuple #[]) ∧ HeapIs n₀ bx v w' (swp ps i j) ∧ Fr bx v.ownBlock w w' := by
  have H := hide h
  obtain ⟨g, cap, rfl, hne, hlt, hn0, hnc, hcm, hcl, hfz⟩ := h.view (by omega)
  have hc := h.cell
  obtain ⟨a0, a1⟩ := hcl i hi
  obtain ⟨b0, b1⟩ := hcl j hj
  have z0 := hfz (i * 2)
  have z1 := hfz (i * 2 + 1)
  have z2 := hfz (j * 2)
  have z3 := hfz (j * 2 + 1)
  have HX : Hid (swp ps i j = (ps.set i (paceAt ps j)).set j (paceAt ps i)) := hide rfl
  generalize paceAt ps i = p at *
  generalize paceAt ps j = q at *
  obtain ⟨f, z⟩ := p
  obtain ⟨f', z'⟩ := q
  simp only at a0 a1 b0 b1
  have hi0 : (0 : Int) ≤ (i : Int) := by omega
  have hj0 : (0 : Int) ≤ (j : Int) := by omega
  have hi1 : (i : Int) < (ps.length : Int) := by omega
  have hj1 : (j : Int) < (ps.length : Int) := by omega
  obtain ⟨c1, y1⟩ : ∃ c, (w.setCell ⟨g, i * 2, none⟩ (.int .i64 f')).cell? ⟨g, j * 2, none⟩ = some c := set_some b0
  obtain ⟨c2, y2⟩ : ∃ c, ((w.setCell ⟨g, i * 2, none⟩ (.int .i64 f')).setCell ⟨g, i * 2 + 1, none⟩ (.int .i64 z')).cell? ⟨g, j * 2 + 1, none⟩ = some c := by
    obtain ⟨c, hc9⟩ := set_some (a := ⟨g, i * 2, none⟩) (u := .int .i64 f') b1
    exact set_some hc9
  obtain ⟨c3, y3⟩ : ∃ c, ((w.setCell ⟨g, i * 2, none⟩ (.int .i64 f')).setCell ⟨g, i * 2 + 1, none⟩ (.int .i64 z')).cell? ⟨g, j * 2, none⟩ = some c := by
    obtain ⟨c, hc9⟩ := set_some (a := ⟨g, i * 2, none⟩) (u := .int .i64 f') b0
    exact set_some hc9
  clear hcl h hfz
  go_enter Try.func80, Try.ntmps80
  go_wp2_with fail
  go_region
  go_end0
  generalize hW : ((((w.setCell ⟨g, i * 2, none⟩ (.int .i64 f')).setCell ⟨g, i * 2 + 1, none⟩ (.int .i64 z')).setCell ⟨g, j * 2, none⟩ (.int .i64 f)).setCell ⟨g, j * 2 + 1, none⟩ (.int .i64 z)) = W
  obtain ⟨h1, h2⟩ := (unhide H).swapped rfl hne hi hj f z f' z' W hW.symm
  exact ⟨rfl, by rw [unhide HX]; exact h1.later ((Below.refl _ _).drew), h2.trans (Fr.of_below ((Below.refl _ _).drew))⟩

end Go.Proofs.Ytekobedbjemdiaa
