/- The program's heap of entries in memory: what it is, and contracts of its methods Len, Less, Swap. Conditions: those that each theorem names. -/
import Derived.Test.YtekobedbjemdiaaEntRead
import Derived.Deep.RegionHeld3
import Derived.Deep.DrawnRows
import Derived.BigRegion
namespace Go.Proofs.Ytekobedbjemdiaa
open Go.ChangeShapes Go.WideShapes Go.ChangeAt Go.RowKit Go.Sort
set_option linter.unusedVariables false

/-- Only the box bx, the row r and new blocks may differ. -/
structure Fr (bx : Nat) (r : Option Nat) (w w' : World) : Prop where
  os : w'.os = w.os
  tape : w'.tape = w.tape
  output : w'.output = w.output
  size : w.heap.size ≤ w'.heap.size
  block : ∀ k, k < w.heap.size → k ≠ bx → r ≠ some k → w'.heap[k]? = w.heap[k]?
theorem Fr.refl (bx : Nat) (r : Option Nat) (w : World) : Fr bx r w w := ⟨rfl, rfl, rfl, Nat.le_refl _, fun _ _ _ _ => rfl⟩
theorem Fr.trans {bx : Nat} {r : Option Nat} {a b c : World} (h : Fr bx r a b) (k : Fr bx r b c) : Fr bx r a c :=
  ⟨k.os.trans h.os, k.tape.trans h.tape, k.output.trans h.output, Nat.le_trans h.size k.size, fun i hi hn hr => (k.block i (Nat.lt_of_lt_of_le hi h.size) hn hr).trans (h.block i hi hn hr)⟩
theorem Fr.of_below {bx : Nat} {r : Option Nat} {w w' : World} (h : Below w.heap.size w w') : Fr bx r w w' := ⟨h.os, h.tape, h.output, h.size, fun k hk _ _ => h.block k hk⟩
theorem Fr.of_grown {bx : Nat} {r : Option Nat} {w w' : World} (h : w.grownBy w' r) : Fr bx r w w' := ⟨h.os, h.tape, h.output, h.size, fun k hk _ hr => h.block k hk (fun e => hr e.symm)⟩
theorem Fr.box {bx : Nat} {r : Option Nat} (w : World) (v : Value) : Fr bx r w (w.setCell ⟨bx, 0, none⟩ v) := ⟨rfl, rfl, rfl, by simp, fun k hk hn _ => Below.heap_setCell w ⟨bx, 0, none⟩ v k hn⟩
theorem Fr.below {bx B : Nat} {r : Option Nat} {w w' : World} (h : Fr bx r w w') (hx : B ≤ bx) (hr : ∀ k, r = some k → B ≤ k) (hs : B ≤ w.heap.size) : Below B w w' :=
  ⟨h.os, h.tape, h.output, h.size, fun k hk => h.block k (by omega) (by omega) (fun e => by have := hr k e; omega)⟩
/-- Another row stays. -/
theorem EntsAt.fr {n₀ bx : Nat} {r : Option Nat} {w w' : World} {v : Value} {ps : List PaceV} (h : EntsAt n₀ w v ps) (hf : Fr bx r w w') (h1 : v.ownBlock ≠ some bx) (h2 : ∀ k, v.ownBlock = some k → r ≠ some k) : EntsAt n₀ w' v ps :=
  h.same fun k hk => hf.block k (h.lt hk).2 (fun e => h1 (by rw [hk, e])) (h2 k hk)

/-- The box bx holds the slice v, whose row, in a block from n₀ on, holds the entries ps. -/
structure HeapIs (n₀ bx : Nat) (v : Value) (w : World) (ps : List PaceV) : Prop where
  cell : w.cell? ⟨bx, 0, none⟩ = some v
  free : w.frozen? ⟨bx, 0, none⟩ = false
  lt : bx < w.heap.size
  row : EntsAt n₀ w v ps
  off : v.ownBlock ≠ some bx
theorem HeapIs.later {n₀ bx : Nat} {v : Value} {w w' : World} {ps : List PaceV} (h : HeapIs n₀ bx v w ps) (hb : Below w.heap.size w w') : HeapIs n₀ bx v w' ps :=
  ⟨(hb.cell (p := ⟨bx, 0, none⟩) h.lt).trans h.cell, (hb.frozen (p := ⟨bx, 0, none⟩) h.lt).trans h.free, Nat.lt_of_lt_of_le h.lt hb.size, h.row.later hb, h.off⟩
/-- What a walk reads of it where it is not empty. -/
theorem HeapIs.view {n₀ bx : Nat} {v : Value} {w : World} {ps : List PaceV} (h : HeapIs n₀ bx v w ps) (hl : 0 < ps.length) : ∃ g cap, v = .slice (some ⟨g, 0, none⟩) ps.length cap ∧ g ≠ bx ∧ g < w.heap.size ∧ n₀ ≤ g ∧ ps.length ≤ cap ∧ cap ≤ 9223372036854775807 ∧
    (∀ k, k < ps.length → w.cell? ⟨g, k * 2, none⟩ = some (.int .i64 (paceAt ps k).1) ∧ w.cell? ⟨g, k * 2 + 1, none⟩ = some (.int .i64 (paceAt ps k).2)) ∧ (∀ k, w.frozen? ⟨g, k, none⟩ = false) := by
  have hr := h.row
  rcases h.row.2 with ⟨hv, hz⟩ | ⟨g, cap, cur, rfl, hb, hg, hnc, hcm, r⟩
  · omega
  · obtain ⟨a, cap', he, _, _, hrr⟩ := hr.paces
    cases he
    refine ⟨g, cap, rfl, fun e => h.off (by rw [e]; rfl), (Array.getElem?_eq_some_iff.1 hg).1, hb, hnc, by unfold maxLen at hcm; omega, ?_, fun k => World.ownsRow.frozenAt hr k⟩
    rcases hrr with h0 | ⟨b, off, he, _, hcl⟩
    · rw [h0] at hl; simp at hl
    · cases he
      intro k hk
      have := hcl k hk
      simpa using this

theorem len_any {n₀ bx : Nat} {v : Value} {w : World} {ps : List PaceV} (h : HeapIs n₀ bx v w ps) : Calls Try.prog 51 #[.pointer (some ⟨bx, 0, none⟩)] w fun e w' => e = .returned (.int .i64 ps.length) ∧ w' = w := by
  have hc := h.cell
  obtain ⟨a, cap, rfl⟩ := h.row.shape
  go_enter Try.func51, Try.ntmps51
  go_wp2_with fail
  go_ret
  exact ⟨rfl, rfl⟩

set_option maxHeartbeats 1000000 in
theorem less_any {n₀ bx : Nat} {v : Value} {w : World} {ps : List PaceV} (h : HeapIs n₀ bx v w ps) {i j : Nat} (hi : i < ps.length) (hj : j < ps.length) :
    Calls Try.prog 77 #[.pointer (some ⟨bx, 0, none⟩), .int .i64 i, .int .i64 j] w fun e w' => e = .returned (.bool (ltB (paceAt ps i) (paceAt ps j))) ∧ Below w.heap.size w w' := by
  obtain ⟨g, cap, rfl, hne, hlt, _, hnc, hcm, hcl, _⟩ := h.view (by omega)
  have hc := h.cell
  obtain ⟨a0, a1⟩ := hcl i hi
  obtain ⟨b0, b1⟩ := hcl j hj
  generalize paceAt ps i = p at *
  generalize paceAt ps j = q at *
  obtain ⟨f, z⟩ := p
  obtain ⟨f', z'⟩ := q
  simp only at a0 a1 b0 b1
  have hi0 : (0 : Int) ≤ (i : Int) := by omega
  have hj0 : (0 : Int) ≤ (j : Int) := by omega
  have hi1 : (i : Int) < (ps.length : Int) := by omega
  have hj1 : (j : Int) < (ps.length : Int) := by omega
  have k0 := cell_regrown a0
  have k1 := cell_regrown a1
  have k2 := cell_regrown b0
  have k3 := cell_regrown b1
  have k4 := cell_regrown hc
  clear hcl h hc a0 a1 b0 b1
  go_enter Try.func77, Try.ntmps77
  go_wp2_with fail
  refine wp_region_quiet_below (by kernel_rfl) (by kernel_rfl) ?_
  repeat (go_big_quiet_step (exact Calls.regrown_of (implLess_any _ _ _ _ _)))
  refine wpQuiet_nil ?_
  intro _ hw'
  obtain ⟨⟨dq, osq⟩, hw''⟩ := hw'
  subst hw''
  go_wp2_with fail
  go_ret
  exact ⟨rfl, below_regrown _ _ _⟩

end Go.Proofs.Ytekobedbjemdiaa
