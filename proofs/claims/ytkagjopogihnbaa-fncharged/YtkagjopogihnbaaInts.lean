/- Slices of int64 that the call itself made: what they hold, that what is held stays, and contracts of the laws' own helpers over them (alike, rising, among, marked, held). Conditions: those that each theorem names. -/
import Derived.Test.YtkagjopogihnbaaBase
import Derived.Deep.QuietTactic
import Derived.BigQuiet
import Derived.Laws.OwnMore
namespace Go.Proofs.Ytkagjopogihnbaa
open Go.ChangeShapes Go.WideShapes Go.ChangeAt Go.RowKit
set_option linter.unusedVariables false

/-- Nothing but the count of draws has turned. -/
structure Still (w w' : World) : Prop where
  os : w'.os = w.os
  tape : w'.tape = w.tape
  output : w'.output = w.output
  heap : w'.heap = w.heap
theorem Still.refl (w : World) : Still w w := ⟨rfl, rfl, rfl, rfl⟩
theorem Still.trans {a b c : World} (h : Still a b) (k : Still b c) : Still a c := ⟨k.os.trans h.os, k.tape.trans h.tape, k.output.trans h.output, k.heap.trans h.heap⟩
theorem Still.drewN {a w : World} (h : Still a w) (n : Nat) : Still a (w.drewN n) := ⟨h.os, h.tape, h.output, h.heap⟩
theorem Still.below {w w' : World} (h : Still w w') (B : Nat) : Below B w w' := ⟨h.os, h.tape, h.output, by rw [h.heap]; exact Nat.le_refl _, fun k _ => by rw [h.heap]⟩
theorem Still.cell {w w' : World} (h : Still w w') (p : Addr) : w'.cell? p = w.cell? p := World.cell?_of_block (by rw [h.heap])

/-- The slice v, in a block from n₀ on, holds the numbers zs. -/
def IntsAt (n₀ : Nat) (w : World) (v : Value) (zs : List Int) : Prop := w.ownsRow n₀ 2 1 v zs.length (zs.map (Value.int .i64))

theorem IntsAt.mono {n₀ n₁ : Nat} {w : World} {v : Value} {zs : List Int} (h : IntsAt n₀ w v zs) (hn : n₁ ≤ n₀) : IntsAt n₁ w v zs := by
  refine ⟨h.1, ?_⟩
  rcases h.2 with hz | ⟨g, cap, cur, hv, hb, r⟩
  · exact .inl hz
  · exact .inr ⟨g, cap, cur, hv, by omega, r⟩
theorem IntsAt.block_lt {n₀ : Nat} {w : World} {v : Value} {zs : List Int} (h : IntsAt n₀ w v zs) {k : Nat} (hk : v.ownBlock = some k) : n₀ ≤ k ∧ k < w.heap.size := World.ownsRow.lt h k hk
/-- It is held on wherever its block lies as it lay. -/
theorem IntsAt.same {n₀ : Nat} {w w' : World} {v : Value} {zs : List Int} (h : IntsAt n₀ w v zs) (hs : ∀ k, v.ownBlock = some k → w'.heap[k]? = w.heap[k]?) : IntsAt n₀ w' v zs := by
  refine ⟨h.1, ?_⟩
  rcases h.2 with hz | ⟨g, cap, cur, rfl, hb, hg, r⟩
  · exact .inl hz
  · exact .inr ⟨g, cap, cur, rfl, hb, (hs g rfl).trans hg, r⟩
theorem IntsAt.later {n₀ : Nat} {w w' : World} {v : Value} {zs : List Int} (h : IntsAt n₀ w v zs) (hb : Below w.heap.size w w') : IntsAt n₀ w' v zs :=
  h.same fun k hk => hb.block k (h.block_lt hk).2
theorem IntsAt.still {n₀ : Nat} {w w' : World} {v : Value} {zs : List Int} (h : IntsAt n₀ w v zs) (hb : Still w w') : IntsAt n₀ w' v zs := h.later (hb.below _)
/-- What the walk asks of it: its address and length; the cells, where there are any. -/
theorem IntsAt.view {n₀ : Nat} {w : World} {v : Value} {zs : List Int} (h : IntsAt n₀ w v zs) :
    ∃ (a : Option Addr) (cap : Nat), v = .slice a zs.length cap ∧ zs.length ≤ 9223372036854775807 ∧ (zs = [] ∨ ∃ g, a = some ⟨g, 0, none⟩ ∧ n₀ ≤ g ∧ g < w.heap.size ∧
      (∀ k, k < zs.length → w.cell? ⟨g, k, none⟩ = some (.int .i64 (zs.getD k 0))) ∧ (∀ k, w.frozen? ⟨g, k, none⟩ = false)) := by
  have h' := h
  rcases h.2 with ⟨rfl, hz⟩ | ⟨g, cap, cur, rfl, hb, hg, hnc, hcm, r⟩
  · exact ⟨none, 0, by rw [hz], by omega, .inl (List.eq_nil_of_length_eq_zero hz)⟩
  · refine ⟨_, cap, rfl, by unfold maxLen at hcm; omega, .inr ⟨g, rfl, hb, (Array.getElem?_eq_some_iff.1 hg).1, fun k hk => ?_, fun k => World.ownsRow.frozenAt h' k⟩⟩
    rw [World.ownsRow.cellAt h' k (by omega)]
    simp [List.getElem?_eq_getElem hk]



theorem grownBy_trans {a b c : World} {row : Option Nat} (h : a.grownBy b row) (k : b.grownBy c row) : a.grownBy c row :=
  ⟨k.os.trans h.os, k.tape.trans h.tape, k.output.trans h.output, Nat.le_trans h.size k.size, fun i hi hn => (k.block i (Nat.lt_of_lt_of_le hi h.size) hn).trans (h.block i hi hn)⟩
theorem grownBy_refl (a : World) (row : Option Nat) : a.grownBy a row := ⟨rfl, rfl, rfl, Nat.le_refl _, fun _ _ _ => rfl⟩
theorem IntsAt.stored {n₀ : Nat} {w : World} {g n cap : Nat} {zs : List Int} (h : IntsAt n₀ w (.slice (some ⟨g, 0, none⟩) n cap) zs) (hn : zs.length = n) (j : Nat) (u : Int) :
    IntsAt n₀ (w.setCell ⟨g, j, none⟩ (.int .i64 u)) (.slice (some ⟨g, 0, none⟩) n cap) (zs.set j u) ∧ w.grownBy (w.setCell ⟨g, j, none⟩ (.int .i64 u)) (some g) := by
  subst hn
  have := World.ownsRow.stored h j (.int .i64 u)
  refine ⟨?_, this.2⟩
  unfold IntsAt
  rw [List.length_set, List.map_set]
  exact this.1
/-- The numbers from k on, n of them. -/
def marks (k : Int) (n : Nat) : List Int := (List.range n).map fun i : Nat => k + (i : Int)
theorem marks_len (k : Int) (n : Nat) : (marks k n).length = n := by simp [marks]
theorem marks_get (k : Int) (n i : Nat) (h : i < n) : (marks k n).getD i 0 = k + i := by simp [marks, h]
/-- The first j of them are marked. -/
def marked (zs : List Int) (k : Int) (j : Nat) : List Int := marks k j ++ zs.drop j
theorem marked_len {zs : List Int} {k : Int} {j : Nat} (h : j ≤ zs.length) : (marked zs k j).length = zs.length := by simp [marked, marks_len]; omega
theorem marked_succ {zs : List Int} {k : Int} {j : Nat} (h : j < zs.length) : (marked zs k j).set j (k + j) = marked zs k (j + 1) := by
  unfold marked
  rw [List.set_append_right _ _ (by simp [marks_len]), marks_len, Nat.sub_self, List.drop_eq_getElem_cons h, List.set_cons_zero]
  simp [marks, List.range_succ]
theorem marked_all (zs : List Int) (k : Int) : marked zs k zs.length = marks k zs.length := by simp [marked]





end Go.Proofs.Ytkagjopogihnbaa
