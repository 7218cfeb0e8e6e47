/- Rows of pairs of numbers that the call itself made: what they read as, that they stay where their blocks do, how one is written into; marks. No condition but those that a theorem names. -/
import Derived.Test.YtmdgokjeobnnaaaDoorHallMem
import Derived.Lib.QuietBelow
import Derived.Maps.AppendAt
namespace Go.Proofs.YtmdgokjeobnnaaaDoor
open Go.ChangeShapes Go.WideShapes Go.ChangeAt Go.RowKit Go.Sort
set_option linter.unusedVariables false

theorem bcell {W w1 : World} {B : Nat} (hb : Below B W w1) : (∀ b o, b < B → w1.cell? ⟨b, o, none⟩ = W.cell? ⟨b, o, none⟩) ∧ (∀ b o, b < B → w1.frozen? ⟨b, o, none⟩ = W.frozen? ⟨b, o, none⟩) :=
  ⟨fun b o h => hb.cell (p := ⟨b, o, none⟩) h, fun b o h => hb.frozen (p := ⟨b, o, none⟩) h⟩

theorem liesFrom_any (lo n hi : Int) (w : World) : Calls Tryd.prog 36 #[.int .i64 lo, .int .i64 n, .int .i64 hi] w fun e w' => e = .returned (.bool (inB n lo hi)) ∧ w' = w := by
  by_cases h1 : lo ≤ n
  · by_cases h2 : n ≤ hi
    all_goals
      go_enter Tryd.func36, Tryd.ntmps36
      go_wp2
      go_ret
      exact ⟨ret_bool (by unfold inB; simp [h1, h2]), rfl⟩
  · go_enter Tryd.func36, Tryd.ntmps36
    go_wp2
    go_ret
    exact ⟨ret_bool (by unfold inB; simp; omega), rfl⟩

theorem next_all {P : Nat → Prop} {k : Nat} (h : ∀ j, j < k → P j) (hk : P k) : ∀ j, j < k + 1 → P j := fun j hj => by
  by_cases e : j < k
  · exact h j e
  · obtain rfl : j = k := by omega
    exact hk

/-- Only block bc and new blocks may differ. -/
structure But (bc : Nat) (w w' : World) : Prop where
  os : w'.os = w.os
  tape : w'.tape = w.tape
  output : w'.output = w.output
  size : w.heap.size ≤ w'.heap.size
  block : ∀ k, k < w.heap.size → k ≠ bc → w'.heap[k]? = w.heap[k]?
theorem But.refl (bc : Nat) (w : World) : But bc w w := ⟨rfl, rfl, rfl, Nat.le_refl _, fun _ _ _ => rfl⟩
theorem But.trans {bc : Nat} {a b c : World} (h : But bc a b) (k : But bc b c) : But bc a c :=
  ⟨k.os.trans h.os, k.tape.trans h.tape, k.output.trans h.output, Nat.le_trans h.size k.size, fun i hi hn => (k.block i (Nat.lt_of_lt_of_le hi h.size) hn).trans (h.block i hi hn)⟩
theorem But.below {bc B : Nat} {a w : World} (h : But bc a w) (hB : B ≤ bc) (hs : B ≤ a.heap.size) : Below B a w :=
  ⟨h.os, h.tape, h.output, h.size, fun k hk => h.block k (Nat.lt_of_lt_of_le hk hs) (by omega)⟩
/-- What a call that keeps all older blocks leaves. -/
theorem But.later {bc : Nat} {a b c : World} (h : But bc a b) (k : Below b.heap.size b c) : But bc a c :=
  h.trans ⟨k.os, k.tape, k.output, k.size, fun i hi _ => k.block i hi⟩
theorem But.within {bc : Nat} {a b c : World} (h : But bc a b) (k : Below a.heap.size b c) : But bc a c :=
  ⟨k.os.trans h.os, k.tape.trans h.tape, k.output.trans h.output, Nat.le_trans h.size k.size, fun i hi hn => (k.block i hi).trans (h.block i hi hn)⟩
theorem But.alloc {bc : Nat} {a w : World} (h : But bc a w) (o : Obj) : But bc a (w.alloc o) := h.later ((Below.refl _ _).alloc (Nat.le_refl _) _)
theorem But.setCell {bc : Nat} {a w : World} (h : But bc a w) (o : Nat) (v : Value) : But bc a (w.setCell ⟨bc, o, none⟩ v) :=
  h.trans ⟨rfl, rfl, rfl, by simp, fun k hk hn => Below.heap_setCell w ⟨bc, o, none⟩ v k hn⟩
/-- A row above a grew. -/
theorem But.grown {bc : Nat} {a w w' : World} {r : Option Nat} (h : But bc a w) (hg : w.grownBy w' r) (hr : ∀ k, r = some k → a.heap.size ≤ k) : But bc a w' :=
  ⟨hg.os.trans h.os, hg.tape.trans h.tape, hg.output.trans h.output, Nat.le_trans h.size hg.size, fun k hk hn => (hg.block k (Nat.lt_of_lt_of_le hk h.size) (fun e => by have := hr k e.symm; omega)).trans (h.block k hk hn)⟩
theorem But.cell {bc : Nat} {w w' : World} (h : But bc w w') {p : Addr} (hp : p.block < w.heap.size) (hn : p.block ≠ bc) : w'.cell? p = w.cell? p :=
  World.cell?_of_block (w := w) (h.block p.block hp hn)

/-- A row that the call made stays where its block does. -/
theorem own_same {w w' : World} {B t size n : Nat} {v : Value} {xs : List Value} (h : w.ownsRow B t size v n xs) (hs : ∀ k, v.ownBlock = some k → w'.heap[k]? = w.heap[k]?) : w'.ownsRow B t size v n xs := by
  refine ⟨h.1, ?_⟩
  rcases h.2 with hz | ⟨g, cap, cur, rfl, hb, hg, r⟩
  · exact .inl hz
  · exact .inr ⟨g, cap, cur, rfl, hb, (hs g rfl).trans hg, r⟩
theorem own_mono {w : World} {B B' t size n : Nat} {v : Value} {xs : List Value} (h : w.ownsRow B t size v n xs) (hb : B' ≤ B) : w.ownsRow B' t size v n xs := by
  refine ⟨h.1, ?_⟩
  rcases h.2 with hz | ⟨g, cap, cur, rfl, hb', r⟩
  · exact .inl hz
  · exact .inr ⟨g, cap, cur, rfl, by omega, r⟩

def pcells (ps : List PaceV) : List Value := ps.flatMap fun p => [.int .i64 p.1, .int .i64 p.2]
def rcells (qs : List (RoomV × Value)) : List Value := qs.flatMap fun q => [.int .i64 q.1.1, q.2]
theorem pairs_len {α : Type} {f g : α → Value} : ∀ l : List α, (l.flatMap fun p => [f p, g p]).length = l.length * 2
  | [] => rfl
  | p :: l => by rw [List.flatMap_cons, List.length_append, pairs_len l]; simp; omega
theorem pairs_get {α : Type} {f g : α → Value} : ∀ (l : List α) (k : Nat) (h : k < l.length), (l.flatMap fun p => [f p, g p])[k * 2]? = some (f l[k]) ∧ (l.flatMap fun p => [f p, g p])[k * 2 + 1]? = some (g l[k])
  | p :: l, 0, _ => by simp
  | p :: l, k + 1, h => by
    have ih := pairs_get (f := f) (g := g) l k (by simpa using h)
    rw [List.flatMap_cons, show (k + 1) * 2 = k * 2 + 2 by omega, show k * 2 + 2 + 1 = (k * 2 + 1) + 2 by omega]
    simpa using ih

def szV (n : Nat) (left : Int) : Int := if left - n < 0 then -1 else left - n
theorem szV_f {n : Nat} {left : Int} (h : left - n < 0) : szV n left = -1 := by unfold szV; rw [if_pos h]
theorem szV_t {n : Nat} {left : Int} (h : ¬ left - n < 0) : szV n left = left - n := by unfold szV; rw [if_neg h]

/-- The first k pairs of cells of a row. -/
def Pairs (xs : List Value) (P : Nat → Value → Value → Prop) (k : Nat) : Prop := ∀ j, j < k → ∃ u u', xs[j * 2]? = some u ∧ xs[j * 2 + 1]? = some u' ∧ P j u u'
theorem Pairs.next {xs : List Value} {P : Nat → Value → Value → Prop} {k : Nat} {u u' : Value} (h : Pairs xs P k) (hl : k * 2 + 1 < xs.length) (hp : P k u u') : Pairs ((xs.set (k * 2) u).set (k * 2 + 1) u') P (k + 1) := fun j hj => by
  by_cases e : j < k
  · obtain ⟨a, a', h1, h2, h3⟩ := h j e
    refine ⟨a, a', ?_, ?_, h3⟩
    · rw [List.getElem?_set_ne (by omega), List.getElem?_set_ne (by omega)]; exact h1
    · rw [List.getElem?_set_ne (by omega), List.getElem?_set_ne (by omega)]; exact h2
  · obtain rfl : j = k := by omega
    refine ⟨u, u', ?_, ?_, hp⟩
    · rw [List.getElem?_set_ne (by omega), List.getElem?_set_self (by omega)]
    · rw [List.getElem?_set_self (by simp; omega)]
theorem Pairs.mono {xs : List Value} {P Q : Nat → Value → Value → Prop} {k : Nat} (h : Pairs xs P k) (hpq : ∀ j u u', P j u u' → Q j u u') : Pairs xs Q k := fun j hj => by
  obtain ⟨a, a', h1, h2, h3⟩ := h j hj
  exact ⟨a, a', h1, h2, hpq _ _ _ h3⟩

def isPaceOf (ps : List PaceV) (j : Nat) (u u' : Value) : Prop := u = .int .i64 (paceAt ps j).1 ∧ u' = .int .i64 (paceAt ps j).2
/-- A row of paces that the call made. -/
theorem IsPaces.of_row {w : World} {B g n cap t : Nat} {ps : List PaceV} {xs : List Value} (h : w.ownsRow B t 2 (.slice (some ⟨g, 0, none⟩) n cap) n xs) (hp : Pairs xs (isPaceOf ps) ps.length) (hn : n = ps.length) : IsPaces w (.slice (some ⟨g, 0, none⟩) n cap) ps := by
  subst hn
  have h' := h
  rcases h.2 with ⟨hh, _⟩ | ⟨g', cap', cur, hh, hb, hg, hnc, hcm, r⟩
  · simp at hh
  · simp only [Value.slice.injEq, Option.some.injEq, Addr.mk.injEq, and_true, true_and] at hh
    obtain ⟨rfl, rfl⟩ := hh
    refine ⟨_, cap, rfl, hnc, by unfold maxLen at hcm; omega, .inr ⟨g, 0, rfl, (Array.getElem?_eq_some_iff.1 hg).1, fun k hk => ?_⟩⟩
    obtain ⟨u, u', h1, h2, rfl, rfl⟩ := hp k hk
    refine ⟨?_, ?_⟩
    · rw [Nat.zero_add, World.ownsRow.cellAt h' _ (by omega)]; exact h1
    · rw [Nat.zero_add, World.ownsRow.cellAt h' _ (by omega)]; exact h2

theorem own_cell {w : World} {B g n cap t : Nat} {xs : List Value} (h : w.ownsRow B t 2 (.slice (some ⟨g, 0, none⟩) n cap) n xs) {j : Nat} (hj : j < n * 2) : (∃ c, w.cell? ⟨g, j, none⟩ = some c) ∧ w.frozen? ⟨g, j, none⟩ = false := by
  refine ⟨?_, World.ownsRow.frozenAt h j⟩
  rw [World.ownsRow.cellAt h j hj]
  exact ⟨xs[j]'(by rw [h.1]; exact hj), List.getElem?_eq_getElem _⟩

theorem below_grown {B g : Nat} {w w' : World} (hg : w.grownBy w' (some g)) (hB : B ≤ g) (hs : B ≤ w.heap.size) : Below B w w' := (Below.refl B w).grown hg hs (fun k e => by cases e; exact hB)
theorem grown_trans {a b c : World} {row : Option Nat} (h : a.grownBy b row) (k : b.grownBy c row) : a.grownBy c row :=
  ⟨k.os.trans h.os, k.tape.trans h.tape, k.output.trans h.output, Nat.le_trans h.size k.size, fun i hi hn => (k.block i (Nat.lt_of_lt_of_le hi h.size) hn).trans (h.block i hi hn)⟩

/-- Two stores into one pair of a row. -/
theorem own_pair {w : World} {B g n cap t : Nat} {xs : List Value} (h : w.ownsRow B t 2 (.slice (some ⟨g, 0, none⟩) n cap) n xs) (j : Nat) (u u' : Value) :
    ((w.setCell ⟨g, j, none⟩ u).setCell ⟨g, j + 1, none⟩ u').ownsRow B t 2 (.slice (some ⟨g, 0, none⟩) n cap) n ((xs.set j u).set (j + 1) u') ∧ w.grownBy ((w.setCell ⟨g, j, none⟩ u).setCell ⟨g, j + 1, none⟩ u') (some g) := by
  have h1 := World.ownsRow.stored h j u
  have h2 := World.ownsRow.stored h1.1 (j + 1) u'
  exact ⟨h2.1, grown_trans h1.2 h2.2⟩
theorem own_later {w w' : World} {B g n cap t : Nat} {xs : List Value} (h : w.ownsRow B t 2 (.slice (some ⟨g, 0, none⟩) n cap) n xs) (hb : Below w.heap.size w w') : w'.ownsRow B t 2 (.slice (some ⟨g, 0, none⟩) n cap) n xs := by
  have hlt := (World.ownsRow.lt h g rfl).2
  refine ⟨h.1, ?_⟩
  rcases h.2 with hz | ⟨g', cap', cur, hh, hb', hg, r⟩
  · exact .inl hz
  · simp only [Value.slice.injEq, Option.some.injEq, Addr.mk.injEq, and_true, true_and] at hh
    obtain ⟨rfl, rfl⟩ := hh
    exact .inr ⟨g, cap, cur, rfl, hb', (hb.block g hlt).trans hg, r⟩

theorem pput (f c : Int) : ∀ (ps : List PaceV) (j : Nat), j < ps.length → ((pcells ps).set (j * 2) (.int .i64 f)).set (j * 2 + 1) (.int .i64 c) = pcells (ps.set j (f, c))
  | p :: ps, 0, _ => by simp [pcells]
  | p :: ps, j + 1, h => by
    have ih := pput f c ps j (by simpa using h)
    unfold pcells at ih ⊢
    rw [List.flatMap_cons, show (j + 1) * 2 = j * 2 + 2 by omega, show j * 2 + 2 + 1 = (j * 2 + 1) + 2 by omega]
    simpa using ih

/-- Marks of n paces from k on. -/
def mps (k : Int) (n : Nat) : List PaceV := (List.range n).map fun i : Nat => (k + 2 * (i : Int), k + 2 * (i : Int) + 1)
theorem mps_len (k : Int) (n : Nat) : (mps k n).length = n := by simp [mps]
theorem mps_at (k : Int) (n i : Nat) (h : i < n) : paceAt (mps k n) i = (k + 2 * (i : Int), k + 2 * (i : Int) + 1) := by unfold paceAt mps; simp [List.getD, h]
/-- The first j of them are marked. -/
def mpd (ps : List PaceV) (k : Int) (j : Nat) : List PaceV := mps k j ++ ps.drop j
theorem mpd_len {ps : List PaceV} {k : Int} {j : Nat} (h : j ≤ ps.length) : (mpd ps k j).length = ps.length := by simp [mpd, mps_len]; omega
theorem mpd_succ {ps : List PaceV} {k : Int} {j : Nat} (h : j < ps.length) : (mpd ps k j).set j (k + 2 * (j : Int), k + 2 * (j : Int) + 1) = mpd ps k (j + 1) := by
  unfold mpd
  rw [List.set_append_right _ _ (by simp [mps_len]), mps_len, Nat.sub_self, List.drop_eq_getElem_cons h, List.set_cons_zero]
  simp [mps, List.range_succ]
theorem mpd_all (ps : List PaceV) (k : Int) : mpd ps k ps.length = mps k ps.length := by simp [mpd]
theorem grown_refl (w : World) (r : Option Nat) : w.grownBy w r := ⟨rfl, rfl, rfl, Nat.le_refl _, fun _ _ _ => rfl⟩

theorem frozen_far {w : World} {b o : Nat} (h : w.heap.size ≤ b) : w.frozen? ⟨b, o, none⟩ = false := by
  unfold World.frozen?
  rw [Array.getElem?_eq_none h]

end Go.Proofs.YtmdgokjeobnnaaaDoor
