/- What the proof rests on, part 21: lists and numbers, how they lie in memory, and contracts of the calls. No condition but those that a theorem names. -/
import Derived.Test.YtmhagllddhjgmabGreatXu01
import Derived.Test.YtmhagllddhjgmabGreatXu11
import Derived.Deep.RegionHeld3
import Derived.Deep.DrawnRows
import Derived.BigRegion
import Derived.WalkKit
import Derived.ProofKit
import Derived.OpenShut
import Derived.Outline
import Derived.Deep.QuietTactic
import Derived.BigQuiet
import Derived.Laws.OwnMore
import Derived.OwnWalk
import Derived.Lib.QuietBelow
import Derived.Maps.AppendAt
/- Rows of entries that the call itself made, and what they read as. No condition but those that a theorem names. -/
namespace Go.Proofs.YtmhagllddhjgmabGreat
open Go.ChangeShapes Go.WideShapes Go.ChangeAt Go.RowKit Go.Sort
set_option linter.unusedVariables false

theorem infoEntry : (Tryz.prog.info? 65).map (fun i => (i.zero, i.size, i.bytes)) = some (some (.agg #[.int .i64 0, .int .i64 0]), 2, 16) := by kernel_rfl
theorem pcells_len (ps : List PaceV) : (pcells ps).length = ps.length * 2 := by unfold pcells; exact pairs_len ps
theorem pcells_append (ps qs : List PaceV) : pcells (ps ++ qs) = pcells ps ++ pcells qs := by unfold pcells; rw [List.flatMap_append]
theorem pcells_take : ∀ (ps : List PaceV) (n : Nat), pcells (ps.take n) = (pcells ps).take (n * 2)
  | [], n => by simp [pcells]
  | p :: ps, 0 => by simp [pcells]
  | p :: ps, n + 1 => by
    have ih := pcells_take ps n
    unfold pcells at ih ⊢
    rw [show (n + 1) * 2 = n * 2 + 2 by omega]
    simpa using ih
/-- The slice v, in a block from n₀ on, holds the entries ps. -/
def EntsAt (n₀ : Nat) (w : World) (v : Value) (ps : List PaceV) : Prop := w.ownsRow n₀ 65 2 v ps.length (pcells ps)
theorem EntsAt.lt {n₀ : Nat} {w : World} {v : Value} {ps : List PaceV} (h : EntsAt n₀ w v ps) {k : Nat} (hk : v.ownBlock = some k) : n₀ ≤ k ∧ k < w.heap.size := World.ownsRow.lt h k hk
theorem EntsAt.mono {n₀ n₁ : Nat} {w : World} {v : Value} {ps : List PaceV} (h : EntsAt n₀ w v ps) (hn : n₁ ≤ n₀) : EntsAt n₁ w v ps := own_mono h hn
theorem EntsAt.same {n₀ : Nat} {w w' : World} {v : Value} {ps : List PaceV} (h : EntsAt n₀ w v ps) (hs : ∀ k, v.ownBlock = some k → w'.heap[k]? = w.heap[k]?) : EntsAt n₀ w' v ps := own_same h hs
theorem EntsAt.later {n₀ : Nat} {w w' : World} {v : Value} {ps : List PaceV} (h : EntsAt n₀ w v ps) (hb : Below w.heap.size w w') : EntsAt n₀ w' v ps := h.same fun k hk => hb.block k (h.lt hk).2
theorem EntsAt.paces {n₀ : Nat} {w : World} {v : Value} {ps : List PaceV} (h : EntsAt n₀ w v ps) : IsPaces w v ps := by
  have h' := h
  rcases h.2 with ⟨rfl, hz⟩ | ⟨g, cap, cur, rfl, hb, hg, hnc, hcm, r⟩
  · exact ⟨none, 0, by rw [hz], by omega, by omega, .inl (List.eq_nil_of_length_eq_zero hz)⟩
  · refine ⟨_, cap, rfl, hnc, by unfold maxLen at hcm; omega, .inr ⟨g, 0, rfl, (Array.getElem?_eq_some_iff.1 hg).1, fun k hk => ?_⟩⟩
    have hp := pairs_get (f := fun p : PaceV => Value.int .i64 p.1) (g := fun p : PaceV => Value.int .i64 p.2) ps k hk
    have hat : paceAt ps k = ps[k] := by unfold paceAt; simp [List.getD, hk]
    rw [Nat.zero_add, hat]
    exact ⟨(World.ownsRow.cellAt h' (k * 2) (by omega)).trans hp.1, (World.ownsRow.cellAt h' (k * 2 + 1) (by omega)).trans hp.2⟩
theorem EntsAt.shape {n₀ : Nat} {w : World} {v : Value} {ps : List PaceV} (h : EntsAt n₀ w v ps) : ∃ a cap, v = .slice a ps.length cap := by
  rcases h.2 with ⟨rfl, hz⟩ | ⟨g, cap, cur, rfl, _⟩
  · exact ⟨none, 0, by rw [hz]⟩
  · exact ⟨_, cap, rfl⟩
/-- Its first n. -/
theorem EntsAt.cut {n₀ : Nat} {w : World} {a : Option Addr} {len cap : Nat} {ps : List PaceV} (h : EntsAt n₀ w (.slice a len cap) ps) {n : Nat} (hn : n ≤ ps.length) (ha : a ≠ none) : EntsAt n₀ w (.slice a n cap) (ps.take n) := by
  have hl : (ps.take n).length = n := by simp; omega
  unfold EntsAt
  rw [hl, pcells_take]
  rcases h.2 with ⟨hv, hz⟩ | ⟨g, cap', cur, hv, hb, hg, hnc, hcm, hs, ht⟩
  · cases hv; exact absurd rfl ha
  · cases hv
    refine ⟨by rw [List.length_take, pcells_len]; omega, .inr ⟨g, cap, cur, rfl, hb, hg, by omega, hcm, hs, ?_⟩⟩
    rw [← ht, List.take_take]; congr 1; omega
theorem IsPaces.cut {w : World} {a : Option Addr} {len cap : Nat} {ps : List PaceV} (h : IsPaces w (.slice a len cap) ps) {n : Nat} (hn : n ≤ ps.length) : IsPaces w (.slice a n cap) (ps.take n) := by
  obtain ⟨a', cap', he, hc, hm, hr⟩ := h
  cases he
  have hl : (ps.take n).length = n := by simp; omega
  refine ⟨a, cap, by rw [hl], by omega, hm, ?_⟩
  rcases hr with hr | ⟨b, off, rfl, hlt, hcl⟩
  · exact .inl (by rw [hr]; simp)
  · refine .inr ⟨b, off, rfl, hlt, fun k hk => ?_⟩
    rw [paceAt_take (by omega)]
    exact hcl k (by omega)

end Go.Proofs.YtmhagllddhjgmabGreat

/- Contracts of EntryLess, QueueOk, FirstIn, the program's and the model's, and of what they call: each returns what the lists say and writes into no memory that was there. Condition: the slices can be read. -/
namespace Go.Proofs.YtmhagllddhjgmabGreat
open Go.ChangeShapes Go.WideShapes Go.ChangeAt Go.RowKit Go.Sort
set_option linter.unusedVariables false

theorem ltB_had {a b c d : Int} (h : a ≠ c) : ltB (a, b) (c, d) = decide (a < c) := by unfold ltB; simp; omega
theorem ltB_who {a b d : Int} : ltB (a, b) (a, d) = decide (b < d) := by unfold ltB; simp

theorem specLess_any (a b c d : Int) (w : World) : Calls Tryz.prog 90 #[.agg #[.int .i64 a, .int .i64 b], .agg #[.int .i64 c, .int .i64 d]] w fun e w' => e = .returned (.bool (ltB (a, b) (c, d))) ∧ Below w.heap.size w w' := by
  by_cases h : a = c
  · subst h
    rw [ltB_who]
    go_enter Tryz.func90, Tryz.ntmps90
    go_wp2_with fail
    go_ret
    exact ⟨rfl, ((Below.refl _ _).alloc (Nat.le_refl _) _).alloc (by simp) _⟩
  · rw [ltB_had h]
    have h' : (a == c) = false := by simpa using h
    have h2 : (a != c) = true := by simpa using h
    clear h
    go_enter Tryz.func90, Tryz.ntmps90
    go_wp2_with fail
    go_ret
    exact ⟨rfl, ((Below.refl _ _).alloc (Nat.le_refl _) _).alloc (by simp) _⟩

theorem implLess_any (a b c d : Int) (w : World) : Calls Tryz.prog 109 #[.agg #[.int .i64 a, .int .i64 b], .agg #[.int .i64 c, .int .i64 d]] w fun e w' => e = .returned (.bool (ltB (a, b) (c, d))) ∧ Below w.heap.size w w' := by
  by_cases h : a = c
  · subst h
    rw [ltB_who]
    go_enter Tryz.func109, Tryz.ntmps109
    go_wp2_with fail
    go_ret
    exact ⟨rfl, ((Below.refl _ _).alloc (Nat.le_refl _) _).alloc (by simp) _⟩
  · rw [ltB_had h]
    have h' : (a == c) = false := by simpa using h
    have h2 : (a != c) = true := by simpa using h
    clear h
    go_enter Tryz.func109, Tryz.ntmps109
    go_wp2_with fail
    go_ret
    exact ⟨rfl, ((Below.refl _ _).alloc (Nat.le_refl _) _).alloc (by simp) _⟩

theorem isHad_any (n : Int) (w : World) : Calls Tryz.prog 134 #[.int .i64 n] w fun e w' => e = .returned (.bool (inB n (-1000000000000) 1000000000000)) ∧ w' = w := by
  go_enter Tryz.func134, Tryz.ntmps134
  go_wp2_with (go_at_call 101; refine (liesFrom_any _ _ _ _).mono ?_; rintro e w' ⟨rfl, rfl⟩)
  go_ret
  exact ⟨rfl, rfl⟩

theorem isEntry_any (f c : Int) (w : World) : Calls Tryz.prog 108 #[.agg #[.int .i64 f, .int .i64 c]] w fun e w' => e = .returned (.bool (entB (f, c))) ∧ Below w.heap.size w w' := by
  cases h1 : inB f (-1000000000000) 1000000000000
  · go_enter Tryz.func108, Tryz.ntmps108
    go_wp2_with fail
    refine (isHad_any _ _).mono ?_
    rintro e w' ⟨rfl, rfl⟩
    go_wp2_with fail
    go_ret
    exact ⟨ret_bool (by unfold entB; simp [h1]), (Below.refl _ _).alloc (Nat.le_refl _) _⟩
  · go_enter Tryz.func108, Tryz.ntmps108
    go_wp2_with fail
    refine (isHad_any _ _).mono ?_
    rintro e w' ⟨rfl, rfl⟩
    go_wp2_with fail
    refine (liesFrom_any _ _ _ _).mono ?_
    rintro e w' ⟨rfl, rfl⟩
    go_wp2_with fail
    go_ret
    exact ⟨ret_bool (by unfold entB; simp [h1]), (Below.refl _ _).alloc (Nat.le_refl _) _⟩

theorem isWho_any (f c who : Int) (B : Nat) (w : World) (hc : w.cell? ⟨B, 0, none⟩ = some (.int .i64 who)) (hB : B < w.heap.size) :
    Calls Tryz.prog 136 #[.agg #[.int .i64 f, .int .i64 c], .pointer (some ⟨B, 0, none⟩)] w fun e w' => e = .returned (.bool (c == who)) ∧ Below w.heap.size w w' := by
  have hne : B ≠ w.heap.size := Nat.ne_of_lt hB
  go_enter Tryz.func136, Tryz.ntmps136
  go_wp2_with fail
  go_ret
  exact ⟨rfl, (Below.refl _ _).alloc (Nat.le_refl _) _⟩

set_option maxHeartbeats 1000000 in
theorem idxFunc_any {w : World} {v : Value} {ps : List PaceV} (who : Int) (B : Nat) (h : IsPaces w v ps) (hc : w.cell? ⟨B, 0, none⟩ = some (.int .i64 who)) (hB : B < w.heap.size) :
    Calls Tryz.prog 135 #[v, .func (Fn.func 136) #[] #[.pointer (some ⟨B, 0, none⟩)]] w fun e w' => e = .returned (.int .i64 (findV ps who)) ∧ Below w.heap.size w w' := by
  obtain ⟨a, cap, rfl, hcc, hm, hr⟩ := h
  have Hr := hide hr
  have Hc := hide hc
  clear hr hc
  go_enter Tryz.func135, Tryz.ntmps135
  go_wp2_with fail
  go_loopw [5, 8] (fun _ i wr => ∃ k : Nat, k ≤ ps.length ∧ i = .int .i64 k ∧ Hid (∀ j, j < k → (paceAt ps j).2 ≠ who) ∧ Below w.heap.size w wr) (fun _ i _ => ps.length - (intOf i).toNat)
  case atStart => exact ⟨0, Nat.zero_le _, rfl, hide (fun j hj => by omega), Below.refl _ _⟩
  case round =>
    obtain ⟨k, hk, rfl, hno, hb⟩ := hrel
    have Hb := hide hb
    by_cases hlt : k < ps.length
    · rcases unhide Hr with h0 | ⟨b, off, rfl, hbw, hcl⟩
      · rw [h0] at hlt; simp at hlt
      obtain ⟨c0, c1⟩ := hcl k hlt
      rw [← hb.cell (p := ⟨b, off + k * 2, none⟩) hbw] at c0
      rw [← hb.cell (p := ⟨b, off + k * 2 + 1, none⟩) hbw] at c1
      generalize hz : paceAt ps k = p at *
      obtain ⟨f, z⟩ := p
      simp only at c0 c1
      have hcb := (hb.cell (p := ⟨B, 0, none⟩) hB).trans (unhide Hc)
      have hBr : B < wr.heap.size := Nat.lt_of_lt_of_le hB hb.size
      have Hz := hide hz
      have Hcb := hide hcb
      clear hz hcl hb hcb
      by_cases hx : z = who
      · subst hx
        go_wp2_with fail
        refine (isWho_any _ _ _ _ _ (unhide Hcb) hBr).mono ?_
        rintro e w1 ⟨rfl, hb1⟩
        have Hb1 := hide hb1
        clear hb1
        go_wp2_with fail
        go_ret
        exact ⟨ret_int (findV_some hlt (by rw [unhide Hz]) (unhide hno)).symm, (unhide Hb).trans ((unhide Hb1).mono (unhide Hb).size)⟩
      · have hx' : (z == who) = false := by simpa using hx
        have Hx := hide hx
        clear hx
        go_wp2_with fail
        refine (isWho_any _ _ _ _ _ (unhide Hcb) hBr).mono ?_
        rw [hx']
        rintro e w1 ⟨rfl, hb1⟩
        have Hb1 := hide hb1
        clear hb1
        go_wp2_with fail
        go_roundw
        case rel => exact ⟨k + 1, by omega, by go_num, hide (next_all (unhide hno) (by rw [unhide Hz]; exact unhide Hx)), (unhide Hb).trans ((unhide Hb1).mono (unhide Hb).size)⟩
        case measure => simp [intOf]; omega
    · obtain rfl : k = ps.length := by omega
      go_wp2_with fail
      go_ret
      exact ⟨ret_int (findV_none (unhide hno)).symm, hb⟩

theorem placeOf_any {w : World} {v : Value} {ps : List PaceV} (who : Int) (h : IsPaces w v ps) :
    Calls Tryz.prog 110 #[v, .int .i64 who] w fun e w' => e = .returned (.int .i64 (findV ps who)) ∧ Below w.heap.size w w' := by
  have Hv := hide h
  obtain ⟨a, cap, rfl, hcc, hm, hr⟩ := h
  clear hr
  go_enter Tryz.func110, Tryz.ntmps110
  go_wp2_with fail
  refine (idxFunc_any who w.heap.size ((unhide Hv).below ((Below.refl _ _).alloc (Nat.le_refl _) _)) (by simp) (by simp)).mono ?_
  rintro e w1 ⟨rfl, hb⟩
  have Hb := hide hb
  clear hb
  go_wp2_with fail
  go_ret
  exact ⟨rfl, ((Below.refl _ _).alloc (Nat.le_refl _) _).trans ((unhide Hb).mono (by simp))⟩

end Go.Proofs.YtmhagllddhjgmabGreat

/- The program's heap of entries in memory: what it is, and contracts of its methods Len, Less, Swap. Conditions: those that each theorem names. -/
namespace Go.Proofs.YtmhagllddhjgmabGreat
open Go.ChangeShapes Go.WideShapes Go.ChangeAt Go.RowKit Go.Sort
set_option linter.unusedVariables false

/-- Only the box bx, the row r and new blocks may differ. -/
structure Fr (bx : Nat) (r : Option Nat) (w w' : World) : Prop where
  os : w'.os = w.os
  tape : w'.tape = w.tape
  output : w'.output = w.output
  size : w.heap.size ≤ w'.heap.size
  block : ∀ k, k < w.heap.size → k ≠ bx → r ≠ some k → w'.heap[k]? = w.heap[k]?
theorem Fr.refl (bx : Nat) (r : Option Nat) (w : World) : Fr bx r w w := ⟨rfl, rfl, rfl, Nat.le_refl _, fun _ _ _ _ => rfl⟩
theorem Fr.trans {bx : Nat} {r : Option Nat} {a b c : World} (h : Fr bx r a b) (k : Fr bx r b c) : Fr bx r a c :=
  ⟨k.os.trans h.os, k.tape.trans h.tape, k.output.trans h.output, Nat.le_trans h.size k.size, fun i hi hn hr => (k.block i (Nat.lt_of_lt_of_le hi h.size) hn hr).trans (h.block i hi hn hr)⟩
theorem Fr.of_below {bx : Nat} {r : Option Nat} {w w' : World} (h : Below w.heap.size w w') : Fr bx r w w' := ⟨h.os, h.tape, h.output, h.size, fun k hk _ _ => h.block k hk⟩
theorem Fr.of_grown {bx : Nat} {r : Option Nat} {w w' : World} (h : w.grownBy w' r) : Fr bx r w w' := ⟨h.os, h.tape, h.output, h.size, fun k hk _ hr => h.block k hk (fun e => hr e.symm)⟩
theorem Fr.box {bx : Nat} {r : Option Nat} (w : World) (v : Value) : Fr bx r w (w.setCell ⟨bx, 0, none⟩ v) := ⟨rfl, rfl, rfl, by simp, fun k hk hn _ => Below.heap_setCell w ⟨bx, 0, none⟩ v k hn⟩
theorem Fr.below {bx B : Nat} {r : Option Nat} {w w' : World} (h : Fr bx r w w') (hx : B ≤ bx) (hr : ∀ k, r = some k → B ≤ k) (hs : B ≤ w.heap.size) : Below B w w' :=
  ⟨h.os, h.tape, h.output, h.size, fun k hk => h.block k (by omega) (by omega) (fun e => by have := hr k e; omega)⟩
/-- Another row stays. -/
theorem EntsAt.fr {n₀ bx : Nat} {r : Option Nat} {w w' : World} {v : Value} {ps : List PaceV} (h : EntsAt n₀ w v ps) (hf : Fr bx r w w') (h1 : v.ownBlock ≠ some bx) (h2 : ∀ k, v.ownBlock = some k → r ≠ some k) : EntsAt n₀ w' v ps :=
  h.same fun k hk => hf.block k (h.lt hk).2 (fun e => h1 (by rw [hk, e])) (h2 k hk)

/-- The box bx holds the slice v, whose row, in a block from n₀ on, holds the entries ps. -/
structure HeapIs (n₀ bx : Nat) (v : Value) (w : World) (ps : List PaceV) : Prop where
  cell : w.cell? ⟨bx, 0, none⟩ = some v
  free : w.frozen? ⟨bx, 0, none⟩ = false
  lt : bx < w.heap.size
  row : EntsAt n₀ w v ps
  off : v.ownBlock ≠ some bx
theorem HeapIs.later {n₀ bx : Nat} {v : Value} {w w' : World} {ps : List PaceV} (h : HeapIs n₀ bx v w ps) (hb : Below w.heap.size w w') : HeapIs n₀ bx v w' ps :=
  ⟨(hb.cell (p := ⟨bx, 0, none⟩) h.lt).trans h.cell, (hb.frozen (p := ⟨bx, 0, none⟩) h.lt).trans h.free, Nat.lt_of_lt_of_le h.lt hb.size, h.row.later hb, h.off⟩
/-- What a walk reads of it where it is not empty. -/
theorem HeapIs.view {n₀ bx : Nat} {v : Value} {w : World} {ps : List PaceV} (h : HeapIs n₀ bx v w ps) (hl : 0 < ps.length) : ∃ g cap, v = .slice (some ⟨g, 0, none⟩) ps.length cap ∧ g ≠ bx ∧ g < w.heap.size ∧ n₀ ≤ g ∧ ps.length ≤ cap ∧ cap ≤ 9223372036854775807 ∧
    (∀ k, k < ps.length → w.cell? ⟨g, k * 2, none⟩ = some (.int .i64 (paceAt ps k).1) ∧ w.cell? ⟨g, k * 2 + 1, none⟩ = some (.int .i64 (paceAt ps k).2)) ∧ (∀ k, w.frozen? ⟨g, k, none⟩ = false) := by
  have hr := h.row
  rcases h.row.2 with ⟨hv, hz⟩ | ⟨g, cap, cur, rfl, hb, hg, hnc, hcm, r⟩
  · omega
  · obtain ⟨a, cap', he, _, _, hrr⟩ := hr.paces
    cases he
    refine ⟨g, cap, rfl, fun e => h.off (by rw [e]; rfl), (Array.getElem?_eq_some_iff.1 hg).1, hb, hnc, by unfold maxLen at hcm; omega, ?_, fun k => World.ownsRow.frozenAt hr k⟩
    rcases hrr with h0 | ⟨b, off, he, _, hcl⟩
    · rw [h0] at hl; simp at hl
    · cases he
      intro k hk
      have := hcl k hk
      simpa using this

theorem len_any {n₀ bx : Nat} {v : Value} {w : World} {ps : List PaceV} (h : HeapIs n₀ bx v w ps) : Calls Tryz.prog 112 #[.pointer (some ⟨bx, 0, none⟩)] w fun e w' => e = .returned (.int .i64 ps.length) ∧ w' = w := by
  have hc := h.cell
  obtain ⟨a, cap, rfl⟩ := h.row.shape
  go_enter Tryz.func112, Tryz.ntmps112
  go_wp2_with fail
  go_ret
  exact ⟨rfl, rfl⟩

set_option maxHeartbeats 1000000 in
theorem less_any {n₀ bx : Nat} {v : Value} {w : World} {ps : List PaceV} (h : HeapIs n₀ bx v w ps) {i j : Nat} (hi : i < ps.length) (hj : j < ps.length) :
    Calls Tryz.prog 176 #[.pointer (some ⟨bx, 0, none⟩), .int .i64 i, .int .i64 j] w fun e w' => e = .returned (.bool (ltB (paceAt ps i) (paceAt ps j))) ∧ Below w.heap.size w w' := by
  obtain ⟨g, cap, rfl, hne, hlt, _, hnc, hcm, hcl, _⟩ := h.view (by omega)
  have hc := h.cell
  obtain ⟨a0, a1⟩ := hcl i hi
  obtain ⟨b0, b1⟩ := hcl j hj
  generalize paceAt ps i = p at *
  generalize paceAt ps j = q at *
  obtain ⟨f, z⟩ := p
  obtain ⟨f', z'⟩ := q
  simp only at a0 a1 b0 b1
  have hi0 : (0 : Int) ≤ (i : Int) := by omega
  have hj0 : (0 : Int) ≤ (j : Int) := by omega
  have hi1 : (i : Int) < (ps.length : Int) := by omega
  have hj1 : (j : Int) < (ps.length : Int) := by omega
  have k0 := cell_regrown a0
  have k1 := cell_regrown a1
  have k2 := cell_regrown b0
  have k3 := cell_regrown b1
  have k4 := cell_regrown hc
  clear hcl h hc a0 a1 b0 b1
  go_enter Tryz.func176, Tryz.ntmps176
  go_wp2_with fail
  refine wp_region_quiet_below (by kernel_rfl) (by kernel_rfl) ?_
  repeat (go_big_quiet_step (exact Calls.regrown_of (implLess_any _ _ _ _ _)))
  refine wpQuiet_nil ?_
  intro _ hw'
  obtain ⟨⟨dq, osq⟩, hw''⟩ := hw'
  subst hw''
  go_wp2_with fail
  go_ret
  exact ⟨rfl, below_regrown _ _ _⟩

end Go.Proofs.YtmhagllddhjgmabGreat

/- A contract of the heap's Swap. Conditions: those that the theorem names. -/
namespace Go.Proofs.YtmhagllddhjgmabGreat
open Go.ChangeShapes Go.WideShapes Go.ChangeAt Go.RowKit Go.Sort
set_option linter.unusedVariables false

theorem set_some {w : World} {a p : Addr} {u v : Value} (h : w.cell? p = some v) : ∃ c, (w.setCell a u).cell? p = some c := by
  by_cases e : p = a
  · subst e; exact ⟨_, World.cell?_setCell_same _ _ _ h⟩
  · exact ⟨v, by rw [World.cell?_setCell_other _ _ _ _ (fun e2 => e e2.symm)]; exact h⟩

theorem HeapIs.swapped {n₀ bx g cap n : Nat} {w : World} {ps : List PaceV} (h : HeapIs n₀ bx (.slice (some ⟨g, 0, none⟩) n cap) w ps) (hn : n = ps.length) (hne : g ≠ bx) {i j : Nat} (hi : i < ps.length) (hj : j < ps.length) (f z f' z' : Int) (W : World) (hW : W = ((((w.setCell ⟨g, i * 2, none⟩ (.int .i64 f')).setCell ⟨g, i * 2 + 1, none⟩ (.int .i64 z')).setCell ⟨g, j * 2, none⟩ (.int .i64 f)).setCell ⟨g, j * 2 + 1, none⟩ (.int .i64 z))) :
    HeapIs n₀ bx (.slice (some ⟨g, 0, none⟩) n cap) W ((ps.set i (f', z')).set j (f, z)) ∧ Fr bx (some g) w W := by
  subst hn
  have r1 := own_pair h.row (i * 2) (.int .i64 f') (.int .i64 z')
  rw [pput _ _ _ _ hi] at r1
  have r2 := own_pair r1.1 (j * 2) (.int .i64 f) (.int .i64 z)
  rw [pput _ _ _ _ (by simpa using hj), ← hW] at r2
  have hg := grown_trans r1.2 r2.2
  clear r1 hW
  have hlt := h.lt
  have hb := hg.block bx hlt (by simpa using Ne.symm hne)
  refine ⟨⟨?_, ?_, Nat.lt_of_lt_of_le hlt hg.size, ?_, h.off⟩, Fr.of_grown hg⟩
  · exact (World.cell?_of_block (w := w) (a := ⟨bx, 0, none⟩) hb).trans h.cell
  · exact (World.frozen?_of_block (w := w) (a := ⟨bx, 0, none⟩) hb).trans h.free
  · unfold EntsAt
    rw [List.length_set, List.length_set]
    exact r2.1

set_option maxRecDepth 100000 in
set_option maxHeartbeats 4000000 in
theorem swap_any {n₀ bx : Nat} {v : Value} {w : World} {ps : List PaceV} (h : HeapIs n₀ bx v w ps) {i j : Nat} (hi : i < ps.length) (hj : j < ps.length) :
    Calls Tryz.prog 179 #[.pointer (some ⟨bx, 0, none⟩), .int .i64 i, .int .i64 j] w fun e w' => e = .returned (.tuple #[]) ∧ HeapIs n₀ bx v w' (swp ps i j) ∧ Fr bx v.ownBlock w w' := by
  have H := hide h
  obtain ⟨g, cap, rfl, hne, hlt, hn0, hnc, hcm, hcl, hfz⟩ := h.view (by omega)
  have hc := h.cell
  obtain ⟨a0, a1⟩ := hcl i hi
  obtain ⟨b0, b1⟩ := hcl j hj
  have z0 := hfz (i * 2)
  have z1 := hfz (i * 2 + 1)
  have z2 := hfz (j * 2)
  have z3 := hfz (j * 2 + 1)
  have HX : Hid (swp ps i j = (ps.set i (paceAt ps j)).set j (paceAt ps i)) := hide rfl
  generalize paceAt ps i = p at *
  generalize paceAt ps j = q at *
  obtain ⟨f, z⟩ := p
  obtain ⟨f', z'⟩ := q
  simp only at a0 a1 b0 b1
  have hi0 : (0 : Int) ≤ (i : Int) := by omega
  have hj0 : (0 : Int) ≤ (j : Int) := by omega
  have hi1 : (i : Int) < (ps.length : Int) := by omega
  have hj1 : (j : Int) < (ps.length : Int) := by omega
  obtain ⟨c1, y1⟩ : ∃ c, (w.setCell ⟨g, i * 2, none⟩ (.int .i64 f')).cell? ⟨g, j * 2, none⟩ = some c := set_some b0
  obtain ⟨c2, y2⟩ : ∃ c, ((w.setCell ⟨g, i * 2, none⟩ (.int .i64 f')).setCell ⟨g, i * 2 + 1, none⟩ (.int .i64 z')).cell? ⟨g, j * 2 + 1, none⟩ = some c := by
    obtain ⟨c, hc9⟩ := set_some (a := ⟨g, i * 2, none⟩) (u := .int .i64 f') b1
    exact set_some hc9
  obtain ⟨c3, y3⟩ : ∃ c, ((w.setCell ⟨g, i * 2, none⟩ (.int .i64 f')).setCell ⟨g, i * 2 + 1, none⟩ (.int .i64 z')).cell? ⟨g, j * 2, none⟩ = some c := by
    obtain ⟨c, hc9⟩ := set_some (a := ⟨g, i * 2, none⟩) (u := .int .i64 f') b0
    exact set_some hc9
  clear hcl h hfz
  go_enter Tryz.func179, Tryz.ntmps179
  go_wp2_with fail
  go_region
  go_end0
  generalize hW : ((((w.setCell ⟨g, i * 2, none⟩ (.int .i64 f')).setCell ⟨g, i * 2 + 1, none⟩ (.int .i64 z')).setCell ⟨g, j * 2, none⟩ (.int .i64 f)).setCell ⟨g, j * 2 + 1, none⟩ (.int .i64 z)) = W
  obtain ⟨h1, h2⟩ := (unhide H).swapped rfl hne hi hj f z f' z' W hW.symm
  exact ⟨rfl, by rw [unhide HX]; exact h1.later ((Below.refl _ _).drew), h2.trans (Fr.of_below ((Below.refl _ _).drew))⟩

end Go.Proofs.YtmhagllddhjgmabGreat

