/- What the proof rests on, part 4: lists and numbers, how they lie in memory, and contracts of the calls. No condition but those that a theorem names. -/
import Derived.Test.YtifolooecfebfaaGreatXe01
import Derived.Deep.RegionHeld3
import Derived.Deep.DrawnRows
import Derived.BigRegion
import Derived.Deep.RegionLawGrows
import GoSem.Claim
import GoSem.ClaimJoined
import GoSem.ClaimMapViews
import Derived.JoinedTies
import Derived.KernelRfl
import Derived.RowKit
import Derived.WalkKit
import Derived.ProofKit
import Derived.OpenShut
import Derived.Outline
import Derived.Lib.QuietBelow
import Derived.Deep.QuietTactic
import Derived.BigQuiet
import Derived.Laws.OwnMore
import Derived.OwnWalk
import Derived.Maps.AppendAt
/- Rows of entries that the call itself made, and what they read as. No condition but those that a theorem names. -/
namespace Go.Proofs.YtifolooecfebfaaGreat
open Go.ChangeShapes Go.WideShapes Go.ChangeAt Go.RowKit Go.Sort
set_option linter.unusedVariables false

theorem infoEntry : (Tryz.prog.info? 129).map (fun i => (i.zero, i.size, i.bytes)) = some (some (.agg #[.int .i64 0, .int .i64 0]), 2, 16) := by kernel_rfl
theorem pcells_len (ps : List PaceV) : (pcells ps).length = ps.length * 2 := by unfold pcells; exact pairs_len ps
theorem pcells_append (ps qs : List PaceV) : pcells (ps ++ qs) = pcells ps ++ pcells qs := by unfold pcells; rw [List.flatMap_append]
theorem pcells_take : ∀ (ps : List PaceV) (n : Nat), pcells (ps.take n) = (pcells ps).take (n * 2)
  | [], n => by simp [pcells]
  | p :: ps, 0 => by simp [pcells]
  | p :: ps, n + 1 => by
    have ih := pcells_take ps n
    unfold pcells at ih ⊢
    rw [show (n + 1) * 2 = n * 2 + 2 by omega]
    simpa using ih
/-- The slice v, in a block from n₀ on, holds the entries ps. -/
def EntsAt (n₀ : Nat) (w : World) (v : Value) (ps : List PaceV) : Prop := w.ownsRow n₀ 129 2 v ps.length (pcells ps)
theorem EntsAt.lt {n₀ : Nat} {w : World} {v : Value} {ps : List PaceV} (h : EntsAt n₀ w v ps) {k : Nat} (hk : v.ownBlock = some k) : n₀ ≤ k ∧ k < w.heap.size := World.ownsRow.lt h k hk
theorem EntsAt.mono {n₀ n₁ : Nat} {w : World} {v : Value} {ps : List PaceV} (h : EntsAt n₀ w v ps) (hn : n₁ ≤ n₀) : EntsAt n₁ w v ps := own_mono h hn
theorem EntsAt.same {n₀ : Nat} {w w' : World} {v : Value} {ps : List PaceV} (h : EntsAt n₀ w v ps) (hs : ∀ k, v.ownBlock = some k → w'.heap[k]? = w.heap[k]?) : EntsAt n₀ w' v ps := own_same h hs
theorem EntsAt.later {n₀ : Nat} {w w' : World} {v : Value} {ps : List PaceV} (h : EntsAt n₀ w v ps) (hb : Below w.heap.size w w') : EntsAt n₀ w' v ps := h.same fun k hk => hb.block k (h.lt hk).2
theorem EntsAt.paces {n₀ : Nat} {w : World} {v : Value} {ps : List PaceV} (h : EntsAt n₀ w v ps) : IsPaces w v ps := by
  have h' := h
  rcases h.2 with ⟨rfl, hz⟩ | ⟨g, cap, cur, rfl, hb, hg, hnc, hcm, r⟩
  · exact ⟨none, 0, by rw [hz], by omega, by omega, .inl (List.eq_nil_of_length_eq_zero hz)⟩
  · refine ⟨_, cap, rfl, hnc, by unfold maxLen at hcm; omega, .inr ⟨g, 0, rfl, (Array.getElem?_eq_some_iff.1 hg).1, fun k hk => ?_⟩⟩
    have hp := pairs_get (f := fun p : PaceV => Value.int .i64 p.1) (g := fun p : PaceV => Value.int .i64 p.2) ps k hk
    have hat : paceAt ps k = ps[k] := by unfold paceAt; simp [List.getD, hk]
    rw [Nat.zero_add, hat]
    exact ⟨(World.ownsRow.cellAt h' (k * 2) (by omega)).trans hp.1, (World.ownsRow.cellAt h' (k * 2 + 1) (by omega)).trans hp.2⟩
theorem EntsAt.shape {n₀ : Nat} {w : World} {v : Value} {ps : List PaceV} (h : EntsAt n₀ w v ps) : ∃ a cap, v = .slice a ps.length cap := by
  rcases h.2 with ⟨rfl, hz⟩ | ⟨g, cap, cur, rfl, _⟩
  · exact ⟨none, 0, by rw [hz]⟩
  · exact ⟨_, cap, rfl⟩
/-- Its first n. -/
theorem EntsAt.cut {n₀ : Nat} {w : World} {a : Option Addr} {len cap : Nat} {ps : List PaceV} (h : EntsAt n₀ w (.slice a len cap) ps) {n : Nat} (hn : n ≤ ps.length) (ha : a ≠ none) : EntsAt n₀ w (.slice a n cap) (ps.take n) := by
  have hl : (ps.take n).length = n := by simp; omega
  unfold EntsAt
  rw [hl, pcells_take]
  rcases h.2 with ⟨hv, hz⟩ | ⟨g, cap', cur, hv, hb, hg, hnc, hcm, hs, ht⟩
  · cases hv; exact absurd rfl ha
  · cases hv
    refine ⟨by rw [List.length_take, pcells_len]; omega, .inr ⟨g, cap, cur, rfl, hb, hg, by omega, hcm, hs, ?_⟩⟩
    rw [← ht, List.take_take]; congr 1; omega
theorem IsPaces.cut {w : World} {a : Option Addr} {len cap : Nat} {ps : List PaceV} (h : IsPaces w (.slice a len cap) ps) {n : Nat} (hn : n ≤ ps.length) : IsPaces w (.slice a n cap) (ps.take n) := by
  obtain ⟨a', cap', he, hc, hm, hr⟩ := h
  cases he
  have hl : (ps.take n).length = n := by simp; omega
  refine ⟨a, cap, by rw [hl], by omega, hm, ?_⟩
  rcases hr with hr | ⟨b, off, rfl, hlt, hcl⟩
  · exact .inl (by rw [hr]; simp)
  · refine .inr ⟨b, off, rfl, hlt, fun k hk => ?_⟩
    rw [paceAt_take (by omega)]
    exact hcl k (by omega)

end Go.Proofs.YtifolooecfebfaaGreat

/- Contracts of EntryLess, QueueOk, FirstIn, the program's and the model's, and of what they call: each returns what the lists say and writes into no memory that was there. Condition: the slices can be read. -/
namespace Go.Proofs.YtifolooecfebfaaGreat
open Go.ChangeShapes Go.WideShapes Go.ChangeAt Go.RowKit Go.Sort
set_option linter.unusedVariables false

theorem ltB_had {a b c d : Int} (h : a ≠ c) : ltB (a, b) (c, d) = decide (a < c) := by unfold ltB; simp; omega
theorem ltB_who {a b d : Int} : ltB (a, b) (a, d) = decide (b < d) := by unfold ltB; simp

theorem specLess_any (a b c d : Int) (w : World) : Calls Tryz.prog 176 #[.agg #[.int .i64 a, .int .i64 b], .agg #[.int .i64 c, .int .i64 d]] w fun e w' => e = .returned (.bool (ltB (a, b) (c, d))) ∧ Below w.heap.size w w' := by
  by_cases h : a = c
  · subst h
    rw [ltB_who]
    go_enter Tryz.func176, Tryz.ntmps176
    go_wp2_with fail
    go_ret
    exact ⟨rfl, ((Below.refl _ _).alloc (Nat.le_refl _) _).alloc (by simp) _⟩
  · rw [ltB_had h]
    have h' : (a == c) = false := by simpa using h
    have h2 : (a != c) = true := by simpa using h
    clear h
    go_enter Tryz.func176, Tryz.ntmps176
    go_wp2_with fail
    go_ret
    exact ⟨rfl, ((Below.refl _ _).alloc (Nat.le_refl _) _).alloc (by simp) _⟩

theorem implLess_any (a b c d : Int) (w : World) : Calls Tryz.prog 221 #[.agg #[.int .i64 a, .int .i64 b], .agg #[.int .i64 c, .int .i64 d]] w fun e w' => e = .returned (.bool (ltB (a, b) (c, d))) ∧ Below w.heap.size w w' := by
  by_cases h : a = c
  · subst h
    rw [ltB_who]
    go_enter Tryz.func221, Tryz.ntmps221
    go_wp2_with fail
    go_ret
    exact ⟨rfl, ((Below.refl _ _).alloc (Nat.le_refl _) _).alloc (by simp) _⟩
  · rw [ltB_had h]
    have h' : (a == c) = false := by simpa using h
    have h2 : (a != c) = true := by simpa using h
    clear h
    go_enter Tryz.func221, Tryz.ntmps221
    go_wp2_with fail
    go_ret
    exact ⟨rfl, ((Below.refl _ _).alloc (Nat.le_refl _) _).alloc (by simp) _⟩

theorem isHad_any (n : Int) (w : World) : Calls Tryz.prog 239 #[.int .i64 n] w fun e w' => e = .returned (.bool (inB n (-1000000000000) 1000000000000)) ∧ w' = w := by
  go_enter Tryz.func239, Tryz.ntmps239
  go_wp2_with (go_at_call 169; refine (liesFrom_any _ _ _ _).mono ?_; rintro e w' ⟨rfl, rfl⟩)
  go_ret
  exact ⟨rfl, rfl⟩

theorem isEntry_any (f c : Int) (w : World) : Calls Tryz.prog 220 #[.agg #[.int .i64 f, .int .i64 c]] w fun e w' => e = .returned (.bool (entB (f, c))) ∧ Below w.heap.size w w' := by
  cases h1 : inB f (-1000000000000) 1000000000000
  · go_enter Tryz.func220, Tryz.ntmps220
    go_wp2_with fail
    refine (isHad_any _ _).mono ?_
    rintro e w' ⟨rfl, rfl⟩
    go_wp2_with fail
    go_ret
    exact ⟨ret_bool (by unfold entB; simp [h1]), (Below.refl _ _).alloc (Nat.le_refl _) _⟩
  · go_enter Tryz.func220, Tryz.ntmps220
    go_wp2_with fail
    refine (isHad_any _ _).mono ?_
    rintro e w' ⟨rfl, rfl⟩
    go_wp2_with fail
    refine (liesFrom_any _ _ _ _).mono ?_
    rintro e w' ⟨rfl, rfl⟩
    go_wp2_with fail
    go_ret
    exact ⟨ret_bool (by unfold entB; simp [h1]), (Below.refl _ _).alloc (Nat.le_refl _) _⟩

theorem isWho_any (f c who : Int) (B : Nat) (w : World) (hc : w.cell? ⟨B, 0, none⟩ = some (.int .i64 who)) (hB : B < w.heap.size) :
    Calls Tryz.prog 241 #[.agg #[.int .i64 f, .int .i64 c], .pointer (some ⟨B, 0, none⟩)] w fun e w' => e = .returned (.bool (c == who)) ∧ Below w.heap.size w w' := by
  have hne : B ≠ w.heap.size := Nat.ne_of_lt hB
  go_enter Tryz.func241, Tryz.ntmps241
  go_wp2_with fail
  go_ret
  exact ⟨rfl, (Below.refl _ _).alloc (Nat.le_refl _) _⟩

set_option maxHeartbeats 1000000 in
theorem idxFunc_any {w : World} {v : Value} {ps : List PaceV} (who : Int) (B : Nat) (h : IsPaces w v ps) (hc : w.cell? ⟨B, 0, none⟩ = some (.int .i64 who)) (hB : B < w.heap.size) :
    Calls Tryz.prog 240 #[v, .func (Fn.func 241) #[] #[.pointer (some ⟨B, 0, none⟩)]] w fun e w' => e = .returned (.int .i64 (findV ps who)) ∧ Below w.heap.size w w' := by
  obtain ⟨a, cap, rfl, hcc, hm, hr⟩ := h
  have Hr := hide hr
  have Hc := hide hc
  clear hr hc
  go_enter Tryz.func240, Tryz.ntmps240
  go_wp2_with fail
  go_loopw [5, 8] (fun _ i wr => ∃ k : Nat, k ≤ ps.length ∧ i = .int .i64 k ∧ Hid (∀ j, j < k → (paceAt ps j).2 ≠ who) ∧ Below w.heap.size w wr) (fun _ i _ => ps.length - (intOf i).toNat)
  case atStart => exact ⟨0, Nat.zero_le _, rfl, hide (fun j hj => by omega), Below.refl _ _⟩
  case round =>
    obtain ⟨k, hk, rfl, hno, hb⟩ := hrel
    have Hb := hide hb
    by_cases hlt : k < ps.length
    · rcases unhide Hr with h0 | ⟨b, off, rfl, hbw, hcl⟩
      · rw [h0] at hlt; simp at hlt
      obtain ⟨c0, c1⟩ := hcl k hlt
      rw [← hb.cell (p := ⟨b, off + k * 2, none⟩) hbw] at c0
      rw [← hb.cell (p := ⟨b, off + k * 2 + 1, none⟩) hbw] at c1
      generalize hz : paceAt ps k = p at *
      obtain ⟨f, z⟩ := p
      simp only at c0 c1
      have hcb := (hb.cell (p := ⟨B, 0, none⟩) hB).trans (unhide Hc)
      have hBr : B < wr.heap.size := Nat.lt_of_lt_of_le hB hb.size
      have Hz := hide hz
      have Hcb := hide hcb
      clear hz hcl hb hcb
      by_cases hx : z = who
      · subst hx
        go_wp2_with fail
        refine (isWho_any _ _ _ _ _ (unhide Hcb) hBr).mono ?_
        rintro e w1 ⟨rfl, hb1⟩
        have Hb1 := hide hb1
        clear hb1
        go_wp2_with fail
        go_ret
        exact ⟨ret_int (findV_some hlt (by rw [unhide Hz]) (unhide hno)).symm, (unhide Hb).trans ((unhide Hb1).mono (unhide Hb).size)⟩
      · have hx' : (z == who) = false := by simpa using hx
        have Hx := hide hx
        clear hx
        go_wp2_with fail
        refine (isWho_any _ _ _ _ _ (unhide Hcb) hBr).mono ?_
        rw [hx']
        rintro e w1 ⟨rfl, hb1⟩
        have Hb1 := hide hb1
        clear hb1
        go_wp2_with fail
        go_roundw
        case rel => exact ⟨k + 1, by omega, by go_num, hide (next_all (unhide hno) (by rw [unhide Hz]; exact unhide Hx)), (unhide Hb).trans ((unhide Hb1).mono (unhide Hb).size)⟩
        case measure => simp [intOf]; omega
    · obtain rfl : k = ps.length := by omega
      go_wp2_with fail
      go_ret
      exact ⟨ret_int (findV_none (unhide hno)).symm, hb⟩

theorem placeOf_any {w : World} {v : Value} {ps : List PaceV} (who : Int) (h : IsPaces w v ps) :
    Calls Tryz.prog 222 #[v, .int .i64 who] w fun e w' => e = .returned (.int .i64 (findV ps who)) ∧ Below w.heap.size w w' := by
  have Hv := hide h
  obtain ⟨a, cap, rfl, hcc, hm, hr⟩ := h
  clear hr
  go_enter Tryz.func222, Tryz.ntmps222
  go_wp2_with fail
  refine (idxFunc_any who w.heap.size ((unhide Hv).below ((Below.refl _ _).alloc (Nat.le_refl _) _)) (by simp) (by simp)).mono ?_
  rintro e w1 ⟨rfl, hb⟩
  have Hb := hide hb
  clear hb
  go_wp2_with fail
  go_ret
  exact ⟨rfl, ((Below.refl _ _).alloc (Nat.le_refl _) _).trans ((unhide Hb).mono (by simp))⟩

end Go.Proofs.YtifolooecfebfaaGreat

/- The program's heap of entries in memory: what it is, and contracts of its methods Len, Less, Swap. Conditions: those that each theorem names. -/
namespace Go.Proofs.YtifolooecfebfaaGreat
open Go.ChangeShapes Go.WideShapes Go.ChangeAt Go.RowKit Go.Sort
set_option linter.unusedVariables false

/-- Only the box bx, the row r and new blocks may differ. -/
structure Fr (bx : Nat) (r : Option Nat) (w w' : World) : Prop where
  os : w'.os = w.os
  tape : w'.tape = w.tape
  output : w'.output = w.output
  size : w.heap.size ≤ w'.heap.size
  block : ∀ k, k < w.heap.size → k ≠ bx → r ≠ some k → w'.heap[k]? = w.heap[k]?
theorem Fr.refl (bx : Nat) (r : Option Nat) (w : World) : Fr bx r w w := ⟨rfl, rfl, rfl, Nat.le_refl _, fun _ _ _ _ => rfl⟩
theorem Fr.trans {bx : Nat} {r : Option Nat} {a b c : World} (h : Fr bx r a b) (k : Fr bx r b c) : Fr bx r a c :=
  ⟨k.os.trans h.os, k.tape.trans h.tape, k.output.trans h.output, Nat.le_trans h.size k.size, fun i hi hn hr => (k.block i (Nat.lt_of_lt_of_le hi h.size) hn hr).trans (h.block i hi hn hr)⟩
theorem Fr.of_below {bx : Nat} {r : Option Nat} {w w' : World} (h : Below w.heap.size w w') : Fr bx r w w' := ⟨h.os, h.tape, h.output, h.size, fun k hk _ _ => h.block k hk⟩
theorem Fr.of_grown {bx : Nat} {r : Option Nat} {w w' : World} (h : w.grownBy w' r) : Fr bx r w w' := ⟨h.os, h.tape, h.output, h.size, fun k hk _ hr => h.block k hk (fun e => hr e.symm)⟩
theorem Fr.box {bx : Nat} {r : Option Nat} (w : World) (v : Value) : Fr bx r w (w.setCell ⟨bx, 0, none⟩ v) := ⟨rfl, rfl, rfl, by simp, fun k hk hn _ => Below.heap_setCell w ⟨bx, 0, none⟩ v k hn⟩
theorem Fr.below {bx B : Nat} {r : Option Nat} {w w' : World} (h : Fr bx r w w') (hx : B ≤ bx) (hr : ∀ k, r = some k → B ≤ k) (hs : B ≤ w.heap.size) : Below B w w' :=
  ⟨h.os, h.tape, h.output, h.size, fun k hk => h.block k (by omega) (by omega) (fun e => by have := hr k e; omega)⟩
/-- Another row stays. -/
theorem EntsAt.fr {n₀ bx : Nat} {r : Option Nat} {w w' : World} {v : Value} {ps : List PaceV} (h : EntsAt n₀ w v ps) (hf : Fr bx r w w') (h1 : v.ownBlock ≠ some bx) (h2 : ∀ k, v.ownBlock = some k → r ≠ some k) : EntsAt n₀ w' v ps :=
  h.same fun k hk => hf.block k (h.lt hk).2 (fun e => h1 (by rw [hk, e])) (h2 k hk)

/-- The box bx holds the slice v, whose row, in a block from n₀ on, holds the entries ps. -/
structure HeapIs (n₀ bx : Nat) (v : Value) (w : World) (ps : List PaceV) : Prop where
  cell : w.cell? ⟨bx, 0, none⟩ = some v
  free : w.frozen? ⟨bx, 0, none⟩ = false
  lt : bx < w.heap.size
  row : EntsAt n₀ w v ps
  off : v.ownBlock ≠ some bx
theorem HeapIs.later {n₀ bx : Nat} {v : Value} {w w' : World} {ps : List PaceV} (h : HeapIs n₀ bx v w ps) (hb : Below w.heap.size w w') : HeapIs n₀ bx v w' ps :=
  ⟨(hb.cell (p := ⟨bx, 0, none⟩) h.lt).trans h.cell, (hb.frozen (p := ⟨bx, 0, none⟩) h.lt).trans h.free, Nat.lt_of_lt_of_le h.lt hb.size, h.row.later hb, h.off⟩
/-- What a walk reads of it where it is not empty. -/
theorem HeapIs.view {n₀ bx : Nat} {v : Value} {w : World} {ps : List PaceV} (h : HeapIs n₀ bx v w ps) (hl : 0 < ps.length) : ∃ g cap, v = .slice (some ⟨g, 0, none⟩) ps.length cap ∧ g ≠ bx ∧ g < w.heap.size ∧ n₀ ≤ g ∧ ps.length ≤ cap ∧ cap ≤ 9223372036854775807 ∧
    (∀ k, k < ps.length → w.cell? ⟨g, k * 2, none⟩ = some (.int .i64 (paceAt ps k).1) ∧ w.cell? ⟨g, k * 2 + 1, none⟩ = some (.int .i64 (paceAt ps k).2)) ∧ (∀ k, w.frozen? ⟨g, k, none⟩ = false) := by
  have hr := h.row
  rcases h.row.2 with ⟨hv, hz⟩ | ⟨g, cap, cur, rfl, hb, hg, hnc, hcm, r⟩
  · omega
  · obtain ⟨a, cap', he, _, _, hrr⟩ := hr.paces
    cases he
    refine ⟨g, cap, rfl, fun e => h.off (by rw [e]; rfl), (Array.getElem?_eq_some_iff.1 hg).1, hb, hnc, by unfold maxLen at hcm; omega, ?_, fun k => World.ownsRow.frozenAt hr k⟩
    rcases hrr with h0 | ⟨b, off, he, _, hcl⟩
    · rw [h0] at hl; simp at hl
    · cases he
      intro k hk
      have := hcl k hk
      simpa using this

theorem len_any {n₀ bx : Nat} {v : Value} {w : World} {ps : List PaceV} (h : HeapIs n₀ bx v w ps) : Calls Tryz.prog 237 #[.pointer (some ⟨bx, 0, none⟩)] w fun e w' => e = .returned (.int .i64 ps.length) ∧ w' = w := by
  have hc := h.cell
  obtain ⟨a, cap, rfl⟩ := h.row.shape
  go_enter Tryz.func237, Tryz.ntmps237
  go_wp2_with fail
  go_ret
  exact ⟨rfl, rfl⟩

set_option maxHeartbeats 1000000 in
theorem less_any {n₀ bx : Nat} {v : Value} {w : World} {ps : List PaceV} (h : HeapIs n₀ bx v w ps) {i j : Nat} (hi : i < ps.length) (hj : j < ps.length) :
    Calls Tryz.prog 324 #[.pointer (some ⟨bx, 0, none⟩), .int .i64 i, .int .i64 j] w fun e w' => e = .returned (.bool (ltB (paceAt ps i) (paceAt ps j))) ∧ Below w.heap.size w w' := by
  obtain ⟨g, cap, rfl, hne, hlt, _, hnc, hcm, hcl, _⟩ := h.view (by omega)
  have hc := h.cell
  obtain ⟨a0, a1⟩ := hcl i hi
  obtain ⟨b0, b1⟩ := hcl j hj
  generalize paceAt ps i = p at *
  generalize paceAt ps j = q at *
  obtain ⟨f, z⟩ := p
  obtain ⟨f', z'⟩ := q
  simp only at a0 a1 b0 b1
  have hi0 : (0 : Int) ≤ (i : Int) := by omega
  have hj0 : (0 : Int) ≤ (j : Int) := by omega
  have hi1 : (i : Int) < (ps.length : Int) := by omega
  have hj1 : (j : Int) < (ps.length : Int) := by omega
  have k0 := cell_regrown a0
  have k1 := cell_regrown a1
  have k2 := cell_regrown b0
  have k3 := cell_regrown b1
  have k4 := cell_regrown hc
  clear hcl h hc a0 a1 b0 b1
  go_enter Tryz.func324, Tryz.ntmps324
  go_wp2_with fail
  refine wp_region_quiet_below (by kernel_rfl) (by kernel_rfl) ?_
  repeat (go_big_quiet_step (exact Calls.regrown_of (implLess_any _ _ _ _ _)))
  refine wpQuiet_nil ?_
  intro _ hw'
  obtain ⟨⟨dq, osq⟩, hw''⟩ := hw'
  subst hw''
  go_wp2_with fail
  go_ret
  exact ⟨rfl, below_regrown _ _ _⟩

end Go.Proofs.YtifolooecfebfaaGreat

/- A contract of the heap's Swap. Conditions: those that the theorem names. -/
namespace Go.Proofs.YtifolooecfebfaaGreat
open Go.ChangeShapes Go.WideShapes Go.ChangeAt Go.RowKit Go.Sort
set_option linter.unusedVariables false

theorem set_some {w : World} {a p : Addr} {u v : Value} (h : w.cell? p = some v) : ∃ c, (w.setCell a u).cell? p = some c := by
  by_cases e : p = a
  · subst e; exact ⟨_, World.cell?_setCell_same _ _ _ h⟩
  · exact ⟨v, by rw [World.cell?_setCell_other _ _ _ _ (fun e2 => e e2.symm)]; exact h⟩

theorem HeapIs.swapped {n₀ bx g cap n : Nat} {w : World} {ps : List PaceV} (h : HeapIs n₀ bx (.slice (some ⟨g, 0, none⟩) n cap) w ps) (hn : n = ps.length) (hne : g ≠ bx) {i j : Nat} (hi : i < ps.length) (hj : j < ps.length) (f z f' z' : Int) (W : World) (hW : W = ((((w.setCell ⟨g, i * 2, none⟩ (.int .i64 f')).setCell ⟨g, i * 2 + 1, none⟩ (.int .i64 z')).setCell ⟨g, j * 2, none⟩ (.int .i64 f)).setCell ⟨g, j * 2 + 1, none⟩ (.int .i64 z))) :
    HeapIs n₀ bx (.slice (some ⟨g, 0, none⟩) n cap) W ((ps.set i (f', z')).set j (f, z)) ∧ Fr bx (some g) w W := by
  subst hn
  have r1 := own_pair h.row (i * 2) (.int .i64 f') (.int .i64 z')
  rw [pput _ _ _ _ hi] at r1
  have r2 := own_pair r1.1 (j * 2) (.int .i64 f) (.int .i64 z)
  rw [pput _ _ _ _ (by simpa using hj), ← hW] at r2
  have hg := grown_trans r1.2 r2.2
  clear r1 hW
  have hlt := h.lt
  have hb := hg.block bx hlt (by simpa using Ne.symm hne)
  refine ⟨⟨?_, ?_, Nat.lt_of_lt_of_le hlt hg.size, ?_, h.off⟩, Fr.of_grown hg⟩
  · exact (World.cell?_of_block (w := w) (a := ⟨bx, 0, none⟩) hb).trans h.cell
  · exact (World.frozen?_of_block (w := w) (a := ⟨bx, 0, none⟩) hb).trans h.free
  · unfold EntsAt
    rw [List.length_set, List.length_set]
    exact r2.1

set_option maxRecDepth 100000 in
set_option maxHeartbeats 4000000 in
theorem swap_any {n₀ bx : Nat} {v : Value} {w : World} {ps : List PaceV} (h : HeapIs n₀ bx v w ps) {i j : Nat} (hi : i < ps.length) (hj : j < ps.length) :
    Calls Tryz.prog 327 #[.pointer (some ⟨bx, 0, none⟩), .int .i64 i, .int .i64 j] w fun e w' => e = .returned (.tuple #[]) ∧ HeapIs n₀ bx v w' (swp ps i j) ∧ Fr bx v.ownBlock w w' := by
  have H := hide h
  obtain ⟨g, cap, rfl, hne, hlt, hn0, hnc, hcm, hcl, hfz⟩ := h.view (by omega)
  have hc := h.cell
  obtain ⟨a0, a1⟩ := hcl i hi
  obtain ⟨b0, b1⟩ := hcl j hj
  have z0 := hfz (i * 2)
  have z1 := hfz (i * 2 + 1)
  have z2 := hfz (j * 2)
  have z3 := hfz (j * 2 + 1)
  have HX : Hid (swp ps i j = (ps.set i (paceAt ps j)).set j (paceAt ps i)) := hide rfl
  generalize paceAt ps i = p at *
  generalize paceAt ps j = q at *
  obtain ⟨f, z⟩ := p
  obtain ⟨f', z'⟩ := q
  simp only at a0 a1 b0 b1
  have hi0 : (0 : Int) ≤ (i : Int) := by omega
  have hj0 : (0 : Int) ≤ (j : Int) := by omega
  have hi1 : (i : Int) < (ps.length : Int) := by omega
  have hj1 : (j : Int) < (ps.length : Int) := by omega
  obtain ⟨c1, y1⟩ : ∃ c, (w.setCell ⟨g, i * 2, none⟩ (.int .i64 f')).cell? ⟨g, j * 2, none⟩ = some c := set_some b0
  obtain ⟨c2, y2⟩ : ∃ c, ((w.setCell ⟨g, i * 2, none⟩ (.int .i64 f')).setCell ⟨g, i * 2 + 1, none⟩ (.int .i64 z')).cell? ⟨g, j * 2 + 1, none⟩ = some c := by
    obtain ⟨c, hc9⟩ := set_some (a := ⟨g, i * 2, none⟩) (u := .int .i64 f') b1
    exact set_some hc9
  obtain ⟨c3, y3⟩ : ∃ c, ((w.setCell ⟨g, i * 2, none⟩ (.int .i64 f')).setCell ⟨g, i * 2 + 1, none⟩ (.int .i64 z')).cell? ⟨g, j * 2, none⟩ = some c := by
    obtain ⟨c, hc9⟩ := set_some (a := ⟨g, i * 2, none⟩) (u := .int .i64 f') b0
    exact set_some hc9
  clear hcl h hfz
  go_enter Tryz.func327, Tryz.ntmps327
  go_wp2_with fail
  go_region
  go_end0
  generalize hW : ((((w.setCell ⟨g, i * 2, none⟩ (.int .i64 f')).setCell ⟨g, i * 2 + 1, none⟩ (.int .i64 z')).setCell ⟨g, j * 2, none⟩ (.int .i64 f)).setCell ⟨g, j * 2 + 1, none⟩ (.int .i64 z)) = W
  obtain ⟨h1, h2⟩ := (unhide H).swapped rfl hne hi hj f z f' z' W hW.symm
  exact ⟨rfl, by rw [unhide HX]; exact h1.later ((Below.refl _ _).drew), h2.trans (Fr.of_below ((Below.refl _ _).drew))⟩

end Go.Proofs.YtifolooecfebfaaGreat

/- Contracts of the heap's methods Pop and Push. Conditions: those that each theorem names. -/
namespace Go.Proofs.YtifolooecfebfaaGreat
open Go.ChangeShapes Go.WideShapes Go.ChangeAt Go.RowKit Go.Sort
set_option linter.unusedVariables false

theorem setBox {n₀ bx : Nat} {v v' : Value} {w W : World} {ps qs : List PaceV} (h : HeapIs n₀ bx v w ps) (hb : Fr bx v.ownBlock w W) (hc : W.cell? ⟨bx, 0, none⟩ = some v) (hf : W.frozen? ⟨bx, 0, none⟩ = false) (hr : EntsAt n₀ W v' qs) (ho : v'.ownBlock ≠ some bx) :
    HeapIs n₀ bx v' (W.setCell ⟨bx, 0, none⟩ v') qs ∧ Fr bx v.ownBlock w (W.setCell ⟨bx, 0, none⟩ v') := by
  refine ⟨⟨World.cell?_setCell_same _ _ _ hc, by rw [World.frozen?_setCell]; exact hf, by simpa using Nat.lt_of_lt_of_le h.lt hb.size, hr.same fun k hk => Below.heap_setCell W ⟨bx, 0, none⟩ v' k (fun e => ho (by rw [hk]; exact congrArg some e)), ho⟩, hb.trans (Fr.box W v')⟩

set_option maxRecDepth 100000 in
set_option maxHeartbeats 2000000 in
theorem popM_any {n₀ bx : Nat} {v : Value} {w : World} {ps : List PaceV} {m : Nat} (h : HeapIs n₀ bx v w ps) (hm : ps.length = m + 1) :
    Calls Tryz.prog 325 #[.pointer (some ⟨bx, 0, none⟩)] w fun e w' => e = .returned (.iface 129 (.agg #[.int .i64 (paceAt ps m).1, .int .i64 (paceAt ps m).2])) ∧ ∃ v', HeapIs n₀ bx v' w' (ps.take m) ∧ v'.ownBlock = v.ownBlock ∧ Fr bx v.ownBlock w w' := by
  have H := hide h
  obtain ⟨g, cap, rfl, hne, hlt, hn0, hnc, hcm, hcl, hfz⟩ := h.view (by omega)
  have hc := h.cell
  have hbf := h.free
  have hbx := h.lt
  obtain ⟨a0, a1⟩ := hcl m (by omega)
  have HL := hide (len_any h)
  clear hcl h hfz
  rw [hm] at hnc hc
  generalize paceAt ps m = p at *
  obtain ⟨f, z⟩ := p
  simp only at a0 a1
  have hn1 : g ≠ w.heap.size := Nat.ne_of_lt hlt
  have hn2 : bx ≠ w.heap.size := Nat.ne_of_lt hbx
  go_enter Tryz.func325, Tryz.ntmps325
  go_wp2_with fail
  refine (unhide HL).mono ?_
  rw [hm]
  rintro e w' ⟨rfl, h1⟩
  subst w'
  go_wp2_with fail
  go_ret
  have hcut := (unhide H).row.cut (n := m) (by omega) (by simp)
  obtain ⟨r1, r2⟩ := setBox (unhide H) (Fr.refl _ _ _) (unhide H).cell (unhide H).free hcut (by simpa [Value.ownBlock] using hne)
  exact ⟨rfl, .slice (some ⟨g, 0, none⟩) m cap, r1.later ((Below.refl _ _).alloc (Nat.le_refl _) _), rfl, r2.trans (Fr.of_below ((Below.refl _ _).alloc (Nat.le_refl _) _))⟩

/-- One entry appended to a row of the call's own, at a step of a region that draws its order. -/
theorem step_append_ent {ops : Array Oper} {o : Oper} {a : Act} {w : World} {K : Act → World → Prop} {Q : Exit → Act → World → Prop} {E : Prop} (hgd : o.guard = none) (s x : Operand) (t : TypeId) (ht : Tryz.prog.underlying t = some (.slice 129))
    (ho : o.op = .call { callee := .builtin .append, args := #[s, x], argTypes := #[t, t] }) (base : Nat)
    (v : Value) (ps : List PaceV) (hs : a.eval s = v) (hown : EntsAt base w v ps)
    (ad : Addr) (c : Nat) (f z : Int) (hx : a.eval x = .slice (some ad) 1 c) (hnews : ∀ (j : Nat) (u : Value), ([.int .i64 f, .int .i64 z] : List Value)[j]? = some u → w.cell? (ad.add j) = some u)
    (hb : ps.length ≤ 4000) (hbase : base ≤ w.heap.size)
    (h : ∀ v' w', EntsAt base w' v' (ps ++ [(f, z)]) → w.grownBy w' v.ownBlock → (v'.ownBlock = v.ownBlock ∨ v'.ownBlock = some w.heap.size) → K (a.put o.dst v') w') :
    if Region.wanted o (yielded ops a.tmps) = true then Oper.wp Tryz.prog o a w K Q else E := by
  have hw : Region.wanted o (yielded ops a.tmps) = true := by simp [Region.wanted, hgd]
  rw [if_pos hw]
  obtain ⟨i0, hi, hz0, hz1, hz2⟩ := info_parts infoEntry
  obtain ⟨v', w', hr, h2, h3, _, h5⟩ := run_append_own_at (P := Tryz.prog) w base t o.type 129 i0 (.agg #[.int .i64 0, .int .i64 0]) 2 16 ht hi hz0 hz1 hz2 rfl (by decide) v ps.length _ hown ad 1 c [.int .i64 f, .int .i64 z] rfl
    hnews (by simp [Value.oneCell']) (by simp only [maxLen]; omega) (by omega) hbase
  unfold Oper.wp execOp
  simp only [ho, resolve, invoke, builtin, Sem.run_bind, Sem.run_pure, Result.andThen_ok, List.map_toArray, List.map_cons, List.map_nil, hs, hx, hr]
  refine h v' w' ?_ h3 h5
  unfold EntsAt
  rw [pcells_append, List.length_append]
  exact h2
theorem two_new (w : World) (u u' : Value) (t : TypeId) (b : Nat) (hb : b = w.heap.size) : ∀ (j : Nat) (x : Value), ([u, u'] : List Value)[j]? = some x → (w.alloc (.cells #[u, u'] t)).cell? ((⟨b, 0, none⟩ : Addr).add j) = some x := by
  subst hb
  intro j x hj
  match j, hj with
  | 0, hj => simp at hj; subst hj; simp [Addr.add]
  | 1, hj => simp at hj; subst hj; simp [Addr.add]

theorem assert_ent (f z : Int) (w : World) : (Instr.typeAssert (.iface 129 (.agg #[.int .i64 f, .int .i64 z])) 20 129 false).run Tryz.prog w = .ok (.agg #[.int .i64 f, .int .i64 z]) w := by kernel_rfl

theorem HeapIs.after {n₀ bx : Nat} {v : Value} {w W W1 : World} {ps : List PaceV} (h : HeapIs n₀ bx v w ps) (hb : Below w.heap.size w W) (hg : W.grownBy W1 v.ownBlock) :
    W1.cell? ⟨bx, 0, none⟩ = some v ∧ W1.frozen? ⟨bx, 0, none⟩ = false ∧ Fr bx v.ownBlock w W1 := by
  have hk := hg.block bx (Nat.lt_of_lt_of_le h.lt hb.size) (fun e => h.off e.symm)
  exact ⟨(World.cell?_of_block (w := W) (a := ⟨bx, 0, none⟩) hk).trans ((hb.cell (p := ⟨bx, 0, none⟩) h.lt).trans h.cell), (World.frozen?_of_block (w := W) (a := ⟨bx, 0, none⟩) hk).trans ((hb.frozen (p := ⟨bx, 0, none⟩) h.lt).trans h.free), (Fr.of_below hb).trans (Fr.of_grown hg)⟩

set_option maxRecDepth 100000 in
set_option maxHeartbeats 2000000 in
theorem pushM_any {n₀ bx : Nat} {v : Value} {w : World} {ps : List PaceV} (f z : Int) (h : HeapIs n₀ bx v w ps) (hl : ps.length ≤ 1000) (hn : n₀ ≤ w.heap.size) :
    Calls Tryz.prog 326 #[.pointer (some ⟨bx, 0, none⟩), .iface 129 (.agg #[.int .i64 f, .int .i64 z])] w fun e w' => e = .returned (.tuple #[]) ∧ ∃ v', HeapIs n₀ bx v' w' (ps ++ [(f, z)]) ∧ (v'.ownBlock = v.ownBlock ∨ ∃ k, v'.ownBlock = some k ∧ w.heap.size ≤ k) ∧ Fr bx v.ownBlock w w' := by
  have H := hide h
  obtain ⟨a, cap, rfl⟩ := h.row.shape
  have hc := h.cell
  have hbf := h.free
  have hbx := h.lt
  clear h
  have hn2 : bx ≠ w.heap.size := Nat.ne_of_lt hbx
  have hta := assert_ent f z
  go_enter Tryz.func326, Tryz.ntmps326
  go_wp2_with fail
  go_region_law (refine step_append_ent rfl (.tmp 7) (.tmp 10) 226 Tryz.underlying226 rfl n₀ _ ps rfl ((unhide H).row.later (((Below.refl _ _).alloc (Nat.le_refl _) _).drew)) ⟨w.heap.size, 0, none⟩ _ f z rfl (two_new _ _ _ _ _ rfl) (by omega) (by simp; omega) ?_; intro v' w1 hown hgrow hat; obtain ⟨hc1, hf1, hfr⟩ := (unhide H).after (((Below.refl _ _).alloc (Nat.le_refl _) _).drew) hgrow; obtain ⟨a1, cap1, rfl⟩ := hown.shape)
  all_goals
    go_end0
    have hoff : (Value.slice a1 (ps ++ [(f, z)]).length cap1).ownBlock ≠ some bx := by
      rcases hat with e | e
      · rw [e]; exact (unhide H).off
      · rw [e]; simp; omega
    obtain ⟨r1, r2⟩ := setBox (unhide H) hfr hc1 hf1 hown hoff
    have hle : (ps ++ [(f, z)]).length = ps.length + 1 := by simp
    rw [hle] at r1 r2 hat
    refine ⟨rfl, _, r1, ?_, r2⟩
    rcases hat with e | e
    · exact .inl e
    · exact .inr ⟨_, e, by simp⟩

end Go.Proofs.YtifolooecfebfaaGreat

/- Contracts of container/heap's up and down at the program's heap. Conditions: those that each theorem names. -/
namespace Go.Proofs.YtifolooecfebfaaGreat
open Go.ChangeShapes Go.WideShapes Go.ChangeAt Go.RowKit Go.Sort
set_option linter.unusedVariables false

theorem m_len (a : Addr) (w : World) : (method 393 201 (.pointer (some a)) "Len").run Tryz.prog w = .ok (237, .pointer (some a)) w := by kernel_rfl
theorem m_less (a : Addr) (w : World) : (method 393 201 (.pointer (some a)) "Less").run Tryz.prog w = .ok (324, .pointer (some a)) w := by kernel_rfl
theorem m_swap (a : Addr) (w : World) : (method 393 201 (.pointer (some a)) "Swap").run Tryz.prog w = .ok (327, .pointer (some a)) w := by kernel_rfl
theorem m_push (a : Addr) (w : World) : (method 393 201 (.pointer (some a)) "Push").run Tryz.prog w = .ok (326, .pointer (some a)) w := by kernel_rfl
theorem m_pop (a : Addr) (w : World) : (method 393 201 (.pointer (some a)) "Pop").run Tryz.prog w = .ok (325, .pointer (some a)) w := by kernel_rfl

set_option maxRecDepth 100000 in
set_option maxHeartbeats 2000000 in
theorem up_any {n₀ bx : Nat} {v : Value} {w : World} {ps : List PaceV} {n j0 : Nat} (h : HeapIs n₀ bx v w ps) (hu : UpTo ps n j0) (hj0 : j0 < n) (hn : n ≤ ps.length) (hl : ps.length ≤ 1000) :
    Calls Tryz.prog 236 #[.iface 201 (.pointer (some ⟨bx, 0, none⟩)), .int .i64 j0] w fun e w' => e = .returned (.tuple #[]) ∧ ∃ qs, HeapIs n₀ bx v w' qs ∧ HeapTo qs n ∧ qs.Perm ps ∧ (∀ k, n ≤ k → paceAt qs k = paceAt ps k) ∧ Fr bx v.ownBlock w w' := by
  have H := hide h
  have HU := hide hu
  clear h hu
  go_enter Tryz.func236, Tryz.ntmps236
  go_wp2_with fail
  go_loopw [1, 4] (fun q _ wr => ∃ (j : Nat) (qs : List PaceV), j < n ∧ q = .int .i64 j ∧ HeapIs n₀ bx v wr qs ∧ UpTo qs n j ∧ qs.Perm ps ∧ (∀ k, n ≤ k → paceAt qs k = paceAt ps k) ∧ Fr bx v.ownBlock w wr) (fun q _ _ => (intOf q).toNat)
  case atStart => exact ⟨j0, ps, hj0, rfl, unhide H, unhide HU, List.Perm.refl _, fun _ _ => rfl, Fr.refl _ _ _⟩
  case round =>
    obtain ⟨j, qs, hj, rfl, hh, hup, hperm, hsame, hfr⟩ := hrel
    have hql : qs.length = ps.length := hperm.length_eq
    have Hh := hide hh
    have Hup := hide hup
    have Hpe := hide hperm
    have Hsa := hide hsame
    have Hfr := hide hfr
    clear hh hup hperm hsame hfr
    by_cases hz : j = 0
    · subst hz
      go_wp2_with fail
      go_end0
      exact ⟨rfl, qs, unhide Hh, (unhide Hup).done (.inl rfl), unhide Hpe, unhide Hsa, unhide Hfr⟩
    · obtain ⟨i, hi⟩ : ∃ i, i = (j - 1) / 2 := ⟨_, rfl⟩
      have hj1 : (0 : Int) ≤ (j : Int) - 1 := by omega
      have hpar : ((j : Int) - 1) / 2 = (i : Int) := by omega
      have hij : ((i : Int) == (j : Int)) = false := beq_eq_false_iff_ne.2 (by omega)
      have hm1 := m_less ⟨bx, 0, none⟩
      have hm2 := m_swap ⟨bx, 0, none⟩
      have hjl : j < qs.length := by omega
      have hil : i < qs.length := by omega
      have Hless := hide (less_any (unhide Hh) hjl hil)
      have Hi := hide hi
      clear hi
      cases hlt : ltB (paceAt qs j) (paceAt qs i)
      · go_wp2_with fail
        refine (unhide Hless).mono ?_
        rw [hlt]
        rintro e w1 ⟨rfl, hb1⟩
        have H1 := hide ((unhide Hh).later hb1)
        have F1 := hide ((unhide Hfr).trans (Fr.of_below hb1))
        clear hb1
        go_wp2_with fail
        go_end0
        exact ⟨rfl, qs, unhide H1, (unhide Hup).done (.inr (by rw [← unhide Hi]; exact hlt)), unhide Hpe, unhide Hsa, unhide F1⟩
      · go_wp2_with fail
        refine (unhide Hless).mono ?_
        rw [hlt]
        rintro e w1 ⟨rfl, hb1⟩
        have H1 := hide ((unhide Hh).later hb1)
        have F1 := hide ((unhide Hfr).trans (Fr.of_below hb1))
        clear hb1
        go_wp2_with fail
        refine (swap_any (unhide H1) hil hjl).mono ?_
        rintro e w2 ⟨rfl, hh2, hf2⟩
        have H2 := hide hh2
        have F2 := hide ((unhide F1).trans hf2)
        clear hh2 hf2
        have HS : Hid (UpTo (swp qs i j) n i) := hide (by rw [unhide Hi]; exact (unhide Hup).step (by omega) hj (by omega) (by rw [← unhide Hi]; exact hlt))
        have HA : Hid (∀ k, n ≤ k → paceAt (swp qs i j) k = paceAt ps k) := hide (fun k hk => by rw [swp_at hil hjl, if_neg (by omega), if_neg (by omega)]; exact unhide Hsa k hk)
        go_wp2_with fail
        go_roundw
        case rel => exact ⟨i, swp qs i j, by omega, rfl, unhide H2, unhide HS, (swp_perm hil hjl).trans (unhide Hpe), unhide HA, unhide F2⟩
        case measure => simp [intOf]; omega

end Go.Proofs.YtifolooecfebfaaGreat

/- Contracts of QueueOk and FirstIn, the program's and the model's: each returns what the lists say and writes into no memory that was there. Condition: the slices can be read. -/
namespace Go.Proofs.YtifolooecfebfaaGreat
open Go.ChangeShapes Go.WideShapes Go.ChangeAt Go.RowKit Go.Sort
set_option linter.unusedVariables false

theorem stepQ_e {ps : List PaceV} {k : Nat} {p : PaceV} (hp : paceAt ps k = p) (h : entB p = false) : stepQ ps k = false := by unfold stepQ; rw [hp]; simp [h]
theorem stepQ_l {ps : List PaceV} {k : Nat} {p q : PaceV} (hz : 0 < k) (hp : paceAt ps k = p) (hq : paceAt ps (k - 1) = q) (h : ltB q p = false) : stepQ ps k = false := by unfold stepQ; rw [hp, hq]; simp [h]; omega
theorem stepQ_w {ps : List PaceV} {k : Nat} {f z : Int} (hp : paceAt ps k = (f, z)) (h : 0 ≤ findV (ps.take k) z) : stepQ ps k = false := by unfold stepQ; rw [hp]; simp; intros; exact h
theorem stepQ_y {ps : List PaceV} {k : Nat} {f z : Int} {q : PaceV} (hz : 0 < k) (hp : paceAt ps k = (f, z)) (hq : paceAt ps (k - 1) = q) (h1 : entB (f, z) = true) (h2 : ltB q (f, z) = true) (h : findV (ps.take k) z < 0) : stepQ ps k = true := by unfold stepQ; rw [hp, hq]; simp [h1, h2, h]
theorem stepQ_0 {ps : List PaceV} {p : PaceV} (hp : paceAt ps 0 = p) (h : entB p = true) : stepQ ps 0 = true := by unfold stepQ; rw [hp]; simp [h, findV]

theorem placeOf_q {w : World} {v : Value} {ps : List PaceV} {who F : Int} (hF : findV ps who = F) (h : IsPaces w v ps) :
    Calls Tryz.prog 222 #[v, .int .i64 who] w fun e w' => e = .returned (.int .i64 F) ∧ Below w.heap.size w w' := by
  subst hF
  exact placeOf_any who h

set_option maxHeartbeats 4000000 in
theorem implQueueOk_any {w : World} {v : Value} {ps : List PaceV} (h : IsPaces w v ps) :
    Calls Tryz.prog 187 #[v] w fun e w' => e = .returned (.bool (queueB ps)) ∧ Below w.heap.size w w' := by
  have Hr2 := hide h
  obtain ⟨a, cap, rfl, hc, hm, hr⟩ := h
  have Hr := hide hr
  clear hr
  by_cases hbig : 100 < ps.length
  · go_enter Tryz.func187, Tryz.ntmps187
    go_wp2_with fail
    go_ret
    exact ⟨ret_bool (queueB_big hbig).symm, Below.refl _ _⟩
  go_enter Tryz.func187, Tryz.ntmps187
  go_wp2_with fail
  go_loopw [10] (fun i wr => ∃ k : Nat, k ≤ ps.length ∧ i = .int .i64 k ∧ (∀ j, j < k → stepQ ps j = true) ∧ Below w.heap.size w wr) (fun i _ => ps.length - (intOf i).toNat)
  case atStart => exact ⟨0, Nat.zero_le _, rfl, fun j hj => by omega, Below.refl _ _⟩
  case round =>
    obtain ⟨k, hk, rfl, hst, hb⟩ := hrel
    have Hst := hide hst
    have Hb := hide hb
    clear hst
    by_cases hlt : k < ps.length
    · rcases unhide Hr with h0 | ⟨b, off, rfl, hbw, hcl⟩
      · rw [h0] at hlt; simp at hlt
      have hbr : b < wr.heap.size := Nat.lt_of_lt_of_le hbw hb.size
      have hne : b ≠ wr.heap.size := Nat.ne_of_lt hbr
      obtain ⟨c0, c1⟩ := hcl k hlt
      rw [← hb.cell (p := ⟨b, off + k * 2, none⟩) hbw] at c0
      rw [← hb.cell (p := ⟨b, off + k * 2 + 1, none⟩) hbw] at c1
      generalize hp : paceAt ps k = p at c0 c1
      have Hp := hide hp
      clear hp
      obtain ⟨f, z⟩ := p
      simp only at c0 c1
      have Hip := hide ((((unhide Hr2).below hb).cut (n := k) (by omega)).below ((Below.refl _ _).alloc (Nat.le_refl _) (.cells #[.int .i64 f, .int .i64 z] 129)))
      have d0 : (wr.alloc (.cells #[.int .i64 f, .int .i64 z] 129)).cell? ⟨wr.heap.size, 0, none⟩ = some (.int .i64 f) := by simp
      have d1 : (wr.alloc (.cells #[.int .i64 f, .int .i64 z] 129)).cell? ⟨wr.heap.size, 1, none⟩ = some (.int .i64 z) := by simp
      have k0 := cell_regrown d0
      have k1 := cell_regrown d1
      clear d0 d1
      obtain ⟨F, hF⟩ : ∃ F, findV (ps.take k) z = F := ⟨_, rfl⟩
      have hFb := findV_bd (ps.take k) z
      rw [hF] at hFb
      have HF := hide hF
      clear hF
      cases hpb : entB (f, z)
      · clear hcl
        go_wp2_with fail
        refine wp_region_quiet_below (by kernel_rfl) (by kernel_rfl) ?_
        repeat (go_big_quiet_step (first | exact Calls.regrown_of (isEntry_any _ _ _) | exact Calls.regrown_of (implLess_any _ _ _ _ _) | exact Calls.regrown_of (placeOf_q (unhide HF) ((unhide Hip).below (below_regrown _ _ _)))))
        refine wpQuiet_nil ?_
        intro _ hw'
        obtain ⟨⟨dq, osq⟩, hw''⟩ := hw'
        subst hw''
        go_wp2_with fail
        go_ret
        exact ⟨ret_bool (queueB_f hlt (stepQ_e (unhide Hp) hpb)).symm, (unhide Hb).trans (((Below.refl _ _).alloc (unhide Hb).size _).trans ((below_regrown _ _ _).mono (by simp; have := (unhide Hb).size; omega)))⟩
      · by_cases hz : 0 < k
        · have hd : decide (0 < k) = true := decide_eq_true hz
          obtain ⟨e0, e1⟩ := hcl (k - 1) (by omega)
          rw [← hb.cell (p := ⟨b, off + (k - 1) * 2, none⟩) hbw] at e0
          rw [← hb.cell (p := ⟨b, off + (k - 1) * 2 + 1, none⟩) hbw] at e1
          generalize hq : paceAt ps (k - 1) = q at e0 e1
          have Hq := hide hq
          clear hq
          obtain ⟨f', z'⟩ := q
          simp only at e0 e1
          have m0 := cell_regrown (w := wr.alloc (.cells #[.int .i64 f, .int .i64 z] 129)) (a := ⟨b, off + (k - 1) * 2, none⟩) (v := .int .i64 f') (by rw [World.cell?_alloc_old _ _ _ hne]; exact e0)
          have m1 := cell_regrown (w := wr.alloc (.cells #[.int .i64 f, .int .i64 z] 129)) (a := ⟨b, off + (k - 1) * 2 + 1, none⟩) (v := .int .i64 z') (by rw [World.cell?_alloc_old _ _ _ hne]; exact e1)
          clear hcl e0 e1
          cases hab : ltB (f', z') (f, z)
          · go_wp2_with fail
            refine wp_region_quiet_below (by kernel_rfl) (by kernel_rfl) ?_
            repeat (go_big_quiet_step (first | exact Calls.regrown_of (isEntry_any _ _ _) | exact Calls.regrown_of (implLess_any _ _ _ _ _) | exact Calls.regrown_of (placeOf_q (unhide HF) ((unhide Hip).below (below_regrown _ _ _)))))
            refine wpQuiet_nil ?_
            intro _ hw'
            obtain ⟨⟨dq, osq⟩, hw''⟩ := hw'
            subst hw''
            go_wp2_with fail
            go_ret
            exact ⟨ret_bool (queueB_f hlt (stepQ_l hz (unhide Hp) (unhide Hq) hab)).symm, (unhide Hb).trans (((Below.refl _ _).alloc (unhide Hb).size _).trans ((below_regrown _ _ _).mono (by simp; have := (unhide Hb).size; omega)))⟩
          · by_cases hF0 : F = -1
            · subst hF0
              go_wp2_with fail
              refine wp_region_quiet_below (by kernel_rfl) (by kernel_rfl) ?_
              repeat (go_big_quiet_step (first | exact Calls.regrown_of (isEntry_any _ _ _) | exact Calls.regrown_of (implLess_any _ _ _ _ _) | exact Calls.regrown_of (placeOf_q (unhide HF) ((unhide Hip).below (below_regrown _ _ _)))))
              refine wpQuiet_nil ?_
              intro _ hw'
              obtain ⟨⟨dq, osq⟩, hw''⟩ := hw'
              subst hw''
              go_wp2_with fail
              go_roundw
              case rel => exact ⟨k + 1, by omega, by go_num, next_all (unhide Hst) (stepQ_y hz (unhide Hp) (unhide Hq) hpb hab (by rw [unhide HF]; omega)), (unhide Hb).trans (((Below.refl _ _).alloc (unhide Hb).size _).trans ((below_regrown _ _ _).mono (by simp; have := (unhide Hb).size; omega)))⟩
              case measure => simp [intOf]; omega
            · have hF1 : 0 ≤ F := by omega
              have hF2 : (F == -1) = false := by simpa using hF0
              have hF3 : (F != -1) = true := by simpa using hF0
              clear hF0
              go_wp2_with fail
              refine wp_region_quiet_below (by kernel_rfl) (by kernel_rfl) ?_
              repeat (go_big_quiet_step (first | exact Calls.regrown_of (isEntry_any _ _ _) | exact Calls.regrown_of (implLess_any _ _ _ _ _) | exact Calls.regrown_of (placeOf_q (unhide HF) ((unhide Hip).below (below_regrown _ _ _)))))
              refine wpQuiet_nil ?_
              intro _ hw'
              obtain ⟨⟨dq, osq⟩, hw''⟩ := hw'
              subst hw''
              go_wp2_with fail
              go_ret
              exact ⟨ret_bool (queueB_f hlt (stepQ_w (unhide Hp) (by rw [unhide HF]; exact hF1))).symm, (unhide Hb).trans (((Below.refl _ _).alloc (unhide Hb).size _).trans ((below_regrown _ _ _).mono (by simp; have := (unhide Hb).size; omega)))⟩
        · obtain rfl : k = 0 := by omega
          obtain rfl : F = -1 := by simp at hFb; omega
          simp only [Nat.zero_mul, Nat.add_zero] at c0 c1 k0 k1
          clear hcl hz
          go_wp2_with fail
          refine wp_region_quiet_below (by kernel_rfl) (by kernel_rfl) ?_
          repeat (go_big_quiet_step (first | exact Calls.regrown_of (isEntry_any _ _ _) | exact Calls.regrown_of (implLess_any _ _ _ _ _) | exact Calls.regrown_of (placeOf_q (unhide HF) ((unhide Hip).below (below_regrown _ _ _)))))
          refine wpQuiet_nil ?_
          intro _ hw'
          obtain ⟨⟨dq, osq⟩, hw''⟩ := hw'
          subst hw''
          go_wp2_with fail
          go_roundw
          case rel => exact ⟨1, by omega, by go_num, next_all (unhide Hst) (stepQ_0 (unhide Hp) hpb), (unhide Hb).trans (((Below.refl _ _).alloc (unhide Hb).size _).trans ((below_regrown _ _ _).mono (by simp; have := (unhide Hb).size; omega)))⟩
          case measure => simp [intOf]; omega
    · obtain rfl : k = ps.length := by omega
      go_wp2_with fail
      go_ret
      exact ⟨ret_bool (queueB_t (by omega) (unhide Hst)).symm, hb⟩

end Go.Proofs.YtifolooecfebfaaGreat

/- Contracts of FirstIn, the program's and the model's: each returns what the lists say and writes into no memory that was there. Condition: the slices can be read. -/
namespace Go.Proofs.YtifolooecfebfaaGreat
open Go.ChangeShapes Go.WideShapes Go.ChangeAt Go.RowKit Go.Sort
set_option linter.unusedVariables false

theorem firstV_no {ps : List PaceV} (h : (queueB ps && decide (0 < ps.length)) = false) : firstV ps = ((0, 0), false) := by unfold firstV; rw [h]; rfl
theorem firstV_yes {ps : List PaceV} (h : queueB ps = true) (hl : 0 < ps.length) : firstV ps = (paceAt ps 0, true) := by unfold firstV; rw [h, decide_eq_true hl]; rfl

set_option maxHeartbeats 1000000 in
theorem implFirstIn_any {w : World} {v : Value} {ps : List PaceV} (h : IsPaces w v ps) :
    Calls Tryz.prog 141 #[v] w fun e w' => e = .returned (.tuple #[.agg #[.int .i64 (firstV ps).1.1, .int .i64 (firstV ps).1.2], .bool (firstV ps).2]) ∧ Below w.heap.size w w' := by
  have Hv := hide h
  obtain ⟨a, cap, rfl, hc, hm, hr⟩ := h
  cases hq : queueB ps
  · rw [firstV_no (by rw [hq]; rfl)]
    clear hr
    go_enter Tryz.func141, Tryz.ntmps141
    go_wp2_with fail
    refine (implQueueOk_any ((unhide Hv).below ((Below.refl _ _).alloc (Nat.le_refl _) _))).mono ?_
    rw [hq]
    rintro e w1 ⟨rfl, hb⟩
    have Hb := hide hb
    have hsz := hb.size
    simp at hsz
    obtain ⟨k1, k2⟩ := bcell hb
    clear hb
    go_wp2_with fail
    exact bodyPost_ret (v := .tuple #[.agg #[.int .i64 0, .int .i64 0], .bool false]) (by simp [results, Tryz.results141, go_sem, k1]) rfl ⟨rfl, ((((Below.refl _ _).alloc (Nat.le_refl _) _).trans ((unhide Hb).mono (by simp))).setCell (by simp) _).setCell (by simp) _⟩
  · rcases hr with hr | ⟨b, off, rfl, hbw, hcl⟩
    · subst hr
      rw [firstV_no (by simp)]
      go_enter Tryz.func141, Tryz.ntmps141
      go_wp2_with fail
      refine (implQueueOk_any ((unhide Hv).below ((Below.refl _ _).alloc (Nat.le_refl _) _))).mono ?_
      rw [hq]
      rintro e w1 ⟨rfl, hb⟩
      have Hb := hide hb
      have hsz := hb.size
      simp at hsz
      obtain ⟨k1, k2⟩ := bcell hb
      clear hb
      go_wp2_with fail
      exact bodyPost_ret (v := .tuple #[.agg #[.int .i64 0, .int .i64 0], .bool false]) (by simp [results, Tryz.results141, go_sem, k1]) rfl ⟨rfl, ((((Below.refl _ _).alloc (Nat.le_refl _) _).trans ((unhide Hb).mono (by simp))).setCell (by simp) _).setCell (by simp) _⟩
    · by_cases hl : 0 < ps.length
      · rw [firstV_yes hq hl]
        obtain ⟨c0, c1⟩ := hcl 0 hl
        simp only [Nat.zero_mul, Nat.add_zero] at c0 c1
        generalize paceAt ps 0 = p at *
        obtain ⟨f, z⟩ := p
        simp only at c0 c1
        have hl2 : (ps.length == 0) = false := beq_eq_false_iff_ne.2 (by omega)
        have hl3 : ((ps.length : Int) == 0) = false := beq_eq_false_iff_ne.2 (by omega)
        have hne : b ≠ w.heap.size := Nat.ne_of_lt hbw
        clear hcl
        go_enter Tryz.func141, Tryz.ntmps141
        go_wp2_with fail
        refine (implQueueOk_any ((unhide Hv).below ((Below.refl _ _).alloc (Nat.le_refl _) _))).mono ?_
        rw [hq]
        rintro e w1 ⟨rfl, hb⟩
        have Hb := hide hb
        have hsz := hb.size
        simp at hsz
        have c0' := (hb.cell (p := ⟨b, off, none⟩) (by simp; omega)).trans ((World.cell?_alloc_old _ _ _ hne).trans c0)
        have c1' := (hb.cell (p := ⟨b, off + 1, none⟩) (by simp; omega)).trans ((World.cell?_alloc_old _ _ _ hne).trans c1)
        obtain ⟨k1, k2⟩ := bcell hb
        clear hb c0 c1
        go_wp2_with fail
        exact bodyPost_ret (v := .tuple #[.agg #[.int .i64 f, .int .i64 z], .bool true]) (by simp [results, Tryz.results141, go_sem, k1]) rfl ⟨rfl, ((((Below.refl _ _).alloc (Nat.le_refl _) _).trans ((unhide Hb).mono (by simp))).setCell (by simp) _).setCell (by simp) _⟩
      · obtain rfl : ps = [] := List.eq_nil_of_length_eq_zero (by omega)
        rw [firstV_no (by simp)]
        clear hcl
        go_enter Tryz.func141, Tryz.ntmps141
        go_wp2_with fail
        refine (implQueueOk_any ((unhide Hv).below ((Below.refl _ _).alloc (Nat.le_refl _) _))).mono ?_
        rw [hq]
        rintro e w1 ⟨rfl, hb⟩
        have Hb := hide hb
        have hsz := hb.size
        simp at hsz
        obtain ⟨k1, k2⟩ := bcell hb
        clear hb
        go_wp2_with fail
        exact bodyPost_ret (v := .tuple #[.agg #[.int .i64 0, .int .i64 0], .bool false]) (by simp [results, Tryz.results141, go_sem, k1]) rfl ⟨rfl, ((((Below.refl _ _).alloc (Nat.le_refl _) _).trans ((unhide Hb).mono (by simp))).setCell (by simp) _).setCell (by simp) _⟩

end Go.Proofs.YtifolooecfebfaaGreat

