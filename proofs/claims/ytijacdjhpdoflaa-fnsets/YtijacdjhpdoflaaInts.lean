/- Slices of int64 that the call itself made: what they hold, that what is held stays, and contracts of the laws' own helpers over them (alike, rising, among, marked, held). Conditions: those that each theorem names. -/
import Derived.Test.YtijacdjhpdoflaaBase
import Derived.Deep.QuietTactic
import Derived.BigQuiet
import Derived.Laws.OwnMore
namespace Go.Proofs.Ytijacdjhpdoflaa
open Go.ChangeShapes Go.WideShapes Go.ChangeAt Go.RowKit
set_option linter.unusedVariables false

/-- Nothing but the count of draws has turned. -/
structure Still (w w' : World) : Prop where
  os : w'.os = w.os
  tape : w'.tape = w.tape
  output : w'.output = w.output
  heap : w'.heap = w.heap
theorem Still.refl (w : World) : Still w w := ⟨rfl, rfl, rfl, rfl⟩
theorem Still.trans {a b c : World} (h : Still a b) (k : Still b c) : Still a c := ⟨k.os.trans h.os, k.tape.trans h.tape, k.output.trans h.output, k.heap.trans h.heap⟩
theorem Still.drewN {a w : World} (h : Still a w) (n : Nat) : Still a (w.drewN n) := ⟨h.os, h.tape, h.output, h.heap⟩
theorem Still.below {w w' : World} (h : Still w w') (B : Nat) : Below B w w' := ⟨h.os, h.tape, h.output, by rw [h.heap]; exact Nat.le_refl _, fun k _ => by rw [h.heap]⟩
theorem Still.cell {w w' : World} (h : Still w w') (p : Addr) : w'.cell? p = w.cell? p := World.cell?_of_block (by rw [h.heap])

/-- The slice v, in a block from n₀ on, holds the numbers zs. -/
def IntsAt (n₀ : Nat) (w : World) (v : Value) (zs : List Int) : Prop := w.ownsRow n₀ 2 1 v zs.length (zs.map (Value.int .i64))

theorem IntsAt.mono {n₀ n₁ : Nat} {w : World} {v : Value} {zs : List Int} (h : IntsAt n₀ w v zs) (hn : n₁ ≤ n₀) : IntsAt n₁ w v zs := by
  refine ⟨h.1, ?_⟩
  rcases h.2 with hz | ⟨g, cap, cur, hv, hb, r⟩
  · exact .inl hz
  · exact .inr ⟨g, cap, cur, hv, by omega, r⟩
theorem IntsAt.block_lt {n₀ : Nat} {w : World} {v : Value} {zs : List Int} (h : IntsAt n₀ w v zs) {k : Nat} (hk : v.ownBlock = some k) : n₀ ≤ k ∧ k < w.heap.size := World.ownsRow.lt h k hk
/-- It is held on wherever its block lies as it lay. -/
theorem IntsAt.same {n₀ : Nat} {w w' : World} {v : Value} {zs : List Int} (h : IntsAt n₀ w v zs) (hs : ∀ k, v.ownBlock = some k → w'.heap[k]? = w.heap[k]?) : IntsAt n₀ w' v zs := by
  refine ⟨h.1, ?_⟩
  rcases h.2 with hz | ⟨g, cap, cur, rfl, hb, hg, r⟩
  · exact .inl hz
  · exact .inr ⟨g, cap, cur, rfl, hb, (hs g rfl).trans hg, r⟩
theorem IntsAt.later {n₀ : Nat} {w w' : World} {v : Value} {zs : List Int} (h : IntsAt n₀ w v zs) (hb : Below w.heap.size w w') : IntsAt n₀ w' v zs :=
  h.same fun k hk => hb.block k (h.block_lt hk).2
theorem IntsAt.still {n₀ : Nat} {w w' : World} {v : Value} {zs : List Int} (h : IntsAt n₀ w v zs) (hb : Still w w') : IntsAt n₀ w' v zs := h.later (hb.below _)
/-- What the walk asks of it: its address and length; the cells, where there are any. -/
theorem IntsAt.view {n₀ : Nat} {w : World} {v : Value} {zs : List Int} (h : IntsAt n₀ w v zs) :
    ∃ (a : Option Addr) (cap : Nat), v = .slice a zs.length cap ∧ zs.length ≤ 9223372036854775807 ∧ (zs = [] ∨ ∃ g, a = some ⟨g, 0, none⟩ ∧ n₀ ≤ g ∧ g < w.heap.size ∧
      (∀ k, k < zs.length → w.cell? ⟨g, k, none⟩ = some (.int .i64 (zs.getD k 0))) ∧ (∀ k, w.frozen? ⟨g, k, none⟩ = false)) := by
  have h' := h
  rcases h.2 with ⟨rfl, hz⟩ | ⟨g, cap, cur, rfl, hb, hg, hnc, hcm, r⟩
  · exact ⟨none, 0, by rw [hz], by omega, .inl (List.eq_nil_of_length_eq_zero hz)⟩
  · refine ⟨_, cap, rfl, by unfold maxLen at hcm; omega, .inr ⟨g, rfl, hb, (Array.getElem?_eq_some_iff.1 hg).1, fun k hk => ?_, fun k => World.ownsRow.frozenAt h' k⟩⟩
    rw [World.ownsRow.cellAt h' k (by omega)]
    simp [List.getElem?_eq_getElem hk]

set_option maxHeartbeats 1000000 in
theorem eqInts_yes {n₀ n₁ : Nat} {w : World} {v u : Value} {zs : List Int} (hv : IntsAt n₀ w v zs) (hu : IntsAt n₁ w u zs) :
    Calls Try.prog 21 #[v, u] w fun e w' => e = .returned (.bool true) ∧ Still w w' := by
  obtain ⟨a, cap, rfl, hlen, hca⟩ := hv.view
  obtain ⟨b, cap', rfl, _, hcb⟩ := hu.view
  clear hv hu
  go_enter Try.func21, Try.ntmps21
  go_wp2_with fail
  go_loopw [5] (fun i wr => ∃ k : Nat, k ≤ zs.length ∧ i = .int .i64 k ∧ Still w wr) (fun i _ => zs.length - (intOf i).toNat)
  case atStart => exact ⟨0, Nat.zero_le _, rfl, Still.refl _⟩
  case round =>
    obtain ⟨k, hk, rfl, hst⟩ := hrel
    by_cases hlt : k < zs.length
    · rcases hca with rfl | ⟨g, rfl, _, _, hc, _⟩
      · simp at hlt
      rcases hcb with rfl | ⟨g', rfl, _, _, hc', _⟩
      · simp at hlt
      have h1 := (hst.cell ⟨g, k, none⟩).trans (hc k hlt)
      have h2 := (hst.cell ⟨g', k, none⟩).trans (hc' k hlt)
      have Hst := hide hst
      clear hc hc' hst
      generalize zs.getD k 0 = z at *
      go_wp2_with fail
      go_quiet (fail)
      all_goals go_wp2_with fail
      all_goals
        go_roundw
        case rel => exact ⟨k + 1, by omega, by go_num, (unhide Hst).drewN _⟩
        case measure => simp [intOf]; omega
    · go_wp2_with fail
      go_ret
      exact ⟨rfl, hst⟩

set_option maxHeartbeats 1000000 in
theorem likeInts_yes {n₀ n₁ : Nat} {w : World} {v u : Value} {zs : List Int} (hv : IntsAt n₀ w v zs) (hu : IntsAt n₁ w u zs) :
    Calls Try.prog 12 #[v, u] w fun e w' => e = .returned (.bool true) ∧ Still w w' := by
  obtain ⟨a, cap, rfl, hlen, hca⟩ := hv.view
  obtain ⟨b, cap', rfl, _, hcb⟩ := hu.view
  clear hv hu
  go_enter Try.func12, Try.ntmps12
  go_wp2_with fail
  go_loopw [5] (fun i wr => ∃ k : Nat, k ≤ zs.length ∧ i = .int .i64 k ∧ Still w wr) (fun i _ => zs.length - (intOf i).toNat)
  case atStart => exact ⟨0, Nat.zero_le _, rfl, Still.refl _⟩
  case round =>
    obtain ⟨k, hk, rfl, hst⟩ := hrel
    by_cases hlt : k < zs.length
    · rcases hca with rfl | ⟨g, rfl, _, _, hc, _⟩
      · simp at hlt
      rcases hcb with rfl | ⟨g', rfl, _, _, hc', _⟩
      · simp at hlt
      have h1 := (hst.cell ⟨g, k, none⟩).trans (hc k hlt)
      have h2 := (hst.cell ⟨g', k, none⟩).trans (hc' k hlt)
      have Hst := hide hst
      clear hc hc' hst
      generalize zs.getD k 0 = z at *
      go_wp2_with fail
      go_quiet (fail)
      all_goals go_wp2_with fail
      all_goals
        go_roundw
        case rel => exact ⟨k + 1, by omega, by go_num, (unhide Hst).drewN _⟩
        case measure => simp [intOf]; omega
    · go_wp2_with fail
      go_ret
      exact ⟨rfl, hst⟩

theorem grownBy_trans {a b c : World} {row : Option Nat} (h : a.grownBy b row) (k : b.grownBy c row) : a.grownBy c row :=
  ⟨k.os.trans h.os, k.tape.trans h.tape, k.output.trans h.output, Nat.le_trans h.size k.size, fun i hi hn => (k.block i (Nat.lt_of_lt_of_le hi h.size) hn).trans (h.block i hi hn)⟩
theorem grownBy_refl (a : World) (row : Option Nat) : a.grownBy a row := ⟨rfl, rfl, rfl, Nat.le_refl _, fun _ _ _ => rfl⟩
theorem IntsAt.stored {n₀ : Nat} {w : World} {g n cap : Nat} {zs : List Int} (h : IntsAt n₀ w (.slice (some ⟨g, 0, none⟩) n cap) zs) (hn : zs.length = n) (j : Nat) (u : Int) :
    IntsAt n₀ (w.setCell ⟨g, j, none⟩ (.int .i64 u)) (.slice (some ⟨g, 0, none⟩) n cap) (zs.set j u) ∧ w.grownBy (w.setCell ⟨g, j, none⟩ (.int .i64 u)) (some g) := by
  subst hn
  have := World.ownsRow.stored h j (.int .i64 u)
  refine ⟨?_, this.2⟩
  unfold IntsAt
  rw [List.length_set, List.map_set]
  exact this.1
/-- The numbers from k on, n of them. -/
def marks (k : Int) (n : Nat) : List Int := (List.range n).map fun i : Nat => k + (i : Int)
theorem marks_len (k : Int) (n : Nat) : (marks k n).length = n := by simp [marks]
theorem marks_get (k : Int) (n i : Nat) (h : i < n) : (marks k n).getD i 0 = k + i := by simp [marks, h]
/-- The first j of them are marked. -/
def marked (zs : List Int) (k : Int) (j : Nat) : List Int := marks k j ++ zs.drop j
theorem marked_len {zs : List Int} {k : Int} {j : Nat} (h : j ≤ zs.length) : (marked zs k j).length = zs.length := by simp [marked, marks_len]; omega
theorem marked_succ {zs : List Int} {k : Int} {j : Nat} (h : j < zs.length) : (marked zs k j).set j (k + j) = marked zs k (j + 1) := by
  unfold marked
  rw [List.set_append_right _ _ (by simp [marks_len]), marks_len, Nat.sub_self, List.drop_eq_getElem_cons h, List.set_cons_zero]
  simp [marks, List.range_succ]
theorem marked_all (zs : List Int) (k : Int) : marked zs k zs.length = marks k zs.length := by simp [marked]

set_option maxHeartbeats 1000000 in
theorem markInts_any {n₀ : Nat} {w : World} {v : Value} {zs : List Int} (k : Int) (hv : IntsAt n₀ w v zs) (hk0 : 0 ≤ k) (hk1 : k ≤ 1000000000) (hl : zs.length ≤ 1000000000) :
    Calls Try.prog 22 #[v, .int .i64 k] w fun e w' => e = .returned (.int .i64 (k + zs.length)) ∧ IntsAt n₀ w' v (marks k zs.length) ∧ w.grownBy w' v.ownBlock := by
  have hv0 := hide hv
  obtain ⟨a, cap, rfl, hlen, hca⟩ := hv.view
  clear hv
  go_enter Try.func22, Try.ntmps22
  go_wp2_with fail
  go_loopw [5, 1] (fun i q wr => ∃ j : Nat, j ≤ zs.length ∧ i = .int .i64 j ∧ q = .int .i64 (k + j) ∧ IntsAt n₀ wr (.slice a zs.length cap) (marked zs k j) ∧ w.grownBy wr (Value.ownBlock (.slice a zs.length cap))) (fun i _ _ => zs.length - (intOf i).toNat)
  case atStart => exact ⟨0, Nat.zero_le _, rfl, by simp, unhide hv0, grownBy_refl _ _⟩
  case round =>
    obtain ⟨j, hj, rfl, rfl, hin, hgr⟩ := hrel
    by_cases hlt : j < zs.length
    · rcases hca with rfl | ⟨g, rfl, _, _, _, _⟩
      · simp at hlt
      obtain ⟨hs1, hs2⟩ := hin.stored (marked_len hj) j (k + j)
      rw [marked_succ hlt] at hs1
      have H1 := hide hs1
      have H2 := hide (grownBy_trans hgr hs2)
      have hfz := World.ownsRow.frozenAt (show wr.ownsRow n₀ 2 1 (.slice (some ⟨g, 0, none⟩) (marked zs k j).length cap) (marked zs k j).length _ by rw [marked_len hj]; have h9 := hin; unfold IntsAt at h9; rwa [marked_len hj] at h9) j
      have hcl : ∃ c, wr.cell? ⟨g, j, none⟩ = some c := by
        have h9 := hin
        unfold IntsAt at h9
        rw [marked_len hj] at h9
        have := World.ownsRow.cellAt h9 j (by omega)
        rw [List.getElem?_eq_getElem (by simp [marked_len hj]; omega)] at this
        exact ⟨_, this⟩
      obtain ⟨c, hcl⟩ := hcl
      clear hin hgr hs1 hs2
      go_wp2_with fail
      go_roundw
      case rel => exact ⟨j + 1, by omega, by go_num, by go_num, unhide H1, unhide H2⟩
      case measure => simp [intOf]; omega
    · obtain rfl : j = zs.length := by omega
      rw [marked_all] at hin
      go_wp2_with fail
      go_ret
      exact ⟨rfl, hin, hgr⟩

set_option maxHeartbeats 1000000 in
theorem heldInts_yes {n₀ : Nat} {w : World} {v : Value} (k : Int) (n : Nat) (hv : IntsAt n₀ w v (marks k n)) (hk0 : 0 ≤ k) (hk1 : k ≤ 1000000000) (hl : n ≤ 1000000000) :
    Calls Try.prog 23 #[v, .int .i64 k] w fun e w' => e = .returned (.int .i64 (k + n)) ∧ w' = w := by
  obtain ⟨a, cap, rfl, hlen, hca⟩ := hv.view
  clear hv
  rw [marks_len] at *
  go_enter Try.func23, Try.ntmps23
  go_wp2_with fail
  go_loop [5, 1] (fun i q => ∃ j : Nat, j ≤ n ∧ i = .int .i64 j ∧ q = .int .i64 (k + j)) (fun i _ => n - (intOf i).toNat)
  case atStart => exact ⟨0, Nat.zero_le _, rfl, by simp⟩
  case round =>
    obtain ⟨j, hj, rfl, rfl⟩ := hrel
    by_cases hlt : j < n
    · rcases hca with hz | ⟨g, rfl, _, _, hc, _⟩
      · have := congrArg List.length hz; rw [marks_len] at this; simp at this; omega
      have h1 := hc j hlt
      rw [marks_get k n j hlt] at h1
      clear hc
      go_wp2_with fail
      go_round
      case rel => exact ⟨j + 1, by omega, by go_num, by go_num⟩
      case measure => simp [intOf]; omega
    · obtain rfl : j = n := by omega
      go_wp2_with fail
      go_ret
      exact ⟨rfl, rfl⟩

set_option maxHeartbeats 1000000 in
theorem has_any {n₀ : Nat} {w : World} {v : Value} {zs : List Int} (x : Int) (hv : IntsAt n₀ w v zs) :
    Calls Try.prog 20 #[v, .int .i64 x] w fun e w' => e = .returned (.bool (decide (x ∈ zs))) ∧ w' = w := by
  obtain ⟨a, cap, rfl, hlen, hca⟩ := hv.view
  clear hv
  go_enter Try.func20, Try.ntmps20
  go_wp2_with fail
  go_loop [5] (fun i => ∃ k : Nat, k ≤ zs.length ∧ i = .int .i64 k ∧ Hid (x ∉ zs.take k)) (fun i => zs.length - (intOf i).toNat)
  case atStart => exact ⟨0, Nat.zero_le _, rfl, hide (by simp)⟩
  case round =>
    obtain ⟨k, hk, rfl, hno⟩ := hrel
    by_cases hlt : k < zs.length
    · rcases hca with rfl | ⟨g, rfl, _, _, hc, _⟩
      · simp at hlt
      have h1 := hc k hlt
      have Hg : Hid (zs.getD k 0 = zs[k]) := hide (by simp [hlt])
      clear hc
      generalize hz : zs.getD k 0 = z at *
      have Hz := hide hz
      clear hz
      by_cases hx : z = x
      · subst hx
        go_wp2_with fail
        go_ret
        exact ⟨ret_bool (decide_eq_true (by rw [unhide Hg]; exact List.getElem_mem hlt)).symm, rfl⟩
      · have hx' : (z == x) = false := by simpa using hx
        have Hx := hide hx
        clear hx
        go_wp2_with fail
        go_round
        case rel => exact ⟨k + 1, by omega, by go_num, hide (by rw [List.take_succ_eq_append_getElem hlt, ← unhide Hg]; simp only [List.mem_append, List.mem_singleton, not_or]; exact ⟨unhide hno, fun e => unhide Hx e.symm⟩)⟩
        case measure => simp [intOf]; omega
    · go_wp2_with fail
      go_ret
      exact ⟨ret_bool (decide_eq_false (by have := unhide hno; rwa [List.take_of_length_le (by omega)] at this)).symm, rfl⟩

set_option maxHeartbeats 1000000 in
theorem rises_yes {n₀ : Nat} {w : World} {v : Value} {zs : List Int} (hv : IntsAt n₀ w v zs) (hr : ∀ k, k + 1 < zs.length → zs.getD k 0 < zs.getD (k + 1) 0) :
    Calls Try.prog 19 #[v] w fun e w' => e = .returned (.bool true) ∧ Still w w' := by
  obtain ⟨a, cap, rfl, hlen, hca⟩ := hv.view
  have Hr := hide hr
  clear hv hr
  go_enter Try.func19, Try.ntmps19
  go_wp2_with fail
  go_loopw [3] (fun i wr => ∃ k : Nat, k ≤ zs.length ∧ i = .int .i64 (k + 1) ∧ Still w wr) (fun i _ => zs.length + 1 - (intOf i).toNat)
  case atStart => exact ⟨0, Nat.zero_le _, rfl, Still.refl _⟩
  case round =>
    obtain ⟨k, hk, rfl, hst⟩ := hrel
    by_cases hlt : (k : Int) + 1 < (zs.length : Int)
    · rcases hca with rfl | ⟨g, rfl, _, _, hc, _⟩
      · simp at hlt; omega
      have h1 := (hst.cell ⟨g, k, none⟩).trans (hc k (by omega))
      have h2 := (hst.cell ⟨g, k + 1, none⟩).trans (hc (k + 1) (by omega))
      have h3 := unhide Hr k (by omega)
      have Hst := hide hst
      clear hc hst
      generalize zs.getD k 0 = z at *
      generalize zs.getD (k + 1) 0 = y at *
      go_wp2_with fail
      go_quiet (fail)
      all_goals go_wp2_with fail
      all_goals
        go_roundw
        case rel => exact ⟨k + 1, by omega, by go_num, (unhide Hst).drewN _⟩
        case measure => simp [intOf]; omega
    · go_wp2_with fail
      go_ret
      exact ⟨rfl, hst⟩

end Go.Proofs.Ytijacdjhpdoflaa
