/- Contracts of the laws' own helpers that mark a hall and ask whether it holds its marks: halls that the call itself made, no two rows in one block. Conditions: those that each theorem names. -/
import Derived.Test.YtnofnjddbflpmaaDoorHallRd2
namespace Go.Proofs.YtnofnjddbflpmaaDoor
open Go.ChangeShapes Go.WideShapes Go.ChangeAt Go.RowKit Go.Sort
set_option linter.unusedVariables false

theorem rput (b : Int) (x : List PaceV) : ∀ (qs : List (RoomV × Value)) (j : Nat) (h : j < qs.length), (rcells qs).set (j * 2) (.int .i64 b) = rcells (qs.set j ((b, x), qs[j].2))
  | q :: qs, 0, _ => by simp [rcells]
  | q :: qs, j + 1, h => by
    have ih := rput b x qs j (by simpa using h)
    unfold rcells at ih ⊢
    rw [List.flatMap_cons, show (j + 1) * 2 = j * 2 + 2 by omega]
    simpa using ih
theorem pput (f c : Int) : ∀ (ps : List PaceV) (j : Nat), j < ps.length → ((pcells ps).set (j * 2) (.int .i64 f)).set (j * 2 + 1) (.int .i64 c) = pcells (ps.set j (f, c))
  | p :: ps, 0, _ => by simp [pcells]
  | p :: ps, j + 1, h => by
    have ih := pput f c ps j (by simpa using h)
    unfold pcells at ih ⊢
    rw [List.flatMap_cons, show (j + 1) * 2 = j * 2 + 2 by omega, show j * 2 + 2 + 1 = (j * 2 + 1) + 2 by omega]
    simpa using ih

/-- Marks of n paces from k on. -/
def mps (k : Int) (n : Nat) : List PaceV := (List.range n).map fun i : Nat => (k + 2 * (i : Int), k + 2 * (i : Int) + 1)
theorem mps_len (k : Int) (n : Nat) : (mps k n).length = n := by simp [mps]
theorem mps_at (k : Int) (n i : Nat) (h : i < n) : paceAt (mps k n) i = (k + 2 * (i : Int), k + 2 * (i : Int) + 1) := by unfold paceAt mps; simp [List.getD, h]
/-- The first j of them are marked. -/
def mpd (ps : List PaceV) (k : Int) (j : Nat) : List PaceV := mps k j ++ ps.drop j
theorem mpd_len {ps : List PaceV} {k : Int} {j : Nat} (h : j ≤ ps.length) : (mpd ps k j).length = ps.length := by simp [mpd, mps_len]; omega
theorem mpd_succ {ps : List PaceV} {k : Int} {j : Nat} (h : j < ps.length) : (mpd ps k j).set j (k + 2 * (j : Int), k + 2 * (j : Int) + 1) = mpd ps k (j + 1) := by
  unfold mpd
  rw [List.set_append_right _ _ (by simp [mps_len]), mps_len, Nat.sub_self, List.drop_eq_getElem_cons h, List.set_cons_zero]
  simp [mps, List.range_succ]
theorem mpd_all (ps : List PaceV) (k : Int) : mpd ps k ps.length = mps k ps.length := by simp [mpd]
theorem grown_refl (w : World) (r : Option Nat) : w.grownBy w r := ⟨rfl, rfl, rfl, Nat.le_refl _, fun _ _ _ => rfl⟩
theorem grown_trans {a b c : World} {r : Option Nat} (h : a.grownBy b r) (k : b.grownBy c r) : a.grownBy c r :=
  ⟨k.os.trans h.os, k.tape.trans h.tape, k.output.trans h.output, Nat.le_trans h.size k.size, fun i hi hn => (k.block i (Nat.lt_of_lt_of_le hi h.size) hn).trans (h.block i hi hn)⟩

set_option maxRecDepth 100000 in
set_option maxHeartbeats 2000000 in
theorem markPaceS_any {n₀ : Nat} {w : World} {v : Value} {ps : List PaceV} (k : Int) (h : PacesAt n₀ w v ps) (hk0 : 0 ≤ k) (hk1 : k ≤ 1000000000) (hl : ps.length ≤ 1000000000) :
    Calls Tryd.prog 58 #[v, .int .i64 k] w fun e w' => e = .returned (.int .i64 (k + 2 * (ps.length : Int))) ∧ PacesAt n₀ w' v (mps k ps.length) ∧ w.grownBy w' v.ownBlock := by
  have Hv := hide h
  obtain ⟨a, cap, rfl⟩ := h.shape
  clear h
  go_enter Tryd.func58, Tryd.ntmps58
  go_wp2_with fail
  go_loopw [5, 1] (fun i q wr => ∃ j : Nat, j ≤ ps.length ∧ i = .int .i64 j ∧ q = .int .i64 (k + 2 * (j : Int)) ∧ PacesAt n₀ wr (.slice a ps.length cap) (mpd ps k j) ∧ w.grownBy wr (Value.ownBlock (.slice a ps.length cap))) (fun i _ _ => ps.length - (intOf i).toNat)
  case atStart => exact ⟨0, Nat.zero_le _, rfl, by simp, by simpa [mpd, mps] using unhide Hv, grown_refl _ _⟩
  case round =>
    obtain ⟨j, hj, rfl, rfl, hin, hgr⟩ := hrel
    by_cases hlt : j < ps.length
    · unfold PacesAt at hin
      rw [mpd_len hj] at hin
      obtain ⟨g, rfl⟩ : ∃ g, a = some ⟨g, 0, none⟩ := by
        rcases hin.2 with ⟨h9, h8⟩ | ⟨g, c', cur, h9, _⟩
        · omega
        · cases h9; exact ⟨g, rfl⟩
      have hcell := fun (o : Nat) (ho : o < ps.length * 2) => World.ownsRow.cellAt hin o (by omega)
      have hpl : (pcells (mpd ps k j)).length = ps.length * 2 := by unfold pcells; rw [pairs_len, mpd_len hj]
      obtain ⟨c0, hc0⟩ : ∃ c, wr.cell? ⟨g, j * 2, none⟩ = some c := ⟨_, (hcell (j * 2) (by omega)).trans (List.getElem?_eq_getElem (by omega))⟩
      obtain ⟨c1, hc1⟩ : ∃ c, wr.cell? ⟨g, j * 2 + 1, none⟩ = some c := ⟨_, (hcell (j * 2 + 1) (by omega)).trans (List.getElem?_eq_getElem (by omega))⟩
      have f0 := World.ownsRow.frozenAt hin (j * 2)
      have f1 := World.ownsRow.frozenAt hin (j * 2 + 1)
      obtain ⟨s1, s2⟩ := World.ownsRow.stored hin (j * 2) (.int .i64 (k + 2 * (j : Int)))
      obtain ⟨t1, t2⟩ := World.ownsRow.stored s1 (j * 2 + 1) (.int .i64 (k + 2 * (j : Int) + 1))
      rw [pput _ _ _ _ (by rw [mpd_len hj]; exact hlt), mpd_succ hlt] at t1
      have H1 : Hid (PacesAt n₀ ((wr.setCell ⟨g, j * 2, none⟩ (.int .i64 (k + 2 * (j : Int)))).setCell ⟨g, j * 2 + 1, none⟩ (.int .i64 (k + 2 * (j : Int) + 1))) (.slice (some ⟨g, 0, none⟩) ps.length cap) (mpd ps k (j + 1))) := hide (by unfold PacesAt; rw [mpd_len hlt]; exact t1)
      have H2 := hide (grown_trans hgr (grown_trans s2 t2))
      have hc1' : (wr.setCell ⟨g, j * 2, none⟩ (.int .i64 (k + 2 * (j : Int)))).cell? ⟨g, j * 2 + 1, none⟩ = some c1 := by rw [World.cell?_setCell_other _ _ _ _ (by simp)]; exact hc1
      have f1' : (wr.setCell ⟨g, j * 2, none⟩ (.int .i64 (k + 2 * (j : Int)))).frozen? ⟨g, j * 2 + 1, none⟩ = false := by rw [World.frozen?_setCell]; exact f1
      clear hin hgr s1 s2 t1 t2 hcell hpl
      go_wp2_with fail
      go_roundw
      case rel => exact ⟨j + 1, by omega, by go_num, by go_num, unhide H1, unhide H2⟩
      case measure => simp [intOf]; omega
    · obtain rfl : j = ps.length := by omega
      rw [mpd_all] at hin
      go_wp2_with fail
      go_ret
      exact ⟨rfl, hin, hgr⟩

set_option maxRecDepth 100000 in
set_option maxHeartbeats 2000000 in
theorem heldPaceS_yes {w : World} {v : Value} (k : Int) (n : Nat) (h : IsPaces w v (mps k n)) (hk0 : 0 ≤ k) (hk1 : k ≤ 1000000000) (hl : n ≤ 1000000000) :
    Calls Tryd.prog 59 #[v, .int .i64 k] w fun e w' => e = .returned (.int .i64 (k + 2 * (n : Int))) ∧ w' = w := by
  obtain ⟨a, cap, rfl, hc, hm, hrow⟩ := h
  rw [mps_len] at *
  have Hrow := hide hrow
  clear hrow
  go_enter Tryd.func59, Tryd.ntmps59
  go_wp2_with fail
  go_loop [5, 1] (fun i q => ∃ j : Nat, j ≤ n ∧ i = .int .i64 j ∧ q = .int .i64 (k + 2 * (j : Int))) (fun i _ => n - (intOf i).toNat)
  case atStart => exact ⟨0, Nat.zero_le _, rfl, by simp⟩
  case round =>
    obtain ⟨j, hj, rfl, rfl⟩ := hrel
    by_cases hlt : j < n
    · rcases unhide Hrow with h0 | ⟨bk, off, rfl, hbw, hcl⟩
      · have := congrArg List.length h0; rw [mps_len] at this; simp at this; omega
      obtain ⟨c0, c1⟩ := hcl j hlt
      rw [mps_at k n j hlt] at c0 c1
      simp only at c0 c1
      clear hcl
      go_wp2_with fail
      go_round
      case rel => exact ⟨j + 1, by omega, by go_num, by go_num⟩
      case measure => simp [intOf]; omega
    · obtain rfl : j = n := by omega
      go_wp2_with fail
      go_ret
      exact ⟨rfl, rfl⟩

end Go.Proofs.YtnofnjddbflpmaaDoor
