/- What the proof rests on, part 6: lists and numbers, how they lie in memory, and contracts of the calls. No condition but those that a theorem names. -/
import Derived.Test.YthbbahagpmdooaaGreatDoorXr01
import Derived.Test.YthbbahagpmdooaaGreatDoorXr02
import Derived.Test.YthbbahagpmdooaaGreatDoorXr03
import Derived.Test.YthbbahagpmdooaaGreatDoorXr04
import Derived.Test.YthbbahagpmdooaaGreatDoorXr05
import Derived.Deep.QuietTactic
import Derived.BigQuiet
import Derived.Laws.OwnMore
import Derived.WalkKit
import Derived.LaidEql
import Derived.Stop.Asserts
import Derived.RowKitTokens
import Derived.Below
import Derived.ProofKit
import Derived.OpenShut
import Derived.Outline
import Derived.Deep.RegionWith
import Derived.OwnWalk
import Derived.Maps.AppendAt
import Derived.Lib.QuietBelow
import Derived.Lib.SmallJoins
import Derived.Deep.Fields
import Derived.Deep.Slices
/- Contracts of the laws' own helpers that mark a list of records (Smith) and ask whether it holds its marks. Conditions: those that each theorem names. -/
namespace Go.Proofs.YthbbahagpmdooaaGreatDoor
open Go.ChangeShapes Go.WideShapes Go.ChangeAt Go.RowKit Go.Sort
set_option linter.unusedVariables false

def mkSmith (c : Int) : SmithV := (c, c + 1, c + 1 + 1, c + 1 + 1 + 1, c + 1 + 1 + 1 + 1, c + 1 + 1 + 1 + 1 + 1, c + 1 + 1 + 1 + 1 + 1 + 1, c + 1 + 1 + 1 + 1 + 1 + 1 + 1, c + 1 + 1 + 1 + 1 + 1 + 1 + 1 + 1, c + 1 + 1 + 1 + 1 + 1 + 1 + 1 + 1 + 1, c + 1 + 1 + 1 + 1 + 1 + 1 + 1 + 1 + 1 + 1)

set_option maxRecDepth 100000 in
set_option maxHeartbeats 8000000 in
theorem markSmithS_any {n₀ : Nat} {w : World} {v : Value} {ps : List SmithV} (c : Int) (h : SmithsAt n₀ w v ps) (hk0 : 0 ≤ c) (hk1 : c ≤ 1000000000000000) (hl : ps.length ≤ 10000000) :
    Calls Tryz.prog 86 #[v, .int .i64 c] w fun e w' => e = .returned (.int .i64 (c + 11 * (ps.length : Int))) ∧ SmithsAt n₀ w' v (markL mkSmith 11 c ps.length) ∧ w.grownBy w' v.ownBlock := by
  have Hv := hide h
  obtain ⟨a, cap, rfl⟩ := RecAt.shape h
  clear h
  go_enter Tryz.func86, Tryz.ntmps86
  go_wp2_with fail
  go_loopw [5, 1] (fun i q wr => ∃ j : Nat, j ≤ ps.length ∧ i = .int .i64 j ∧ q = .int .i64 (c + 11 * (j : Int)) ∧ SmithsAt n₀ wr (.slice a ps.length cap) (markedL mkSmith 11 c ps j) ∧ w.grownBy wr (Value.ownBlock (.slice a ps.length cap))) (fun i _ _ => ps.length - (intOf i).toNat)
  case atStart => exact ⟨0, Nat.zero_le _, rfl, by simp, by rw [markedL_zero]; exact unhide Hv, grown_refl _ _⟩
  case round =>
    obtain ⟨j, hj, rfl, rfl, hin, hgr⟩ := hrel
    by_cases hlt : j < ps.length
    · have hfl := markedL_len (mk := mkSmith) (d := 11) (c := c) hj
      obtain ⟨g, rfl, _, _, hcells, hfz⟩ := RecAt.view encSmith_len (by omega) hin hfl.symm (by omega)
      have hq := fun i u hu => hcells j (by omega) i u hu
      generalize recAt (markedL mkSmith 11 c ps j) j = old at hq
      have o0 := hq 0 _ rfl
      have f0 := hfz (j * 11)
      have o1 := hq 1 _ rfl
      have f1 := hfz (j * 11 + 1)
      have o2 := hq 2 _ rfl
      have f2 := hfz (j * 11 + 2)
      have o3 := hq 3 _ rfl
      have f3 := hfz (j * 11 + 3)
      have o4 := hq 4 _ rfl
      have f4 := hfz (j * 11 + 4)
      have o5 := hq 5 _ rfl
      have f5 := hfz (j * 11 + 5)
      have o6 := hq 6 _ rfl
      have f6 := hfz (j * 11 + 6)
      have o7 := hq 7 _ rfl
      have f7 := hfz (j * 11 + 7)
      have o8 := hq 8 _ rfl
      have f8 := hfz (j * 11 + 8)
      have o9 := hq 9 _ rfl
      have f9 := hfz (j * 11 + 9)
      have o10 := hq 10 _ rfl
      have f10 := hfz (j * 11 + 10)
      simp only [Nat.add_zero] at o0
      have hp := RecAt.put encSmith_len (by omega) hin hfl.symm (j := j) (by omega) (mkSmith (c + 11 * (j : Int)))
      have hs9 := markedL_set (mk := mkSmith) (d := 11) (c := c) hlt
      rw [show ((11 : Nat) : Int) = 11 from rfl] at hs9
      have HS := hide hs9
      clear hs9
      have H1 := hide hp.1
      have H2 := hide (grown_trans hgr hp.2)
      clear hin hgr hcells hq hfz hp hfl
      go_wp2_with fail
      go_roundw
      case rel => exact ⟨j + 1, by omega, by go_num, by go_num, by have h9 := unhide H1; rw [unhide HS] at h9; exact h9, unhide H2⟩
      case measure => simp [intOf]; omega
    · obtain rfl : j = ps.length := by omega
      rw [markedL_all] at hin
      go_wp2_with fail
      go_ret
      exact ⟨rfl, hin, hgr⟩

set_option maxRecDepth 100000 in
set_option maxHeartbeats 8000000 in
theorem heldSmithS_yes {w : World} {v : Value} (c : Int) (n : Nat) (h : IsSmiths w v (markL mkSmith 11 c n)) (hk0 : 0 ≤ c) (hk1 : c ≤ 1000000000000000) (hl : n ≤ 10000000) :
    Calls Tryz.prog 91 #[v, .int .i64 c] w fun e w' => e = .returned (.int .i64 (c + 11 * (n : Int))) ∧ w' = w := by
  obtain ⟨a, cap, rfl, hc, hm, hrow⟩ := h
  rw [markL_len] at *
  have Hrow := hide hrow
  clear hrow
  go_enter Tryz.func91, Tryz.ntmps91
  go_wp2_with fail
  go_loop [5, 1] (fun i q => ∃ j : Nat, j ≤ n ∧ i = .int .i64 j ∧ q = .int .i64 (c + 11 * (j : Int))) (fun i _ => n - (intOf i).toNat)
  case atStart => exact ⟨0, Nat.zero_le _, rfl, by simp⟩
  case round =>
    obtain ⟨j, hj, rfl, rfl⟩ := hrel
    by_cases hlt : j < n
    · rcases unhide Hrow with h0 | ⟨bk, off, rfl, hbw, hcl⟩
      · have := congrArg List.length h0; rw [markL_len] at this; simp at this; omega
      have hq := fun i u hu => hcl j hlt i u hu
      rw [markL_at _ _ _ hlt, show ((11 : Nat) : Int) = 11 from rfl] at hq
      have c0 : w.cell? ⟨bk, off + j * 11, none⟩ = some (.int .i64 ((c + 11 * (j : Int)))) := hq 0 _ rfl
      have c1 : w.cell? ⟨bk, off + j * 11 + 1, none⟩ = some (.int .i64 ((c + 11 * (j : Int)) + 1)) := hq 1 _ rfl
      have c2 : w.cell? ⟨bk, off + j * 11 + 2, none⟩ = some (.int .i64 ((c + 11 * (j : Int)) + 1 + 1)) := hq 2 _ rfl
      have c3 : w.cell? ⟨bk, off + j * 11 + 3, none⟩ = some (.int .i64 ((c + 11 * (j : Int)) + 1 + 1 + 1)) := hq 3 _ rfl
      have c4 : w.cell? ⟨bk, off + j * 11 + 4, none⟩ = some (.int .i64 ((c + 11 * (j : Int)) + 1 + 1 + 1 + 1)) := hq 4 _ rfl
      have c5 : w.cell? ⟨bk, off + j * 11 + 5, none⟩ = some (.int .i64 ((c + 11 * (j : Int)) + 1 + 1 + 1 + 1 + 1)) := hq 5 _ rfl
      have c6 : w.cell? ⟨bk, off + j * 11 + 6, none⟩ = some (.int .i64 ((c + 11 * (j : Int)) + 1 + 1 + 1 + 1 + 1 + 1)) := hq 6 _ rfl
      have c7 : w.cell? ⟨bk, off + j * 11 + 7, none⟩ = some (.int .i64 ((c + 11 * (j : Int)) + 1 + 1 + 1 + 1 + 1 + 1 + 1)) := hq 7 _ rfl
      have c8 : w.cell? ⟨bk, off + j * 11 + 8, none⟩ = some (.int .i64 ((c + 11 * (j : Int)) + 1 + 1 + 1 + 1 + 1 + 1 + 1 + 1)) := hq 8 _ rfl
      have c9 : w.cell? ⟨bk, off + j * 11 + 9, none⟩ = some (.int .i64 ((c + 11 * (j : Int)) + 1 + 1 + 1 + 1 + 1 + 1 + 1 + 1 + 1)) := hq 9 _ rfl
      have c10 : w.cell? ⟨bk, off + j * 11 + 10, none⟩ = some (.int .i64 ((c + 11 * (j : Int)) + 1 + 1 + 1 + 1 + 1 + 1 + 1 + 1 + 1 + 1)) := hq 10 _ rfl
      clear hcl hq
      go_wp2_with fail
      go_round
      case rel => exact ⟨j + 1, by omega, by go_num, by go_num⟩
      case measure => simp [intOf]; omega
    · obtain rfl : j = n := by omega
      go_wp2_with fail
      go_ret
      exact ⟨rfl, rfl⟩

end Go.Proofs.YthbbahagpmdooaaGreatDoor

/- Contracts of the laws' own helpers that mark a list of records (Desk) and ask whether it holds its marks. Conditions: those that each theorem names. -/
namespace Go.Proofs.YthbbahagpmdooaaGreatDoor
open Go.ChangeShapes Go.WideShapes Go.ChangeAt Go.RowKit Go.Sort
set_option linter.unusedVariables false

def mkDesk (c : Int) : DeskV := ((c % 3 == 0), c + 1, c + 1 + 1)

set_option maxRecDepth 100000 in
set_option maxHeartbeats 8000000 in
theorem markDeskS_any {n₀ : Nat} {w : World} {v : Value} {ps : List DeskV} (c : Int) (h : DesksAt n₀ w v ps) (hk0 : 0 ≤ c) (hk1 : c ≤ 1000000000000000) (hl : ps.length ≤ 10000000) :
    Calls Tryz.prog 87 #[v, .int .i64 c] w fun e w' => e = .returned (.int .i64 (c + 3 * (ps.length : Int))) ∧ DesksAt n₀ w' v (markL mkDesk 3 c ps.length) ∧ w.grownBy w' v.ownBlock := by
  have Hv := hide h
  obtain ⟨a, cap, rfl⟩ := RecAt.shape h
  clear h
  go_enter Tryz.func87, Tryz.ntmps87
  go_wp2_with fail
  go_loopw [5, 1] (fun i q wr => ∃ j : Nat, j ≤ ps.length ∧ i = .int .i64 j ∧ q = .int .i64 (c + 3 * (j : Int)) ∧ DesksAt n₀ wr (.slice a ps.length cap) (markedL mkDesk 3 c ps j) ∧ w.grownBy wr (Value.ownBlock (.slice a ps.length cap))) (fun i _ _ => ps.length - (intOf i).toNat)
  case atStart => exact ⟨0, Nat.zero_le _, rfl, by simp, by rw [markedL_zero]; exact unhide Hv, grown_refl _ _⟩
  case round =>
    obtain ⟨j, hj, rfl, rfl, hin, hgr⟩ := hrel
    by_cases hlt : j < ps.length
    · have hfl := markedL_len (mk := mkDesk) (d := 3) (c := c) hj
      obtain ⟨g, rfl, _, _, hcells, hfz⟩ := RecAt.view encDesk_len (by omega) hin hfl.symm (by omega)
      have hq := fun i u hu => hcells j (by omega) i u hu
      generalize recAt (markedL mkDesk 3 c ps j) j = old at hq
      have hmod : (c + 3 * (j : Int)) % 3 = c % 3 := by omega
      have o0 := hq 0 _ rfl
      have f0 := hfz (j * 3)
      have o1 := hq 1 _ rfl
      have f1 := hfz (j * 3 + 1)
      have o2 := hq 2 _ rfl
      have f2 := hfz (j * 3 + 2)
      simp only [Nat.add_zero] at o0
      have hp := RecAt.put encDesk_len (by omega) hin hfl.symm (j := j) (by omega) (mkDesk (c + 3 * (j : Int)))
      have hs9 := markedL_set (mk := mkDesk) (d := 3) (c := c) hlt
      rw [show ((3 : Nat) : Int) = 3 from rfl] at hs9
      have HS := hide hs9
      clear hs9
      have H1 := hide hp.1
      have H2 := hide (grown_trans hgr hp.2)
      clear hin hgr hcells hq hfz hp hfl
      go_wp2_with fail
      go_roundw
      case rel => exact ⟨j + 1, by omega, by go_num, by go_num, by have h9 := unhide H1; rw [unhide HS] at h9; simpa [setW, encDesk, mkDesk, hmod] using h9, by have h9 := unhide H2; simpa [setW, encDesk, mkDesk, hmod] using h9⟩
      case measure => simp [intOf]; omega
    · obtain rfl : j = ps.length := by omega
      rw [markedL_all] at hin
      go_wp2_with fail
      go_ret
      exact ⟨rfl, hin, hgr⟩

set_option maxRecDepth 100000 in
set_option maxHeartbeats 8000000 in
theorem heldDeskS_yes {w : World} {v : Value} (c : Int) (n : Nat) (h : IsDesks w v (markL mkDesk 3 c n)) (hk0 : 0 ≤ c) (hk1 : c ≤ 1000000000000000) (hl : n ≤ 10000000) :
    Calls Tryz.prog 92 #[v, .int .i64 c] w fun e w' => e = .returned (.int .i64 (c + 3 * (n : Int))) ∧ w' = w := by
  obtain ⟨a, cap, rfl, hc, hm, hrow⟩ := h
  rw [markL_len] at *
  have Hrow := hide hrow
  clear hrow
  go_enter Tryz.func92, Tryz.ntmps92
  go_wp2_with fail
  go_loop [5, 1] (fun i q => ∃ j : Nat, j ≤ n ∧ i = .int .i64 j ∧ q = .int .i64 (c + 3 * (j : Int))) (fun i _ => n - (intOf i).toNat)
  case atStart => exact ⟨0, Nat.zero_le _, rfl, by simp⟩
  case round =>
    obtain ⟨j, hj, rfl, rfl⟩ := hrel
    by_cases hlt : j < n
    · rcases unhide Hrow with h0 | ⟨bk, off, rfl, hbw, hcl⟩
      · have := congrArg List.length h0; rw [markL_len] at this; simp at this; omega
      have hq := fun i u hu => hcl j hlt i u hu
      rw [markL_at _ _ _ hlt, show ((3 : Nat) : Int) = 3 from rfl] at hq
      have c0 : w.cell? ⟨bk, off + j * 3, none⟩ = some (.bool ((c + 3 * (j : Int)) % 3 == 0)) := hq 0 _ rfl
      have c1 : w.cell? ⟨bk, off + j * 3 + 1, none⟩ = some (.int .i64 ((c + 3 * (j : Int)) + 1)) := hq 1 _ rfl
      have c2 : w.cell? ⟨bk, off + j * 3 + 2, none⟩ = some (.int .i64 ((c + 3 * (j : Int)) + 1 + 1)) := hq 2 _ rfl
      clear hcl hq
      go_wp2_with fail
      go_round
      case rel => exact ⟨j + 1, by omega, by go_num, by go_num⟩
      case measure => simp [intOf]; omega
    · obtain rfl : j = n := by omega
      go_wp2_with fail
      go_ret
      exact ⟨rfl, rfl⟩

end Go.Proofs.YthbbahagpmdooaaGreatDoor

/- Slices of int64 that the call itself made: what they hold, that what is held stays, and contracts of the laws' own helpers over them (alike, rising, among, marked, held). Conditions: those that each theorem names. -/
namespace Go.Proofs.YthbbahagpmdooaaGreatDoor
open Go.ChangeShapes Go.WideShapes Go.ChangeAt Go.RowKit
set_option linter.unusedVariables false

/-- The slice v, in a block from n₀ on, holds the numbers zs. -/
def IntsAt (n₀ : Nat) (w : World) (v : Value) (zs : List Int) : Prop := w.ownsRow n₀ 2 1 v zs.length (zs.map (Value.int .i64))

/-- What the walk asks of it: its address and length; the cells, where there are any. -/
theorem IntsAt.view {n₀ : Nat} {w : World} {v : Value} {zs : List Int} (h : IntsAt n₀ w v zs) :
    ∃ (a : Option Addr) (cap : Nat), v = .slice a zs.length cap ∧ zs.length ≤ 9223372036854775807 ∧ (zs = [] ∨ ∃ g, a = some ⟨g, 0, none⟩ ∧ n₀ ≤ g ∧ g < w.heap.size ∧
      (∀ k, k < zs.length → w.cell? ⟨g, k, none⟩ = some (.int .i64 (zs.getD k 0))) ∧ (∀ k, w.frozen? ⟨g, k, none⟩ = false)) := by
  have h' := h
  rcases h.2 with ⟨rfl, hz⟩ | ⟨g, cap, cur, rfl, hb, hg, hnc, hcm, r⟩
  · exact ⟨none, 0, by rw [hz], by omega, .inl (List.eq_nil_of_length_eq_zero hz)⟩
  · refine ⟨_, cap, rfl, by unfold maxLen at hcm; omega, .inr ⟨g, rfl, hb, (Array.getElem?_eq_some_iff.1 hg).1, fun k hk => ?_, fun k => World.ownsRow.frozenAt h' k⟩⟩
    rw [World.ownsRow.cellAt h' k (by omega)]
    simp [List.getElem?_eq_getElem hk]

theorem grownBy_trans {a b c : World} {row : Option Nat} (h : a.grownBy b row) (k : b.grownBy c row) : a.grownBy c row :=
  ⟨k.os.trans h.os, k.tape.trans h.tape, k.output.trans h.output, Nat.le_trans h.size k.size, fun i hi hn => (k.block i (Nat.lt_of_lt_of_le hi h.size) hn).trans (h.block i hi hn)⟩
theorem grownBy_refl (a : World) (row : Option Nat) : a.grownBy a row := ⟨rfl, rfl, rfl, Nat.le_refl _, fun _ _ _ => rfl⟩
theorem IntsAt.stored {n₀ : Nat} {w : World} {g n cap : Nat} {zs : List Int} (h : IntsAt n₀ w (.slice (some ⟨g, 0, none⟩) n cap) zs) (hn : zs.length = n) (j : Nat) (u : Int) :
    IntsAt n₀ (w.setCell ⟨g, j, none⟩ (.int .i64 u)) (.slice (some ⟨g, 0, none⟩) n cap) (zs.set j u) ∧ w.grownBy (w.setCell ⟨g, j, none⟩ (.int .i64 u)) (some g) := by
  subst hn
  have := World.ownsRow.stored h j (.int .i64 u)
  refine ⟨?_, this.2⟩
  unfold IntsAt
  rw [List.length_set, List.map_set]
  exact this.1
/-- The numbers from k on, n of them. -/
def marks (k : Int) (n : Nat) : List Int := (List.range n).map fun i : Nat => k + (i : Int)
theorem marks_len (k : Int) (n : Nat) : (marks k n).length = n := by simp [marks]
theorem marks_get (k : Int) (n i : Nat) (h : i < n) : (marks k n).getD i 0 = k + i := by simp [marks, h]
/-- The first j of them are marked. -/
def marked (zs : List Int) (k : Int) (j : Nat) : List Int := marks k j ++ zs.drop j
theorem marked_len {zs : List Int} {k : Int} {j : Nat} (h : j ≤ zs.length) : (marked zs k j).length = zs.length := by simp [marked, marks_len]; omega
theorem marked_succ {zs : List Int} {k : Int} {j : Nat} (h : j < zs.length) : (marked zs k j).set j (k + j) = marked zs k (j + 1) := by
  unfold marked
  rw [List.set_append_right _ _ (by simp [marks_len]), marks_len, Nat.sub_self, List.drop_eq_getElem_cons h, List.set_cons_zero]
  simp [marks, List.range_succ]
theorem marked_all (zs : List Int) (k : Int) : marked zs k zs.length = marks k zs.length := by simp [marked]

set_option maxHeartbeats 1000000 in
theorem markInts_any {n₀ : Nat} {w : World} {v : Value} {zs : List Int} (k : Int) (hv : IntsAt n₀ w v zs) (hk0 : 0 ≤ k) (hk1 : k ≤ 1000000000000000) (hl : zs.length ≤ 1000000000) :
    Calls Tryz.prog 88 #[v, .int .i64 k] w fun e w' => e = .returned (.int .i64 (k + zs.length)) ∧ IntsAt n₀ w' v (marks k zs.length) ∧ w.grownBy w' v.ownBlock := by
  have hv0 := hide hv
  obtain ⟨a, cap, rfl, hlen, hca⟩ := hv.view
  clear hv
  go_enter Tryz.func88, Tryz.ntmps88
  go_wp2_with fail
  go_loopw [5, 1] (fun i q wr => ∃ j : Nat, j ≤ zs.length ∧ i = .int .i64 j ∧ q = .int .i64 (k + j) ∧ IntsAt n₀ wr (.slice a zs.length cap) (marked zs k j) ∧ w.grownBy wr (Value.ownBlock (.slice a zs.length cap))) (fun i _ _ => zs.length - (intOf i).toNat)
  case atStart => exact ⟨0, Nat.zero_le _, rfl, by simp, unhide hv0, grownBy_refl _ _⟩
  case round =>
    obtain ⟨j, hj, rfl, rfl, hin, hgr⟩ := hrel
    by_cases hlt : j < zs.length
    · rcases hca with rfl | ⟨g, rfl, _, _, _, _⟩
      · simp at hlt
      obtain ⟨hs1, hs2⟩ := hin.stored (marked_len hj) j (k + j)
      rw [marked_succ hlt] at hs1
      have H1 := hide hs1
      have H2 := hide (grownBy_trans hgr hs2)
      have hfz := World.ownsRow.frozenAt (show wr.ownsRow n₀ 2 1 (.slice (some ⟨g, 0, none⟩) (marked zs k j).length cap) (marked zs k j).length _ by rw [marked_len hj]; have h9 := hin; unfold IntsAt at h9; rwa [marked_len hj] at h9) j
      have hcl : ∃ c, wr.cell? ⟨g, j, none⟩ = some c := by
        have h9 := hin
        unfold IntsAt at h9
        rw [marked_len hj] at h9
        have := World.ownsRow.cellAt h9 j (by omega)
        rw [List.getElem?_eq_getElem (by simp [marked_len hj]; omega)] at this
        exact ⟨_, this⟩
      obtain ⟨c, hcl⟩ := hcl
      clear hin hgr hs1 hs2
      go_wp2_with fail
      go_roundw
      case rel => exact ⟨j + 1, by omega, by go_num, by go_num, unhide H1, unhide H2⟩
      case measure => simp [intOf]; omega
    · obtain rfl : j = zs.length := by omega
      rw [marked_all] at hin
      go_wp2_with fail
      go_ret
      exact ⟨rfl, hin, hgr⟩

set_option maxHeartbeats 1000000 in
theorem heldInts_yes {n₀ : Nat} {w : World} {v : Value} (k : Int) (n : Nat) (hv : IntsAt n₀ w v (marks k n)) (hk0 : 0 ≤ k) (hk1 : k ≤ 1000000000000000) (hl : n ≤ 1000000000) :
    Calls Tryz.prog 93 #[v, .int .i64 k] w fun e w' => e = .returned (.int .i64 (k + n)) ∧ w' = w := by
  obtain ⟨a, cap, rfl, hlen, hca⟩ := hv.view
  clear hv
  rw [marks_len] at *
  go_enter Tryz.func93, Tryz.ntmps93
  go_wp2_with fail
  go_loop [5, 1] (fun i q => ∃ j : Nat, j ≤ n ∧ i = .int .i64 j ∧ q = .int .i64 (k + j)) (fun i _ => n - (intOf i).toNat)
  case atStart => exact ⟨0, Nat.zero_le _, rfl, by simp⟩
  case round =>
    obtain ⟨j, hj, rfl, rfl⟩ := hrel
    by_cases hlt : j < n
    · rcases hca with hz | ⟨g, rfl, _, _, hc, _⟩
      · have := congrArg List.length hz; rw [marks_len] at this; simp at this; omega
      have h1 := hc j hlt
      rw [marks_get k n j hlt] at h1
      clear hc
      go_wp2_with fail
      go_round
      case rel => exact ⟨j + 1, by omega, by go_num, by go_num⟩
      case measure => simp [intOf]; omega
    · obtain rfl : j = n := by omega
      go_wp2_with fail
      go_ret
      exact ⟨rfl, rfl⟩

end Go.Proofs.YthbbahagpmdooaaGreatDoor

/- Contracts of the laws' own helpers that mark a list of int64 and ask whether it holds its marks. Conditions: those that each theorem names. -/
namespace Go.Proofs.YthbbahagpmdooaaGreatDoor
open Go.ChangeShapes Go.WideShapes Go.ChangeAt Go.RowKit Go.Sort
set_option linter.unusedVariables false

theorem flat_num : ∀ zs : List Int, flat encNum zs = zs.map (Value.int .i64)
  | [] => rfl
  | z :: zs => by
    have := flat_num zs
    unfold flat at this ⊢
    rw [List.flatMap_cons, this]
    rfl
theorem nums_ints {n₀ : Nat} {w : World} {v : Value} {zs : List Int} : NumsAt n₀ w v zs ↔ IntsAt n₀ w v zs := by
  unfold NumsAt RecAt IntsAt
  rw [flat_num]

theorem markNums_any {n₀ : Nat} {w : World} {v : Value} {zs : List Int} (k : Int) (h : NumsAt n₀ w v zs) (hk0 : 0 ≤ k) (hk1 : k ≤ 1000000000000000) (hl : zs.length ≤ 1000000000) :
    Calls Tryz.prog 88 #[v, .int .i64 k] w fun e w' => e = .returned (.int .i64 (k + zs.length)) ∧ NumsAt n₀ w' v (marks k zs.length) ∧ w.grownBy w' v.ownBlock :=
  (markInts_any k (nums_ints.1 h) hk0 hk1 hl).mono fun e w' ⟨h1, h2, h3⟩ => ⟨h1, nums_ints.2 h2, h3⟩
theorem heldNums_yes {n₀ : Nat} {w : World} {v : Value} (k : Int) (n : Nat) (h : NumsAt n₀ w v (marks k n)) (hk0 : 0 ≤ k) (hk1 : k ≤ 1000000000000000) (hl : n ≤ 1000000000) :
    Calls Tryz.prog 93 #[v, .int .i64 k] w fun e w' => e = .returned (.int .i64 (k + n)) ∧ w' = w :=
  heldInts_yes k n (nums_ints.1 h) hk0 hk1 hl

end Go.Proofs.YthbbahagpmdooaaGreatDoor

/- Contracts of the laws' own helpers that mark a smithy and ask whether it holds its marks: smithies that the call itself made, no two rows in one block. Conditions: those that each theorem names. -/
namespace Go.Proofs.YthbbahagpmdooaaGreatDoor
open Go.ChangeShapes Go.WideShapes Go.ChangeAt Go.RowKit Go.Sort
set_option linter.unusedVariables false

theorem markQ_vals : ∀ (qs : List (RoomV × Value)) (k : Int), (markQ k qs).map (·.2) = qs.map (·.2)
  | [], _ => rfl
  | q :: qs, k => by
    have := markQ_vals qs (k + 1 + 2 * (q.1.2.length : Int))
    simp only [markQ, List.map_cons]
    rw [this]
theorem markQ_mem {qs : List (RoomV × Value)} {k : Int} {q : RoomV × Value} (h : q ∈ markQ k qs) : ∃ q' ∈ qs, q'.2 = q.2 := by
  have : q.2 ∈ (markQ k qs).map (·.2) := List.mem_map.2 ⟨q, h, rfl⟩
  rw [markQ_vals] at this
  exact List.mem_map.1 this
theorem OffHall.marked {u v : Value} {qs : List (RoomV × Value)} (h : OffHall u v qs) (k : Int) : OffHall u v (markQ k qs) :=
  ⟨h.1, fun q hq => by obtain ⟨q', h1, h2⟩ := markQ_mem hq; rw [← h2]; exact h.2 q' h1⟩
/-- Only the smithy's own blocks differ. -/
structure SmyOnly (v0 v1 v2 v3 v4 : Value) (qs : List (RoomV × Value)) (w w' : World) : Prop where
  os : w'.os = w.os
  tape : w'.tape = w.tape
  output : w'.output = w.output
  size : w.heap.size ≤ w'.heap.size
  block : ∀ k, k < w.heap.size → v0.ownBlock ≠ some k → (∀ q ∈ qs, q.2.ownBlock ≠ some k) → v1.ownBlock ≠ some k → v2.ownBlock ≠ some k → v3.ownBlock ≠ some k → v4.ownBlock ≠ some k → w'.heap[k]? = w.heap[k]?
def markM (k : Int) (m : SmyV) (qs : List (RoomV × Value)) : SmyV :=
  { rooms := (markQ k qs).map (·.1), guilds := markL mkGuild 3 (kEnd k qs) m.guilds.length, smiths := markL mkSmith 11 (kEnd k qs + 3 * (m.guilds.length : Int)) m.smiths.length,
    desks := markL mkDesk 3 (kEnd k qs + 3 * (m.guilds.length : Int) + 11 * (m.smiths.length : Int)) m.desks.length, paces := marks (kEnd k qs + 3 * (m.guilds.length : Int) + 11 * (m.smiths.length : Int) + 3 * (m.desks.length : Int)) m.paces.length, now := m.now }
def endM (k : Int) (m : SmyV) (qs : List (RoomV × Value)) : Int := kEnd k qs + 3 * (m.guilds.length : Int) + 11 * (m.smiths.length : Int) + 3 * (m.desks.length : Int) + (m.paces.length : Int)
theorem small_qs {m : SmyV} {qs : List (RoomV × Value)} (hs : Small m.rooms) (hm : qs.map (·.1) = m.rooms) : qs.length ≤ 1048576 ∧ ∀ q ∈ qs, q.1.2.length ≤ 1048576 := by
  have hl : qs.length = m.rooms.length := by rw [← hm, List.length_map]
  refine ⟨by have := hs.1; omega, fun q hq => ?_⟩
  have hq' : q.1 ∈ m.rooms := by rw [← hm]; exact List.mem_map.2 ⟨q, hq, rfl⟩
  obtain ⟨j, hj, e⟩ := List.getElem_of_mem hq'
  have := hs.2 j hj
  have hat : roomAt m.rooms j = m.rooms[j] := by unfold roomAt; simp [List.getD, hj]
  rw [hat, e] at this
  exact this
theorem kEnd_all {qs : List (RoomV × Value)} (hl : qs.length ≤ 1048576) (hp : ∀ q ∈ qs, q.1.2.length ≤ 1048576) (k : Int) : k ≤ kEnd k qs ∧ kEnd k qs ≤ k + 2199024304128 := by
  have := kEnd_bd hp k qs.length (Nat.le_refl _)
  rw [List.take_length] at this
  omega

/-- A hall stays where another row of the call's own is written. -/
theorem OwnHall.keep {n₀ : Nat} {w w' : World} {u v : Value} {qs : List (RoomV × Value)} (h : OwnHall n₀ w v qs) (hg : w.grownBy w' u.ownBlock) (ho : OffHall u v qs) : OwnHall n₀ w' v qs :=
  ⟨own_same h.row fun k e => hg.block k (h.lt (.inl e)).2 (fun e' => ho.1 k e'.symm e), fun q hq => own_same (h.paces q hq) fun k e => hg.block k (h.lt (.inr ⟨q, hq, e⟩)).2 (fun e' => ho.2 q hq k e'.symm e), h.off, h.apart⟩

set_option maxRecDepth 100000 in
set_option maxHeartbeats 4000000 in
theorem markSmithy_any {n₀ : Nat} {w : World} {v0 v1 v2 v3 v4 : Value} {m : SmyV} {qs : List (RoomV × Value)} (k : Int) (h : FullSmy n₀ w v0 v1 v2 v3 v4 m qs) (hs : SmySmall m) (hn : n₀ ≤ w.heap.size) (hk0 : 0 ≤ k) (hk1 : k ≤ 1000000000) :
    Calls Tryz.prog 32 #[.agg #[v0, v1, v2, v3, v4, .int .i64 m.now], .int .i64 k] w fun e w' => e = .returned (.int .i64 (endM k m qs)) ∧ FullSmy n₀ w' v0 v1 v2 v3 v4 (markM k m qs) (markQ k qs) ∧ SmyOnly v0 v1 v2 v3 v4 qs w w' := by
  obtain ⟨sq, sp⟩ := small_qs hs.rooms h.rooms
  obtain ⟨e0, e1⟩ := kEnd_all sq sp k
  have Sp := hide sp
  obtain ⟨_, s1, s2, s3, s4⟩ := hs
  have hql : qs.length = m.rooms.length := by rw [← h.rooms, List.length_map]
  have Hf := hide h
  have Ha := hide (h.below ((Below.refl _ _).alloc (Nat.le_refl _) (.cells #[v0, v1, v2, v3, v4, .int .i64 m.now] 32)))
  obtain ⟨a0, p0, rfl⟩ := h.hall.shape
  obtain ⟨a1, p1, rfl⟩ := RecAt.shape h.guilds
  obtain ⟨a2, p2, rfl⟩ := RecAt.shape h.smiths
  obtain ⟨a3, p3, rfl⟩ := RecAt.shape h.desks
  obtain ⟨a4, p4, rfl⟩ := RecAt.shape h.paces
  rw [hql] at *
  clear h sp hql
  unfold endM
  generalize hke : kEnd k qs = ke at *
  have Hke := hide hke
  clear hke
  go_enter Tryz.func32, Tryz.ntmps32
  go_wp2_with fail
  have kb : Hid (Blk (w.alloc (.cells #[.slice a0 m.rooms.length p0, .slice a1 m.guilds.length p1, .slice a2 m.smiths.length p2, .slice a3 m.desks.length p3, .slice a4 m.paces.length p4, .int .i64 m.now] 32)) w.heap.size 32 #[.slice a0 m.rooms.length p0, .slice a1 m.guilds.length p1, .slice a2 m.smiths.length p2, .slice a3 m.desks.length p3, .slice a4 m.paces.length p4, .int .i64 m.now]) := hide (Blk.new w _ _)
  have OO : Hid (SmyOnly (.slice a0 m.rooms.length p0) (.slice a1 m.guilds.length p1) (.slice a2 m.smiths.length p2) (.slice a3 m.desks.length p3) (.slice a4 m.paces.length p4) qs w (w.alloc (.cells #[.slice a0 m.rooms.length p0, .slice a1 m.guilds.length p1, .slice a2 m.smiths.length p2, .slice a3 m.desks.length p3, .slice a4 m.paces.length p4, .int .i64 m.now] 32))) := hide ⟨rfl, rfl, rfl, by simp, fun k hk _ _ _ _ _ _ => Below.heap_alloc w _ k hk⟩
  have Ln : Hid (∀ b, ((Value.slice a0 m.rooms.length p0).ownBlock = some b ∨ ∃ q ∈ qs, q.2.ownBlock = some b) → b < w.heap.size) := hide (fun b e => ((unhide Hf).hall.lt e).2)
  have L1 : Hid (∀ b, (Value.slice a1 m.guilds.length p1).ownBlock = some b → b < w.heap.size) := hide (fun b e => (RecAt.lt (unhide Hf).guilds e).2)
  have L2 : Hid (∀ b, (Value.slice a2 m.smiths.length p2).ownBlock = some b → b < w.heap.size) := hide (fun b e => (RecAt.lt (unhide Hf).smiths e).2)
  have L3 : Hid (∀ b, (Value.slice a3 m.desks.length p3).ownBlock = some b → b < w.heap.size) := hide (fun b e => (RecAt.lt (unhide Hf).desks e).2)
  have L4 : Hid (∀ b, (Value.slice a4 m.paces.length p4).ownBlock = some b → b < w.heap.size) := hide (fun b e => (RecAt.lt (unhide Hf).paces e).2)
  have n0 := hide (unhide Ha).hall
  have n1 := hide (unhide Ha).guilds
  have n2 := hide (unhide Ha).smiths
  have n3 := hide (unhide Ha).desks
  have n4 := hide (unhide Ha).paces
  have hsz : w.heap.size < (w.alloc (.cells #[.slice a0 m.rooms.length p0, .slice a1 m.guilds.length p1, .slice a2 m.smiths.length p2, .slice a3 m.desks.length p3, .slice a4 m.paces.length p4, .int .i64 m.now] 32)).heap.size := (unhide kb).lt
  clear Ha
  generalize w.alloc (.cells #[.slice a0 m.rooms.length p0, .slice a1 m.guilds.length p1, .slice a2 m.smiths.length p2, .slice a3 m.desks.length p3, .slice a4 m.paces.length p4, .int .i64 m.now] 32) = W at *
  refine (markHall_any k (unhide n0) (by omega) hk0 hk1 (by omega) (unhide Sp)).mono ?_
  rintro e w1 ⟨rfl, ho, hb⟩
  rw [unhide Hke]
  replace n0 := hide ho
  replace n1 := hide (RecAt.same (unhide n1) fun b e => hb.block b (RecAt.lt (unhide n1) e).2 ((unhide Hf).h1.1 b e) (fun q hq => (unhide Hf).h1.2 q hq b e))
  replace n2 := hide (RecAt.same (unhide n2) fun b e => hb.block b (RecAt.lt (unhide n2) e).2 ((unhide Hf).h2.1 b e) (fun q hq => (unhide Hf).h2.2 q hq b e))
  replace n3 := hide (RecAt.same (unhide n3) fun b e => hb.block b (RecAt.lt (unhide n3) e).2 ((unhide Hf).h3.1 b e) (fun q hq => (unhide Hf).h3.2 q hq b e))
  replace n4 := hide (RecAt.same (unhide n4) fun b e => hb.block b (RecAt.lt (unhide n4) e).2 ((unhide Hf).h4.1 b e) (fun q hq => (unhide Hf).h4.2 q hq b e))
  replace kb := hide ((unhide kb).same (hb.block w.heap.size hsz (fun e => by have := unhide Ln _ (.inl e); omega) (fun q hq e => by have := unhide Ln _ (.inr ⟨q, hq, e⟩); omega)))
  replace OO := hide (⟨hb.os.trans (unhide OO).os, hb.tape.trans (unhide OO).tape, hb.output.trans (unhide OO).output, Nat.le_trans (unhide OO).size hb.size, fun k hk h0 hq h1 h2 h3 h4 => (hb.block k (Nat.lt_of_lt_of_le hk (unhide OO).size) h0 hq).trans ((unhide OO).block k hk h0 hq h1 h2 h3 h4)⟩ : SmyOnly _ _ _ _ _ qs w w1)
  replace hsz : w.heap.size < w1.heap.size := Nat.lt_of_lt_of_le hsz hb.size
  clear ho hb
  have c1 := (unhide kb).cell (i := 1) (v := .slice a1 m.guilds.length p1) rfl
  go_wp2_with fail
  clear c1
  refine (markGuildS_any (ke) (unhide n1) (by omega) (by omega) (by omega)).mono ?_
  rintro e w2 ⟨rfl, ho, hg⟩
  have hlt1 := fun b e => unhide L1 b e
  replace n0 := hide (OwnHall.keep (unhide n0) hg ((unhide Hf).h1.marked k))
  replace n2 := hide (RecAt.grown (unhide n2) hg (fun b e => fun e2 => ((unhide Hf).a12).symm b e e2))
  replace n3 := hide (RecAt.grown (unhide n3) hg (fun b e => fun e2 => ((unhide Hf).a13).symm b e e2))
  replace n4 := hide (RecAt.grown (unhide n4) hg (fun b e => fun e2 => ((unhide Hf).a14).symm b e e2))
  replace n1 := hide ho
  replace kb := hide ((unhide kb).same (hg.block w.heap.size hsz (fun e => by have := hlt1 _ e.symm; omega)))
  replace OO := hide (⟨hg.os.trans (unhide OO).os, hg.tape.trans (unhide OO).tape, hg.output.trans (unhide OO).output, Nat.le_trans (unhide OO).size hg.size, fun k hk h0 hq h1 h2 h3 h4 => (hg.block k (Nat.lt_of_lt_of_le hk (unhide OO).size) (fun e => h1 e.symm)).trans ((unhide OO).block k hk h0 hq h1 h2 h3 h4)⟩ : SmyOnly _ _ _ _ _ qs w w2)
  replace hsz : w.heap.size < w2.heap.size := Nat.lt_of_lt_of_le hsz hg.size
  clear ho hg hlt1
  have c2 := (unhide kb).cell (i := 2) (v := .slice a2 m.smiths.length p2) rfl
  go_wp2_with fail
  clear c2
  refine (markSmithS_any (ke + 3 * (m.guilds.length : Int)) (unhide n2) (by omega) (by omega) (by omega)).mono ?_
  rintro e w3 ⟨rfl, ho, hg⟩
  have hlt2 := fun b e => unhide L2 b e
  replace n0 := hide (OwnHall.keep (unhide n0) hg ((unhide Hf).h2.marked k))
  replace n1 := hide (RecAt.grown (unhide n1) hg (fun b e => fun e2 => (unhide Hf).a12 b e e2))
  replace n3 := hide (RecAt.grown (unhide n3) hg (fun b e => fun e2 => ((unhide Hf).a23).symm b e e2))
  replace n4 := hide (RecAt.grown (unhide n4) hg (fun b e => fun e2 => ((unhide Hf).a24).symm b e e2))
  replace n2 := hide ho
  replace kb := hide ((unhide kb).same (hg.block w.heap.size hsz (fun e => by have := hlt2 _ e.symm; omega)))
  replace OO := hide (⟨hg.os.trans (unhide OO).os, hg.tape.trans (unhide OO).tape, hg.output.trans (unhide OO).output, Nat.le_trans (unhide OO).size hg.size, fun k hk h0 hq h1 h2 h3 h4 => (hg.block k (Nat.lt_of_lt_of_le hk (unhide OO).size) (fun e => h2 e.symm)).trans ((unhide OO).block k hk h0 hq h1 h2 h3 h4)⟩ : SmyOnly _ _ _ _ _ qs w w3)
  replace hsz : w.heap.size < w3.heap.size := Nat.lt_of_lt_of_le hsz hg.size
  clear ho hg hlt2
  have c3 := (unhide kb).cell (i := 3) (v := .slice a3 m.desks.length p3) rfl
  go_wp2_with fail
  clear c3
  refine (markDeskS_any (ke + 3 * (m.guilds.length : Int) + 11 * (m.smiths.length : Int)) (unhide n3) (by omega) (by omega) (by omega)).mono ?_
  rintro e w4 ⟨rfl, ho, hg⟩
  have hlt3 := fun b e => unhide L3 b e
  replace n0 := hide (OwnHall.keep (unhide n0) hg ((unhide Hf).h3.marked k))
  replace n1 := hide (RecAt.grown (unhide n1) hg (fun b e => fun e2 => (unhide Hf).a13 b e e2))
  replace n2 := hide (RecAt.grown (unhide n2) hg (fun b e => fun e2 => (unhide Hf).a23 b e e2))
  replace n4 := hide (RecAt.grown (unhide n4) hg (fun b e => fun e2 => ((unhide Hf).a34).symm b e e2))
  replace n3 := hide ho
  replace kb := hide ((unhide kb).same (hg.block w.heap.size hsz (fun e => by have := hlt3 _ e.symm; omega)))
  replace OO := hide (⟨hg.os.trans (unhide OO).os, hg.tape.trans (unhide OO).tape, hg.output.trans (unhide OO).output, Nat.le_trans (unhide OO).size hg.size, fun k hk h0 hq h1 h2 h3 h4 => (hg.block k (Nat.lt_of_lt_of_le hk (unhide OO).size) (fun e => h3 e.symm)).trans ((unhide OO).block k hk h0 hq h1 h2 h3 h4)⟩ : SmyOnly _ _ _ _ _ qs w w4)
  replace hsz : w.heap.size < w4.heap.size := Nat.lt_of_lt_of_le hsz hg.size
  clear ho hg hlt3
  have c4 := (unhide kb).cell (i := 4) (v := .slice a4 m.paces.length p4) rfl
  go_wp2_with fail
  clear c4
  refine (markNums_any (ke + 3 * (m.guilds.length : Int) + 11 * (m.smiths.length : Int) + 3 * (m.desks.length : Int)) (unhide n4) (by omega) (by omega) (by omega)).mono ?_
  rintro e w5 ⟨rfl, ho, hg⟩
  have hlt4 := fun b e => unhide L4 b e
  replace n0 := hide (OwnHall.keep (unhide n0) hg ((unhide Hf).h4.marked k))
  replace n1 := hide (RecAt.grown (unhide n1) hg (fun b e => fun e2 => (unhide Hf).a14 b e e2))
  replace n2 := hide (RecAt.grown (unhide n2) hg (fun b e => fun e2 => (unhide Hf).a24 b e e2))
  replace n3 := hide (RecAt.grown (unhide n3) hg (fun b e => fun e2 => (unhide Hf).a34 b e e2))
  replace n4 := hide ho
  replace kb := hide ((unhide kb).same (hg.block w.heap.size hsz (fun e => by have := hlt4 _ e.symm; omega)))
  replace OO := hide (⟨hg.os.trans (unhide OO).os, hg.tape.trans (unhide OO).tape, hg.output.trans (unhide OO).output, Nat.le_trans (unhide OO).size hg.size, fun k hk h0 hq h1 h2 h3 h4 => (hg.block k (Nat.lt_of_lt_of_le hk (unhide OO).size) (fun e => h4 e.symm)).trans ((unhide OO).block k hk h0 hq h1 h2 h3 h4)⟩ : SmyOnly _ _ _ _ _ qs w w5)
  replace hsz : w.heap.size < w5.heap.size := Nat.lt_of_lt_of_le hsz hg.size
  clear ho hg hlt4
  go_wp2_with fail
  go_ret
  refine ⟨rfl, ⟨unhide n0, rfl, ?_, ?_, ?_, ?_, (unhide Hf).h1.marked k, (unhide Hf).h2.marked k, (unhide Hf).h3.marked k, (unhide Hf).h4.marked k, (unhide Hf).a12, (unhide Hf).a13, (unhide Hf).a14, (unhide Hf).a23, (unhide Hf).a24, (unhide Hf).a34⟩, unhide OO⟩
  · show RecAt _ _ _ _ _ _ (markM k m qs).guilds
    unfold markM
    rw [unhide Hke]
    exact unhide n1
  · show RecAt _ _ _ _ _ _ (markM k m qs).smiths
    unfold markM
    rw [unhide Hke]
    exact unhide n2
  · show RecAt _ _ _ _ _ _ (markM k m qs).desks
    unfold markM
    rw [unhide Hke]
    exact unhide n3
  · show RecAt _ _ _ _ _ _ (markM k m qs).paces
    unfold markM
    rw [unhide Hke]
    exact unhide n4

set_option maxRecDepth 100000 in
set_option maxHeartbeats 4000000 in
theorem heldSmithy_yes {n₀ : Nat} {w : World} {v0 v1 v2 v3 v4 : Value} {m : SmyV} {qs : List (RoomV × Value)} (k : Int) (h : FullSmy n₀ w v0 v1 v2 v3 v4 (markM k m qs) (markQ k qs)) (hr : Small m.rooms) (hm : qs.map (·.1) = m.rooms) (hs : SmySmall m) (hk0 : 0 ≤ k) (hk1 : k ≤ 1000000000) :
    Calls Tryz.prog 33 #[.agg #[v0, v1, v2, v3, v4, .int .i64 m.now], .int .i64 k] w fun e w' => e = .returned (.int .i64 (endM k m qs)) ∧ Below w.heap.size w w' := by
  obtain ⟨sq, sp⟩ := small_qs hr hm
  obtain ⟨e0, e1⟩ := kEnd_all sq sp k
  have Sp := hide sp
  obtain ⟨_, s1, s2, s3, s4⟩ := hs
  have Hf := hide h
  obtain ⟨a0, p0, rfl⟩ := h.hall.shape
  obtain ⟨a1, p1, rfl⟩ := RecAt.shape h.guilds
  obtain ⟨a2, p2, rfl⟩ := RecAt.shape h.smiths
  obtain ⟨a3, p3, rfl⟩ := RecAt.shape h.desks
  obtain ⟨a4, p4, rfl⟩ := RecAt.shape h.paces
  have l0 : (markQ k qs).length = m.rooms.length := by rw [markQ_len, ← hm, List.length_map]
  have l1 : (markM k m qs).guilds.length = m.guilds.length := markL_len _ _ _ _
  have l2 : (markM k m qs).smiths.length = m.smiths.length := markL_len _ _ _ _
  have l3 : (markM k m qs).desks.length = m.desks.length := markL_len _ _ _ _
  have l4 : (markM k m qs).paces.length = m.paces.length := marks_len _ _
  rw [l0, l1, l2, l3, l4] at Hf ⊢
  clear h sp l0 l1 l2 l3 l4
  unfold endM
  have G1 : Hid (∀ w', Below w.heap.size w w' → IsGuilds w' (.slice a1 m.guilds.length p1) (markL mkGuild 3 (kEnd k qs) m.guilds.length)) := hide fun w' hb => GuildsAt.list (RecAt.later (unhide Hf).guilds hb)
  have G2 : Hid (∀ w', Below w.heap.size w w' → IsSmiths w' (.slice a2 m.smiths.length p2) (markL mkSmith 11 (kEnd k qs + 3 * (m.guilds.length : Int)) m.smiths.length)) := hide fun w' hb => SmithsAt.list (RecAt.later (unhide Hf).smiths hb)
  have G3 : Hid (∀ w', Below w.heap.size w w' → IsDesks w' (.slice a3 m.desks.length p3) (markL mkDesk 3 (kEnd k qs + 3 * (m.guilds.length : Int) + 11 * (m.smiths.length : Int)) m.desks.length)) := hide fun w' hb => DesksAt.list (RecAt.later (unhide Hf).desks hb)
  have G4 : Hid (∀ w', Below w.heap.size w w' → NumsAt n₀ w' (.slice a4 m.paces.length p4) (marks (kEnd k qs + 3 * (m.guilds.length : Int) + 11 * (m.smiths.length : Int) + 3 * (m.desks.length : Int)) m.paces.length)) := hide fun w' hb => RecAt.later (unhide Hf).paces hb
  have G0 : Hid (∀ w', Below w.heap.size w w' → IsRooms w' (.slice a0 m.rooms.length p0) ((markQ k qs).map (·.1))) := hide fun w' hb => ((unhide Hf).hall.later hb).rooms
  have HH := hide (fun (w' : World) (h9 : IsRooms w' (.slice a0 m.rooms.length p0) ((markQ k qs).map (·.1))) => heldHall_yes k h9 hk0 hk1 sq (unhide Sp))
  generalize kEnd k qs = ke at *
  go_enter Tryz.func33, Tryz.ntmps33
  go_wp2_with fail
  have kb : Hid (Blk (w.alloc (.cells #[.slice a0 m.rooms.length p0, .slice a1 m.guilds.length p1, .slice a2 m.smiths.length p2, .slice a3 m.desks.length p3, .slice a4 m.paces.length p4, .int .i64 m.now] 32)) w.heap.size 32 #[.slice a0 m.rooms.length p0, .slice a1 m.guilds.length p1, .slice a2 m.smiths.length p2, .slice a3 m.desks.length p3, .slice a4 m.paces.length p4, .int .i64 m.now]) := hide (Blk.new w _ _)
  have BB : Hid (Below w.heap.size w (w.alloc (.cells #[.slice a0 m.rooms.length p0, .slice a1 m.guilds.length p1, .slice a2 m.smiths.length p2, .slice a3 m.desks.length p3, .slice a4 m.paces.length p4, .int .i64 m.now] 32))) := hide ((Below.refl _ _).alloc (Nat.le_refl _) _)
  generalize w.alloc (.cells #[.slice a0 m.rooms.length p0, .slice a1 m.guilds.length p1, .slice a2 m.smiths.length p2, .slice a3 m.desks.length p3, .slice a4 m.paces.length p4, .int .i64 m.now] 32) = W at *
  refine (unhide HH _ (unhide G0 _ (unhide BB))).mono ?_
  rintro e w1 ⟨rfl, hb⟩
  replace kb := hide ((unhide kb).below hb (unhide kb).lt)
  replace BB := hide ((unhide BB).trans (hb.mono (unhide BB).size))
  clear hb
  have c1 := (unhide kb).cell (i := 1) (v := .slice a1 m.guilds.length p1) rfl
  go_wp2_with fail
  clear c1
  refine (heldGuildS_yes (ke) _ (unhide G1 _ (unhide BB)) (by omega) (by omega) (by omega)).mono ?_
  rintro e w' ⟨rfl, h9⟩
  subst w'
  have c2 := (unhide kb).cell (i := 2) (v := .slice a2 m.smiths.length p2) rfl
  go_wp2_with fail
  clear c2
  refine (heldSmithS_yes (ke + 3 * (m.guilds.length : Int)) _ (unhide G2 _ (unhide BB)) (by omega) (by omega) (by omega)).mono ?_
  rintro e w' ⟨rfl, h9⟩
  subst w'
  have c3 := (unhide kb).cell (i := 3) (v := .slice a3 m.desks.length p3) rfl
  go_wp2_with fail
  clear c3
  refine (heldDeskS_yes (ke + 3 * (m.guilds.length : Int) + 11 * (m.smiths.length : Int)) _ (unhide G3 _ (unhide BB)) (by omega) (by omega) (by omega)).mono ?_
  rintro e w' ⟨rfl, h9⟩
  subst w'
  have c4 := (unhide kb).cell (i := 4) (v := .slice a4 m.paces.length p4) rfl
  go_wp2_with fail
  clear c4
  refine (heldNums_yes (ke + 3 * (m.guilds.length : Int) + 11 * (m.smiths.length : Int) + 3 * (m.desks.length : Int)) _ (unhide G4 _ (unhide BB)) (by omega) (by omega) (by omega)).mono ?_
  rintro e w' ⟨rfl, h9⟩
  subst w'
  go_wp2_with fail
  go_ret
  exact ⟨rfl, unhide BB⟩

end Go.Proofs.YthbbahagpmdooaaGreatDoor

/- Which blocks are a smithy's own, and what stays where these stay. No condition but those that a theorem names. -/
namespace Go.Proofs.YthbbahagpmdooaaGreatDoor
open Go.ChangeShapes Go.WideShapes Go.ChangeAt Go.RowKit Go.Sort
set_option linter.unusedVariables false

/-- Block k is one of the smithy's own. -/
def OwnB (v0 v1 v2 v3 v4 : Value) (qs : List (RoomV × Value)) (k : Nat) : Prop := v0.ownBlock = some k ∨ (∃ q ∈ qs, q.2.ownBlock = some k) ∨ v1.ownBlock = some k ∨ v2.ownBlock = some k ∨ v3.ownBlock = some k ∨ v4.ownBlock = some k
section
variable {n₀ : Nat} {w w' : World} {v0 v1 v2 v3 v4 : Value} {m : SmyV} {qs : List (RoomV × Value)}
theorem FullSmy.own (h : FullSmy n₀ w v0 v1 v2 v3 v4 m qs) {k : Nat} (e : OwnB v0 v1 v2 v3 v4 qs k) : n₀ ≤ k ∧ k < w.heap.size := by
  rcases e with e | e | e | e | e | e
  · exact h.hall.lt (.inl e)
  · exact h.hall.lt (.inr e)
  · exact RecAt.lt h.guilds e
  · exact RecAt.lt h.smiths e
  · exact RecAt.lt h.desks e
  · exact RecAt.lt h.paces e
theorem FullSmy.keep (h : FullSmy n₀ w v0 v1 v2 v3 v4 m qs) (hs : ∀ k, OwnB v0 v1 v2 v3 v4 qs k → w'.heap[k]? = w.heap[k]?) : FullSmy n₀ w' v0 v1 v2 v3 v4 m qs :=
  ⟨⟨own_same h.hall.row (fun k e => hs k (.inl e)), fun q hq => own_same (h.hall.paces q hq) (fun k e => hs k (.inr (.inl ⟨q, hq, e⟩))), h.hall.off, h.hall.apart⟩, h.rooms, RecAt.same h.guilds fun k e => hs k (.inr (.inr (.inl e))), RecAt.same h.smiths fun k e => hs k (.inr (.inr (.inr (.inl e)))), RecAt.same h.desks fun k e => hs k (.inr (.inr (.inr (.inr (.inl e))))), RecAt.same h.paces fun k e => hs k (.inr (.inr (.inr (.inr (.inr e))))), h.h1, h.h2, h.h3, h.h4, h.a12, h.a13, h.a14, h.a23, h.a24, h.a34⟩
end

end Go.Proofs.YthbbahagpmdooaaGreatDoor

/- For the laws' frames over smithies: which blocks are a smithy's own, and what stays where only these differ. No condition but those that a theorem names. -/
namespace Go.Proofs.YthbbahagpmdooaaGreatDoor
open Go.ChangeShapes Go.WideShapes Go.ChangeAt Go.RowKit Go.Sort
set_option linter.unusedVariables false

section
variable {w w' : World}
theorem SmyOnly.at {u0 u1 u2 u3 u4 : Value} {rs : List (RoomV × Value)} (h : SmyOnly u0 u1 u2 u3 u4 rs w w') {k : Nat} (hk : k < w.heap.size) (hn : ¬ OwnB u0 u1 u2 u3 u4 rs k) : w'.heap[k]? = w.heap[k]? :=
  h.block k hk (fun e => hn (.inl e)) (fun q hq e => hn (.inr (.inl ⟨q, hq, e⟩))) (fun e => hn (.inr (.inr (.inl e)))) (fun e => hn (.inr (.inr (.inr (.inl e))))) (fun e => hn (.inr (.inr (.inr (.inr (.inl e)))))) (fun e => hn (.inr (.inr (.inr (.inr (.inr e))))))
theorem SmyOnly.below {u0 u1 u2 u3 u4 : Value} {rs : List (RoomV × Value)} {B : Nat} (h : SmyOnly u0 u1 u2 u3 u4 rs w w') (hB : B ≤ w.heap.size) (ho : ∀ k, OwnB u0 u1 u2 u3 u4 rs k → B ≤ k) : Below B w w' :=
  ⟨h.os, h.tape, h.output, h.size, fun k hk => h.at (by omega) (fun e => by have := ho k e; omega)⟩
end
theorem endM_bd {m : SmyV} {qs : List (RoomV × Value)} (hs : SmySmall m) (hm : qs.map (·.1) = m.rooms) : 1 ≤ endM 1 m qs ∧ endM 1 m qs ≤ 10000000000000 := by
  obtain ⟨sq, sp⟩ := small_qs hs.rooms hm
  obtain ⟨e0, e1⟩ := kEnd_all sq sp 1
  obtain ⟨_, s1, s2, s3, s4⟩ := hs
  unfold endM
  omega

end Go.Proofs.YthbbahagpmdooaaGreatDoor

/- Closed facts of the program's tables for errors.Is and errors.As: what the types and method sets give. No condition. -/
namespace Go.Proofs.YthbbahagpmdooaaGreatDoor
open Go.ChangeShapes Go.WideShapes Go.ChangeAt Go.RowKit
set_option linter.unusedVariables false
set_option linter.unusedSimpArgs false

/-- A sentinel; a refusal that lies at the head of a block. -/
abbrev sent (a : Addr) : Value := .iface 331 (.pointer (some a))
abbrev refu (b : Nat) : Value := .iface 112 (.pointer (some ⟨b, 0, none⟩))
abbrev rty (t : Nat) : Value := .iface 221 (.agg #[.pointer (some ⟨5, t, none⟩)])

theorem tyE (v : Value) (w : World) : (callFunc 209 #[.iface 331 v]).run Tryz.prog w = .ok (.value (rty 331)) w := by
  rw [@run_callFunc_extern Tryz.prog 209 _ Extern.ReflectliteType.typeOf Tryz.func209 (by kernel_rfl) (by kernel_rfl) (by kernel_rfl) (by kernel_rfl)]
  kernel_rfl
theorem tyR (v : Value) (w : World) : (callFunc 209 #[.iface 112 v]).run Tryz.prog w = .ok (.value (rty 112)) w := by
  rw [@run_callFunc_extern Tryz.prog 209 _ Extern.ReflectliteType.typeOf Tryz.func209 (by kernel_rfl) (by kernel_rfl) (by kernel_rfl) (by kernel_rfl)]
  kernel_rfl
theorem mCmp (v : Value) (w : World) : (method 471 221 v "Comparable").run Tryz.prog w = .ok (372, v) w := by kernel_rfl
theorem cmpE (w : World) : (callFunc 372 #[.agg #[.pointer (some ⟨5, 331, none⟩)]]).run Tryz.prog w = .ok (.value (.bool true)) w := by
  rw [@run_callFunc_extern Tryz.prog 372 _ (Extern.ReflectliteType.method fun t => do Extern.Rtype.noPackHeld "Comparable" t; pure (.bool (← typeInfo t).comparable)) Tryz.func372 (by kernel_rfl) (by kernel_rfl) (by kernel_rfl) (by kernel_rfl)]
  kernel_rfl
theorem isComp : (Tryz.prog.info? 331).map (·.comparable) = some true := by kernel_rfl
theorem isSize : (Tryz.prog.info? 358).map (·.size) = some 1 := by kernel_rfl

theorem noIsE (v : Value) (xT : TypeId) (w : World) : (Instr.typeAssert (.iface 331 v) xT 268 true).run Tryz.prog w = .ok (.tuple #[.nilIface, .bool false]) w := run_typeAssert_lacksB Tryz.underlying268 (by kernel_rfl) (by kernel_rfl) v xT w
theorem noUnwrapE (v : Value) (xT : TypeId) (w : World) : (Instr.typeAssert (.iface 331 v) xT 229 true).run Tryz.prog w = .ok (.tuple #[.nilIface, .bool false]) w := run_typeAssert_lacksB Tryz.underlying229 (by kernel_rfl) (by kernel_rfl) v xT w
theorem noUnwrapsE (v : Value) (xT : TypeId) (w : World) : (Instr.typeAssert (.iface 331 v) xT 231 true).run Tryz.prog w = .ok (.tuple #[.nilIface, .bool false]) w := run_typeAssert_lacksB Tryz.underlying231 (by kernel_rfl) (by kernel_rfl) v xT w
theorem noIsR (v : Value) (xT : TypeId) (w : World) : (Instr.typeAssert (.iface 112 v) xT 268 true).run Tryz.prog w = .ok (.tuple #[.nilIface, .bool false]) w := run_typeAssert_lacksB Tryz.underlying268 (by kernel_rfl) (by kernel_rfl) v xT w
theorem hasUnwrapR (v : Value) (xT : TypeId) (w : World) : (Instr.typeAssert (.iface 112 v) xT 229 true).run Tryz.prog w = .ok (.tuple #[.iface 112 v, .bool true]) w := run_typeAssert_hasB Tryz.underlying229 (by kernel_rfl) v xT w
theorem mUnwrap (v : Value) (w : World) : (method 471 112 v "Unwrap").run Tryz.prog w = .ok (360, v) w := by kernel_rfl

end Go.Proofs.YthbbahagpmdooaaGreatDoor

/- errors.Is by its contracts, for what the program hands it: a sentinel of errors.New's make, one that a refusal wraps. Conditions: those that each theorem names. -/
namespace Go.Proofs.YthbbahagpmdooaaGreatDoor
open Go.ChangeShapes Go.WideShapes Go.ChangeAt Go.RowKit
set_option linter.unusedVariables false
set_option linter.unusedSimpArgs false

theorem is_other {a b : Addr} {ca cb : Array Value} {ta tb : TypeId} (w : World) (hne : a ≠ b) (ha : w.heap[a.block]? = some (.cells ca ta (0, 0))) (hb : w.heap[b.block]? = some (.cells cb tb (0, 0))) : Calls Tryz.prog 158 #[sent a, sent b] w fun e w' => e = .returned (.bool false) ∧ w' = w := by
  obtain ⟨i, hi, hcmp⟩ := Option.map_eq_some_iff.1 isComp
  obtain ⟨j, hj, hjs⟩ := Option.map_eq_some_iff.1 isSize
  have tT := tyE
  have cT := cmpE
  have mR := mCmp
  have nE := noIsE
  have uE := noUnwrapE
  have vE := noUnwrapsE
  have heq := run_eql_iface_ptr_other (P := Tryz.prog) w Tryz.underlying69 Tryz.underlying331 hi hcmp hj (by rw [hjs]; decide) hne ha hb
  go_enter Tryz.func158, Tryz.ntmps158
  go_wp2
  refine wp_loop_rounds 1 ?_
  rw [rounds_succ]
  go_wp2
  go_ret
  exact ⟨rfl, rfl⟩
theorem is_wrap_same (pb : Nat) (b : Addr) (w : World) (h1 : w.cell? ⟨pb, 6, none⟩ = some (sent b)) : Calls Tryz.prog 158 #[refu pb, sent b] w fun e w' => e = .returned (.bool true) ∧ w' = w := by
  obtain ⟨i, hi, hcmp⟩ := Option.map_eq_some_iff.1 isComp
  obtain ⟨j, hj, hjs⟩ := Option.map_eq_some_iff.1 isSize
  have tT := tyE
  have cT := cmpE
  have mR := mCmp
  have nW := noIsR
  have uW := hasUnwrapR
  have mU := mUnwrap
  have heq := run_eql_iface_ptr_same (P := Tryz.prog) w b Tryz.underlying69 Tryz.underlying331 hi hcmp hj
  have hty := run_eql_iface_types (P := Tryz.prog) 112 331 (.pointer (some ⟨pb, 0, none⟩)) (.pointer (some b)) Tryz.underlying69 (by decide) w
  go_enter Tryz.func158, Tryz.ntmps158
  go_wp2
  refine wp_loop_rounds 2 ?_
  rw [rounds_succ]
  go_wp2
  rw [rounds_succ]
  go_wp2
  go_ret
  exact ⟨rfl, rfl⟩
theorem is_wrap_other (pb : Nat) {a b : Addr} {ca cb : Array Value} {ta tb : TypeId} (w : World) (h1 : w.cell? ⟨pb, 6, none⟩ = some (sent a)) (hne : a ≠ b) (ha : w.heap[a.block]? = some (.cells ca ta (0, 0))) (hb : w.heap[b.block]? = some (.cells cb tb (0, 0))) : Calls Tryz.prog 158 #[refu pb, sent b] w fun e w' => e = .returned (.bool false) ∧ w' = w := by
  obtain ⟨i, hi, hcmp⟩ := Option.map_eq_some_iff.1 isComp
  obtain ⟨j, hj, hjs⟩ := Option.map_eq_some_iff.1 isSize
  have tT := tyE
  have cT := cmpE
  have mR := mCmp
  have nE := noIsE
  have uE := noUnwrapE
  have vE := noUnwrapsE
  have nW := noIsR
  have uW := hasUnwrapR
  have mU := mUnwrap
  have heq := run_eql_iface_ptr_other (P := Tryz.prog) w Tryz.underlying69 Tryz.underlying331 hi hcmp hj (by rw [hjs]; decide) hne ha hb
  have hty := run_eql_iface_types (P := Tryz.prog) 112 331 (.pointer (some ⟨pb, 0, none⟩)) (.pointer (some b)) Tryz.underlying69 (by decide) w
  go_enter Tryz.func158, Tryz.ntmps158
  go_wp2
  refine wp_loop_rounds 2 ?_
  rw [rounds_succ]
  go_wp2
  rw [rounds_succ]
  go_wp2
  go_ret
  exact ⟨rfl, rfl⟩

end Go.Proofs.YthbbahagpmdooaaGreatDoor

