/- What the proof rests on, part 14: lists and numbers, how they lie in memory, and contracts of the calls. No condition but those that a theorem names. -/
import Derived.Test.YthbbahagpmdooaaGreatDoorXr01
import Derived.Test.YthbbahagpmdooaaGreatDoorXr02
import Derived.Test.YthbbahagpmdooaaGreatDoorXr03
import Derived.Test.YthbbahagpmdooaaGreatDoorXr06
import Derived.Test.YthbbahagpmdooaaGreatDoorXr07
import Derived.Test.YthbbahagpmdooaaGreatDoorXr08
import Derived.Test.YthbbahagpmdooaaGreatDoorXr10
import Derived.Test.YthbbahagpmdooaaGreatDoorXr13
import Derived.ChangeKeysEq
import Derived.Laws.StructEq
import Derived.WalkMore
import Derived.Below
import Derived.WalkKit
import Derived.ProofKit
import Derived.OpenShut
import Derived.Outline
import Derived.Lib.QuietBelow
import Derived.Deep.RegionWith
import Derived.Deep.QuietTactic
import Derived.BigQuiet
import Derived.Laws.OwnMore
import Derived.OwnWalk
import Derived.RangeFuncNested
import Derived.RangeFuncBound
import Derived.RangeFuncCalls
import Derived.RangeFuncLeaves
import Derived.RangeFuncBox
import Derived.Shelf.Abstract
import Derived.Shelf.RegionOpen
import Derived.OwnWalkIn
import Derived.TacticsInMore
import Derived.LoopNIn
import Derived.LoopIn
import Derived.Maps.AppendAt
import Derived.Lib.SmallJoins
/- The program's side of chapter 9, up to SmithOk: contracts of the checks of a smith and of its shape. No condition. -/
namespace Go.Proofs.YthbbahagpmdooaaGreatDoor
open Go.ChangeShapes Go.WideShapes Go.ChangeAt Go.RowKit Go.Sort
set_option linter.unusedVariables false

theorem first_all : ∀ k : Fin 256, (firstMV (k.val : Int) != -1) = inB (k.val : Int) 1 255 := by decide +kernel
theorem first_may (s : Int) : (firstMV s != -1) = inB s 1 255 := by
  cases h : inB s 0 255
  · have hf : firstMV s = -1 := by unfold firstMV mems; rw [upto_none h]; rfl
    have h2 : s < 0 ∨ 255 < s := by
      rcases Int.lt_or_le s 0 with h1 | h1
      · exact .inl h1
      · rcases Int.lt_or_le 255 s with h2 | h2
        · exact .inr h2
        · rw [inB_t h1 h2] at h; cases h
    rw [hf, inB_f (by omega)]; rfl
  · obtain ⟨h0, h1⟩ := inB_of h
    obtain ⟨n, rfl⟩ := Int.eq_ofNat_of_zero_le h0
    exact first_all ⟨n, by omega⟩

theorem implFirstOf_v {s f : Int} (h : firstMV s = f) (w : World) : Calls Tryz.prog 300 #[.int .i64 s] w fun e w' => e = .returned (.int .i64 f) ∧ Below w.heap.size w w' := by
  have := implFirstOf_any s w; rw [h] at this; exact this
theorem isMay_any (s : Int) (w : World) : Calls Tryz.prog 264 #[.int .i64 s] w fun e w' => e = .returned (.bool (inB s 1 255)) ∧ Below w.heap.size w w' := by
  have hf := first_may s
  obtain ⟨f, hv⟩ : ∃ f, firstMV s = f := ⟨_, rfl⟩
  have Hv := hide hv
  rw [hv] at hf
  have Hf := hide hf
  clear hf hv
  go_enter Tryz.func264, Tryz.ntmps264
  go_wp2_with fail
  refine (implFirstOf_v (unhide Hv) _).mono ?_
  rintro e w1 ⟨rfl, hb⟩
  go_wp2_with fail
  go_ret
  exact ⟨ret_bool (unhide Hf), hb⟩

theorem isCarry_any (c r : Int) (w : World) : Calls Tryz.prog 267 #[.int .i64 c, .int .i64 r] w fun e w' => e = .returned (.bool (inB c 0 (weightV r - 1))) ∧ w' = w := by
  obtain ⟨x, hv⟩ : ∃ x, weightV r = x := ⟨_, rfl⟩
  have Hv := hide hv
  rw [hv]
  clear hv
  by_cases h0 : 0 ≤ c
  · by_cases h1 : c < x
    · rw [inB_t (x := c) (lo := 0) (hi := x - 1) h0 (by omega)]
      go_enter Tryz.func267, Tryz.ntmps267
      go_wp2_with (go_at_call 301; refine (implWeightOf_v (unhide Hv) _).mono ?_; rintro e w' ⟨rfl, rfl⟩)
      go_ret
      exact ⟨rfl, rfl⟩
    · rw [inB_f (x := c) (lo := 0) (hi := x - 1) (by omega)]
      go_enter Tryz.func267, Tryz.ntmps267
      go_wp2_with (go_at_call 301; refine (implWeightOf_v (unhide Hv) _).mono ?_; rintro e w' ⟨rfl, rfl⟩)
      go_ret
      exact ⟨ret_bool (b := false) (by rw [decide_eq_false_iff_not]; omega), rfl⟩
  · rw [inB_f (x := c) (lo := 0) (hi := x - 1) (by omega)]
    go_enter Tryz.func267, Tryz.ntmps267
    go_wp2_with fail
    go_ret
    exact ⟨rfl, rfl⟩

theorem smithHad_any (n : Int) (w : World) : Calls Tryz.prog 266 #[.int .i64 n] w fun e w' => e = .returned (.bool (inB n (-1000000000000) 1000000000000)) ∧ w' = w := by
  go_enter Tryz.func266, Tryz.ntmps266
  go_wp2_with (go_at_call 189; refine (liesFrom_any _ _ _ _).mono ?_; rintro e w' ⟨rfl, rfl⟩)
  go_ret
  exact ⟨rfl, rfl⟩

theorem isCarry_v {c r : Int} {q : Bool} (h : inB c 0 (weightV r - 1) = q) (w : World) : Calls Tryz.prog 267 #[.int .i64 c, .int .i64 r] w fun e w' => e = .returned (.bool q) ∧ w' = w := by
  have := isCarry_any c r w; rw [h] at this; exact this
theorem inB_none (x : Int) : inB x 0 (0 - 1) = false := by
  refine inB_f ?_
  rcases Int.lt_or_le x 0 with h | h
  · exact .inl h
  · exact .inr (by omega)
/-- A rank that is none leaves no carry. -/
theorem presB_eq (st be rk my gu lo hi hd ca ut wk : Int) : presB (st, be, rk, my, gu, lo, hi, hd, ca, ut, wk) = (inB st 1 3 && (inB be 0 7 && (inB my 1 255 && (inB gu (-1) 5 && (pairB lo hi && (inB hd (-1000000000000) 1000000000000 && (inB ca 0 (weightV rk - 1) && (inB ut 0 1024 && (inB wk 0 100000000000))))))))) := by
  unfold presB
  simp only
  cases hr : inB rk (-5) 5
  · rw [weightV_none hr, show inB ca 0 (0 - 1) = false from inB_none ca]
    simp
  · simp only [Bool.true_and]
set_option maxRecDepth 100000 in
set_option maxHeartbeats 4000000 in
theorem isPresent_any (st be rk my gu lo hi hd ca ut wk : Int) (w : World) : Calls Tryz.prog 218 #[.agg #[.int .i64 st, .int .i64 be, .int .i64 rk, .int .i64 my, .int .i64 gu, .int .i64 lo, .int .i64 hi, .int .i64 hd, .int .i64 ca, .int .i64 ut, .int .i64 wk]] w fun e w' => e = .returned (.bool (presB (st, be, rk, my, gu, lo, hi, hd, ca, ut, wk))) ∧ Below w.heap.size w w' := by
  rw [presB_eq]
  obtain ⟨qc, hqc⟩ : ∃ q, inB ca 0 (weightV rk - 1) = q := ⟨_, rfl⟩
  have Hc := hide hqc
  rw [hqc]
  clear hqc
  cases h_st : inB st 1 3
  · go_enter Tryz.func218, Tryz.ntmps218
    go_wp2_with (first | (go_at_call 189; refine (liesFrom_any _ _ _ _).mono ?_; rintro e w' ⟨rfl, rfl⟩) | (go_at_call 237; refine (isBench_any _ _).mono ?_; rintro e w' ⟨rfl, rfl⟩) | (go_at_call 265; refine (areBounds_any _ _ _).mono ?_; rintro e w' ⟨rfl, rfl⟩) | (go_at_call 266; refine (smithHad_any _ _).mono ?_; rintro e w' ⟨rfl, rfl⟩) | (go_at_call 267; refine (isCarry_v (unhide Hc) _).mono ?_; rintro e w' ⟨rfl, rfl⟩) | (go_at_call 268; refine (isUtil_any _ _).mono ?_; rintro e w' ⟨rfl, rfl⟩))
    go_ret
    exact ⟨rfl, (Below.refl _ _).alloc (Nat.le_refl _) _⟩
  cases h_be : inB be 0 7
  · go_enter Tryz.func218, Tryz.ntmps218
    go_wp2_with (first | (go_at_call 189; refine (liesFrom_any _ _ _ _).mono ?_; rintro e w' ⟨rfl, rfl⟩) | (go_at_call 237; refine (isBench_any _ _).mono ?_; rintro e w' ⟨rfl, rfl⟩) | (go_at_call 265; refine (areBounds_any _ _ _).mono ?_; rintro e w' ⟨rfl, rfl⟩) | (go_at_call 266; refine (smithHad_any _ _).mono ?_; rintro e w' ⟨rfl, rfl⟩) | (go_at_call 267; refine (isCarry_v (unhide Hc) _).mono ?_; rintro e w' ⟨rfl, rfl⟩) | (go_at_call 268; refine (isUtil_any _ _).mono ?_; rintro e w' ⟨rfl, rfl⟩))
    go_ret
    exact ⟨rfl, (Below.refl _ _).alloc (Nat.le_refl _) _⟩
  cases h_my : inB my 1 255
  · go_enter Tryz.func218, Tryz.ntmps218
    go_wp2_with (first | (go_at_call 189; refine (liesFrom_any _ _ _ _).mono ?_; rintro e w' ⟨rfl, rfl⟩) | (go_at_call 237; refine (isBench_any _ _).mono ?_; rintro e w' ⟨rfl, rfl⟩) | (go_at_call 265; refine (areBounds_any _ _ _).mono ?_; rintro e w' ⟨rfl, rfl⟩) | (go_at_call 266; refine (smithHad_any _ _).mono ?_; rintro e w' ⟨rfl, rfl⟩) | (go_at_call 267; refine (isCarry_v (unhide Hc) _).mono ?_; rintro e w' ⟨rfl, rfl⟩) | (go_at_call 268; refine (isUtil_any _ _).mono ?_; rintro e w' ⟨rfl, rfl⟩))
    refine (isMay_any _ _).mono ?_
    rintro e w1 ⟨rfl, hb⟩
    have c2 : w1.cell? ⟨w.heap.size, 2, none⟩ = some (.int .i64 rk) := (hb.cell (p := ⟨w.heap.size, 2, none⟩) (by simp)).trans (cell_new _ rfl)
    have c4 : w1.cell? ⟨w.heap.size, 4, none⟩ = some (.int .i64 gu) := (hb.cell (p := ⟨w.heap.size, 4, none⟩) (by simp)).trans (cell_new _ rfl)
    have c5 : w1.cell? ⟨w.heap.size, 5, none⟩ = some (.int .i64 lo) := (hb.cell (p := ⟨w.heap.size, 5, none⟩) (by simp)).trans (cell_new _ rfl)
    have c6 : w1.cell? ⟨w.heap.size, 6, none⟩ = some (.int .i64 hi) := (hb.cell (p := ⟨w.heap.size, 6, none⟩) (by simp)).trans (cell_new _ rfl)
    have c7 : w1.cell? ⟨w.heap.size, 7, none⟩ = some (.int .i64 hd) := (hb.cell (p := ⟨w.heap.size, 7, none⟩) (by simp)).trans (cell_new _ rfl)
    have c8 : w1.cell? ⟨w.heap.size, 8, none⟩ = some (.int .i64 ca) := (hb.cell (p := ⟨w.heap.size, 8, none⟩) (by simp)).trans (cell_new _ rfl)
    have c9 : w1.cell? ⟨w.heap.size, 9, none⟩ = some (.int .i64 ut) := (hb.cell (p := ⟨w.heap.size, 9, none⟩) (by simp)).trans (cell_new _ rfl)
    have c10 : w1.cell? ⟨w.heap.size, 10, none⟩ = some (.int .i64 wk) := (hb.cell (p := ⟨w.heap.size, 10, none⟩) (by simp)).trans (cell_new _ rfl)
    have Hb := hide (((Below.refl w.heap.size w).alloc (Nat.le_refl _) _).trans (hb.mono (by simp)))
    clear hb
    go_wp2_with (first | (go_at_call 189; refine (liesFrom_any _ _ _ _).mono ?_; rintro e w' ⟨rfl, rfl⟩) | (go_at_call 237; refine (isBench_any _ _).mono ?_; rintro e w' ⟨rfl, rfl⟩) | (go_at_call 265; refine (areBounds_any _ _ _).mono ?_; rintro e w' ⟨rfl, rfl⟩) | (go_at_call 266; refine (smithHad_any _ _).mono ?_; rintro e w' ⟨rfl, rfl⟩) | (go_at_call 267; refine (isCarry_v (unhide Hc) _).mono ?_; rintro e w' ⟨rfl, rfl⟩) | (go_at_call 268; refine (isUtil_any _ _).mono ?_; rintro e w' ⟨rfl, rfl⟩))
    go_ret
    exact ⟨rfl, unhide Hb⟩
  cases h_gu : inB gu (-1) 5
  · go_enter Tryz.func218, Tryz.ntmps218
    go_wp2_with (first | (go_at_call 189; refine (liesFrom_any _ _ _ _).mono ?_; rintro e w' ⟨rfl, rfl⟩) | (go_at_call 237; refine (isBench_any _ _).mono ?_; rintro e w' ⟨rfl, rfl⟩) | (go_at_call 265; refine (areBounds_any _ _ _).mono ?_; rintro e w' ⟨rfl, rfl⟩) | (go_at_call 266; refine (smithHad_any _ _).mono ?_; rintro e w' ⟨rfl, rfl⟩) | (go_at_call 267; refine (isCarry_v (unhide Hc) _).mono ?_; rintro e w' ⟨rfl, rfl⟩) | (go_at_call 268; refine (isUtil_any _ _).mono ?_; rintro e w' ⟨rfl, rfl⟩))
    refine (isMay_any _ _).mono ?_
    rintro e w1 ⟨rfl, hb⟩
    have c2 : w1.cell? ⟨w.heap.size, 2, none⟩ = some (.int .i64 rk) := (hb.cell (p := ⟨w.heap.size, 2, none⟩) (by simp)).trans (cell_new _ rfl)
    have c4 : w1.cell? ⟨w.heap.size, 4, none⟩ = some (.int .i64 gu) := (hb.cell (p := ⟨w.heap.size, 4, none⟩) (by simp)).trans (cell_new _ rfl)
    have c5 : w1.cell? ⟨w.heap.size, 5, none⟩ = some (.int .i64 lo) := (hb.cell (p := ⟨w.heap.size, 5, none⟩) (by simp)).trans (cell_new _ rfl)
    have c6 : w1.cell? ⟨w.heap.size, 6, none⟩ = some (.int .i64 hi) := (hb.cell (p := ⟨w.heap.size, 6, none⟩) (by simp)).trans (cell_new _ rfl)
    have c7 : w1.cell? ⟨w.heap.size, 7, none⟩ = some (.int .i64 hd) := (hb.cell (p := ⟨w.heap.size, 7, none⟩) (by simp)).trans (cell_new _ rfl)
    have c8 : w1.cell? ⟨w.heap.size, 8, none⟩ = some (.int .i64 ca) := (hb.cell (p := ⟨w.heap.size, 8, none⟩) (by simp)).trans (cell_new _ rfl)
    have c9 : w1.cell? ⟨w.heap.size, 9, none⟩ = some (.int .i64 ut) := (hb.cell (p := ⟨w.heap.size, 9, none⟩) (by simp)).trans (cell_new _ rfl)
    have c10 : w1.cell? ⟨w.heap.size, 10, none⟩ = some (.int .i64 wk) := (hb.cell (p := ⟨w.heap.size, 10, none⟩) (by simp)).trans (cell_new _ rfl)
    have Hb := hide (((Below.refl w.heap.size w).alloc (Nat.le_refl _) _).trans (hb.mono (by simp)))
    clear hb
    go_wp2_with (first | (go_at_call 189; refine (liesFrom_any _ _ _ _).mono ?_; rintro e w' ⟨rfl, rfl⟩) | (go_at_call 237; refine (isBench_any _ _).mono ?_; rintro e w' ⟨rfl, rfl⟩) | (go_at_call 265; refine (areBounds_any _ _ _).mono ?_; rintro e w' ⟨rfl, rfl⟩) | (go_at_call 266; refine (smithHad_any _ _).mono ?_; rintro e w' ⟨rfl, rfl⟩) | (go_at_call 267; refine (isCarry_v (unhide Hc) _).mono ?_; rintro e w' ⟨rfl, rfl⟩) | (go_at_call 268; refine (isUtil_any _ _).mono ?_; rintro e w' ⟨rfl, rfl⟩))
    go_ret
    exact ⟨rfl, unhide Hb⟩
  cases h_pr : pairB lo hi
  · go_enter Tryz.func218, Tryz.ntmps218
    go_wp2_with (first | (go_at_call 189; refine (liesFrom_any _ _ _ _).mono ?_; rintro e w' ⟨rfl, rfl⟩) | (go_at_call 237; refine (isBench_any _ _).mono ?_; rintro e w' ⟨rfl, rfl⟩) | (go_at_call 265; refine (areBounds_any _ _ _).mono ?_; rintro e w' ⟨rfl, rfl⟩) | (go_at_call 266; refine (smithHad_any _ _).mono ?_; rintro e w' ⟨rfl, rfl⟩) | (go_at_call 267; refine (isCarry_v (unhide Hc) _).mono ?_; rintro e w' ⟨rfl, rfl⟩) | (go_at_call 268; refine (isUtil_any _ _).mono ?_; rintro e w' ⟨rfl, rfl⟩))
    refine (isMay_any _ _).mono ?_
    rintro e w1 ⟨rfl, hb⟩
    have c2 : w1.cell? ⟨w.heap.size, 2, none⟩ = some (.int .i64 rk) := (hb.cell (p := ⟨w.heap.size, 2, none⟩) (by simp)).trans (cell_new _ rfl)
    have c4 : w1.cell? ⟨w.heap.size, 4, none⟩ = some (.int .i64 gu) := (hb.cell (p := ⟨w.heap.size, 4, none⟩) (by simp)).trans (cell_new _ rfl)
    have c5 : w1.cell? ⟨w.heap.size, 5, none⟩ = some (.int .i64 lo) := (hb.cell (p := ⟨w.heap.size, 5, none⟩) (by simp)).trans (cell_new _ rfl)
    have c6 : w1.cell? ⟨w.heap.size, 6, none⟩ = some (.int .i64 hi) := (hb.cell (p := ⟨w.heap.size, 6, none⟩) (by simp)).trans (cell_new _ rfl)
    have c7 : w1.cell? ⟨w.heap.size, 7, none⟩ = some (.int .i64 hd) := (hb.cell (p := ⟨w.heap.size, 7, none⟩) (by simp)).trans (cell_new _ rfl)
    have c8 : w1.cell? ⟨w.heap.size, 8, none⟩ = some (.int .i64 ca) := (hb.cell (p := ⟨w.heap.size, 8, none⟩) (by simp)).trans (cell_new _ rfl)
    have c9 : w1.cell? ⟨w.heap.size, 9, none⟩ = some (.int .i64 ut) := (hb.cell (p := ⟨w.heap.size, 9, none⟩) (by simp)).trans (cell_new _ rfl)
    have c10 : w1.cell? ⟨w.heap.size, 10, none⟩ = some (.int .i64 wk) := (hb.cell (p := ⟨w.heap.size, 10, none⟩) (by simp)).trans (cell_new _ rfl)
    have Hb := hide (((Below.refl w.heap.size w).alloc (Nat.le_refl _) _).trans (hb.mono (by simp)))
    clear hb
    go_wp2_with (first | (go_at_call 189; refine (liesFrom_any _ _ _ _).mono ?_; rintro e w' ⟨rfl, rfl⟩) | (go_at_call 237; refine (isBench_any _ _).mono ?_; rintro e w' ⟨rfl, rfl⟩) | (go_at_call 265; refine (areBounds_any _ _ _).mono ?_; rintro e w' ⟨rfl, rfl⟩) | (go_at_call 266; refine (smithHad_any _ _).mono ?_; rintro e w' ⟨rfl, rfl⟩) | (go_at_call 267; refine (isCarry_v (unhide Hc) _).mono ?_; rintro e w' ⟨rfl, rfl⟩) | (go_at_call 268; refine (isUtil_any _ _).mono ?_; rintro e w' ⟨rfl, rfl⟩))
    go_ret
    exact ⟨rfl, unhide Hb⟩
  cases h_hd : inB hd (-1000000000000) 1000000000000
  · go_enter Tryz.func218, Tryz.ntmps218
    go_wp2_with (first | (go_at_call 189; refine (liesFrom_any _ _ _ _).mono ?_; rintro e w' ⟨rfl, rfl⟩) | (go_at_call 237; refine (isBench_any _ _).mono ?_; rintro e w' ⟨rfl, rfl⟩) | (go_at_call 265; refine (areBounds_any _ _ _).mono ?_; rintro e w' ⟨rfl, rfl⟩) | (go_at_call 266; refine (smithHad_any _ _).mono ?_; rintro e w' ⟨rfl, rfl⟩) | (go_at_call 267; refine (isCarry_v (unhide Hc) _).mono ?_; rintro e w' ⟨rfl, rfl⟩) | (go_at_call 268; refine (isUtil_any _ _).mono ?_; rintro e w' ⟨rfl, rfl⟩))
    refine (isMay_any _ _).mono ?_
    rintro e w1 ⟨rfl, hb⟩
    have c2 : w1.cell? ⟨w.heap.size, 2, none⟩ = some (.int .i64 rk) := (hb.cell (p := ⟨w.heap.size, 2, none⟩) (by simp)).trans (cell_new _ rfl)
    have c4 : w1.cell? ⟨w.heap.size, 4, none⟩ = some (.int .i64 gu) := (hb.cell (p := ⟨w.heap.size, 4, none⟩) (by simp)).trans (cell_new _ rfl)
    have c5 : w1.cell? ⟨w.heap.size, 5, none⟩ = some (.int .i64 lo) := (hb.cell (p := ⟨w.heap.size, 5, none⟩) (by simp)).trans (cell_new _ rfl)
    have c6 : w1.cell? ⟨w.heap.size, 6, none⟩ = some (.int .i64 hi) := (hb.cell (p := ⟨w.heap.size, 6, none⟩) (by simp)).trans (cell_new _ rfl)
    have c7 : w1.cell? ⟨w.heap.size, 7, none⟩ = some (.int .i64 hd) := (hb.cell (p := ⟨w.heap.size, 7, none⟩) (by simp)).trans (cell_new _ rfl)
    have c8 : w1.cell? ⟨w.heap.size, 8, none⟩ = some (.int .i64 ca) := (hb.cell (p := ⟨w.heap.size, 8, none⟩) (by simp)).trans (cell_new _ rfl)
    have c9 : w1.cell? ⟨w.heap.size, 9, none⟩ = some (.int .i64 ut) := (hb.cell (p := ⟨w.heap.size, 9, none⟩) (by simp)).trans (cell_new _ rfl)
    have c10 : w1.cell? ⟨w.heap.size, 10, none⟩ = some (.int .i64 wk) := (hb.cell (p := ⟨w.heap.size, 10, none⟩) (by simp)).trans (cell_new _ rfl)
    have Hb := hide (((Below.refl w.heap.size w).alloc (Nat.le_refl _) _).trans (hb.mono (by simp)))
    clear hb
    go_wp2_with (first | (go_at_call 189; refine (liesFrom_any _ _ _ _).mono ?_; rintro e w' ⟨rfl, rfl⟩) | (go_at_call 237; refine (isBench_any _ _).mono ?_; rintro e w' ⟨rfl, rfl⟩) | (go_at_call 265; refine (areBounds_any _ _ _).mono ?_; rintro e w' ⟨rfl, rfl⟩) | (go_at_call 266; refine (smithHad_any _ _).mono ?_; rintro e w' ⟨rfl, rfl⟩) | (go_at_call 267; refine (isCarry_v (unhide Hc) _).mono ?_; rintro e w' ⟨rfl, rfl⟩) | (go_at_call 268; refine (isUtil_any _ _).mono ?_; rintro e w' ⟨rfl, rfl⟩))
    go_ret
    exact ⟨rfl, unhide Hb⟩
  cases qc
  · go_enter Tryz.func218, Tryz.ntmps218
    go_wp2_with (first | (go_at_call 189; refine (liesFrom_any _ _ _ _).mono ?_; rintro e w' ⟨rfl, rfl⟩) | (go_at_call 237; refine (isBench_any _ _).mono ?_; rintro e w' ⟨rfl, rfl⟩) | (go_at_call 265; refine (areBounds_any _ _ _).mono ?_; rintro e w' ⟨rfl, rfl⟩) | (go_at_call 266; refine (smithHad_any _ _).mono ?_; rintro e w' ⟨rfl, rfl⟩) | (go_at_call 267; refine (isCarry_v (unhide Hc) _).mono ?_; rintro e w' ⟨rfl, rfl⟩) | (go_at_call 268; refine (isUtil_any _ _).mono ?_; rintro e w' ⟨rfl, rfl⟩))
    refine (isMay_any _ _).mono ?_
    rintro e w1 ⟨rfl, hb⟩
    have c2 : w1.cell? ⟨w.heap.size, 2, none⟩ = some (.int .i64 rk) := (hb.cell (p := ⟨w.heap.size, 2, none⟩) (by simp)).trans (cell_new _ rfl)
    have c4 : w1.cell? ⟨w.heap.size, 4, none⟩ = some (.int .i64 gu) := (hb.cell (p := ⟨w.heap.size, 4, none⟩) (by simp)).trans (cell_new _ rfl)
    have c5 : w1.cell? ⟨w.heap.size, 5, none⟩ = some (.int .i64 lo) := (hb.cell (p := ⟨w.heap.size, 5, none⟩) (by simp)).trans (cell_new _ rfl)
    have c6 : w1.cell? ⟨w.heap.size, 6, none⟩ = some (.int .i64 hi) := (hb.cell (p := ⟨w.heap.size, 6, none⟩) (by simp)).trans (cell_new _ rfl)
    have c7 : w1.cell? ⟨w.heap.size, 7, none⟩ = some (.int .i64 hd) := (hb.cell (p := ⟨w.heap.size, 7, none⟩) (by simp)).trans (cell_new _ rfl)
    have c8 : w1.cell? ⟨w.heap.size, 8, none⟩ = some (.int .i64 ca) := (hb.cell (p := ⟨w.heap.size, 8, none⟩) (by simp)).trans (cell_new _ rfl)
    have c9 : w1.cell? ⟨w.heap.size, 9, none⟩ = some (.int .i64 ut) := (hb.cell (p := ⟨w.heap.size, 9, none⟩) (by simp)).trans (cell_new _ rfl)
    have c10 : w1.cell? ⟨w.heap.size, 10, none⟩ = some (.int .i64 wk) := (hb.cell (p := ⟨w.heap.size, 10, none⟩) (by simp)).trans (cell_new _ rfl)
    have Hb := hide (((Below.refl w.heap.size w).alloc (Nat.le_refl _) _).trans (hb.mono (by simp)))
    clear hb
    go_wp2_with (first | (go_at_call 189; refine (liesFrom_any _ _ _ _).mono ?_; rintro e w' ⟨rfl, rfl⟩) | (go_at_call 237; refine (isBench_any _ _).mono ?_; rintro e w' ⟨rfl, rfl⟩) | (go_at_call 265; refine (areBounds_any _ _ _).mono ?_; rintro e w' ⟨rfl, rfl⟩) | (go_at_call 266; refine (smithHad_any _ _).mono ?_; rintro e w' ⟨rfl, rfl⟩) | (go_at_call 267; refine (isCarry_v (unhide Hc) _).mono ?_; rintro e w' ⟨rfl, rfl⟩) | (go_at_call 268; refine (isUtil_any _ _).mono ?_; rintro e w' ⟨rfl, rfl⟩))
    go_ret
    exact ⟨rfl, unhide Hb⟩
  cases h_ut : inB ut 0 1024
  · go_enter Tryz.func218, Tryz.ntmps218
    go_wp2_with (first | (go_at_call 189; refine (liesFrom_any _ _ _ _).mono ?_; rintro e w' ⟨rfl, rfl⟩) | (go_at_call 237; refine (isBench_any _ _).mono ?_; rintro e w' ⟨rfl, rfl⟩) | (go_at_call 265; refine (areBounds_any _ _ _).mono ?_; rintro e w' ⟨rfl, rfl⟩) | (go_at_call 266; refine (smithHad_any _ _).mono ?_; rintro e w' ⟨rfl, rfl⟩) | (go_at_call 267; refine (isCarry_v (unhide Hc) _).mono ?_; rintro e w' ⟨rfl, rfl⟩) | (go_at_call 268; refine (isUtil_any _ _).mono ?_; rintro e w' ⟨rfl, rfl⟩))
    refine (isMay_any _ _).mono ?_
    rintro e w1 ⟨rfl, hb⟩
    have c2 : w1.cell? ⟨w.heap.size, 2, none⟩ = some (.int .i64 rk) := (hb.cell (p := ⟨w.heap.size, 2, none⟩) (by simp)).trans (cell_new _ rfl)
    have c4 : w1.cell? ⟨w.heap.size, 4, none⟩ = some (.int .i64 gu) := (hb.cell (p := ⟨w.heap.size, 4, none⟩) (by simp)).trans (cell_new _ rfl)
    have c5 : w1.cell? ⟨w.heap.size, 5, none⟩ = some (.int .i64 lo) := (hb.cell (p := ⟨w.heap.size, 5, none⟩) (by simp)).trans (cell_new _ rfl)
    have c6 : w1.cell? ⟨w.heap.size, 6, none⟩ = some (.int .i64 hi) := (hb.cell (p := ⟨w.heap.size, 6, none⟩) (by simp)).trans (cell_new _ rfl)
    have c7 : w1.cell? ⟨w.heap.size, 7, none⟩ = some (.int .i64 hd) := (hb.cell (p := ⟨w.heap.size, 7, none⟩) (by simp)).trans (cell_new _ rfl)
    have c8 : w1.cell? ⟨w.heap.size, 8, none⟩ = some (.int .i64 ca) := (hb.cell (p := ⟨w.heap.size, 8, none⟩) (by simp)).trans (cell_new _ rfl)
    have c9 : w1.cell? ⟨w.heap.size, 9, none⟩ = some (.int .i64 ut) := (hb.cell (p := ⟨w.heap.size, 9, none⟩) (by simp)).trans (cell_new _ rfl)
    have c10 : w1.cell? ⟨w.heap.size, 10, none⟩ = some (.int .i64 wk) := (hb.cell (p := ⟨w.heap.size, 10, none⟩) (by simp)).trans (cell_new _ rfl)
    have Hb := hide (((Below.refl w.heap.size w).alloc (Nat.le_refl _) _).trans (hb.mono (by simp)))
    clear hb
    go_wp2_with (first | (go_at_call 189; refine (liesFrom_any _ _ _ _).mono ?_; rintro e w' ⟨rfl, rfl⟩) | (go_at_call 237; refine (isBench_any _ _).mono ?_; rintro e w' ⟨rfl, rfl⟩) | (go_at_call 265; refine (areBounds_any _ _ _).mono ?_; rintro e w' ⟨rfl, rfl⟩) | (go_at_call 266; refine (smithHad_any _ _).mono ?_; rintro e w' ⟨rfl, rfl⟩) | (go_at_call 267; refine (isCarry_v (unhide Hc) _).mono ?_; rintro e w' ⟨rfl, rfl⟩) | (go_at_call 268; refine (isUtil_any _ _).mono ?_; rintro e w' ⟨rfl, rfl⟩))
    go_ret
    exact ⟨rfl, unhide Hb⟩
  cases h_wk : inB wk 0 100000000000
  · go_enter Tryz.func218, Tryz.ntmps218
    go_wp2_with (first | (go_at_call 189; refine (liesFrom_any _ _ _ _).mono ?_; rintro e w' ⟨rfl, rfl⟩) | (go_at_call 237; refine (isBench_any _ _).mono ?_; rintro e w' ⟨rfl, rfl⟩) | (go_at_call 265; refine (areBounds_any _ _ _).mono ?_; rintro e w' ⟨rfl, rfl⟩) | (go_at_call 266; refine (smithHad_any _ _).mono ?_; rintro e w' ⟨rfl, rfl⟩) | (go_at_call 267; refine (isCarry_v (unhide Hc) _).mono ?_; rintro e w' ⟨rfl, rfl⟩) | (go_at_call 268; refine (isUtil_any _ _).mono ?_; rintro e w' ⟨rfl, rfl⟩))
    refine (isMay_any _ _).mono ?_
    rintro e w1 ⟨rfl, hb⟩
    have c2 : w1.cell? ⟨w.heap.size, 2, none⟩ = some (.int .i64 rk) := (hb.cell (p := ⟨w.heap.size, 2, none⟩) (by simp)).trans (cell_new _ rfl)
    have c4 : w1.cell? ⟨w.heap.size, 4, none⟩ = some (.int .i64 gu) := (hb.cell (p := ⟨w.heap.size, 4, none⟩) (by simp)).trans (cell_new _ rfl)
    have c5 : w1.cell? ⟨w.heap.size, 5, none⟩ = some (.int .i64 lo) := (hb.cell (p := ⟨w.heap.size, 5, none⟩) (by simp)).trans (cell_new _ rfl)
    have c6 : w1.cell? ⟨w.heap.size, 6, none⟩ = some (.int .i64 hi) := (hb.cell (p := ⟨w.heap.size, 6, none⟩) (by simp)).trans (cell_new _ rfl)
    have c7 : w1.cell? ⟨w.heap.size, 7, none⟩ = some (.int .i64 hd) := (hb.cell (p := ⟨w.heap.size, 7, none⟩) (by simp)).trans (cell_new _ rfl)
    have c8 : w1.cell? ⟨w.heap.size, 8, none⟩ = some (.int .i64 ca) := (hb.cell (p := ⟨w.heap.size, 8, none⟩) (by simp)).trans (cell_new _ rfl)
    have c9 : w1.cell? ⟨w.heap.size, 9, none⟩ = some (.int .i64 ut) := (hb.cell (p := ⟨w.heap.size, 9, none⟩) (by simp)).trans (cell_new _ rfl)
    have c10 : w1.cell? ⟨w.heap.size, 10, none⟩ = some (.int .i64 wk) := (hb.cell (p := ⟨w.heap.size, 10, none⟩) (by simp)).trans (cell_new _ rfl)
    have Hb := hide (((Below.refl w.heap.size w).alloc (Nat.le_refl _) _).trans (hb.mono (by simp)))
    clear hb
    go_wp2_with (first | (go_at_call 189; refine (liesFrom_any _ _ _ _).mono ?_; rintro e w' ⟨rfl, rfl⟩) | (go_at_call 237; refine (isBench_any _ _).mono ?_; rintro e w' ⟨rfl, rfl⟩) | (go_at_call 265; refine (areBounds_any _ _ _).mono ?_; rintro e w' ⟨rfl, rfl⟩) | (go_at_call 266; refine (smithHad_any _ _).mono ?_; rintro e w' ⟨rfl, rfl⟩) | (go_at_call 267; refine (isCarry_v (unhide Hc) _).mono ?_; rintro e w' ⟨rfl, rfl⟩) | (go_at_call 268; refine (isUtil_any _ _).mono ?_; rintro e w' ⟨rfl, rfl⟩))
    go_ret
    exact ⟨rfl, unhide Hb⟩
  go_enter Tryz.func218, Tryz.ntmps218
  go_wp2_with (first | (go_at_call 189; refine (liesFrom_any _ _ _ _).mono ?_; rintro e w' ⟨rfl, rfl⟩) | (go_at_call 237; refine (isBench_any _ _).mono ?_; rintro e w' ⟨rfl, rfl⟩) | (go_at_call 265; refine (areBounds_any _ _ _).mono ?_; rintro e w' ⟨rfl, rfl⟩) | (go_at_call 266; refine (smithHad_any _ _).mono ?_; rintro e w' ⟨rfl, rfl⟩) | (go_at_call 267; refine (isCarry_v (unhide Hc) _).mono ?_; rintro e w' ⟨rfl, rfl⟩) | (go_at_call 268; refine (isUtil_any _ _).mono ?_; rintro e w' ⟨rfl, rfl⟩))
  refine (isMay_any _ _).mono ?_
  rintro e w1 ⟨rfl, hb⟩
  have c2 : w1.cell? ⟨w.heap.size, 2, none⟩ = some (.int .i64 rk) := (hb.cell (p := ⟨w.heap.size, 2, none⟩) (by simp)).trans (cell_new _ rfl)
  have c4 : w1.cell? ⟨w.heap.size, 4, none⟩ = some (.int .i64 gu) := (hb.cell (p := ⟨w.heap.size, 4, none⟩) (by simp)).trans (cell_new _ rfl)
  have c5 : w1.cell? ⟨w.heap.size, 5, none⟩ = some (.int .i64 lo) := (hb.cell (p := ⟨w.heap.size, 5, none⟩) (by simp)).trans (cell_new _ rfl)
  have c6 : w1.cell? ⟨w.heap.size, 6, none⟩ = some (.int .i64 hi) := (hb.cell (p := ⟨w.heap.size, 6, none⟩) (by simp)).trans (cell_new _ rfl)
  have c7 : w1.cell? ⟨w.heap.size, 7, none⟩ = some (.int .i64 hd) := (hb.cell (p := ⟨w.heap.size, 7, none⟩) (by simp)).trans (cell_new _ rfl)
  have c8 : w1.cell? ⟨w.heap.size, 8, none⟩ = some (.int .i64 ca) := (hb.cell (p := ⟨w.heap.size, 8, none⟩) (by simp)).trans (cell_new _ rfl)
  have c9 : w1.cell? ⟨w.heap.size, 9, none⟩ = some (.int .i64 ut) := (hb.cell (p := ⟨w.heap.size, 9, none⟩) (by simp)).trans (cell_new _ rfl)
  have c10 : w1.cell? ⟨w.heap.size, 10, none⟩ = some (.int .i64 wk) := (hb.cell (p := ⟨w.heap.size, 10, none⟩) (by simp)).trans (cell_new _ rfl)
  have Hb := hide (((Below.refl w.heap.size w).alloc (Nat.le_refl _) _).trans (hb.mono (by simp)))
  clear hb
  go_wp2_with (first | (go_at_call 189; refine (liesFrom_any _ _ _ _).mono ?_; rintro e w' ⟨rfl, rfl⟩) | (go_at_call 237; refine (isBench_any _ _).mono ?_; rintro e w' ⟨rfl, rfl⟩) | (go_at_call 265; refine (areBounds_any _ _ _).mono ?_; rintro e w' ⟨rfl, rfl⟩) | (go_at_call 266; refine (smithHad_any _ _).mono ?_; rintro e w' ⟨rfl, rfl⟩) | (go_at_call 267; refine (isCarry_v (unhide Hc) _).mono ?_; rintro e w' ⟨rfl, rfl⟩) | (go_at_call 268; refine (isUtil_any _ _).mono ?_; rintro e w' ⟨rfl, rfl⟩))
  go_ret
  exact ⟨rfl, unhide Hb⟩

end Go.Proofs.YthbbahagpmdooaaGreatDoor

/- The shape of a smith, and the program's SmithOk: contracts. No condition but those that a theorem names. -/
namespace Go.Proofs.YthbbahagpmdooaaGreatDoor
open Go.ChangeShapes Go.WideShapes Go.ChangeAt Go.RowKit Go.Sort
set_option linter.unusedVariables false
attribute [local go_sem ↓] smith_eql smith_neq

set_option maxHeartbeats 1000000 in
theorem shapeOf_gone (w : World) : Calls Tryz.prog 166 #[.agg #[.int .i64 0, .int .i64 0, .int .i64 0, .int .i64 0, .int .i64 0, .int .i64 0, .int .i64 0, .int .i64 0, .int .i64 0, .int .i64 0, .int .i64 0]] w fun e w' => e = .returned (.iface 241 (.agg #[])) ∧ Below w.heap.size w w' := by
  have hz : sameB (0, 0, 0, 0, 0, 0, 0, 0, 0, 0, 0) (0, 0, 0, 0, 0, 0, 0, 0, 0, 0, 0) = true := rfl
  go_enter Tryz.func166, Tryz.ntmps166
  go_wp2_with fail
  go_ret
  exact ⟨rfl, (Below.refl _ _).alloc (Nat.le_refl _) _⟩
set_option maxHeartbeats 1000000 in
theorem shapeOf_pres {st be rk my gu lo hi hd ca ut wk : Int} (hg : goneB (st, be, rk, my, gu, lo, hi, hd, ca, ut, wk) = false) (hp : presB (st, be, rk, my, gu, lo, hi, hd, ca, ut, wk) = true) (w : World) : Calls Tryz.prog 166 #[.agg #[.int .i64 st, .int .i64 be, .int .i64 rk, .int .i64 my, .int .i64 gu, .int .i64 lo, .int .i64 hi, .int .i64 hd, .int .i64 ca, .int .i64 ut, .int .i64 wk]] w fun e w' => e = .returned (.iface 243 (.agg #[.int .i64 st, .int .i64 be, .int .i64 rk, .int .i64 my, .int .i64 gu, .int .i64 lo, .int .i64 hi, .int .i64 hd, .int .i64 ca, .int .i64 ut, .int .i64 wk])) ∧ Below w.heap.size w w' := by
  have hz : sameB (st, be, rk, my, gu, lo, hi, hd, ca, ut, wk) (0, 0, 0, 0, 0, 0, 0, 0, 0, 0, 0) = false := hg
  have Hp := hide hp
  clear hg hp
  go_enter Tryz.func166, Tryz.ntmps166
  go_wp2_with fail
  refine (isPresent_any st be rk my gu lo hi hd ca ut wk _).mono ?_
  rw [unhide Hp]
  rintro e w1 ⟨rfl, hb⟩
  have c0 : w1.cell? ⟨w.heap.size, 0, none⟩ = some (.int .i64 st) := (hb.cell (p := ⟨w.heap.size, 0, none⟩) (by simp)).trans (cell_new _ rfl)
  have c1 : w1.cell? ⟨w.heap.size, 1, none⟩ = some (.int .i64 be) := (hb.cell (p := ⟨w.heap.size, 1, none⟩) (by simp)).trans (cell_new _ rfl)
  have c2 : w1.cell? ⟨w.heap.size, 2, none⟩ = some (.int .i64 rk) := (hb.cell (p := ⟨w.heap.size, 2, none⟩) (by simp)).trans (cell_new _ rfl)
  have c3 : w1.cell? ⟨w.heap.size, 3, none⟩ = some (.int .i64 my) := (hb.cell (p := ⟨w.heap.size, 3, none⟩) (by simp)).trans (cell_new _ rfl)
  have c4 : w1.cell? ⟨w.heap.size, 4, none⟩ = some (.int .i64 gu) := (hb.cell (p := ⟨w.heap.size, 4, none⟩) (by simp)).trans (cell_new _ rfl)
  have c5 : w1.cell? ⟨w.heap.size, 5, none⟩ = some (.int .i64 lo) := (hb.cell (p := ⟨w.heap.size, 5, none⟩) (by simp)).trans (cell_new _ rfl)
  have c6 : w1.cell? ⟨w.heap.size, 6, none⟩ = some (.int .i64 hi) := (hb.cell (p := ⟨w.heap.size, 6, none⟩) (by simp)).trans (cell_new _ rfl)
  have c7 : w1.cell? ⟨w.heap.size, 7, none⟩ = some (.int .i64 hd) := (hb.cell (p := ⟨w.heap.size, 7, none⟩) (by simp)).trans (cell_new _ rfl)
  have c8 : w1.cell? ⟨w.heap.size, 8, none⟩ = some (.int .i64 ca) := (hb.cell (p := ⟨w.heap.size, 8, none⟩) (by simp)).trans (cell_new _ rfl)
  have c9 : w1.cell? ⟨w.heap.size, 9, none⟩ = some (.int .i64 ut) := (hb.cell (p := ⟨w.heap.size, 9, none⟩) (by simp)).trans (cell_new _ rfl)
  have c10 : w1.cell? ⟨w.heap.size, 10, none⟩ = some (.int .i64 wk) := (hb.cell (p := ⟨w.heap.size, 10, none⟩) (by simp)).trans (cell_new _ rfl)
  have Hb := hide (((Below.refl w.heap.size w).alloc (Nat.le_refl _) _).trans (hb.mono (by simp)))
  clear hb
  go_wp2_with fail
  go_ret
  exact ⟨rfl, unhide Hb⟩
set_option maxHeartbeats 1000000 in
theorem shapeOf_wrong {st be rk my gu lo hi hd ca ut wk : Int} (hg : goneB (st, be, rk, my, gu, lo, hi, hd, ca, ut, wk) = false) (hp : presB (st, be, rk, my, gu, lo, hi, hd, ca, ut, wk) = false) (w : World) : Calls Tryz.prog 166 #[.agg #[.int .i64 st, .int .i64 be, .int .i64 rk, .int .i64 my, .int .i64 gu, .int .i64 lo, .int .i64 hi, .int .i64 hd, .int .i64 ca, .int .i64 ut, .int .i64 wk]] w fun e w' => e = .returned (.iface 244 (.agg #[])) ∧ Below w.heap.size w w' := by
  have hz : sameB (st, be, rk, my, gu, lo, hi, hd, ca, ut, wk) (0, 0, 0, 0, 0, 0, 0, 0, 0, 0, 0) = false := hg
  have Hp := hide hp
  clear hg hp
  go_enter Tryz.func166, Tryz.ntmps166
  go_wp2_with fail
  refine (isPresent_any st be rk my gu lo hi hd ca ut wk _).mono ?_
  rw [unhide Hp]
  rintro e w1 ⟨rfl, hb⟩
  have Hb := hide (((Below.refl w.heap.size w).alloc (Nat.le_refl _) _).trans (hb.mono (by simp)))
  clear hb
  go_wp2_with fail
  go_ret
  exact ⟨rfl, unhide Hb⟩

theorem m_gone (w : World) : (method 471 241 (.agg #[]) "loop.example/g00553/impl.isSmith").run Tryz.prog w = .ok (384, .agg #[]) w := by kernel_rfl
theorem m_wrong (w : World) : (method 471 244 (.agg #[]) "loop.example/g00553/impl.isSmith").run Tryz.prog w = .ok (386, .agg #[]) w := by kernel_rfl
theorem m_pres (st be rk my gu lo hi hd ca ut wk : Int) (w : World) : (method 471 243 (.agg #[.int .i64 st, .int .i64 be, .int .i64 rk, .int .i64 my, .int .i64 gu, .int .i64 lo, .int .i64 hi, .int .i64 hd, .int .i64 ca, .int .i64 ut, .int .i64 wk]) "loop.example/g00553/impl.isSmith").run Tryz.prog w = .ok (385, .agg #[.int .i64 st, .int .i64 be, .int .i64 rk, .int .i64 my, .int .i64 gu, .int .i64 lo, .int .i64 hi, .int .i64 hd, .int .i64 ca, .int .i64 ut, .int .i64 wk]) w := by kernel_rfl
theorem goneIs_any (w : World) : Calls Tryz.prog 384 #[.agg #[]] w fun e w' => e = .returned (.bool true) ∧ Below w.heap.size w w' := by
  go_enter Tryz.func384, Tryz.ntmps384
  go_wp2_with fail
  go_ret
  exact ⟨rfl, (Below.refl _ _).alloc (Nat.le_refl _) _⟩
theorem wrongIs_any (w : World) : Calls Tryz.prog 386 #[.agg #[]] w fun e w' => e = .returned (.bool false) ∧ Below w.heap.size w w' := by
  go_enter Tryz.func386, Tryz.ntmps386
  go_wp2_with fail
  go_ret
  exact ⟨rfl, (Below.refl _ _).alloc (Nat.le_refl _) _⟩
theorem presIs_any (st be rk my gu lo hi hd ca ut wk : Int) (w : World) : Calls Tryz.prog 385 #[.agg #[.int .i64 st, .int .i64 be, .int .i64 rk, .int .i64 my, .int .i64 gu, .int .i64 lo, .int .i64 hi, .int .i64 hd, .int .i64 ca, .int .i64 ut, .int .i64 wk]] w fun e w' => e = .returned (.bool true) ∧ Below w.heap.size w w' := by
  go_enter Tryz.func385, Tryz.ntmps385
  go_wp2_with fail
  go_ret
  exact ⟨rfl, (Below.refl _ _).alloc (Nat.le_refl _) _⟩

attribute [local go_sem] m_gone m_wrong m_pres
set_option maxHeartbeats 1000000 in
theorem implSmithOk_any (st be rk my gu lo hi hd ca ut wk : Int) (w : World) : Calls Tryz.prog 102 #[.agg #[.int .i64 st, .int .i64 be, .int .i64 rk, .int .i64 my, .int .i64 gu, .int .i64 lo, .int .i64 hi, .int .i64 hd, .int .i64 ca, .int .i64 ut, .int .i64 wk]] w fun e w' => e = .returned (.bool (smithB (st, be, rk, my, gu, lo, hi, hd, ca, ut, wk))) ∧ Below w.heap.size w w' := by
  unfold smithB
  cases hg : goneB (st, be, rk, my, gu, lo, hi, hd, ca, ut, wk)
  · cases hp : presB (st, be, rk, my, gu, lo, hi, hd, ca, ut, wk)
    · rw [show (false || false) = false from rfl]
      have Hg := hide hg
      have Hp := hide hp
      clear hg hp
      go_enter Tryz.func102, Tryz.ntmps102
      go_wp2_with fail
      refine (shapeOf_wrong (unhide Hg) (unhide Hp) _).mono ?_
      rintro e w1 ⟨rfl, hb⟩
      have B1 := hide (((Below.refl w.heap.size w).alloc (Nat.le_refl _) _).trans (hb.mono (by simp)))
      clear hb
      go_wp2_with fail
      refine (wrongIs_any _).mono ?_
      rintro e w2 ⟨rfl, hb⟩
      have B2 := hide ((unhide B1).trans (hb.mono (unhide B1).size))
      clear hb
      go_wp2_with fail
      go_ret
      exact ⟨rfl, unhide B2⟩
    · rw [show (false || true) = true from rfl]
      have Hg := hide hg
      have Hp := hide hp
      clear hg hp
      go_enter Tryz.func102, Tryz.ntmps102
      go_wp2_with fail
      refine (shapeOf_pres (unhide Hg) (unhide Hp) _).mono ?_
      rintro e w1 ⟨rfl, hb⟩
      have B1 := hide (((Below.refl w.heap.size w).alloc (Nat.le_refl _) _).trans (hb.mono (by simp)))
      clear hb
      go_wp2_with fail
      refine (presIs_any _ _ _ _ _ _ _ _ _ _ _ _).mono ?_
      rintro e w2 ⟨rfl, hb⟩
      have B2 := hide ((unhide B1).trans (hb.mono (unhide B1).size))
      clear hb
      go_wp2_with fail
      go_ret
      exact ⟨rfl, unhide B2⟩
  · rw [Bool.true_or]
    cases goneB_of hg
    clear hg
    go_enter Tryz.func102, Tryz.ntmps102
    go_wp2_with fail
    refine (shapeOf_gone _).mono ?_
    rintro e w1 ⟨rfl, hb⟩
    have B1 := hide (((Below.refl w.heap.size w).alloc (Nat.le_refl _) _).trans (hb.mono (by simp)))
    clear hb
    go_wp2_with fail
    refine (goneIs_any _).mono ?_
    rintro e w2 ⟨rfl, hb⟩
    have B2 := hide ((unhide B1).trans (hb.mono (unhide B1).size))
    clear hb
    go_wp2_with fail
    go_ret
    exact ⟨rfl, unhide B2⟩

end Go.Proofs.YthbbahagpmdooaaGreatDoor

/- Contracts of chapter 10's functions and of their models: what each call returns. No condition but those that a theorem names. -/
namespace Go.Proofs.YthbbahagpmdooaaGreatDoor
open Go.ChangeShapes Go.WideShapes Go.ChangeAt Go.RowKit Go.Sort
set_option linter.unusedVariables false
set_option maxRecDepth 100000

theorem band_equal (a b c d : Int) (w : World) : (Op.equalIn 10000 202 (.agg #[.int .i64 a, .int .i64 b]) (.agg #[.int .i64 c, .int .i64 d])).run Tryz.prog w = .ok (a == c && b == d) w := by
  have u := Tryz.underlying2
  have ag := Tryz.isAgg2
  have z := Tryz.sizeOf2
  have hc : Tryz.prog.cellsOf 2 = 1 := by kernel_rfl
  obtain ⟨i, hi⟩ := Option.isSome_iff_exists.1 (show (Tryz.prog.info? 2).isSome = true by kernel_rfl)
  rw [show (10000 : Nat) = 9999 + 1 from rfl, run_equalIn_array w 9999 _ _ Tryz.underlying202 hi, hc]
  simp only [show List.range 2 = [0, 1] from rfl, Op.eqItems]
  go_simp
  by_cases h : a = c
  · subst h
    by_cases h2 : b = d
    · subst h2; simp
    · simp [h2]
  · simp [h]
theorem band_eql (a b c d : Int) (w : World) : (binOp .eql 202 (.agg #[.int .i64 a, .int .i64 b]) (.agg #[.int .i64 c, .int .i64 d])).run Tryz.prog w = .ok (.bool (a == c && b == d)) w := by
  rw [run_eql_struct, band_equal]; rfl

theorem bandStretched_any (lo hi n : Int) (w : World) : Calls Tryz.prog 243 #[.agg #[.int .i64 lo, .int .i64 hi], .int .i64 n] w fun e w' => e = .returned (.agg #[.int .i64 (min lo n), .int .i64 (max hi n)]) ∧ Below w.heap.size w w' := by
  by_cases h1 : lo ≤ n
  all_goals
    by_cases h2 : hi < n
    all_goals
      go_enter Tryz.func243, Tryz.ntmps243
      go_wp2_with fail
      exact bodyPost_ret (v := .agg #[.int .i64 (min lo n), .int .i64 (max hi n)]) (by simp [results, Tryz.results243, go_sem]; omega) rfl ⟨rfl, ((Below.refl _ _).alloc (Nat.le_refl _) _).alloc (by simp) _⟩

theorem bandOf_any (m : Int) (w : World) (m0 : -1000000000000 ≤ m) (m1 : m ≤ 1000000000000) : Calls Tryz.prog 197 #[.int .i64 m] w fun e w' => e = .returned (.agg #[.int .i64 (m - 20000), .int .i64 (m + 63000)]) ∧ Below w.heap.size w w' := by
  go_enter Tryz.func197, Tryz.ntmps197
  go_wp2_with fail
  exact bodyPost_ret (v := .agg #[.int .i64 (m - 20000), .int .i64 (m + 63000)]) (by simp [results, Tryz.results197, go_sem]) rfl ⟨rfl, (Below.refl _ _).alloc (Nat.le_refl _) _⟩

/-- The least and the greatest of a band that is stretched to a list. -/
def loL (lo : Int) (zs : List Int) : Int := zs.foldl min lo
def hiL (hi : Int) (zs : List Int) : Int := zs.foldl max hi
theorem loL_le (zs : List Int) : ∀ lo, loL lo zs ≤ lo := by
  induction zs with
  | nil => intro lo; exact Int.le_refl _
  | cons z zs ih => intro lo; exact Int.le_trans (ih (min lo z)) (Int.min_le_left _ _)
theorem hiL_ge (zs : List Int) : ∀ hi, hi ≤ hiL hi zs := by
  induction zs with
  | nil => intro hi; exact Int.le_refl _
  | cons z zs ih => intro hi; exact Int.le_trans (Int.le_max_left _ _) (ih (max hi z))
theorem stretched_is (zs : List Int) : ∀ lo hi, (loL lo zs == lo && hiL hi zs == hi) = zs.all fun z => inB z lo hi := by
  induction zs with
  | nil => intro lo hi; simp [loL, hiL]
  | cons z zs ih =>
    intro lo hi
    show (loL (min lo z) zs == lo && hiL (max hi z) zs == hi) = (inB z lo hi && zs.all fun z => inB z lo hi)
    cases hz : inB z lo hi
    · have hn : ¬ (lo ≤ z ∧ z ≤ hi) := of_decide_eq_false hz
      have h1 := loL_le zs (min lo z)
      have h2 := hiL_ge zs (max hi z)
      simp only [Bool.false_and, Bool.and_eq_false_iff, beq_eq_false_iff_ne]
      omega
    · obtain ⟨h1, h2⟩ := inB_of hz
      rw [show min lo z = lo by omega, show max hi z = hi by omega, ih]; rfl
theorem loL_snoc {lo : Int} {zs : List Int} {k : Nat} (hk : k < zs.length) : loL lo (zs.take (k + 1)) = min (loL lo (zs.take k)) (zs.getD k 0) := by
  unfold loL; rw [List.take_succ_eq_append_getElem hk, List.foldl_append]; simp [List.getD, List.getElem?_eq_getElem hk]
theorem hiL_snoc {hi : Int} {zs : List Int} {k : Nat} (hk : k < zs.length) : hiL hi (zs.take (k + 1)) = max (hiL hi (zs.take k)) (zs.getD k 0) := by
  unfold hiL; rw [List.take_succ_eq_append_getElem hk, List.foldl_append]; simp [List.getD, List.getElem?_eq_getElem hk]

attribute [local go_sem ↓] band_eql
set_option maxHeartbeats 400000 in
theorem bandHolds_any (lo hi : Int) (b cap : Nat) (zs : List Int) (w : World) (hl : zs.length ≤ 1000) (hb : b < w.heap.size) (hc : ∀ k, k < zs.length → w.cell? ⟨b, k, none⟩ = some (.int .i64 (zs.getD k 0))) :
    Calls Tryz.prog 199 #[.agg #[.int .i64 lo, .int .i64 hi], .slice (some ⟨b, 0, none⟩) zs.length cap] w fun e w' => e = .returned (.bool (zs.all fun z => inB z lo hi)) ∧ Below w.heap.size w w' := by
  have Hc := hide hc
  clear hc
  go_enter Tryz.func199, Tryz.ntmps199
  go_wp2_with fail
  go_loopw [11] (fun i wr => ∃ k : Nat, k ≤ zs.length ∧ i = .int .i64 k ∧ Blk wr (w.heap.size + 1) 202 #[.int .i64 (loL lo (zs.take k)), .int .i64 (hiL hi (zs.take k))] ∧ Blk wr w.heap.size 202 #[.int .i64 lo, .int .i64 hi] ∧ Below w.heap.size w wr) (fun i _ => zs.length - (intOf i).toNat)
  case atStart =>
    refine ⟨0, Nat.zero_le _, rfl, ?_, (Blk.new w _ _).alloc _, ((Below.refl _ _).alloc (Nat.le_refl _) _).alloc (by simp) _⟩
    have := Blk.new (w.alloc (.cells #[.int .i64 lo, .int .i64 hi] 202)) 202 #[.int .i64 lo, .int .i64 hi]
    simpa [loL, hiL] using this
  case round =>
    obtain ⟨k, hk, rfl, hs, ho, hbl⟩ := hrel
    have Hs := hide hs
    have Ho := hide ho
    have Hb := hide hbl
    by_cases hlt : k < zs.length
    · have c0 := unhide Hc k hlt
      rw [← hbl.cell (p := ⟨b, k, none⟩) hb] at c0
      have e1 := loL_snoc (lo := lo) hlt
      have e2 := hiL_snoc (hi := hi) hlt
      have s0 := hs.cell (i := 0) rfl
      have s1 := hs.cell (i := 1) rfl
      have g0 := hs.free 0
      have g1 := hs.free 1
      generalize zs.getD k 0 = z at *
      generalize loL lo (zs.take k) = x at *
      generalize hiL hi (zs.take k) = y at *
      have E1 := hide e1
      have E2 := hide e2
      clear e1 e2 hs ho hbl
      go_wp2_with fail
      refine (bandStretched_any x y z _).mono ?_
      rintro e w1 ⟨rfl, hb1⟩
      have hs1 := (unhide Hs).below hb1 (unhide Hs).lt
      have Hs1 := hide hs1
      have Ho1 : Hid (Blk w1 w.heap.size 202 #[.int .i64 lo, .int .i64 hi]) := hide ((unhide Ho).below hb1 (unhide Ho).lt)
      have B1 : Hid (Below w.heap.size w w1) := hide ((unhide Hb).trans (hb1.mono (unhide Hb).size))
      have s0 := hs1.cell (i := 0) rfl
      have s1 := hs1.cell (i := 1) rfl
      have g0 := hs1.free 0
      have g1 := hs1.free 1
      clear hs1 hb1
      go_wp2_with fail
      go_roundw
      case rel =>
        refine ⟨k + 1, by omega, by go_num, ?_, ?_, ?_⟩
        · rw [unhide E1, unhide E2]
          simpa using ((unhide Hs1).set 0 (.int .i64 (min x z))).set 1 (.int .i64 (max y z))
        · exact ((unhide Ho1).other (by simp) _).other (by simp) _
        · exact ((unhide B1).setCell (by simp) _).setCell (by simp) _
      case measure => simp [intOf]; omega
    · obtain rfl : k = zs.length := by omega
      rw [List.take_length] at hs
      have e3 := stretched_is zs lo hi
      have s0 := hs.cell (i := 0) rfl
      have s1 := hs.cell (i := 1) rfl
      have o0 := ho.cell (i := 0) rfl
      have o1 := ho.cell (i := 1) rfl
      generalize loL lo zs = x at *
      generalize hiL hi zs = y at *
      have E3 := hide e3
      clear e3 hs ho hbl Hs
      go_wp2_with fail
      go_ret
      exact ⟨ret_bool (unhide E3), unhide Hb⟩

theorem areHads_any (b cap : Nat) (zs : List Int) (w : World) (hl : zs.length ≤ 1000) (hb : b < w.heap.size) (hc : ∀ k, k < zs.length → w.cell? ⟨b, k, none⟩ = some (.int .i64 (zs.getD k 0))) :
    Calls Tryz.prog 196 #[.slice (some ⟨b, 0, none⟩) zs.length cap] w fun e w' => e = .returned (.bool (zs.all fun z => inB z (-1000000000000) 1000000000000)) ∧ Below w.heap.size w w' := by
  have Hc := hide hc
  clear hc
  go_enter Tryz.func196, Tryz.ntmps196
  go_wp2_with fail
  refine (bandHolds_any _ _ b cap zs _ hl hb (unhide Hc)).mono ?_
  rintro e w1 ⟨rfl, hb1⟩
  have B1 := hide hb1
  clear hb1
  go_wp2_with fail
  go_ret
  exact ⟨rfl, unhide B1⟩

theorem implInBand_any (h m : Int) (w : World) : Calls Tryz.prog 136 #[.int .i64 h, .int .i64 m] w fun e w' => e = .returned (.bool (inBandB h m)) ∧ Below w.heap.size w w' := by
  cases hh : hadB h && hadB m
  · have hs : inBandB h m = false := by unfold inBandB; rw [hh]; rfl
    have Hs := hide hs
    clear hs
    go_enter Tryz.func136, Tryz.ntmps136
    go_wp2_with fail
    refine (areHads_any _ _ [h, m] _ (by simp) (by simp) ?_).mono ?_
    · intro k hk
      simp at hk
      match k, hk with
      | 0, _ => simp
      | 1, _ => simp
    rintro e w1 ⟨rfl, hb⟩
    rw [hads2, hh]
    have B1 : Hid (Below w.heap.size w w1) := hide (((Below.refl _ _).alloc (Nat.le_refl _) _).trans (hb.mono (by simp)))
    clear hb
    go_wp2_with fail
    go_ret
    exact ⟨ret_bool (unhide Hs).symm, unhide B1⟩
  · have hs : inBandB h m = inB (h - m) (-20000) 63000 := by unfold inBandB; rw [hh]; rfl
    have Hs := hide hs
    have h' := hh
    simp only [Bool.and_eq_true] at h'
    obtain ⟨m0, m1⟩ := had_of h'.2
    clear hs h'
    go_enter Tryz.func136, Tryz.ntmps136
    go_wp2_with fail
    refine (areHads_any _ _ [h, m] _ (by simp) (by simp) ?_).mono ?_
    · intro k hk
      simp at hk
      match k, hk with
      | 0, _ => simp
      | 1, _ => simp
    rintro e w1 ⟨rfl, hb⟩
    rw [hads2, hh]
    have B1 : Hid (Below w.heap.size w w1) := hide (((Below.refl _ _).alloc (Nat.le_refl _) _).trans (hb.mono (by simp)))
    clear hb
    go_wp2_with fail
    refine (bandOf_any m _ m0 m1).mono ?_
    rintro e w2 ⟨rfl, hb⟩
    have B2 : Hid (Below w.heap.size w w2) := hide ((unhide B1).trans (hb.mono (unhide B1).size))
    clear hb B1
    go_wp2_with fail
    refine (bandHolds_any _ _ _ _ [h] _ (by simp) (by simp) ?_).mono ?_
    · intro k hk
      simp at hk
      subst hk
      simp
    rintro e w3 ⟨rfl, hb⟩
    rw [band_at]
    have B3 : Hid (Below w.heap.size w w3) := hide (((unhide B2).alloc (unhide B2).size _).trans (hb.mono (by have := (unhide B2).size; simp; omega)))
    clear hb B2
    go_wp2_with fail
    go_ret
    exact ⟨ret_bool (unhide Hs).symm, unhide B3⟩

theorem implMarked_any (m f : Int) (w : World) : Calls Tryz.prog 216 #[.int .i64 m, .int .i64 f] w fun e w' => e = .returned (.int .i64 (markedV m f)) ∧ Below w.heap.size w w' := by
  cases hh : hadB m && hadB f
  · have hs : markedV m f = m := by unfold markedV; rw [hh]; rfl
    have Hs := hide hs
    clear hs
    go_enter Tryz.func216, Tryz.ntmps216
    go_wp2_with fail
    refine (areHads_any _ _ [m, f] _ (by simp) (by simp) ?_).mono ?_
    · intro k hk
      simp at hk
      match k, hk with
      | 0, _ => simp
      | 1, _ => simp
    rintro e w1 ⟨rfl, hb⟩
    rw [hads2, hh]
    have B1 : Hid (Below w.heap.size w w1) := hide (((Below.refl _ _).alloc (Nat.le_refl _) _).trans (hb.mono (by simp)))
    clear hb
    go_wp2_with fail
    go_ret
    exact ⟨ret_int (unhide Hs).symm, unhide B1⟩
  · have hs : markedV m f = min (max m f) 900000000000 := by unfold markedV; rw [hh]; rfl
    have Hs := hide hs
    clear hs
    go_enter Tryz.func216, Tryz.ntmps216
    go_wp2_with fail
    refine (areHads_any _ _ [m, f] _ (by simp) (by simp) ?_).mono ?_
    · intro k hk
      simp at hk
      match k, hk with
      | 0, _ => simp
      | 1, _ => simp
    rintro e w1 ⟨rfl, hb⟩
    rw [hads2, hh]
    have B1 : Hid (Below w.heap.size w w1) := hide (((Below.refl _ _).alloc (Nat.le_refl _) _).trans (hb.mono (by simp)))
    clear hb
    go_wp2_with fail
    refine (implClamped_any m f 900000000000 _).mono ?_
    rintro e w2 ⟨rfl, hw2⟩
    subst w2
    go_wp2_with fail
    go_ret
    exact ⟨ret_int (unhide Hs).symm, unhide B1⟩

theorem bandHad_any (x : Int) (w : World) : Calls Tryz.prog 110 #[.int .i64 x] w fun e w' => e = .returned (.bool (hadB x)) ∧ w' = w := by
  go_enter Tryz.func110, Tryz.ntmps110
  go_wp2_with (go_at_call 56; refine (l1In_any _ _ _ _).mono ?_; rintro e w' ⟨rfl, rfl⟩)
  go_ret
  exact ⟨rfl, rfl⟩
theorem bandHad_v {x : Int} {r : Bool} (h : hadB x = r) (w : World) : Calls Tryz.prog 110 #[.int .i64 x] w fun e w' => e = .returned (.bool r) ∧ w' = w := by
  rw [← h]; exact bandHad_any x w

theorem specMarked_any (m f : Int) (w : World) : Calls Tryz.prog 181 #[.int .i64 m, .int .i64 f] w fun e w' => e = .returned (.int .i64 (markedV m f)) ∧ w' = w := by
  cases h1 : hadB m
  · have hs : markedV m f = m := by unfold markedV; rw [h1]; rfl
    have Hs := hide hs
    have H1 := hide h1
    clear hs h1
    go_enter Tryz.func181, Tryz.ntmps181
    go_wp2_with (go_at_call 110; refine (bandHad_v (unhide H1) _).mono ?_; rintro e w' ⟨rfl, rfl⟩)
    go_ret
    exact ⟨ret_int (unhide Hs).symm, rfl⟩
  cases h2 : hadB f
  · have hs : markedV m f = m := by unfold markedV; rw [h1, h2]; rfl
    have Hs := hide hs
    have H1 := hide h1
    have H2 := hide h2
    clear hs h1 h2
    go_enter Tryz.func181, Tryz.ntmps181
    go_wp2_with (go_at_call 110; first | (refine (bandHad_v (unhide H1) _).mono ?_; rintro e w' ⟨rfl, rfl⟩) | (refine (bandHad_v (unhide H2) _).mono ?_; rintro e w' ⟨rfl, rfl⟩))
    go_ret
    exact ⟨ret_int (unhide Hs).symm, rfl⟩
  have hs : markedV m f = min (max m f) 900000000000 := by unfold markedV; rw [h1, h2]; rfl
  have Hs := hide hs
  have H1 := hide h1
  have H2 := hide h2
  clear hs h1 h2
  go_enter Tryz.func181, Tryz.ntmps181
  go_wp2_with (first | (go_at_call 131; refine (l1Max_any _ _ _).mono ?_; rintro e w' ⟨rfl, rfl⟩) | (go_at_call 227; refine (l1Min_any _ _ _).mono ?_; rintro e w' ⟨rfl, rfl⟩) | (go_at_call 110; first | (refine (bandHad_v (unhide H1) _).mono ?_; rintro e w' ⟨rfl, rfl⟩) | (refine (bandHad_v (unhide H2) _).mono ?_; rintro e w' ⟨rfl, rfl⟩)))
  go_ret
  exact ⟨ret_int (unhide Hs).symm, rfl⟩

end Go.Proofs.YthbbahagpmdooaaGreatDoor

