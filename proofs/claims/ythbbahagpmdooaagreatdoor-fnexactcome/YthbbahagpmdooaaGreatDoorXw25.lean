/- Part 25 of what the proof rests on. No condition but those that a theorem names. -/
import Derived.Test.YthbbahagpmdooaaGreatDoorXw24
set_option maxHeartbeats 8000000
set_option maxRecDepth 100000
namespace Go.Proofs.YthbbahagpmdooaaGreatDoor
open Go.ChangeShapes Go.WideShapes Go.ChangeAt Go.RowKit Go.Sort
set_option linter.unusedVariables false
theorem enough_any (f c need : Int) (w : World) (f0 : 1 ≤ f) (f1 : f ≤ 1024) (n0 : 0 ≤ need) (n1 : need ≤ 1000000) :
  Calls Tryz.prog 340 #[.int .i64 f, .int .i64 need] w fun e w' => e = .returned (.bool (enoughB need (f, c))) ∧ Below w.heap.size w w' :=
 (isEnough_any f need w (by omega) (by omega) n0 (by omega)).mono fun _ _ ⟨he, hw⟩ => ⟨he, hw ▸ Below.refl _ _⟩
theorem slowest_any {w : World} {v : Value} {ps : List PaceV} (b need : Int) (h : IsPaces w v ps) (hr : roomB (b, ps) = true) (hn : inB need 0 1000000 = true) :
  Calls Tryz.prog 336 #[v, .int .i64 need] w fun e w' => e = .returned (.int .i64 (paceN need ps)) ∧ Below w.heap.size w w' := by
 obtain ⟨a, cap, rfl, hc, hm, hrow⟩ := h
 have hbd := room_bd hr
 simp only at hbd
 obtain ⟨_, _, hl1, hl4⟩ := hbd
 obtain ⟨n0, n1⟩ := inB_of hn
 rcases hrow with h0 | ⟨bk, off, rfl, hbw, hcl⟩
 ·rw [h0] at hl1; simp at hl1
 have Hcl := hide hcl
 have Hr := hide hr
 clear hcl hr hn
 go_enter Tryz.func336, Tryz.ntmps336
 go_wp2_with fail
 go_step3
 go_wp2_with fail
 go_step3
 go_wp2_with fail
 go_loopw [5] (fun i wr => ∃ k : Nat, k + 1 ≤ ps.length ∧ i = .int .i64 k ∧ (∀ j, j < k → enoughB need (paceAt ps j) = false) ∧ Below w.heap.size w wr) (fun i _ => ps.length - (intOf i).toNat)
 case atStart => exact ⟨0, by omega, rfl, fun j hj => by omega, Below.refl _ _⟩
 case round =>
  obtain ⟨k, hk, rfl, hlo, hb⟩ := hrel
  have Hlo := hide hlo
  have Hb := hide hb
  clear hlo
  by_cases hlast : k + 1 = ps.length
  ·clear hb
   have he : (k : Int) = (ps.length : Int) - 1 := by omega
   have Hp := hide (paceN_eq need ps k hk (uh Hlo) (.inl hlast))
   go_wp2_with fail
   (try rw [Exit.noGoto_ret])
   go_ret
   exact ⟨ret_int (by rw [uh Hp]), uh Hb⟩
  ·have hne : ¬ (k : Int) = (ps.length : Int) - 1 := by omega
   obtain ⟨c0, c1⟩ := uh Hcl k (by omega)
   rw [← hb.cell (p := ⟨bk, off + k * 2, none⟩) hbw] at c0
   rw [← hb.cell (p := ⟨bk, off + k * 2 + 1, none⟩) hbw] at c1
   have hpb := room_pace (uh Hr) (k := k) (show k < ps.length by omega)
   simp only at hpb
   generalize hp : paceAt ps k = p at c0 c1 hpb
   have Hp := hide hp
   clear hp hb
   obtain ⟨f, c⟩ := p
   simp only at c0 c1 hpb
   obtain ⟨f0, f1, _, _⟩ := hpb
   go_wp2_with fail
   refine (enough_any f c need _ f0 f1 n0 n1).mono ?_
   rintro e w1 ⟨rfl, hb1⟩
   have Hb1 := hide hb1
   clear hb1
   cases hen : enoughB need (f, c)
   ·go_wp2_with fail
    go_roundw
    case rel => exact ⟨k + 1, by omega, by go_num, next_all (uh Hlo) (by rw [uh Hp]; exact hen), (uh Hb).trans ((uh Hb1).mono (uh Hb).size)⟩
    case measure => simp [intOf]; omega
   ·have Hq := hide (paceN_eq need ps k hk (uh Hlo) (.inr (by rw [uh Hp]; exact hen)))
    go_wp2_with fail
    (try rw [Exit.noGoto_ret])
    go_ret
    exact ⟨ret_int (by rw [uh Hq]), (uh Hb).trans ((uh Hb1).mono (uh Hb).size)⟩
theorem implPaceFor_any {w : World} {v : Value} {ps : List PaceV} (b need : Int) (h : IsPaces w v ps) :
  Calls Tryz.prog 326 #[.agg #[.int .i64 b, v], .int .i64 need] w fun e w' => e = .returned (.int .i64 (paceForV (b, ps) need)) ∧ Below w.heap.size w w' := by
 have Hv := hide h
 obtain ⟨a, cap, rfl, hc, hm, hrow⟩ := h
 clear hrow
 cases hr : roomB (b, ps)
 ·rw [paceForV_f1 hr]
  go_enter Tryz.func326, Tryz.ntmps326
  go_wp2_with fail
  refine (implRoomOk_any b ((uh Hv).below ((Below.refl _ _).alloc (Nat.le_refl _) _))).mono ?_
  rintro e w1 ⟨rfl, hb⟩
  have B1 : Hid (Below w.heap.size w w1) := hide (((Below.refl _ _).alloc (Nat.le_refl _) _).trans (hb.mono (by simp)))
  clear hb
  go_wp2_with fail
  go_ret
  exact ⟨rfl, uh B1⟩
 cases hn : inB need 0 1000000
 ·rw [paceForV_f2 hn]
  go_enter Tryz.func326, Tryz.ntmps326
  go_wp2_with fail
  refine (implRoomOk_any b ((uh Hv).below ((Below.refl _ _).alloc (Nat.le_refl _) _))).mono ?_
  rintro e w1 ⟨rfl, hb⟩
  have B1 : Hid (Below w.heap.size w w1) := hide (((Below.refl _ _).alloc (Nat.le_refl _) _).trans (hb.mono (by simp)))
  clear hb
  go_wp2_with (go_at_call 189; refine (liesFrom_any _ _ _ _).mono ?_; rintro e w' ⟨rfl, rfl⟩)
  go_ret
  exact ⟨rfl, uh B1⟩
 ·rw [paceForV_t hr hn]
  have Hr := hide hr
  go_enter Tryz.func326, Tryz.ntmps326
  go_wp2_with fail
  refine (implRoomOk_any b ((uh Hv).below ((Below.refl _ _).alloc (Nat.le_refl _) _))).mono ?_
  rintro e w1 ⟨rfl, hb⟩
  have x1 : w1.cell? ⟨w.heap.size, 1, none⟩ = some (.slice a ps.length cap) := (hb.cell (p := ⟨w.heap.size, 1, none⟩) (by simp)).trans (by simp)
  have B1 : Hid (Below w.heap.size w w1) := hide (((Below.refl _ _).alloc (Nat.le_refl _) _).trans (hb.mono (by simp)))
  clear hb
  go_wp2_with (go_at_call 189; refine (liesFrom_any _ _ _ _).mono ?_; rintro e w' ⟨rfl, rfl⟩)
  refine (slowest_any b need ((uh Hv).below (uh B1)) (uh Hr) hn).mono ?_
  rintro e w2 ⟨rfl, hb2⟩
  have Hb2 := hide hb2
  clear hb2
  go_wp2_with fail
  go_ret
  exact ⟨rfl, (uh B1).trans ((uh Hb2).mono (uh B1).size)⟩
theorem l5Work_any (x : Int) (w : World) : Calls Tryz.prog 178 #[.int .i64 x] w fun e w' => e = .returned (.bool (inB x 0 1000000)) ∧ w' = w := by
 go_enter Tryz.func178, Tryz.ntmps178
 go_wp2_with (go_at_call 56; refine (l1In_any _ _ _ _).mono ?_; rintro e w' ⟨rfl, rfl⟩)
 go_ret
 exact ⟨rfl, rfl⟩
theorem specPaceFor_any {w : World} {v : Value} {ps : List PaceV} (b need : Int) (h : IsPaces w v ps) :
  Calls Tryz.prog 310 #[.agg #[.int .i64 b, v], .int .i64 need] w fun e w' => e = .returned (.int .i64 (paceForV (b, ps) need)) ∧ Below w.heap.size w w' := by
 have Hv := hide h
 obtain ⟨a, cap, rfl, hc, hm, hrow⟩ := h
 clear hrow
 cases hr : roomB (b, ps)
 ·rw [paceForV_f1 hr]
  go_enter Tryz.func310, Tryz.ntmps310
  go_wp2_with fail
  refine (specRoomOk_any b ((uh Hv).below ((Below.refl _ _).alloc (Nat.le_refl _) _))).mono ?_
  rintro e w1 ⟨rfl, hb⟩
  have B1 : Hid (Below w.heap.size w w1) := hide (((Below.refl _ _).alloc (Nat.le_refl _) _).trans (hb.mono (by simp)))
  clear hb
  go_wp2_with fail
  go_ret
  exact ⟨rfl, uh B1⟩
 cases hn : inB need 0 1000000
 ·rw [paceForV_f2 hn]
  go_enter Tryz.func310, Tryz.ntmps310
  go_wp2_with fail
  refine (specRoomOk_any b ((uh Hv).below ((Below.refl _ _).alloc (Nat.le_refl _) _))).mono ?_
  rintro e w1 ⟨rfl, hb⟩
  have B1 : Hid (Below w.heap.size w w1) := hide (((Below.refl _ _).alloc (Nat.le_refl _) _).trans (hb.mono (by simp)))
  clear hb
  go_wp2_with (go_at_call 178; refine (l5Work_any _ _).mono ?_; rintro e w' ⟨rfl, rfl⟩)
  go_ret
  exact ⟨rfl, uh B1⟩
 rw [paceForV_t hr hn]
 have Hr := hide hr
 have hn' := hn
 obtain ⟨n0, n1⟩ := inB_of hn'
 clear hn'
 go_enter Tryz.func310, Tryz.ntmps310
 go_wp2_with fail
 refine (specRoomOk_any b ((uh Hv).below ((Below.refl _ _).alloc (Nat.le_refl _) _))).mono ?_
 rintro e w1 ⟨rfl, hb⟩
 have x1 : w1.cell? ⟨w.heap.size, 1, none⟩ = some (.slice a ps.length cap) := (hb.cell (p := ⟨w.heap.size, 1, none⟩) (by simp)).trans (by simp)
 have B1 : Hid (Below w.heap.size w w1) := hide (((Below.refl _ _).alloc (Nat.le_refl _) _).trans (hb.mono (by simp)))
 clear hb
 have hv1 := (uh Hv).below (uh B1)
 obtain ⟨a', cap', he, _, _, hrow⟩ := hv1
 cases he
 have hbd := room_bd (uh Hr)
 simp only at hbd
 obtain ⟨_, _, hl1, hl4⟩ := hbd
 rcases hrow with h0 | ⟨bk, off, rfl, hbw, hcl⟩
 ·rw [h0] at hl1; simp at hl1
 have Hcl := hide hcl
 clear hcl
 go_wp2_with (go_at_call 178; refine (l5Work_any _ _).mono ?_; rintro e w' ⟨rfl, rfl⟩)
 clear hr hn
 go_loop [5] (fun i => ∃ k : Nat, k + 1 ≤ ps.length ∧ i = .int .i64 k ∧ (∀ j, j < k → enoughB need (paceAt ps j) = false)) (fun i => ps.length - (intOf i).toNat)
 case atStart => exact ⟨0, by omega, rfl, fun j hj => by omega⟩
 case round =>
  obtain ⟨k, hk, rfl, hlo⟩ := hrel
  have Hlo := hide hlo
  clear hlo
  by_cases hlast : k + 1 = ps.length
  ·have Hp := hide (paceN_eq need ps k hk (uh Hlo) (.inl hlast))
   have hd : ¬ (k : Int) + 1 < (ps.length : Int) := by omega
   go_wp2_with fail
   go_ret
   exact ⟨ret_int (by rw [uh Hp]), uh B1⟩
  ·have hd : (k : Int) + 1 < (ps.length : Int) := by omega
   obtain ⟨c0, c1⟩ := uh Hcl k (by omega)
   have hpb := room_pace (uh Hr) (k := k) (show k < ps.length by omega)
   simp only at hpb
   generalize hp : paceAt ps k = p at c0 c1 hpb
   have Hp := hide hp
   clear hp
   obtain ⟨f, c⟩ := p
   simp only at c0 c1 hpb
   obtain ⟨f0, f1, _, _⟩ := hpb
   by_cases hen : 4 * f < 5 * need
   ·go_wp2_with fail
    go_round
    case rel => exact ⟨k + 1, by omega, by go_num, next_all (uh Hlo) (by rw [uh Hp]; exact enough_f hen)⟩
    case measure => simp [intOf]; omega
   ·have Hq := hide (paceN_eq need ps k hk (uh Hlo) (.inr (by rw [uh Hp]; exact enough_t (by simp only; omega))))
    go_wp2_with fail
    go_ret
    exact ⟨ret_int (by rw [uh Hq]), uh B1⟩
theorem implCoalFor_any {w : World} {v : Value} {ps : List PaceV} (b pace work : Int) (h : IsPaces w v ps) :
  Calls Tryz.prog 325 #[.agg #[.int .i64 b, v], .int .i64 pace, .int .i64 work] w fun e w' => e = .returned (.int .i64 (coalForV (b, ps) pace work)) ∧ Below w.heap.size w w' := by
 have Hv := hide h
 obtain ⟨a, cap, rfl, hc, hm, hrow⟩ := h
 clear hrow
 have hl : (ps.length : Int) ≤ 9223372036854775807 := by omega
 cases hr : roomB (b, ps)
 ·rw [coalForV_f1 hr]
  go_enter Tryz.func325, Tryz.ntmps325
  go_wp2_with fail
  refine (implRoomOk_any b ((uh Hv).below ((Below.refl _ _).alloc (Nat.le_refl _) _))).mono ?_
  rintro e w1 ⟨rfl, hb⟩
  have B1 : Hid (Below w.heap.size w w1) := hide (((Below.refl _ _).alloc (Nat.le_refl _) _).trans (hb.mono (by simp)))
  clear hb
  go_wp2_with fail
  go_ret
  exact ⟨rfl, uh B1⟩
 by_cases hp0 : pace < 0
 ·rw [coalForV_f3 (inB_f (by omega))]
  go_enter Tryz.func325, Tryz.ntmps325
  go_wp2_with fail
  refine (implRoomOk_any b ((uh Hv).below ((Below.refl _ _).alloc (Nat.le_refl _) _))).mono ?_
  rintro e w1 ⟨rfl, hb⟩
  have B1 : Hid (Below w.heap.size w w1) := hide (((Below.refl _ _).alloc (Nat.le_refl _) _).trans (hb.mono (by simp)))
  clear hb
  go_wp2_with fail
  go_ret
  exact ⟨rfl, uh B1⟩
 by_cases hp1 : (ps.length : Int) ≤ pace
 ·rw [coalForV_f3 (inB_f (by simp only; omega))]
  go_enter Tryz.func325, Tryz.ntmps325
  go_wp2_with fail
  refine (implRoomOk_any b ((uh Hv).below ((Below.refl _ _).alloc (Nat.le_refl _) _))).mono ?_
  rintro e w1 ⟨rfl, hb⟩
  have x1 : w1.cell? ⟨w.heap.size, 1, none⟩ = some (.slice a ps.length cap) := (hb.cell (p := ⟨w.heap.size, 1, none⟩) (by simp)).trans (by simp)
  have B1 : Hid (Below w.heap.size w w1) := hide (((Below.refl _ _).alloc (Nat.le_refl _) _).trans (hb.mono (by simp)))
  clear hb
  go_wp2_with fail
  go_ret
  exact ⟨rfl, uh B1⟩
 cases hn : inB work 0 1000000
 ·rw [coalForV_f2 hn]
  go_enter Tryz.func325, Tryz.ntmps325
  go_wp2_with fail
  refine (implRoomOk_any b ((uh Hv).below ((Below.refl _ _).alloc (Nat.le_refl _) _))).mono ?_
  rintro e w1 ⟨rfl, hb⟩
  have x1 : w1.cell? ⟨w.heap.size, 1, none⟩ = some (.slice a ps.length cap) := (hb.cell (p := ⟨w.heap.size, 1, none⟩) (by simp)).trans (by simp)
  have B1 : Hid (Below w.heap.size w w1) := hide (((Below.refl _ _).alloc (Nat.le_refl _) _).trans (hb.mono (by simp)))
  clear hb
  go_wp2_with (go_at_call 189; refine (liesFrom_any _ _ _ _).mono ?_; rintro e w' ⟨rfl, rfl⟩)
  go_ret
  exact ⟨rfl, uh B1⟩
 rw [coalForV_t hr hn (inB_t (by omega) (by simp only; omega))]
 obtain ⟨k, rfl⟩ := Int.eq_ofNat_of_zero_le (show 0 ≤ pace by omega)
 have hk : k < ps.length := by omega
 rw [Int.toNat_natCast]
 simp only
 generalize hpk : paceAt ps k = p
 have Hpk := hide hpk
 clear hpk
 obtain ⟨f, c⟩ := p
 simp only
 have Hn := hide hn
 go_enter Tryz.func325, Tryz.ntmps325
 go_wp2_with fail
 refine (implRoomOk_any b ((uh Hv).below ((Below.refl _ _).alloc (Nat.le_refl _) _))).mono ?_
 rintro e w1 ⟨rfl, hb⟩
 have x1 : w1.cell? ⟨w.heap.size, 1, none⟩ = some (.slice a ps.length cap) := (hb.cell (p := ⟨w.heap.size, 1, none⟩) (by simp)).trans (by simp)
 have B1 : Hid (Below w.heap.size w w1) := hide (((Below.refl _ _).alloc (Nat.le_refl _) _).trans (hb.mono (by simp)))
 have hz1 : w.heap.size + 1 ≤ w1.heap.size := by have := hb.size; simpa using this
 clear hb
 have hv1 := (uh Hv).below (uh B1)
 obtain ⟨a', cap', he, _, _, hrow⟩ := hv1
 cases he
 rcases hrow with h0 | ⟨bk, off, rfl, hbw, hcl⟩
 ·rw [h0] at hk; simp at hk
 obtain ⟨c0, c1⟩ := hcl k hk
 clear hcl
 rw [uh Hpk] at c0 c1
 simp only at c0 c1
 go_wp2_with (go_at_call 189; refine (liesFrom_any _ _ _ _).mono ?_; rintro e w' ⟨rfl, rfl⟩)
 refine (implMulDiv_any c work f _).mono ?_
 rintro e w2 ⟨rfl, hb2⟩
 have Hb2 := hide hb2
 clear hb2
 go_wp2_with fail
 go_ret
 exact ⟨rfl, (uh B1).trans (((Below.refl _ _).alloc (uh B1).size _).trans ((uh Hb2).mono (by simp; omega)))⟩
theorem specCoalFor_any {w : World} {v : Value} {ps : List PaceV} (b pace work : Int) (h : IsPaces w v ps) :
  Calls Tryz.prog 309 #[.agg #[.int .i64 b, v], .int .i64 pace, .int .i64 work] w fun e w' => e = .returned (.int .i64 (coalForV (b, ps) pace work)) ∧ Below w.heap.size w w' := by
 have Hv := hide h
 obtain ⟨a, cap, rfl, hc, hm, hrow⟩ := h
 clear hrow
 have hl : (ps.length : Int) ≤ 9223372036854775807 := by omega
 cases hr : roomB (b, ps)
 ·rw [coalForV_f1 hr]
  go_enter Tryz.func309, Tryz.ntmps309
  go_wp2_with fail
  refine (specRoomOk_any b ((uh Hv).below ((Below.refl _ _).alloc (Nat.le_refl _) _))).mono ?_
  rintro e w1 ⟨rfl, hb⟩
  have B1 : Hid (Below w.heap.size w w1) := hide (((Below.refl _ _).alloc (Nat.le_refl _) _).trans (hb.mono (by simp)))
  clear hb
  go_wp2_with fail
  go_ret
  exact ⟨rfl, uh B1⟩
 cases hn : inB work 0 1000000
 ·rw [coalForV_f2 hn]
  go_enter Tryz.func309, Tryz.ntmps309
  go_wp2_with fail
  refine (specRoomOk_any b ((uh Hv).below ((Below.refl _ _).alloc (Nat.le_refl _) _))).mono ?_
  rintro e w1 ⟨rfl, hb⟩
  have B1 : Hid (Below w.heap.size w w1) := hide (((Below.refl _ _).alloc (Nat.le_refl _) _).trans (hb.mono (by simp)))
  clear hb
  go_wp2_with (go_at_call 178; refine (l5Work_any _ _).mono ?_; rintro e w' ⟨rfl, rfl⟩)
  go_ret
  exact ⟨rfl, uh B1⟩
 cases hp : inB pace 0 ((ps.length : Int) - 1)
 ·rw [coalForV_f3 hp]
  go_enter Tryz.func309, Tryz.ntmps309
  go_wp2_with fail
  refine (specRoomOk_any b ((uh Hv).below ((Below.refl _ _).alloc (Nat.le_refl _) _))).mono ?_
  rintro e w1 ⟨rfl, hb⟩
  have x1 : w1.cell? ⟨w.heap.size, 1, none⟩ = some (.slice a ps.length cap) := (hb.cell (p := ⟨w.heap.size, 1, none⟩) (by simp)).trans (by simp)
  have B1 : Hid (Below w.heap.size w w1) := hide (((Below.refl _ _).alloc (Nat.le_refl _) _).trans (hb.mono (by simp)))
  clear hb
  go_wp2_with (first | (go_at_call 178; refine (l5Work_any _ _).mono ?_; rintro e w' ⟨rfl, rfl⟩) | (go_at_call 56; refine (l1In_any _ _ _ _).mono ?_; rintro e w' ⟨rfl, rfl⟩))
  go_ret
  exact ⟨rfl, uh B1⟩
 rw [coalForV_t hr hn hp]
 have hpp := inB_of hp
 obtain ⟨hp0, hp1⟩ := hpp
 obtain ⟨k, rfl⟩ := Int.eq_ofNat_of_zero_le hp0
 have hk : k < ps.length := by omega
 rw [Int.toNat_natCast]
 simp only
 generalize hpk : paceAt ps k = p
 have Hpk := hide hpk
 clear hpk
 obtain ⟨f, c⟩ := p
 simp only
 go_enter Tryz.func309, Tryz.ntmps309
 go_wp2_with fail
 refine (specRoomOk_any b ((uh Hv).below ((Below.refl _ _).alloc (Nat.le_refl _) _))).mono ?_
 rintro e w1 ⟨rfl, hb⟩
 have x1 : w1.cell? ⟨w.heap.size, 1, none⟩ = some (.slice a ps.length cap) := (hb.cell (p := ⟨w.heap.size, 1, none⟩) (by simp)).trans (by simp)
 have B1 : Hid (Below w.heap.size w w1) := hide (((Below.refl _ _).alloc (Nat.le_refl _) _).trans (hb.mono (by simp)))
 clear hb
 have hv1 := (uh Hv).below (uh B1)
 obtain ⟨a', cap', he, _, _, hrow⟩ := hv1
 cases he
 rcases hrow with h0 | ⟨bk, off, rfl, hbw, hcl⟩
 ·rw [h0] at hk; simp at hk
 obtain ⟨c0, c1⟩ := hcl k hk
 clear hcl
 rw [uh Hpk] at c0 c1
 simp only at c0 c1
 go_wp2_with (first | (go_at_call 178; refine (l5Work_any _ _).mono ?_; rintro e w' ⟨rfl, rfl⟩) | (go_at_call 56; refine (l1In_any _ _ _ _).mono ?_; rintro e w' ⟨rfl, rfl⟩))
 go_quiet (exact Calls.quiet_of_same (specMulDiv_any _ _ _ _))
 go_wp2_with fail
 go_ret
 exact ⟨rfl, below_drewN (uh B1) _⟩
theorem implLeastCoal_any {w : World} {v : Value} {ps : List PaceV} (b need work : Int) (h : IsPaces w v ps) :
  Calls Tryz.prog 306 #[.agg #[.int .i64 b, v], .int .i64 need, .int .i64 work] w fun e w' => e = .returned (.int .i64 (leastV (b, ps) need work)) ∧ Below w.heap.size w w' := by
 have Hv := hide h
 obtain ⟨a, cap, rfl, hc, hm, hrow⟩ := h
 clear hrow
 have k0 := cell_regrown (w := w.alloc (.cells #[.int .i64 b, .slice a ps.length cap] 130)) (a := ⟨w.heap.size, 0, none⟩) (v := .int .i64 b) (by simp)
 have k1 := cell_regrown (w := w.alloc (.cells #[.int .i64 b, .slice a ps.length cap] 130)) (a := ⟨w.heap.size, 1, none⟩) (v := .slice a ps.length cap) (by simp)
 have Ha : Hid (IsPaces (w.alloc (.cells #[.int .i64 b, .slice a ps.length cap] 130)) (.slice a ps.length cap) ps) := hide ((uh Hv).below ((Below.refl _ _).alloc (Nat.le_refl _) _))
 go_enter Tryz.func306, Tryz.ntmps306
 go_wp2_with fail
 refine wp_region_quiet_below (by kernel_rfl) (by kernel_rfl) ?_
 repeat (go_big_quiet_step (first | exact Calls.regrown_of (implPaceFor_any b need ((uh Ha).below (below_regrown _ _ _))) | exact Calls.regrown_of (implCoalFor_any b _ work ((uh Ha).below (below_regrown _ _ _)))))
 refine wpQuiet_nil ?_
 intro _ hw'
 obtain ⟨⟨dq, osq⟩, hw''⟩ := hw'
 subst hw''
 go_wp2_with fail
 go_ret
 exact ⟨rfl, ((Below.refl _ _).alloc (Nat.le_refl _) _).trans ((below_regrown _ _ _).mono (by simp))⟩
theorem specLeastCoal_any {w : World} {v : Value} {ps : List PaceV} (b need work : Int) (h : IsPaces w v ps) :
  Calls Tryz.prog 277 #[.agg #[.int .i64 b, v], .int .i64 need, .int .i64 work] w fun e w' => e = .returned (.int .i64 (leastV (b, ps) need work)) ∧ Below w.heap.size w w' := by
 have Hv := hide h
 obtain ⟨a, cap, rfl, hc, hm, hrow⟩ := h
 clear hrow
 have k0 := cell_regrown (w := w.alloc (.cells #[.int .i64 b, .slice a ps.length cap] 130)) (a := ⟨w.heap.size, 0, none⟩) (v := .int .i64 b) (by simp)
 have k1 := cell_regrown (w := w.alloc (.cells #[.int .i64 b, .slice a ps.length cap] 130)) (a := ⟨w.heap.size, 1, none⟩) (v := .slice a ps.length cap) (by simp)
 have Ha : Hid (IsPaces (w.alloc (.cells #[.int .i64 b, .slice a ps.length cap] 130)) (.slice a ps.length cap) ps) := hide ((uh Hv).below ((Below.refl _ _).alloc (Nat.le_refl _) _))
 go_enter Tryz.func277, Tryz.ntmps277
 go_wp2_with fail
 refine wp_region_quiet_below (by kernel_rfl) (by kernel_rfl) ?_
 repeat (go_big_quiet_step (first | exact Calls.regrown_of (specPaceFor_any b need ((uh Ha).below (below_regrown _ _ _))) | exact Calls.regrown_of (specCoalFor_any b _ work ((uh Ha).below (below_regrown _ _ _)))))
 refine wpQuiet_nil ?_
 intro _ hw'
 obtain ⟨⟨dq, osq⟩, hw''⟩ := hw'
 subst hw''
 go_wp2_with fail
 go_ret
 exact ⟨rfl, ((Below.refl _ _).alloc (Nat.le_refl _) _).trans ((below_regrown _ _ _).mono (by simp))⟩
open Go.ChangeShapes Go.WideShapes Go.ChangeAt Go.RowKit Go.Sort Go.Shelf
set_option maxRecDepth 100000
attribute [local go_sem] Oper.semAt_some
theorem below_others {W X : World} (h : Below W.heap.size W X) : KeepsOthers W X := ⟨h.size, fun k o hk _ => (h.block k (Array.getElem?_eq_some_iff.1 hk).1).trans hk⟩
theorem below_boxes {W X : World} (h : Below W.heap.size W X) {B : Nat} {t : TypeId} : KeepsBox B t W X := fun v hv => (h.block B hv.lt).trans hv
theorem below_boxed {W X : World} (h : Below W.heap.size W X) {B : Nat} {t : TypeId} {v : Value} (hv : Boxed W B t v) : Boxed X B t v := (h.block B hv.lt).trans hv
def Rnd (w : World) (f : List Int → Int) (a0 : Option Addr) (p0 : Nat) (a1 : Option Addr) (p1 : Nat) (a2 : Option Addr) (p2 : Nat) (a3 : Option Addr) (p3 : Nat) (a4 : Option Addr) (p4 : Nat) (m : SmyV) (pre : List Int) (W : World) : Prop := Boxed W (w.heap.size + 1) 2 (.int .i64 (f pre)) ∧ Bx w W w.heap.size a0 p0 a1 p1 a2 p2 a3 p3 a4 p4 m
theorem rnd_own (w : World) (f : List Int → Int) (a0 : Option Addr) (p0 : Nat) (a1 : Option Addr) (p1 : Nat) (a2 : Option Addr) (p2 : Nat) (a3 : Option Addr) (p3 : Nat) (a4 : Option Addr) (p4 : Nat) (m : SmyV) (hs : Smy w (.slice a0 m.rooms.length p0) (.slice a1 m.guilds.length p1) (.slice a2 m.smiths.length p2) (.slice a3 m.desks.length p3) (.slice a4 m.paces.length p4) m) {B : Nat} (hB : w.heap.size ≤ B) : OwnFrom B (Rnd w f a0 p0 a1 p1 a2 p2 a3 p3 a4 p4 m) := by
 rintro pre W X row ⟨h1, h2⟩ hg hr
 have h4 := h2.bb.grown hg h2.bb.size (fun k e => Nat.le_trans hB (hr k e).1)
 refine ⟨h1.kept hg (fun e => ?_), hs.below h4, (hg.block _ h2.blk.lt (fun e => ?_)).trans h2.blk, h4⟩
 ·obtain ⟨_, o, ho, hc⟩ := hr _ e.symm
  rw [show W.heap[w.heap.size + 1]? = _ from h1] at ho; cases ho; cases hc
 ·obtain ⟨_, o, ho, hc⟩ := hr _ e.symm
  rw [show W.heap[w.heap.size]? = _ from h2.blk] at ho; cases ho; cases hc
theorem rnd_step {w W W1 W2 : World} {f : List Int → Int} {a0 a1 a2 a3 a4 : Option Addr} {p0 p1 p2 p3 p4 : Nat} {m : SmyV} {pre : List Int} {x v nl : Int} {B S : Nat} (hs : Smy w (.slice a0 m.rooms.length p0) (.slice a1 m.guilds.length p1) (.slice a2 m.smiths.length p2) (.slice a3 m.desks.length p3) (.slice a4 m.paces.length p4) m) (hko : KeepsOthers W W1) (hkb : KeepsBox S 2 W W1) (hb : Below W1.heap.size W1 W2) (hv : Boxed W1 (w.heap.size + 1) 2 (.int .i64 nl)) (hK : Bx w W1 w.heap.size a0 p0 a1 p1 a2 p2 a3 p3 a4 p4 m) (hS : w.heap.size + 1 < S) (e : f (pre ++ [x]) = v) :
  KeepsFrom B W (W2.setCell ⟨w.heap.size + 1, 0, none⟩ (.int .i64 v)) ∧ KeepsBox S 2 W (W2.setCell ⟨w.heap.size + 1, 0, none⟩ (.int .i64 v)) ∧ Rnd w f a0 p0 a1 p1 a2 p2 a3 p3 a4 p4 m (pre ++ [x]) (W2.setCell ⟨w.heap.size + 1, 0, none⟩ (.int .i64 v)) := by
 have hK2 := hK.next hb
 have hbb : Below w.heap.size w (W2.setCell ⟨w.heap.size + 1, 0, none⟩ (.int .i64 v)) := hK2.bb.setCell (p := ⟨w.heap.size + 1, 0, none⟩) (Nat.le_succ _) _
 refine ⟨((hko.trans (below_others hb)).trans (KeepsOthers.setCell _ _ _)).from _, fun u hu => (below_boxed hb (hkb u hu)).other (by omega) _, ?_, hs.below hbb, hK2.blk.other (a := ⟨w.heap.size + 1, 0, none⟩) (by show w.heap.size ≠ w.heap.size + 1; omega) _, hbb⟩
 rw [e]
 exact (below_boxed hb hv).set _
theorem needIn_in (n : Nat) (hn : 3 ≤ n) {w : World} {v0 v1 v2 v3 v4 : Value} {m : SmyV} {r : Nat} (h : Smy w v0 v1 v2 v3 v4 m) (hS : Sane m) (hW : Wants m) (hr : r < m.rooms.length) : CallsIn Fence.wide n Tryz.prog 307 #[.agg #[v0, v1, v2, v3, v4, .int .i64 m.now], .int .i64 (r : Int)] w fun e w' => e = .returned (.int .i64 (needL m (mems (setV m.rooms (r : Int))))) ∧ Below w.heap.size w w' := by
 have h1 : 1 ≤ n := by omega
 have hmo : Tryz.prog.follows .mixedOrders = true := by kernel_rfl
 have hl := hS.few
 have HW := hide hW
 have Hs := hide h
 clear hS hW
 obtain ⟨a0, p0, a1, p1, a2, p2, a3, p3, a4, p4, rfl, rfl, rfl, rfl, rfl, K⟩ := Bx.new h
 clear h
 obtain ⟨st, hst⟩ : ∃ st, setV m.rooms (r : Int) = st := ⟨_, rfl⟩
 rw [hst]
 have Hst := hide hst
 clear hst
 refine callsIn_of_wp_marks Tryz.func307 rfl trivial ?_ rfl
 simp only [Tryz.ntmps307, List.size_toArray, List.length_cons, List.length_nil, Nat.reduceAdd, Nat.reduceSub, Array.replicate_succ, Array.replicate_zero, List.push_toArray, List.append_toArray, List.nil_append, List.cons_append]
 gi_wp2_with fail
 have bN := Boxed.new (w.alloc (.cells #[.slice a0 m.rooms.length p0, .slice a1 m.guilds.length p1, .slice a2 m.smiths.length p2, .slice a3 m.desks.length p3, .slice a4 m.paces.length p4, .int .i64 m.now] 32)) 2 (.int .i64 0)
 rw [World.size_alloc] at bN
 replace K := K.alloc (.cells #[.int .i64 0] 2)
 generalize (w.alloc (.cells #[.slice a0 m.rooms.length p0, .slice a1 m.guilds.length p1, .slice a2 m.smiths.length p2, .slice a3 m.desks.length p3, .slice a4 m.paces.length p4, .int .i64 m.now] 32)).alloc (.cells #[.int .i64 0] 2) = W0 at *
 refine ⟨trivial, ?_⟩
 refine (callsIn_wide.2 (implBenchSet_any (r : Int) K.smy.rooms)).mono ?_
 rw [uh Hst]
 rintro e w1 ⟨rfl, hb⟩
 dsimp only
 replace bN := below_boxed hb bN
 replace K := K.next hb
 clear hb Hst
 gi_wp2_with (refine ⟨trivial, ?_⟩; gi_at_call 319; refine (membersOf_in (n - 1) _ _).mono ?_; rintro e w' ⟨rfl, rfl⟩)
 have bS := Boxed.new w1 2 (.int .i64 st)
 have hsz := K.bb.size
 refine wpIn_rangeFunc_ownG rfl h1 (gf := 333) (lb := #[.pointer (some ⟨w1.heap.size, 0, none⟩)]) rfl trivial (enters_of Tryz.func333 (by kernel_rfl) rfl)
  (members_stops (n - 1) (by omega) w1.heap.size st _ bS) (fun h k => h.trans k) (KeepsBox.putObj (by simp)) (Below.refl _ _) (fun _ => rfl)
  (Rnd w (needL m) a0 p0 a1 p1 a2 p2 a3 p3 a4 p4 m) (fun _ _ _ => False)
  (rnd_own w (needL m) a0 p0 a1 p1 a2 p2 a3 p3 a4 p4 m (uh Hs) (by simp; omega))
  (fun _ _ _ _ _ hs _ _ => hs)
  ⟨bN.alloc _, K.alloc _⟩
  (fun x => { tmps := #[.agg #[.slice a0 m.rooms.length p0, .slice a1 m.guilds.length p1, .slice a2 m.smiths.length p2, .slice a3 m.desks.length p3, .slice a4 m.paces.length p4, .int .i64 m.now], .int .i64 (r : Int), .pointer (some ⟨w.heap.size, 0, none⟩), undef, .int .i64 0, .pointer (some ⟨w.heap.size + 1, 0, none⟩), .int .i64 x, .pointer (some ⟨w.heap.size, 0, none⟩), .agg #[.slice a0 m.rooms.length p0], .int .i64 (r : Int), .int .i64 st, .func (.func 333) #[] #[.pointer (some ⟨w1.heap.size, 0, none⟩)], .int .i64 x, undef, undef, undef, undef, undef, undef, undef, undef, undef], defers := [] }) ?assign ?body ?done ?stop
 case assign =>
  intro l x W K hK
  gi_wp2
  exact hK
 case body =>
  rintro l pre x W ⟨hv, hK⟩ hlt
  have hc := hv.cell
  have hf := hv.frozen
  obtain ⟨c0, c1, c2, c3, c4, c5⟩ := hK.cells
  obtain ⟨us, hus⟩ : ∃ q, usedV m x (-1) = q := ⟨_, rfl⟩
  have hub := usedV_bd m x (-1)
  rw [hus] at hub
  have Hus := hide hus
  obtain ⟨q, hq⟩ : ∃ q, openB m x = q := ⟨_, rfl⟩
  have HN := hide (needL_snoc m pre x)
  have hnb := needL_bd m hl pre
  rw [hq, hus] at HN
  clear hus
  generalize needL m pre = nl at *
  gi_wp2_with fail
  refine ⟨trivial, fun _ => (by omega), ?_⟩
  refine (CallsIn.inRound l (callsIn_wide.2 (hasOpen_any hq hK.smy))).mono ?_
  rintro e W1 ⟨rfl, hb⟩
  dsimp only
  have hko := below_others hb
  have hkb := below_boxes hb (B := w1.heap.size) (t := 2)
  replace hv := below_boxed hb hv
  replace hK := hK.next hb
  clear hb hc hf c0 c1 c2 c3 c4 c5
  cases q
  ·gi_wp2_with fail
   exact ⟨hko.from _, hkb, by rw [show Rnd w (needL m) a0 p0 a1 p1 a2 p2 a3 p3 a4 p4 m (pre ++ [x]) W1 = (Boxed W1 (w.heap.size + 1) 2 (.int .i64 (needL m (pre ++ [x]))) ∧ Bx w W1 w.heap.size a0 p0 a1 p1 a2 p2 a3 p3 a4 p4 m) from rfl, uh HN]; exact ⟨hv, hK⟩⟩
  have hc := hv.cell
  have hf := hv.frozen
  obtain ⟨c0, c1, c2, c3, c4, c5⟩ := hK.cells
  gi_wp2_with fail
  gi_region_with_o (refine ⟨trivial, fun _ => (by omega), ?_⟩; gi_at_call 303; refine (CallsIn.inRound l (callsIn_wide.2 (usedAt_any (uh Hus) ?_ (uh HW) hl))).mono ?_; exact hK.smy.below (Below.refl _ _).drew; rintro e W2 ⟨rfl, hb2⟩; have Hb2 : Hid (Below W1.heap.size W1 W2) := hide ⟨hb2.os, hb2.tape, hb2.output, hb2.size, hb2.block⟩; have hv2 := below_boxed (uh Hb2) hv; have hc2 := hv2.cell; have hf2 := hv2.frozen; clear hb2)
  all_goals
   exact rnd_step (uh Hs) hko hkb (uh Hb2) hv hK bN.lt (by rw [uh HN]; simp only [if_true]; omega)
 case done =>
  rintro D ys W hD rfl ⟨hv, hK⟩ hDf
  have hc := hv.cell
  gi_wp2
  refine ⟨by simp, .inl ⟨_, _, rfl, run_takeDeferred hDf, ?_⟩⟩
  exact ⟨_, results_tmp rfl _ _ _, rfl, hK.bb.trans (belowK_b (w := w) (Nat.le_refl _) W D _ _ (by simp at hD; omega) hDf rfl rfl)⟩
 case stop =>
  rintro D c pre W _ _ h _
  exact h.elim
theorem needIn_any {w : World} {v0 v1 v2 v3 v4 : Value} {m : SmyV} {r : Nat} (h : Smy w v0 v1 v2 v3 v4 m) (hS : Sane m) (hW : Wants m) (hr : r < m.rooms.length) : Calls Tryz.prog 307 #[.agg #[v0, v1, v2, v3, v4, .int .i64 m.now], .int .i64 (r : Int)] w fun e w' => e = .returned (.int .i64 (needL m (mems (setV m.rooms (r : Int))))) ∧ Below w.heap.size w w' := callsIn_wide.1 (needIn_in 3 (Nat.le_refl _) h hS hW hr)
theorem workIn_in (n : Nat) (hn : 3 ≤ n) {w : World} {v0 v1 v2 v3 v4 : Value} {m : SmyV} {r : Nat} (h : Smy w v0 v1 v2 v3 v4 m) (hS : Sane m) (hW : Wants m) (hr : r < m.rooms.length) : CallsIn Fence.wide n Tryz.prog 308 #[.agg #[v0, v1, v2, v3, v4, .int .i64 m.now], .int .i64 (r : Int)] w fun e w' => e = .returned (.int .i64 (workL m (mems (setV m.rooms (r : Int))))) ∧ Below w.heap.size w w' := by
 have h1 : 1 ≤ n := by omega
 have hmo : Tryz.prog.follows .mixedOrders = true := by kernel_rfl
 have hl := hS.few
 have HW := hide hW
 have Hs := hide h
 clear hS hW
 obtain ⟨a0, p0, a1, p1, a2, p2, a3, p3, a4, p4, rfl, rfl, rfl, rfl, rfl, K⟩ := Bx.new h
 clear h
 obtain ⟨st, hst⟩ : ∃ st, setV m.rooms (r : Int) = st := ⟨_, rfl⟩
 rw [hst]
 have Hst := hide hst
 clear hst
 refine callsIn_of_wp_marks Tryz.func308 rfl trivial ?_ rfl
 simp only [Tryz.ntmps308, List.size_toArray, List.length_cons, List.length_nil, Nat.reduceAdd, Nat.reduceSub, Array.replicate_succ, Array.replicate_zero, List.push_toArray, List.append_toArray, List.nil_append, List.cons_append]
 gi_wp2_with fail
 have bN := Boxed.new (w.alloc (.cells #[.slice a0 m.rooms.length p0, .slice a1 m.guilds.length p1, .slice a2 m.smiths.length p2, .slice a3 m.desks.length p3, .slice a4 m.paces.length p4, .int .i64 m.now] 32)) 2 (.int .i64 0)
 rw [World.size_alloc] at bN
 replace K := K.alloc (.cells #[.int .i64 0] 2)
 generalize (w.alloc (.cells #[.slice a0 m.rooms.length p0, .slice a1 m.guilds.length p1, .slice a2 m.smiths.length p2, .slice a3 m.desks.length p3, .slice a4 m.paces.length p4, .int .i64 m.now] 32)).alloc (.cells #[.int .i64 0] 2) = W0 at *
 refine ⟨trivial, ?_⟩
 refine (callsIn_wide.2 (implBenchSet_any (r : Int) K.smy.rooms)).mono ?_
 rw [uh Hst]
 rintro e w1 ⟨rfl, hb⟩
 dsimp only
 replace bN := below_boxed hb bN
 replace K := K.next hb
 clear hb Hst
 gi_wp2_with (refine ⟨trivial, ?_⟩; gi_at_call 319; refine (membersOf_in (n - 1) _ _).mono ?_; rintro e w' ⟨rfl, rfl⟩)
 have bS := Boxed.new w1 2 (.int .i64 st)
 have hsz := K.bb.size
 refine wpIn_rangeFunc_ownG rfl h1 (gf := 333) (lb := #[.pointer (some ⟨w1.heap.size, 0, none⟩)]) rfl trivial (enters_of Tryz.func333 (by kernel_rfl) rfl)
  (members_stops (n - 1) (by omega) w1.heap.size st _ bS) (fun h k => h.trans k) (KeepsBox.putObj (by simp)) (Below.refl _ _) (fun _ => rfl)
  (Rnd w (workL m) a0 p0 a1 p1 a2 p2 a3 p3 a4 p4 m) (fun _ _ _ => False)
  (rnd_own w (workL m) a0 p0 a1 p1 a2 p2 a3 p3 a4 p4 m (uh Hs) (by simp; omega))
  (fun _ _ _ _ _ hs _ _ => hs)
  ⟨bN.alloc _, K.alloc _⟩
  (fun x => { tmps := #[.agg #[.slice a0 m.rooms.length p0, .slice a1 m.guilds.length p1, .slice a2 m.smiths.length p2, .slice a3 m.desks.length p3, .slice a4 m.paces.length p4, .int .i64 m.now], .int .i64 (r : Int), .pointer (some ⟨w.heap.size, 0, none⟩), undef, .int .i64 0, .pointer (some ⟨w.heap.size + 1, 0, none⟩), .int .i64 x, .pointer (some ⟨w.heap.size, 0, none⟩), .agg #[.slice a0 m.rooms.length p0], .int .i64 (r : Int), .int .i64 st, .func (.func 333) #[] #[.pointer (some ⟨w1.heap.size, 0, none⟩)], .int .i64 x, undef, undef, undef, undef, undef, undef], defers := [] }) ?assign ?body ?done ?stop
 case assign =>
  intro l x W K hK
  gi_wp2
  exact hK
 case body =>
  rintro l pre x W ⟨hv, hK⟩ hlt
  have hc := hv.cell
  have hf := hv.frozen
  obtain ⟨c0, c1, c2, c3, c4, c5⟩ := hK.cells
  obtain ⟨us, hus⟩ : ∃ q, usedV m x (-1) = q := ⟨_, rfl⟩
  have hub := usedV_bd m x (-1)
  rw [hus] at hub
  have Hus := hide hus
  have HN := hide (workL_snoc m pre x)
  have hnb := workL_bd m hl pre
  rw [hus] at HN
  clear hus
  generalize workL m pre = nl at *
  obtain ⟨W1, hW1⟩ : ∃ X, X = W := ⟨_, rfl⟩
  subst hW1
  have hwr : IntKind.i64.wrap (nl + us) = nl + us := by rw [IntKind.wrap_i64]; omega
  gi_wp2_with fail
  gi_region_with_o (refine ⟨trivial, fun _ => (by omega), ?_⟩; gi_at_call 303; refine (CallsIn.inRound l (callsIn_wide.2 (usedAt_any (uh Hus) ?_ (uh HW) hl))).mono ?_; exact hK.smy.below (Below.refl _ _).drew; rintro e W2 ⟨rfl, hb2⟩; have Hb2 : Hid (Below W1.heap.size W1 W2) := hide ⟨hb2.os, hb2.tape, hb2.output, hb2.size, hb2.block⟩; have hv2 := below_boxed (uh Hb2) hv; have hc2 := hv2.cell; have hf2 := hv2.frozen; clear hb2)
  all_goals
   exact rnd_step (uh Hs) (KeepsOthers.refl _) (fun _ h => h) (uh Hb2) hv hK bN.lt (by rw [uh HN])
 case done =>
  rintro D ys W hD rfl ⟨hv, hK⟩ hDf
  have hc := hv.cell
  gi_wp2
  refine ⟨by simp, .inl ⟨_, _, rfl, run_takeDeferred hDf, ?_⟩⟩
  exact ⟨_, results_tmp rfl _ _ _, rfl, hK.bb.trans (belowK_b (w := w) (Nat.le_refl _) W D _ _ (by simp at hD; omega) hDf rfl rfl)⟩
 case stop =>
  rintro D c pre W _ _ h _
  exact h.elim
theorem workIn_any {w : World} {v0 v1 v2 v3 v4 : Value} {m : SmyV} {r : Nat} (h : Smy w v0 v1 v2 v3 v4 m) (hS : Sane m) (hW : Wants m) (hr : r < m.rooms.length) : Calls Tryz.prog 308 #[.agg #[v0, v1, v2, v3, v4, .int .i64 m.now], .int .i64 (r : Int)] w fun e w' => e = .returned (.int .i64 (workL m (mems (setV m.rooms (r : Int))))) ∧ Below w.heap.size w w' := callsIn_wide.1 (workIn_in 3 (Nat.le_refl _) h hS hW hr)
end Go.Proofs.YthbbahagpmdooaaGreatDoor
namespace Go.Proofs.YthbbahagpmdooaaGreatDoor
open Go.ChangeShapes Go.WideShapes Go.ChangeAt Go.RowKit Go.Sort Go.Shelf
set_option linter.unusedVariables false
set_option maxRecDepth 100000
theorem Bx.of {w : World} {a0 a1 a2 a3 a4 : Option Addr} {p0 p1 p2 p3 p4 : Nat} {m : SmyV} (h : Smy w (.slice a0 m.rooms.length p0) (.slice a1 m.guilds.length p1) (.slice a2 m.smiths.length p2) (.slice a3 m.desks.length p3) (.slice a4 m.paces.length p4) m) : Bx w (w.alloc (.cells #[.slice a0 m.rooms.length p0, .slice a1 m.guilds.length p1, .slice a2 m.smiths.length p2, .slice a3 m.desks.length p3, .slice a4 m.paces.length p4, .int .i64 m.now] 32)) w.heap.size a0 p0 a1 p1 a2 p2 a3 p3 a4 p4 m := ⟨h.alloc _, Blk.new _ _ _, (Below.refl _ _).alloc (Nat.le_refl _) _⟩
theorem costsIn_any {w : World} {a0 a1 a2 a3 a4 : Option Addr} {p0 p1 p2 p3 p4 : Nat} {m : SmyV} (h : Smy w (.slice a0 m.rooms.length p0) (.slice a1 m.guilds.length p1) (.slice a2 m.smiths.length p2) (.slice a3 m.desks.length p3) (.slice a4 m.paces.length p4) m) : Calls Tryz.prog 273 #[.agg #[.slice a0 m.rooms.length p0, .slice a1 m.guilds.length p1, .slice a2 m.smiths.length p2, .slice a3 m.desks.length p3, .slice a4 m.paces.length p4, .int .i64 m.now]] w fun e w' => e = .returned (.func (Fn.func 305) #[] #[.pointer (some ⟨w.heap.size, 0, none⟩)]) ∧ Bx w w' w.heap.size a0 p0 a1 p1 a2 p2 a3 p3 a4 p4 m := by
 have K := Bx.of h
 clear h
 go_enter Tryz.func273, Tryz.ntmps273
 go_wp2_with fail
 go_ret
 exact ⟨rfl, K⟩
theorem costs1_any {w0 w : World} {R r : Nat} {a0 a1 a2 a3 a4 : Option Addr} {p0 p1 p2 p3 p4 : Nat} {m : SmyV} (K : Bx w0 w R a0 p0 a1 p1 a2 p2 a3 p3 a4 p4 m) (hS : Sane m) (hW : Wants m) (hr : r < m.rooms.length) : Calls Tryz.prog 305 #[.int .i64 (r : Int), .pointer (some ⟨R, 0, none⟩)] w fun e w' => e = .returned (.int .i64 (coalIn m r)) ∧ Below w.heap.size w w' := by
 have hr1 : (r : Int) < (m.rooms.length : Int) := by omega
 have HM := hide (room_mems hS hr)
 have HN := hide (fun (X : World) (hX : Below w.heap.size w X) => needIn_any (K.smy.below hX) hS hW hr)
 have HK := hide (fun (X : World) (hX : Below w.heap.size w X) => workIn_any (K.smy.below hX) hS hW hr)
 clear hS hW
 have Hc : Hid (coalIn m r = leastV (roomAt m.rooms r) (needL m (mems (setV m.rooms (r : Int)))) (workL m (mems (setV m.rooms (r : Int))))) := hide (by rw [(uh HM).1, (uh HM).2]; rfl)
 rw [uh Hc]
 clear Hc HM
 obtain ⟨_, _, hre, _, _, r0⟩ := K.smy.rooms
 cases hre
 rcases r0 with e0 | ⟨rb, off, rfl, hbw, hcl⟩
 ·rw [e0] at hr; simp at hr
 obtain ⟨d0, pv, d1, hpv⟩ := hcl r hr
 clear hcl
 generalize needL m (mems (setV m.rooms (r : Int))) = ne at *
 generalize workL m (mems (setV m.rooms (r : Int))) = wo at *
 obtain ⟨⟨n, ps⟩, hrm⟩ : ∃ x, roomAt m.rooms r = x := ⟨_, rfl⟩
 rw [hrm] at d0 hpv ⊢
 clear hrm
 simp only at d0 hpv
 have Hpv := hide hpv
 obtain ⟨pa, pc, rfl, _, _, _⟩ := hpv
 obtain ⟨c0, c1, c2, c3, c4, c5⟩ := K.cells
 have k0 := cell_regrown c0
 have k1 := cell_regrown c1
 have k2 := cell_regrown c2
 have k3 := cell_regrown c3
 have k4 := cell_regrown c4
 have k5 := cell_regrown c5
 have k6 := cell_regrown d0
 have k7 := cell_regrown d1
 go_enter Tryz.func305, Tryz.ntmps305
 go_wp2_with fail
 refine wp_region_quiet_below (by kernel_rfl) (by kernel_rfl) ?_
 repeat (go_big_quiet_step (first | exact Calls.regrown_of (uh HN _ (below_regrown _ _ _)) | exact Calls.regrown_of (uh HK _ (below_regrown _ _ _)) | exact Calls.regrown_of (implLeastCoal_any _ _ _ ((uh Hpv).below (below_regrown _ _ _)))))
 refine wpQuiet_nil ?_
 intro _ hw'
 obtain ⟨⟨dq, osq⟩, hw''⟩ := hw'
 subst hw''
 go_wp2_with fail
 go_ret
 exact ⟨rfl, below_regrown _ _ _⟩
theorem together_any {w0 w : World} {R : Nat} {a0 a1 a2 a3 a4 b0 : Option Addr} {p0 p1 p2 p3 p4 q0 : Nat} {m : SmyV} (K : Bx w0 w R a0 p0 a1 p1 a2 p2 a3 p3 a4 p4 m) (hS : Sane m) (hW : Wants m) : Calls Tryz.prog 272 #[.slice b0 m.rooms.length q0, .func (Fn.func 305) #[] #[.pointer (some ⟨R, 0, none⟩)]] w fun e w' => e = .returned (.int .i64 (coalAll m)) ∧ Below w.heap.size w w' := by
 have h3 := (hallB_of hS.hall).2.1
 have Hbd := hide (coalTo_bd m)
 have HC := hide (fun (X : World) (hX : Below w.heap.size w X) (k : Nat) (hk : k < m.rooms.length) => costs1_any (K.next hX) hS hW hk)
 clear hS hW K
 go_enter Tryz.func272, Tryz.ntmps272
 go_wp2_with fail
 go_loopw [5, 9] (fun n i wr => ∃ k : Nat, k ≤ m.rooms.length ∧ i = .int .i64 k ∧ n = .int .i64 (coalTo m k) ∧ Below w.heap.size w wr) (fun _ i _ => m.rooms.length - (intOf i).toNat)
 case atStart => exact ⟨0, Nat.zero_le _, rfl, rfl, Below.refl _ _⟩
 case round =>
  obtain ⟨k, hk, rfl, rfl, hb0⟩ := hrel
  obtain ⟨u0, u1⟩ := uh Hbd k
  obtain ⟨u2, u3⟩ := uh Hbd (k + 1)
  have hst : coalTo m (k + 1) = coalTo m k + coalIn m k := rfl
  rw [hst] at u2 u3
  have Hst := hide hst
  have BB := hide hb0
  clear hb0 hst
  by_cases hlt : k < m.rooms.length
  ·have hlt1 : (k : Int) < (m.rooms.length : Int) := by omega
   have HD := hide (uh HC wr (uh BB) k hlt)
   generalize coalIn m k = ci at *
   generalize coalTo m k = ct at *
   go_wp2_with fail
   refine (uh HD).mono ?_
   rintro e w1 ⟨rfl, hb⟩
   replace BB := bt BB hb
   clear hb HD
   go_wp2_with fail
   go_roundw
   case rel => exact ⟨k + 1, by omega, by go_num, by rw [uh Hst], uh BB⟩
   case measure => simp [intOf]; omega
  ·obtain rfl : k = m.rooms.length := by omega
   go_wp2_with fail
   go_ret
   exact ⟨rfl, uh BB⟩
end Go.Proofs.YthbbahagpmdooaaGreatDoor
