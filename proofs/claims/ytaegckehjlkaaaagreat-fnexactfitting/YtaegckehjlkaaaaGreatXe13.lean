/- What the proof rests on, part 13: lists and numbers, how they lie in memory, and contracts of the calls. No condition but those that a theorem names. -/
import Derived.Test.YtaegckehjlkaaaaGreatXe01
import Derived.Test.YtaegckehjlkaaaaGreatXe02
import Derived.Test.YtaegckehjlkaaaaGreatXe03
import Derived.Test.YtaegckehjlkaaaaGreatXe04
import Derived.Test.YtaegckehjlkaaaaGreatXe05
import Derived.Test.YtaegckehjlkaaaaGreatXe06
import Derived.Test.YtaegckehjlkaaaaGreatXe07
import Derived.Test.YtaegckehjlkaaaaGreatXe08
import Derived.Test.YtaegckehjlkaaaaGreatXe09
import Derived.Test.YtaegckehjlkaaaaGreatXe10
import Derived.Test.YtaegckehjlkaaaaGreatXe11
import Derived.Test.YtaegckehjlkaaaaGreatXe12
import Derived.WalkMore
import Derived.RangeFuncCalls
import Derived.Shelf.RegionOpen
import Derived.Deep.RegionWith
import Derived.Lib.QuietBelow
import Derived.Laws.CopyRow
import Derived.Below
import Derived.ChangeKeysEq
import Derived.Laws.StructEq
import Derived.WalkKit
import Derived.ProofKit
import Derived.OpenShut
import Derived.Outline
import Derived.Deep.RegionHeld3
import Derived.Deep.DrawnRows
import Derived.BigRegion
import Derived.Deep.RegionLawGrows
import Derived.Deep.LoopGhost
import Derived.Deep.QuietTactic
import Derived.BigQuiet
import Derived.Laws.OwnMore
import Derived.OwnWalk
import Derived.Maps.AppendAt
import Derived.RangeFuncNested
import Derived.RangeFuncBound
import Derived.RangeFuncLeaves
import Derived.RangeFuncBox
import Derived.Shelf.Abstract
import Derived.OwnWalkIn
import Derived.TacticsInMore
import Derived.LoopNIn
import Derived.LoopIn
import Derived.Lib.SmallJoins
import Derived.Deep.Fields
import Derived.Deep.Slices
import Derived.OrdersHeld
import Derived.Deep.RegionHeldLaw
import Derived.Deep.DeepCutAuto
/- Contracts of PaceFor, CoalFor and LeastCoal, the program's and the model's, at whatever room can be read and whatever numbers: each returns what the lists say and writes into no memory that was there. No other condition. -/
namespace Go.Proofs.YtaegckehjlkaaaaGreat
open Go.ChangeShapes Go.WideShapes Go.ChangeAt Go.RowKit Go.Sort
set_option linter.unusedVariables false

theorem enough_any (f c need : Int) (w : World) (f0 : 1 ≤ f) (f1 : f ≤ 1024) (n0 : 0 ≤ need) (n1 : need ≤ 1000000) :
    Calls Tryz.prog 308 #[.int .i64 f, .int .i64 need] w fun e w' => e = .returned (.bool (enoughB need (f, c))) ∧ Below w.heap.size w w' :=
  (isEnough_any f need w (by omega) (by omega) n0 (by omega)).mono fun _ _ ⟨he, hw⟩ => ⟨he, hw ▸ Below.refl _ _⟩

set_option maxHeartbeats 1000000 in
theorem slowest_any {w : World} {v : Value} {ps : List PaceV} (b need : Int) (h : IsPaces w v ps) (hr : roomB (b, ps) = true) (hn : inB need 0 1000000 = true) :
    Calls Tryz.prog 294 #[v, .int .i64 need] w fun e w' => e = .returned (.int .i64 (paceN need ps)) ∧ Below w.heap.size w w' := by
  obtain ⟨a, cap, rfl, hc, hm, hrow⟩ := h
  have hbd := room_bd hr
  simp only at hbd
  obtain ⟨_, _, hl1, hl4⟩ := hbd
  obtain ⟨n0, n1⟩ := inB_of hn
  rcases hrow with h0 | ⟨bk, off, rfl, hbw, hcl⟩
  · rw [h0] at hl1; simp at hl1
  have Hcl := hide hcl
  have Hr := hide hr
  clear hcl hr hn
  go_enter Tryz.func294, Tryz.ntmps294
  go_wp2_with fail
  go_step3
  go_wp2_with fail
  go_step3
  go_wp2_with fail
  go_loopw [5] (fun i wr => ∃ k : Nat, k + 1 ≤ ps.length ∧ i = .int .i64 k ∧ (∀ j, j < k → enoughB need (paceAt ps j) = false) ∧ Below w.heap.size w wr) (fun i _ => ps.length - (intOf i).toNat)
  case atStart => exact ⟨0, by omega, rfl, fun j hj => by omega, Below.refl _ _⟩
  case round =>
    obtain ⟨k, hk, rfl, hlo, hb⟩ := hrel
    have Hlo := hide hlo
    have Hb := hide hb
    clear hlo
    by_cases hlast : k + 1 = ps.length
    · clear hb
      have he : (k : Int) = (ps.length : Int) - 1 := by omega
      have Hp := hide (paceN_eq need ps k hk (unhide Hlo) (.inl hlast))
      go_wp2_with fail
      (try rw [Exit.noGoto_ret])
      go_ret
      exact ⟨ret_int (by rw [unhide Hp]), unhide Hb⟩
    · have hne : ¬ (k : Int) = (ps.length : Int) - 1 := by omega
      obtain ⟨c0, c1⟩ := unhide Hcl k (by omega)
      rw [← hb.cell (p := ⟨bk, off + k * 2, none⟩) hbw] at c0
      rw [← hb.cell (p := ⟨bk, off + k * 2 + 1, none⟩) hbw] at c1
      have hpb := room_pace (unhide Hr) (k := k) (show k < ps.length by omega)
      simp only at hpb
      generalize hp : paceAt ps k = p at c0 c1 hpb
      have Hp := hide hp
      clear hp hb
      obtain ⟨f, c⟩ := p
      simp only at c0 c1 hpb
      obtain ⟨f0, f1, _, _⟩ := hpb
      go_wp2_with fail
      refine (enough_any f c need _ f0 f1 n0 n1).mono ?_
      rintro e w1 ⟨rfl, hb1⟩
      have Hb1 := hide hb1
      clear hb1
      cases hen : enoughB need (f, c)
      · go_wp2_with fail
        go_roundw
        case rel => exact ⟨k + 1, by omega, by go_num, next_all (unhide Hlo) (by rw [unhide Hp]; exact hen), (unhide Hb).trans ((unhide Hb1).mono (unhide Hb).size)⟩
        case measure => simp [intOf]; omega
      · have Hq := hide (paceN_eq need ps k hk (unhide Hlo) (.inr (by rw [unhide Hp]; exact hen)))
        go_wp2_with fail
        (try rw [Exit.noGoto_ret])
        go_ret
        exact ⟨ret_int (by rw [unhide Hq]), (unhide Hb).trans ((unhide Hb1).mono (unhide Hb).size)⟩

set_option maxHeartbeats 1000000 in
theorem implPaceFor_any {w : World} {v : Value} {ps : List PaceV} (b need : Int) (h : IsPaces w v ps) :
    Calls Tryz.prog 271 #[.agg #[.int .i64 b, v], .int .i64 need] w fun e w' => e = .returned (.int .i64 (paceForV (b, ps) need)) ∧ Below w.heap.size w w' := by
  have Hv := hide h
  obtain ⟨a, cap, rfl, hc, hm, hrow⟩ := h
  clear hrow
  cases hr : roomB (b, ps)
  · rw [paceForV_f1 hr]
    go_enter Tryz.func271, Tryz.ntmps271
    go_wp2_with fail
    refine (implRoomOk_any b ((unhide Hv).below ((Below.refl _ _).alloc (Nat.le_refl _) _))).mono ?_
    rintro e w1 ⟨rfl, hb⟩
    have B1 : Hid (Below w.heap.size w w1) := hide (((Below.refl _ _).alloc (Nat.le_refl _) _).trans (hb.mono (by simp)))
    clear hb
    go_wp2_with fail
    go_ret
    exact ⟨rfl, unhide B1⟩
  cases hn : inB need 0 1000000
  · rw [paceForV_f2 hn]
    go_enter Tryz.func271, Tryz.ntmps271
    go_wp2_with fail
    refine (implRoomOk_any b ((unhide Hv).below ((Below.refl _ _).alloc (Nat.le_refl _) _))).mono ?_
    rintro e w1 ⟨rfl, hb⟩
    have B1 : Hid (Below w.heap.size w w1) := hide (((Below.refl _ _).alloc (Nat.le_refl _) _).trans (hb.mono (by simp)))
    clear hb
    go_wp2_with (go_at_call 184; refine (liesFrom_any _ _ _ _).mono ?_; rintro e w' ⟨rfl, rfl⟩)
    go_ret
    exact ⟨rfl, unhide B1⟩
  · rw [paceForV_t hr hn]
    have Hr := hide hr
    go_enter Tryz.func271, Tryz.ntmps271
    go_wp2_with fail
    refine (implRoomOk_any b ((unhide Hv).below ((Below.refl _ _).alloc (Nat.le_refl _) _))).mono ?_
    rintro e w1 ⟨rfl, hb⟩
    have x1 : w1.cell? ⟨w.heap.size, 1, none⟩ = some (.slice a ps.length cap) := (hb.cell (p := ⟨w.heap.size, 1, none⟩) (by simp)).trans (by simp)
    have B1 : Hid (Below w.heap.size w w1) := hide (((Below.refl _ _).alloc (Nat.le_refl _) _).trans (hb.mono (by simp)))
    clear hb
    go_wp2_with (go_at_call 184; refine (liesFrom_any _ _ _ _).mono ?_; rintro e w' ⟨rfl, rfl⟩)
    refine (slowest_any b need ((unhide Hv).below (unhide B1)) (unhide Hr) hn).mono ?_
    rintro e w2 ⟨rfl, hb2⟩
    have Hb2 := hide hb2
    clear hb2
    go_wp2_with fail
    go_ret
    exact ⟨rfl, (unhide B1).trans ((unhide Hb2).mono (unhide B1).size)⟩

theorem l5Work_any (x : Int) (w : World) : Calls Tryz.prog 83 #[.int .i64 x] w fun e w' => e = .returned (.bool (inB x 0 1000000)) ∧ w' = w := by
  go_enter Tryz.func83, Tryz.ntmps83
  go_wp2_with (go_at_call 123; refine (l1In_any _ _ _ _).mono ?_; rintro e w' ⟨rfl, rfl⟩)
  go_ret
  exact ⟨rfl, rfl⟩

set_option maxHeartbeats 2000000 in
theorem specPaceFor_any {w : World} {v : Value} {ps : List PaceV} (b need : Int) (h : IsPaces w v ps) :
    Calls Tryz.prog 275 #[.agg #[.int .i64 b, v], .int .i64 need] w fun e w' => e = .returned (.int .i64 (paceForV (b, ps) need)) ∧ Below w.heap.size w w' := by
  have Hv := hide h
  obtain ⟨a, cap, rfl, hc, hm, hrow⟩ := h
  clear hrow
  cases hr : roomB (b, ps)
  · rw [paceForV_f1 hr]
    go_enter Tryz.func275, Tryz.ntmps275
    go_wp2_with fail
    refine (specRoomOk_any b ((unhide Hv).below ((Below.refl _ _).alloc (Nat.le_refl _) _))).mono ?_
    rintro e w1 ⟨rfl, hb⟩
    have B1 : Hid (Below w.heap.size w w1) := hide (((Below.refl _ _).alloc (Nat.le_refl _) _).trans (hb.mono (by simp)))
    clear hb
    go_wp2_with fail
    go_ret
    exact ⟨rfl, unhide B1⟩
  cases hn : inB need 0 1000000
  · rw [paceForV_f2 hn]
    go_enter Tryz.func275, Tryz.ntmps275
    go_wp2_with fail
    refine (specRoomOk_any b ((unhide Hv).below ((Below.refl _ _).alloc (Nat.le_refl _) _))).mono ?_
    rintro e w1 ⟨rfl, hb⟩
    have B1 : Hid (Below w.heap.size w w1) := hide (((Below.refl _ _).alloc (Nat.le_refl _) _).trans (hb.mono (by simp)))
    clear hb
    go_wp2_with (go_at_call 83; refine (l5Work_any _ _).mono ?_; rintro e w' ⟨rfl, rfl⟩)
    go_ret
    exact ⟨rfl, unhide B1⟩
  rw [paceForV_t hr hn]
  have Hr := hide hr
  have hn' := hn
  obtain ⟨n0, n1⟩ := inB_of hn'
  clear hn'
  go_enter Tryz.func275, Tryz.ntmps275
  go_wp2_with fail
  refine (specRoomOk_any b ((unhide Hv).below ((Below.refl _ _).alloc (Nat.le_refl _) _))).mono ?_
  rintro e w1 ⟨rfl, hb⟩
  have x1 : w1.cell? ⟨w.heap.size, 1, none⟩ = some (.slice a ps.length cap) := (hb.cell (p := ⟨w.heap.size, 1, none⟩) (by simp)).trans (by simp)
  have B1 : Hid (Below w.heap.size w w1) := hide (((Below.refl _ _).alloc (Nat.le_refl _) _).trans (hb.mono (by simp)))
  clear hb
  have hv1 := (unhide Hv).below (unhide B1)
  obtain ⟨a', cap', he, _, _, hrow⟩ := hv1
  cases he
  have hbd := room_bd (unhide Hr)
  simp only at hbd
  obtain ⟨_, _, hl1, hl4⟩ := hbd
  rcases hrow with h0 | ⟨bk, off, rfl, hbw, hcl⟩
  · rw [h0] at hl1; simp at hl1
  have Hcl := hide hcl
  clear hcl
  go_wp2_with (go_at_call 83; refine (l5Work_any _ _).mono ?_; rintro e w' ⟨rfl, rfl⟩)
  clear hr hn
  go_loop [5] (fun i => ∃ k : Nat, k + 1 ≤ ps.length ∧ i = .int .i64 k ∧ (∀ j, j < k → enoughB need (paceAt ps j) = false)) (fun i => ps.length - (intOf i).toNat)
  case atStart => exact ⟨0, by omega, rfl, fun j hj => by omega⟩
  case round =>
    obtain ⟨k, hk, rfl, hlo⟩ := hrel
    have Hlo := hide hlo
    clear hlo
    by_cases hlast : k + 1 = ps.length
    · have Hp := hide (paceN_eq need ps k hk (unhide Hlo) (.inl hlast))
      have hd : ¬ (k : Int) + 1 < (ps.length : Int) := by omega
      go_wp2_with fail
      go_ret
      exact ⟨ret_int (by rw [unhide Hp]), unhide B1⟩
    · have hd : (k : Int) + 1 < (ps.length : Int) := by omega
      obtain ⟨c0, c1⟩ := unhide Hcl k (by omega)
      have hpb := room_pace (unhide Hr) (k := k) (show k < ps.length by omega)
      simp only at hpb
      generalize hp : paceAt ps k = p at c0 c1 hpb
      have Hp := hide hp
      clear hp
      obtain ⟨f, c⟩ := p
      simp only at c0 c1 hpb
      obtain ⟨f0, f1, _, _⟩ := hpb
      by_cases hen : 4 * f < 5 * need
      · go_wp2_with fail
        go_round
        case rel => exact ⟨k + 1, by omega, by go_num, next_all (unhide Hlo) (by rw [unhide Hp]; exact enough_f hen)⟩
        case measure => simp [intOf]; omega
      · have Hq := hide (paceN_eq need ps k hk (unhide Hlo) (.inr (by rw [unhide Hp]; exact enough_t (by simp only; omega))))
        go_wp2_with fail
        go_ret
        exact ⟨ret_int (by rw [unhide Hq]), unhide B1⟩

end Go.Proofs.YtaegckehjlkaaaaGreat

/- Contracts of CoalFor and LeastCoal, the program's and the model's, at whatever room can be read and whatever numbers: each returns what the lists say and writes into no memory that was there. No other condition. -/
namespace Go.Proofs.YtaegckehjlkaaaaGreat
open Go.ChangeShapes Go.WideShapes Go.ChangeAt Go.RowKit Go.Sort
set_option linter.unusedVariables false

set_option maxHeartbeats 2000000 in
theorem implCoalFor_any {w : World} {v : Value} {ps : List PaceV} (b pace work : Int) (h : IsPaces w v ps) :
    Calls Tryz.prog 270 #[.agg #[.int .i64 b, v], .int .i64 pace, .int .i64 work] w fun e w' => e = .returned (.int .i64 (coalForV (b, ps) pace work)) ∧ Below w.heap.size w w' := by
  have Hv := hide h
  obtain ⟨a, cap, rfl, hc, hm, hrow⟩ := h
  clear hrow
  have hl : (ps.length : Int) ≤ 9223372036854775807 := by omega
  cases hr : roomB (b, ps)
  · rw [coalForV_f1 hr]
    go_enter Tryz.func270, Tryz.ntmps270
    go_wp2_with fail
    refine (implRoomOk_any b ((unhide Hv).below ((Below.refl _ _).alloc (Nat.le_refl _) _))).mono ?_
    rintro e w1 ⟨rfl, hb⟩
    have B1 : Hid (Below w.heap.size w w1) := hide (((Below.refl _ _).alloc (Nat.le_refl _) _).trans (hb.mono (by simp)))
    clear hb
    go_wp2_with fail
    go_ret
    exact ⟨rfl, unhide B1⟩
  by_cases hp0 : pace < 0
  · rw [coalForV_f3 (inB_f (by omega))]
    go_enter Tryz.func270, Tryz.ntmps270
    go_wp2_with fail
    refine (implRoomOk_any b ((unhide Hv).below ((Below.refl _ _).alloc (Nat.le_refl _) _))).mono ?_
    rintro e w1 ⟨rfl, hb⟩
    have B1 : Hid (Below w.heap.size w w1) := hide (((Below.refl _ _).alloc (Nat.le_refl _) _).trans (hb.mono (by simp)))
    clear hb
    go_wp2_with fail
    go_ret
    exact ⟨rfl, unhide B1⟩
  by_cases hp1 : (ps.length : Int) ≤ pace
  · rw [coalForV_f3 (inB_f (by simp only; omega))]
    go_enter Tryz.func270, Tryz.ntmps270
    go_wp2_with fail
    refine (implRoomOk_any b ((unhide Hv).below ((Below.refl _ _).alloc (Nat.le_refl _) _))).mono ?_
    rintro e w1 ⟨rfl, hb⟩
    have x1 : w1.cell? ⟨w.heap.size, 1, none⟩ = some (.slice a ps.length cap) := (hb.cell (p := ⟨w.heap.size, 1, none⟩) (by simp)).trans (by simp)
    have B1 : Hid (Below w.heap.size w w1) := hide (((Below.refl _ _).alloc (Nat.le_refl _) _).trans (hb.mono (by simp)))
    clear hb
    go_wp2_with fail
    go_ret
    exact ⟨rfl, unhide B1⟩
  cases hn : inB work 0 1000000
  · rw [coalForV_f2 hn]
    go_enter Tryz.func270, Tryz.ntmps270
    go_wp2_with fail
    refine (implRoomOk_any b ((unhide Hv).below ((Below.refl _ _).alloc (Nat.le_refl _) _))).mono ?_
    rintro e w1 ⟨rfl, hb⟩
    have x1 : w1.cell? ⟨w.heap.size, 1, none⟩ = some (.slice a ps.length cap) := (hb.cell (p := ⟨w.heap.size, 1, none⟩) (by simp)).trans (by simp)
    have B1 : Hid (Below w.heap.size w w1) := hide (((Below.refl _ _).alloc (Nat.le_refl _) _).trans (hb.mono (by simp)))
    clear hb
    go_wp2_with (go_at_call 184; refine (liesFrom_any _ _ _ _).mono ?_; rintro e w' ⟨rfl, rfl⟩)
    go_ret
    exact ⟨rfl, unhide B1⟩
  rw [coalForV_t hr hn (inB_t (by omega) (by simp only; omega))]
  obtain ⟨k, rfl⟩ := Int.eq_ofNat_of_zero_le (show 0 ≤ pace by omega)
  have hk : k < ps.length := by omega
  rw [Int.toNat_natCast]
  simp only
  generalize hpk : paceAt ps k = p
  have Hpk := hide hpk
  clear hpk
  obtain ⟨f, c⟩ := p
  simp only
  have Hn := hide hn
  go_enter Tryz.func270, Tryz.ntmps270
  go_wp2_with fail
  refine (implRoomOk_any b ((unhide Hv).below ((Below.refl _ _).alloc (Nat.le_refl _) _))).mono ?_
  rintro e w1 ⟨rfl, hb⟩
  have x1 : w1.cell? ⟨w.heap.size, 1, none⟩ = some (.slice a ps.length cap) := (hb.cell (p := ⟨w.heap.size, 1, none⟩) (by simp)).trans (by simp)
  have B1 : Hid (Below w.heap.size w w1) := hide (((Below.refl _ _).alloc (Nat.le_refl _) _).trans (hb.mono (by simp)))
  have hz1 : w.heap.size + 1 ≤ w1.heap.size := by have := hb.size; simpa using this
  clear hb
  have hv1 := (unhide Hv).below (unhide B1)
  obtain ⟨a', cap', he, _, _, hrow⟩ := hv1
  cases he
  rcases hrow with h0 | ⟨bk, off, rfl, hbw, hcl⟩
  · rw [h0] at hk; simp at hk
  obtain ⟨c0, c1⟩ := hcl k hk
  clear hcl
  rw [unhide Hpk] at c0 c1
  simp only at c0 c1
  go_wp2_with (go_at_call 184; refine (liesFrom_any _ _ _ _).mono ?_; rintro e w' ⟨rfl, rfl⟩)
  refine (implMulDiv_any c work f _).mono ?_
  rintro e w2 ⟨rfl, hb2⟩
  have Hb2 := hide hb2
  clear hb2
  go_wp2_with fail
  go_ret
  exact ⟨rfl, (unhide B1).trans (((Below.refl _ _).alloc (unhide B1).size _).trans ((unhide Hb2).mono (by simp; omega)))⟩

set_option maxHeartbeats 2000000 in
theorem specCoalFor_any {w : World} {v : Value} {ps : List PaceV} (b pace work : Int) (h : IsPaces w v ps) :
    Calls Tryz.prog 274 #[.agg #[.int .i64 b, v], .int .i64 pace, .int .i64 work] w fun e w' => e = .returned (.int .i64 (coalForV (b, ps) pace work)) ∧ Below w.heap.size w w' := by
  have Hv := hide h
  obtain ⟨a, cap, rfl, hc, hm, hrow⟩ := h
  clear hrow
  have hl : (ps.length : Int) ≤ 9223372036854775807 := by omega
  cases hr : roomB (b, ps)
  · rw [coalForV_f1 hr]
    go_enter Tryz.func274, Tryz.ntmps274
    go_wp2_with fail
    refine (specRoomOk_any b ((unhide Hv).below ((Below.refl _ _).alloc (Nat.le_refl _) _))).mono ?_
    rintro e w1 ⟨rfl, hb⟩
    have B1 : Hid (Below w.heap.size w w1) := hide (((Below.refl _ _).alloc (Nat.le_refl _) _).trans (hb.mono (by simp)))
    clear hb
    go_wp2_with fail
    go_ret
    exact ⟨rfl, unhide B1⟩
  cases hn : inB work 0 1000000
  · rw [coalForV_f2 hn]
    go_enter Tryz.func274, Tryz.ntmps274
    go_wp2_with fail
    refine (specRoomOk_any b ((unhide Hv).below ((Below.refl _ _).alloc (Nat.le_refl _) _))).mono ?_
    rintro e w1 ⟨rfl, hb⟩
    have B1 : Hid (Below w.heap.size w w1) := hide (((Below.refl _ _).alloc (Nat.le_refl _) _).trans (hb.mono (by simp)))
    clear hb
    go_wp2_with (go_at_call 83; refine (l5Work_any _ _).mono ?_; rintro e w' ⟨rfl, rfl⟩)
    go_ret
    exact ⟨rfl, unhide B1⟩
  cases hp : inB pace 0 ((ps.length : Int) - 1)
  · rw [coalForV_f3 hp]
    go_enter Tryz.func274, Tryz.ntmps274
    go_wp2_with fail
    refine (specRoomOk_any b ((unhide Hv).below ((Below.refl _ _).alloc (Nat.le_refl _) _))).mono ?_
    rintro e w1 ⟨rfl, hb⟩
    have x1 : w1.cell? ⟨w.heap.size, 1, none⟩ = some (.slice a ps.length cap) := (hb.cell (p := ⟨w.heap.size, 1, none⟩) (by simp)).trans (by simp)
    have B1 : Hid (Below w.heap.size w w1) := hide (((Below.refl _ _).alloc (Nat.le_refl _) _).trans (hb.mono (by simp)))
    clear hb
    go_wp2_with (first | (go_at_call 83; refine (l5Work_any _ _).mono ?_; rintro e w' ⟨rfl, rfl⟩) | (go_at_call 123; refine (l1In_any _ _ _ _).mono ?_; rintro e w' ⟨rfl, rfl⟩))
    go_ret
    exact ⟨rfl, unhide B1⟩
  rw [coalForV_t hr hn hp]
  have hpp := inB_of hp
  obtain ⟨hp0, hp1⟩ := hpp
  obtain ⟨k, rfl⟩ := Int.eq_ofNat_of_zero_le hp0
  have hk : k < ps.length := by omega
  rw [Int.toNat_natCast]
  simp only
  generalize hpk : paceAt ps k = p
  have Hpk := hide hpk
  clear hpk
  obtain ⟨f, c⟩ := p
  simp only
  go_enter Tryz.func274, Tryz.ntmps274
  go_wp2_with fail
  refine (specRoomOk_any b ((unhide Hv).below ((Below.refl _ _).alloc (Nat.le_refl _) _))).mono ?_
  rintro e w1 ⟨rfl, hb⟩
  have x1 : w1.cell? ⟨w.heap.size, 1, none⟩ = some (.slice a ps.length cap) := (hb.cell (p := ⟨w.heap.size, 1, none⟩) (by simp)).trans (by simp)
  have B1 : Hid (Below w.heap.size w w1) := hide (((Below.refl _ _).alloc (Nat.le_refl _) _).trans (hb.mono (by simp)))
  clear hb
  have hv1 := (unhide Hv).below (unhide B1)
  obtain ⟨a', cap', he, _, _, hrow⟩ := hv1
  cases he
  rcases hrow with h0 | ⟨bk, off, rfl, hbw, hcl⟩
  · rw [h0] at hk; simp at hk
  obtain ⟨c0, c1⟩ := hcl k hk
  clear hcl
  rw [unhide Hpk] at c0 c1
  simp only at c0 c1
  go_wp2_with (first | (go_at_call 83; refine (l5Work_any _ _).mono ?_; rintro e w' ⟨rfl, rfl⟩) | (go_at_call 123; refine (l1In_any _ _ _ _).mono ?_; rintro e w' ⟨rfl, rfl⟩))
  go_quiet (exact Calls.quiet_of_same (specMulDiv_any _ _ _ _))
  go_wp2_with fail
  go_ret
  exact ⟨rfl, below_drewN (unhide B1) _⟩

set_option maxHeartbeats 1000000 in
theorem implLeastCoal_any {w : World} {v : Value} {ps : List PaceV} (b need work : Int) (h : IsPaces w v ps) :
    Calls Tryz.prog 234 #[.agg #[.int .i64 b, v], .int .i64 need, .int .i64 work] w fun e w' => e = .returned (.int .i64 (leastV (b, ps) need work)) ∧ Below w.heap.size w w' := by
  have Hv := hide h
  obtain ⟨a, cap, rfl, hc, hm, hrow⟩ := h
  clear hrow
  have k0 := cell_regrown (w := w.alloc (.cells #[.int .i64 b, .slice a ps.length cap] 140)) (a := ⟨w.heap.size, 0, none⟩) (v := .int .i64 b) (by simp)
  have k1 := cell_regrown (w := w.alloc (.cells #[.int .i64 b, .slice a ps.length cap] 140)) (a := ⟨w.heap.size, 1, none⟩) (v := .slice a ps.length cap) (by simp)
  have Ha : Hid (IsPaces (w.alloc (.cells #[.int .i64 b, .slice a ps.length cap] 140)) (.slice a ps.length cap) ps) := hide ((unhide Hv).below ((Below.refl _ _).alloc (Nat.le_refl _) _))
  go_enter Tryz.func234, Tryz.ntmps234
  go_wp2_with fail
  refine wp_region_quiet_below (by kernel_rfl) (by kernel_rfl) ?_
  repeat (go_big_quiet_step (first | exact Calls.regrown_of (implPaceFor_any b need ((unhide Ha).below (below_regrown _ _ _))) | exact Calls.regrown_of (implCoalFor_any b _ work ((unhide Ha).below (below_regrown _ _ _)))))
  refine wpQuiet_nil ?_
  intro _ hw'
  obtain ⟨⟨dq, osq⟩, hw''⟩ := hw'
  subst hw''
  go_wp2_with fail
  go_ret
  exact ⟨rfl, ((Below.refl _ _).alloc (Nat.le_refl _) _).trans ((below_regrown _ _ _).mono (by simp))⟩

set_option maxHeartbeats 1000000 in
theorem specLeastCoal_any {w : World} {v : Value} {ps : List PaceV} (b need work : Int) (h : IsPaces w v ps) :
    Calls Tryz.prog 239 #[.agg #[.int .i64 b, v], .int .i64 need, .int .i64 work] w fun e w' => e = .returned (.int .i64 (leastV (b, ps) need work)) ∧ Below w.heap.size w w' := by
  have Hv := hide h
  obtain ⟨a, cap, rfl, hc, hm, hrow⟩ := h
  clear hrow
  have k0 := cell_regrown (w := w.alloc (.cells #[.int .i64 b, .slice a ps.length cap] 140)) (a := ⟨w.heap.size, 0, none⟩) (v := .int .i64 b) (by simp)
  have k1 := cell_regrown (w := w.alloc (.cells #[.int .i64 b, .slice a ps.length cap] 140)) (a := ⟨w.heap.size, 1, none⟩) (v := .slice a ps.length cap) (by simp)
  have Ha : Hid (IsPaces (w.alloc (.cells #[.int .i64 b, .slice a ps.length cap] 140)) (.slice a ps.length cap) ps) := hide ((unhide Hv).below ((Below.refl _ _).alloc (Nat.le_refl _) _))
  go_enter Tryz.func239, Tryz.ntmps239
  go_wp2_with fail
  refine wp_region_quiet_below (by kernel_rfl) (by kernel_rfl) ?_
  repeat (go_big_quiet_step (first | exact Calls.regrown_of (specPaceFor_any b need ((unhide Ha).below (below_regrown _ _ _))) | exact Calls.regrown_of (specCoalFor_any b _ work ((unhide Ha).below (below_regrown _ _ _)))))
  refine wpQuiet_nil ?_
  intro _ hw'
  obtain ⟨⟨dq, osq⟩, hw''⟩ := hw'
  subst hw''
  go_wp2_with fail
  go_ret
  exact ⟨rfl, ((Below.refl _ _).alloc (Nat.le_refl _) _).trans ((below_regrown _ _ _).mono (by simp))⟩

end Go.Proofs.YtaegckehjlkaaaaGreat

/- Contracts of the program's needIn and workIn (which range over the benches of a room): each answers what the lists say. Conditions: the smithy can be read; what each theorem names. -/
namespace Go.Proofs.YtaegckehjlkaaaaGreat
open Go.ChangeShapes Go.WideShapes Go.ChangeAt Go.RowKit Go.Sort Go.Shelf
set_option linter.unusedVariables false
set_option maxRecDepth 100000
attribute [local go_sem] Oper.semAt_some

/-- Only new memory differs: nothing that another loop holds is touched. -/
theorem below_others {W X : World} (h : Below W.heap.size W X) : KeepsOthers W X := ⟨h.size, fun k o hk _ => (h.block k (Array.getElem?_eq_some_iff.1 hk).1).trans hk⟩
theorem below_boxes {W X : World} (h : Below W.heap.size W X) {B : Nat} {t : TypeId} : KeepsBox B t W X := fun v hv => (h.block B hv.lt).trans hv
theorem below_boxed {W X : World} (h : Below W.heap.size W X) {B : Nat} {t : TypeId} {v : Value} (hv : Boxed W B t v) : Boxed X B t v := (h.block B hv.lt).trans hv
/-- What a round over the benches holds: the sum's box, the smithy's box. -/
def Rnd (w : World) (f : List Int → Int) (a0 : Option Addr) (p0 : Nat) (a1 : Option Addr) (p1 : Nat) (a2 : Option Addr) (p2 : Nat) (a3 : Option Addr) (p3 : Nat) (a4 : Option Addr) (p4 : Nat) (m : SmyV) (pre : List Int) (W : World) : Prop := Boxed W (w.heap.size + 1) 2 (.int .i64 (f pre)) ∧ Bx w W w.heap.size a0 p0 a1 p1 a2 p2 a3 p3 a4 p4 m
theorem rnd_own (w : World) (f : List Int → Int) (a0 : Option Addr) (p0 : Nat) (a1 : Option Addr) (p1 : Nat) (a2 : Option Addr) (p2 : Nat) (a3 : Option Addr) (p3 : Nat) (a4 : Option Addr) (p4 : Nat) (m : SmyV) (hs : Smy w (.slice a0 m.rooms.length p0) (.slice a1 m.guilds.length p1) (.slice a2 m.smiths.length p2) (.slice a3 m.desks.length p3) (.slice a4 m.paces.length p4) m) {B : Nat} (hB : w.heap.size ≤ B) : OwnFrom B (Rnd w f a0 p0 a1 p1 a2 p2 a3 p3 a4 p4 m) := by
  rintro pre W X row ⟨h1, h2⟩ hg hr
  have h4 := h2.bb.grown hg h2.bb.size (fun k e => Nat.le_trans hB (hr k e).1)
  refine ⟨h1.kept hg (fun e => ?_), hs.below h4, (hg.block _ h2.blk.lt (fun e => ?_)).trans h2.blk, h4⟩
  · obtain ⟨_, o, ho, hc⟩ := hr _ e.symm
    rw [show W.heap[w.heap.size + 1]? = _ from h1] at ho; cases ho; cases hc
  · obtain ⟨_, o, ho, hc⟩ := hr _ e.symm
    rw [show W.heap[w.heap.size]? = _ from h2.blk] at ho; cases ho; cases hc

/-- A round has written the sum. -/
theorem rnd_step {w W W1 W2 : World} {f : List Int → Int} {a0 a1 a2 a3 a4 : Option Addr} {p0 p1 p2 p3 p4 : Nat} {m : SmyV} {pre : List Int} {x v nl : Int} {B S : Nat} (hs : Smy w (.slice a0 m.rooms.length p0) (.slice a1 m.guilds.length p1) (.slice a2 m.smiths.length p2) (.slice a3 m.desks.length p3) (.slice a4 m.paces.length p4) m) (hko : KeepsOthers W W1) (hkb : KeepsBox S 2 W W1) (hb : Below W1.heap.size W1 W2) (hv : Boxed W1 (w.heap.size + 1) 2 (.int .i64 nl)) (hK : Bx w W1 w.heap.size a0 p0 a1 p1 a2 p2 a3 p3 a4 p4 m) (hS : w.heap.size + 1 < S) (e : f (pre ++ [x]) = v) :
    KeepsFrom B W (W2.setCell ⟨w.heap.size + 1, 0, none⟩ (.int .i64 v)) ∧ KeepsBox S 2 W (W2.setCell ⟨w.heap.size + 1, 0, none⟩ (.int .i64 v)) ∧ Rnd w f a0 p0 a1 p1 a2 p2 a3 p3 a4 p4 m (pre ++ [x]) (W2.setCell ⟨w.heap.size + 1, 0, none⟩ (.int .i64 v)) := by
  have hK2 := hK.next hb
  have hbb : Below w.heap.size w (W2.setCell ⟨w.heap.size + 1, 0, none⟩ (.int .i64 v)) := hK2.bb.setCell (p := ⟨w.heap.size + 1, 0, none⟩) (Nat.le_succ _) _
  refine ⟨((hko.trans (below_others hb)).trans (KeepsOthers.setCell _ _ _)).from _, fun u hu => (below_boxed hb (hkb u hu)).other (by omega) _, ?_, hs.below hbb, hK2.blk.other (a := ⟨w.heap.size + 1, 0, none⟩) (by show w.heap.size ≠ w.heap.size + 1; omega) _, hbb⟩
  rw [e]
  exact (below_boxed hb hv).set _

set_option maxHeartbeats 8000000 in
theorem needIn_in (n : Nat) (hn : 3 ≤ n) {w : World} {v0 v1 v2 v3 v4 : Value} {m : SmyV} {r : Nat} (h : Smy w v0 v1 v2 v3 v4 m) (hS : Sane m) (hW : Wants m) (hr : r < m.rooms.length) : CallsIn Fence.wide n Tryz.prog 235 #[.agg #[v0, v1, v2, v3, v4, .int .i64 m.now], .int .i64 (r : Int)] w fun e w' => e = .returned (.int .i64 (needL m (mems (setV m.rooms (r : Int))))) ∧ Below w.heap.size w w' := by
  have h1 : 1 ≤ n := by omega
  have hmo : Tryz.prog.follows .mixedOrders = true := by kernel_rfl
  have hl := hS.few
  have HW := hide hW
  have Hs := hide h
  clear hS hW
  obtain ⟨a0, p0, a1, p1, a2, p2, a3, p3, a4, p4, rfl, rfl, rfl, rfl, rfl, K⟩ := Bx.new h
  clear h
  obtain ⟨st, hst⟩ : ∃ st, setV m.rooms (r : Int) = st := ⟨_, rfl⟩
  rw [hst]
  have Hst := hide hst
  clear hst
  refine callsIn_of_wp_marks Tryz.func235 rfl trivial ?_ rfl
  simp only [Tryz.ntmps235, List.size_toArray, List.length_cons, List.length_nil, Nat.reduceAdd, Nat.reduceSub, Array.replicate_succ, Array.replicate_zero, List.push_toArray, List.append_toArray, List.nil_append, List.cons_append]
  gi_wp2_with fail
  have bN := Boxed.new (w.alloc (.cells #[.slice a0 m.rooms.length p0, .slice a1 m.guilds.length p1, .slice a2 m.smiths.length p2, .slice a3 m.desks.length p3, .slice a4 m.paces.length p4, .int .i64 m.now] 32)) 2 (.int .i64 0)
  rw [World.size_alloc] at bN
  replace K := K.alloc (.cells #[.int .i64 0] 2)
  generalize (w.alloc (.cells #[.slice a0 m.rooms.length p0, .slice a1 m.guilds.length p1, .slice a2 m.smiths.length p2, .slice a3 m.desks.length p3, .slice a4 m.paces.length p4, .int .i64 m.now] 32)).alloc (.cells #[.int .i64 0] 2) = W0 at *
  refine ⟨trivial, ?_⟩
  refine (callsIn_wide.2 (implBenchSet_any (r : Int) K.smy.rooms)).mono ?_
  rw [unhide Hst]
  rintro e w1 ⟨rfl, hb⟩
  dsimp only
  replace bN := below_boxed hb bN
  replace K := K.next hb
  clear hb Hst
  gi_wp2_with (refine ⟨trivial, ?_⟩; gi_at_call 272; refine (membersOf_in (n - 1) _ _).mono ?_; rintro e w' ⟨rfl, rfl⟩)
  have bS := Boxed.new w1 2 (.int .i64 st)
  have hsz := K.bb.size
  refine wpIn_rangeFunc_ownG rfl h1 (gf := 295) (lb := #[.pointer (some ⟨w1.heap.size, 0, none⟩)]) rfl trivial (enters_of Tryz.func295 (by kernel_rfl) rfl)
    (members_stops (n - 1) (by omega) w1.heap.size st _ bS) (fun h k => h.trans k) (KeepsBox.putObj (by simp)) (Below.refl _ _) (fun _ => rfl)
    (Rnd w (needL m) a0 p0 a1 p1 a2 p2 a3 p3 a4 p4 m) (fun _ _ _ => False)
    (rnd_own w (needL m) a0 p0 a1 p1 a2 p2 a3 p3 a4 p4 m (unhide Hs) (by simp; omega))
    (fun _ _ _ _ _ hs _ _ => hs)
    ⟨bN.alloc _, K.alloc _⟩
    (fun x => { tmps := #[.agg #[.slice a0 m.rooms.length p0, .slice a1 m.guilds.length p1, .slice a2 m.smiths.length p2, .slice a3 m.desks.length p3, .slice a4 m.paces.length p4, .int .i64 m.now], .int .i64 (r : Int), .pointer (some ⟨w.heap.size, 0, none⟩), undef, .int .i64 0, .pointer (some ⟨w.heap.size + 1, 0, none⟩), .int .i64 x, .pointer (some ⟨w.heap.size, 0, none⟩), .agg #[.slice a0 m.rooms.length p0], .int .i64 (r : Int), .int .i64 st, .func (.func 295) #[] #[.pointer (some ⟨w1.heap.size, 0, none⟩)], .int .i64 x, undef, undef, undef, undef, undef, undef, undef, undef, undef], defers := [] }) ?assign ?body ?done ?stop
  case assign =>
    intro l x W K hK
    gi_wp2
    exact hK
  case body =>
    rintro l pre x W ⟨hv, hK⟩ hlt
    have hc := hv.cell
    have hf := hv.frozen
    obtain ⟨c0, c1, c2, c3, c4, c5⟩ := hK.cells
    obtain ⟨us, hus⟩ : ∃ q, usedV m x (-1) = q := ⟨_, rfl⟩
    have hub := usedV_bd m x (-1)
    rw [hus] at hub
    have Hus := hide hus
    obtain ⟨q, hq⟩ : ∃ q, openB m x = q := ⟨_, rfl⟩
    have HN := hide (needL_snoc m pre x)
    have hnb := needL_bd m hl pre
    rw [hq, hus] at HN
    clear hus
    generalize needL m pre = nl at *
    gi_wp2_with fail
    refine ⟨trivial, fun _ => (by omega), ?_⟩
    refine (CallsIn.inRound l (callsIn_wide.2 (hasOpen_any hq hK.smy))).mono ?_
    rintro e W1 ⟨rfl, hb⟩
    dsimp only
    have hko := below_others hb
    have hkb := below_boxes hb (B := w1.heap.size) (t := 2)
    replace hv := below_boxed hb hv
    replace hK := hK.next hb
    clear hb hc hf c0 c1 c2 c3 c4 c5
    cases q
    · gi_wp2_with fail
      exact ⟨hko.from _, hkb, by rw [show Rnd w (needL m) a0 p0 a1 p1 a2 p2 a3 p3 a4 p4 m (pre ++ [x]) W1 = (Boxed W1 (w.heap.size + 1) 2 (.int .i64 (needL m (pre ++ [x]))) ∧ Bx w W1 w.heap.size a0 p0 a1 p1 a2 p2 a3 p3 a4 p4 m) from rfl, unhide HN]; exact ⟨hv, hK⟩⟩
    have hc := hv.cell
    have hf := hv.frozen
    obtain ⟨c0, c1, c2, c3, c4, c5⟩ := hK.cells
    gi_wp2_with fail
    gi_region_with_o (refine ⟨trivial, fun _ => (by omega), ?_⟩; gi_at_call 58; refine (CallsIn.inRound l (callsIn_wide.2 (usedAt_any (unhide Hus) ?_ (unhide HW) hl))).mono ?_; exact hK.smy.below (Below.refl _ _).drew; rintro e W2 ⟨rfl, hb2⟩; have Hb2 : Hid (Below W1.heap.size W1 W2) := hide ⟨hb2.os, hb2.tape, hb2.output, hb2.size, hb2.block⟩; have hv2 := below_boxed (unhide Hb2) hv; have hc2 := hv2.cell; have hf2 := hv2.frozen; clear hb2)
    all_goals
      exact rnd_step (unhide Hs) hko hkb (unhide Hb2) hv hK bN.lt (by rw [unhide HN]; simp only [if_true]; omega)
  case done =>
    rintro D ys W hD rfl ⟨hv, hK⟩ hDf
    have hc := hv.cell
    gi_wp2
    refine ⟨by simp, .inl ⟨_, _, rfl, run_takeDeferred hDf, ?_⟩⟩
    exact ⟨_, results_tmp rfl _ _ _, rfl, hK.bb.trans (belowK_b (w := w) (Nat.le_refl _) W D _ _ (by simp at hD; omega) hDf rfl rfl)⟩
  case stop =>
    rintro D c pre W _ _ h _
    exact h.elim
theorem needIn_any {w : World} {v0 v1 v2 v3 v4 : Value} {m : SmyV} {r : Nat} (h : Smy w v0 v1 v2 v3 v4 m) (hS : Sane m) (hW : Wants m) (hr : r < m.rooms.length) : Calls Tryz.prog 235 #[.agg #[v0, v1, v2, v3, v4, .int .i64 m.now], .int .i64 (r : Int)] w fun e w' => e = .returned (.int .i64 (needL m (mems (setV m.rooms (r : Int))))) ∧ Below w.heap.size w w' := callsIn_wide.1 (needIn_in 3 (Nat.le_refl _) h hS hW hr)
set_option maxHeartbeats 8000000 in
theorem workIn_in (n : Nat) (hn : 3 ≤ n) {w : World} {v0 v1 v2 v3 v4 : Value} {m : SmyV} {r : Nat} (h : Smy w v0 v1 v2 v3 v4 m) (hS : Sane m) (hW : Wants m) (hr : r < m.rooms.length) : CallsIn Fence.wide n Tryz.prog 236 #[.agg #[v0, v1, v2, v3, v4, .int .i64 m.now], .int .i64 (r : Int)] w fun e w' => e = .returned (.int .i64 (workL m (mems (setV m.rooms (r : Int))))) ∧ Below w.heap.size w w' := by
  have h1 : 1 ≤ n := by omega
  have hmo : Tryz.prog.follows .mixedOrders = true := by kernel_rfl
  have hl := hS.few
  have HW := hide hW
  have Hs := hide h
  clear hS hW
  obtain ⟨a0, p0, a1, p1, a2, p2, a3, p3, a4, p4, rfl, rfl, rfl, rfl, rfl, K⟩ := Bx.new h
  clear h
  obtain ⟨st, hst⟩ : ∃ st, setV m.rooms (r : Int) = st := ⟨_, rfl⟩
  rw [hst]
  have Hst := hide hst
  clear hst
  refine callsIn_of_wp_marks Tryz.func236 rfl trivial ?_ rfl
  simp only [Tryz.ntmps236, List.size_toArray, List.length_cons, List.length_nil, Nat.reduceAdd, Nat.reduceSub, Array.replicate_succ, Array.replicate_zero, List.push_toArray, List.append_toArray, List.nil_append, List.cons_append]
  gi_wp2_with fail
  have bN := Boxed.new (w.alloc (.cells #[.slice a0 m.rooms.length p0, .slice a1 m.guilds.length p1, .slice a2 m.smiths.length p2, .slice a3 m.desks.length p3, .slice a4 m.paces.length p4, .int .i64 m.now] 32)) 2 (.int .i64 0)
  rw [World.size_alloc] at bN
  replace K := K.alloc (.cells #[.int .i64 0] 2)
  generalize (w.alloc (.cells #[.slice a0 m.rooms.length p0, .slice a1 m.guilds.length p1, .slice a2 m.smiths.length p2, .slice a3 m.desks.length p3, .slice a4 m.paces.length p4, .int .i64 m.now] 32)).alloc (.cells #[.int .i64 0] 2) = W0 at *
  refine ⟨trivial, ?_⟩
  refine (callsIn_wide.2 (implBenchSet_any (r : Int) K.smy.rooms)).mono ?_
  rw [unhide Hst]
  rintro e w1 ⟨rfl, hb⟩
  dsimp only
  replace bN := below_boxed hb bN
  replace K := K.next hb
  clear hb Hst
  gi_wp2_with (refine ⟨trivial, ?_⟩; gi_at_call 272; refine (membersOf_in (n - 1) _ _).mono ?_; rintro e w' ⟨rfl, rfl⟩)
  have bS := Boxed.new w1 2 (.int .i64 st)
  have hsz := K.bb.size
  refine wpIn_rangeFunc_ownG rfl h1 (gf := 295) (lb := #[.pointer (some ⟨w1.heap.size, 0, none⟩)]) rfl trivial (enters_of Tryz.func295 (by kernel_rfl) rfl)
    (members_stops (n - 1) (by omega) w1.heap.size st _ bS) (fun h k => h.trans k) (KeepsBox.putObj (by simp)) (Below.refl _ _) (fun _ => rfl)
    (Rnd w (workL m) a0 p0 a1 p1 a2 p2 a3 p3 a4 p4 m) (fun _ _ _ => False)
    (rnd_own w (workL m) a0 p0 a1 p1 a2 p2 a3 p3 a4 p4 m (unhide Hs) (by simp; omega))
    (fun _ _ _ _ _ hs _ _ => hs)
    ⟨bN.alloc _, K.alloc _⟩
    (fun x => { tmps := #[.agg #[.slice a0 m.rooms.length p0, .slice a1 m.guilds.length p1, .slice a2 m.smiths.length p2, .slice a3 m.desks.length p3, .slice a4 m.paces.length p4, .int .i64 m.now], .int .i64 (r : Int), .pointer (some ⟨w.heap.size, 0, none⟩), undef, .int .i64 0, .pointer (some ⟨w.heap.size + 1, 0, none⟩), .int .i64 x, .pointer (some ⟨w.heap.size, 0, none⟩), .agg #[.slice a0 m.rooms.length p0], .int .i64 (r : Int), .int .i64 st, .func (.func 295) #[] #[.pointer (some ⟨w1.heap.size, 0, none⟩)], .int .i64 x, undef, undef, undef, undef, undef, undef], defers := [] }) ?assign ?body ?done ?stop
  case assign =>
    intro l x W K hK
    gi_wp2
    exact hK
  case body =>
    rintro l pre x W ⟨hv, hK⟩ hlt
    have hc := hv.cell
    have hf := hv.frozen
    obtain ⟨c0, c1, c2, c3, c4, c5⟩ := hK.cells
    obtain ⟨us, hus⟩ : ∃ q, usedV m x (-1) = q := ⟨_, rfl⟩
    have hub := usedV_bd m x (-1)
    rw [hus] at hub
    have Hus := hide hus
    have HN := hide (workL_snoc m pre x)
    have hnb := workL_bd m hl pre
    rw [hus] at HN
    clear hus
    generalize workL m pre = nl at *
    obtain ⟨W1, hW1⟩ : ∃ X, X = W := ⟨_, rfl⟩
    subst hW1
    have hwr : IntKind.i64.wrap (nl + us) = nl + us := by rw [IntKind.wrap_i64]; omega
    gi_wp2_with fail
    gi_region_with_o (refine ⟨trivial, fun _ => (by omega), ?_⟩; gi_at_call 58; refine (CallsIn.inRound l (callsIn_wide.2 (usedAt_any (unhide Hus) ?_ (unhide HW) hl))).mono ?_; exact hK.smy.below (Below.refl _ _).drew; rintro e W2 ⟨rfl, hb2⟩; have Hb2 : Hid (Below W1.heap.size W1 W2) := hide ⟨hb2.os, hb2.tape, hb2.output, hb2.size, hb2.block⟩; have hv2 := below_boxed (unhide Hb2) hv; have hc2 := hv2.cell; have hf2 := hv2.frozen; clear hb2)
    all_goals
      exact rnd_step (unhide Hs) (KeepsOthers.refl _) (fun _ h => h) (unhide Hb2) hv hK bN.lt (by rw [unhide HN])
  case done =>
    rintro D ys W hD rfl ⟨hv, hK⟩ hDf
    have hc := hv.cell
    gi_wp2
    refine ⟨by simp, .inl ⟨_, _, rfl, run_takeDeferred hDf, ?_⟩⟩
    exact ⟨_, results_tmp rfl _ _ _, rfl, hK.bb.trans (belowK_b (w := w) (Nat.le_refl _) W D _ _ (by simp at hD; omega) hDf rfl rfl)⟩
  case stop =>
    rintro D c pre W _ _ h _
    exact h.elim
theorem workIn_any {w : World} {v0 v1 v2 v3 v4 : Value} {m : SmyV} {r : Nat} (h : Smy w v0 v1 v2 v3 v4 m) (hS : Sane m) (hW : Wants m) (hr : r < m.rooms.length) : Calls Tryz.prog 236 #[.agg #[v0, v1, v2, v3, v4, .int .i64 m.now], .int .i64 (r : Int)] w fun e w' => e = .returned (.int .i64 (workL m (mems (setV m.rooms (r : Int))))) ∧ Below w.heap.size w w' := callsIn_wide.1 (workIn_in 3 (Nat.le_refl _) h hS hW hr)

end Go.Proofs.YtaegckehjlkaaaaGreat

/- Contracts of the program's costsIn, together, NeedIn, CoalIn and CoalOf: each answers what the lists say. Conditions: the smithy can be read; what each theorem names. -/
namespace Go.Proofs.YtaegckehjlkaaaaGreat
open Go.ChangeShapes Go.WideShapes Go.ChangeAt Go.RowKit Go.Sort Go.Shelf
set_option linter.unusedVariables false
set_option maxRecDepth 100000

theorem Bx.of {w : World} {a0 a1 a2 a3 a4 : Option Addr} {p0 p1 p2 p3 p4 : Nat} {m : SmyV} (h : Smy w (.slice a0 m.rooms.length p0) (.slice a1 m.guilds.length p1) (.slice a2 m.smiths.length p2) (.slice a3 m.desks.length p3) (.slice a4 m.paces.length p4) m) : Bx w (w.alloc (.cells #[.slice a0 m.rooms.length p0, .slice a1 m.guilds.length p1, .slice a2 m.smiths.length p2, .slice a3 m.desks.length p3, .slice a4 m.paces.length p4, .int .i64 m.now] 32)) w.heap.size a0 p0 a1 p1 a2 p2 a3 p3 a4 p4 m := ⟨h.alloc _, Blk.new _ _ _, (Below.refl _ _).alloc (Nat.le_refl _) _⟩
theorem costsIn_any {w : World} {a0 a1 a2 a3 a4 : Option Addr} {p0 p1 p2 p3 p4 : Nat} {m : SmyV} (h : Smy w (.slice a0 m.rooms.length p0) (.slice a1 m.guilds.length p1) (.slice a2 m.smiths.length p2) (.slice a3 m.desks.length p3) (.slice a4 m.paces.length p4) m) : Calls Tryz.prog 197 #[.agg #[.slice a0 m.rooms.length p0, .slice a1 m.guilds.length p1, .slice a2 m.smiths.length p2, .slice a3 m.desks.length p3, .slice a4 m.paces.length p4, .int .i64 m.now]] w fun e w' => e = .returned (.func (Fn.func 233) #[] #[.pointer (some ⟨w.heap.size, 0, none⟩)]) ∧ Bx w w' w.heap.size a0 p0 a1 p1 a2 p2 a3 p3 a4 p4 m := by
  have K := Bx.of h
  clear h
  go_enter Tryz.func197, Tryz.ntmps197
  go_wp2_with fail
  go_ret
  exact ⟨rfl, K⟩
set_option maxHeartbeats 8000000 in
theorem costs1_any {w0 w : World} {R r : Nat} {a0 a1 a2 a3 a4 : Option Addr} {p0 p1 p2 p3 p4 : Nat} {m : SmyV} (K : Bx w0 w R a0 p0 a1 p1 a2 p2 a3 p3 a4 p4 m) (hS : Sane m) (hW : Wants m) (hr : r < m.rooms.length) : Calls Tryz.prog 233 #[.int .i64 (r : Int), .pointer (some ⟨R, 0, none⟩)] w fun e w' => e = .returned (.int .i64 (coalIn m r)) ∧ Below w.heap.size w w' := by
  have hr1 : (r : Int) < (m.rooms.length : Int) := by omega
  have HM := hide (room_mems hS hr)
  have HN := hide (fun (X : World) (hX : Below w.heap.size w X) => needIn_any (K.smy.below hX) hS hW hr)
  have HK := hide (fun (X : World) (hX : Below w.heap.size w X) => workIn_any (K.smy.below hX) hS hW hr)
  clear hS hW
  have Hc : Hid (coalIn m r = leastV (roomAt m.rooms r) (needL m (mems (setV m.rooms (r : Int)))) (workL m (mems (setV m.rooms (r : Int))))) := hide (by rw [(unhide HM).1, (unhide HM).2]; rfl)
  rw [unhide Hc]
  clear Hc HM
  obtain ⟨_, _, hre, _, _, r0⟩ := K.smy.rooms
  cases hre
  rcases r0 with e0 | ⟨rb, off, rfl, hbw, hcl⟩
  · rw [e0] at hr; simp at hr
  obtain ⟨d0, pv, d1, hpv⟩ := hcl r hr
  clear hcl
  generalize needL m (mems (setV m.rooms (r : Int))) = ne at *
  generalize workL m (mems (setV m.rooms (r : Int))) = wo at *
  obtain ⟨⟨n, ps⟩, hrm⟩ : ∃ x, roomAt m.rooms r = x := ⟨_, rfl⟩
  rw [hrm] at d0 hpv ⊢
  clear hrm
  simp only at d0 hpv
  have Hpv := hide hpv
  obtain ⟨pa, pc, rfl, _, _, _⟩ := hpv
  obtain ⟨c0, c1, c2, c3, c4, c5⟩ := K.cells
  have k0 := cell_regrown c0
  have k1 := cell_regrown c1
  have k2 := cell_regrown c2
  have k3 := cell_regrown c3
  have k4 := cell_regrown c4
  have k5 := cell_regrown c5
  have k6 := cell_regrown d0
  have k7 := cell_regrown d1
  go_enter Tryz.func233, Tryz.ntmps233
  go_wp2_with fail
  refine wp_region_quiet_below (by kernel_rfl) (by kernel_rfl) ?_
  repeat (go_big_quiet_step (first | exact Calls.regrown_of (unhide HN _ (below_regrown _ _ _)) | exact Calls.regrown_of (unhide HK _ (below_regrown _ _ _)) | exact Calls.regrown_of (implLeastCoal_any _ _ _ ((unhide Hpv).below (below_regrown _ _ _)))))
  refine wpQuiet_nil ?_
  intro _ hw'
  obtain ⟨⟨dq, osq⟩, hw''⟩ := hw'
  subst hw''
  go_wp2_with fail
  go_ret
  exact ⟨rfl, below_regrown _ _ _⟩
set_option maxHeartbeats 8000000 in
theorem together_any {w0 w : World} {R : Nat} {a0 a1 a2 a3 a4 b0 : Option Addr} {p0 p1 p2 p3 p4 q0 : Nat} {m : SmyV} (K : Bx w0 w R a0 p0 a1 p1 a2 p2 a3 p3 a4 p4 m) (hS : Sane m) (hW : Wants m) : Calls Tryz.prog 196 #[.slice b0 m.rooms.length q0, .func (Fn.func 233) #[] #[.pointer (some ⟨R, 0, none⟩)]] w fun e w' => e = .returned (.int .i64 (coalAll m)) ∧ Below w.heap.size w w' := by
  have h3 := (hallB_of hS.hall).2.1
  have Hbd := hide (coalTo_bd m)
  have HC := hide (fun (X : World) (hX : Below w.heap.size w X) (k : Nat) (hk : k < m.rooms.length) => costs1_any (K.next hX) hS hW hk)
  clear hS hW K
  go_enter Tryz.func196, Tryz.ntmps196
  go_wp2_with fail
  go_loopw [5, 9] (fun n i wr => ∃ k : Nat, k ≤ m.rooms.length ∧ i = .int .i64 k ∧ n = .int .i64 (coalTo m k) ∧ Below w.heap.size w wr) (fun _ i _ => m.rooms.length - (intOf i).toNat)
  case atStart => exact ⟨0, Nat.zero_le _, rfl, rfl, Below.refl _ _⟩
  case round =>
    obtain ⟨k, hk, rfl, rfl, hb0⟩ := hrel
    obtain ⟨u0, u1⟩ := unhide Hbd k
    obtain ⟨u2, u3⟩ := unhide Hbd (k + 1)
    have hst : coalTo m (k + 1) = coalTo m k + coalIn m k := rfl
    rw [hst] at u2 u3
    have Hst := hide hst
    have BB := hide hb0
    clear hb0 hst
    by_cases hlt : k < m.rooms.length
    · have hlt1 : (k : Int) < (m.rooms.length : Int) := by omega
      have HD := hide (unhide HC wr (unhide BB) k hlt)
      generalize coalIn m k = ci at *
      generalize coalTo m k = ct at *
      go_wp2_with fail
      refine (unhide HD).mono ?_
      rintro e w1 ⟨rfl, hb⟩
      replace BB := hide ((unhide BB).trans (hb.mono (unhide BB).size))
      clear hb HD
      go_wp2_with fail
      go_roundw
      case rel => exact ⟨k + 1, by omega, by go_num, by rw [unhide Hst], unhide BB⟩
      case measure => simp [intOf]; omega
    · obtain rfl : k = m.rooms.length := by omega
      go_wp2_with fail
      go_ret
      exact ⟨rfl, unhide BB⟩

end Go.Proofs.YtaegckehjlkaaaaGreat

/- Turned as the program does it: on the way it is right but for who works; the first one works, and those behind it wait. Idle benches, and who works. Lists and numbers alone; no condition but those that a theorem names. -/
namespace Go.Proofs.YtaegckehjlkaaaaGreat
open Go.ChangeShapes Go.WideShapes Go.ChangeAt Go.RowKit Go.Sort
set_option linter.unusedVariables false

/-- Two lists that read alike are alike. -/
theorem recs_ext {α : Type} [Inhabited α] {xs ys : List α} (hl : xs.length = ys.length) (h : ∀ i, i < xs.length → recAt xs i = recAt ys i) : xs = ys := by
  apply List.ext_getElem hl
  intro i h1 h2
  have := h i h1
  unfold recAt at this
  rwa [List.getD_eq_getElem?_getD, List.getD_eq_getElem?_getD, List.getElem?_eq_getElem h1, List.getElem?_eq_getElem h2] at this
end Go.Proofs.YtaegckehjlkaaaaGreat

/- The program's helpers of chapter 12: those behind the first of a queue, copied; a smithy copied. Conditions: what is handed in can be read; what each theorem names. -/
namespace Go.Proofs.YtaegckehjlkaaaaGreat
open Go.ChangeShapes Go.WideShapes Go.ChangeAt Go.RowKit Go.Sort
set_option linter.unusedVariables false
set_option linter.unusedSimpArgs false
set_option maxRecDepth 100000

set_option maxHeartbeats 1000000 in
theorem copiedSmith_any {w : World} {v : Value} {ps : List SmithV} (h : IsSmiths w v ps) (hl : ps.length ≤ 1000) : Calls Tryz.prog 192 #[v] w fun e w' => ∃ v', e = .returned v' ∧ SmithsAt w.heap.size w' v' ps ∧ Below w.heap.size w w' := by
  have HR := hide (h.below ((Below.refl _ _).alloc (Nat.le_refl _) (.cells #[] 41)))
  obtain ⟨a, cap, rfl, hc, hm, hr⟩ := h
  clear hr
  go_enter Tryz.func192, Tryz.ntmps192
  go_wp2_with (at_builtin; refine wpList_append_recs tyS rfl (.tmp 3) (.tmp 4) 85 Tryz.underlying85 rfl w.heap.size _ _ [] ps rfl rfl (recs_empty rfl (Nat.le_refl _)) (unhide HR) (by simp; omega) (by simp) ?_; intro u9 w9 hp9 hg9 hat9; rw [List.nil_append] at hp9; have HP9 := hide hp9; have HG9 := hide hg9; clear hp9 hg9 hat9)
  have hb9 : Below w.heap.size w w9 := ((Below.refl _ _).alloc (Nat.le_refl _) _).trans ((Below.refl _ _).grown (unhide HG9) (by simp) (fun i e => by cases e; exact Nat.le_refl _))
  go_wp2_with fail
  go_ret
  exact ⟨_, rfl, unhide HP9, hb9⟩

end Go.Proofs.YtaegckehjlkaaaaGreat

/- One field of one smith is written, and another one behind it: the row reads as the list with that smith. Conditions: those that each theorem names. -/
namespace Go.Proofs.YtaegckehjlkaaaaGreat
open Go.ChangeShapes Go.WideShapes Go.ChangeAt Go.RowKit Go.Sort
set_option linter.unusedVariables false

theorem set_same {ss : List SmithV} {k : Nat} (hk : k < ss.length) : ss.set k (recAt ss k) = ss := by
  refine recs_ext (by simp) fun i hi => ?_
  rw [recAt_set hk]
  split
  · rename_i e; rw [e]
  · rfl
theorem SmithsAt.put {B n c g k i : Nat} {W : World} {ss : List SmithV} {x : SmithV} (h : SmithsAt B W (.slice (some ⟨g, 0, none⟩) n c) (ss.set k x)) (hn : n = ss.length) (hk : k < ss.length) (hi : i < 11) (u : Value) (y : SmithV) (hy : encSmith y = (encSmith x).set i u) : SmithsAt B (W.setCell ⟨g, k * 11 + i, none⟩ u) (.slice (some ⟨g, 0, none⟩) n c) (ss.set k y) := by
  have h1 := (RecAt.put1 encSmith_len (by omega) h (by simpa using hn) (j := k) (i := i) (by simpa using hk) hi u y (by rw [recAt_set hk, if_pos rfl]; exact hy)).1
  rwa [List.set_set] at h1
/-- The smithy with another row of smiths that the call made. -/
theorem Smy.other {w W : World} {v0 v1 v2 v3 v4 u : Value} {m : SmyV} {B : Nat} {ss : List SmithV} (h : Smy w v0 v1 v2 v3 v4 m) (hb : Below w.heap.size w W) (hs : SmithsAt B W u ss) : Smy W v0 v1 u v3 v4 { m with smiths := ss } := ⟨h.rooms.below hb, h.guilds.below hb, hs.list, h.desks.below hb, h.paces.below hb⟩
theorem Below.put6 {n : Nat} {w W : World} {R : Nat} (v0 v1 v2 v3 v4 v5 : Value) (h : Below n w W) (hR : n ≤ R) : Below n w ((((((W.setCell ⟨R, 0, none⟩ v0).setCell ⟨R, 1, none⟩ v1).setCell ⟨R, 2, none⟩ v2).setCell ⟨R, 3, none⟩ v3).setCell ⟨R, 4, none⟩ v4).setCell ⟨R, 5, none⟩ v5) := by
  iterate 6 (refine Below.setCell ?_ hR _)
  exact h
theorem RecAt.off6 {α : Type} [Inhabited α] {t k B : Nat} {enc : α → List Value} {W : World} {R : Nat} {v : Value} {xs : List α} (v0 v1 v2 v3 v4 v5 : Value) (h : RecAt t k enc B W v xs) (hR : ∀ i, v.ownBlock = some i → i ≠ R) : RecAt t k enc B ((((((W.setCell ⟨R, 0, none⟩ v0).setCell ⟨R, 1, none⟩ v1).setCell ⟨R, 2, none⟩ v2).setCell ⟨R, 3, none⟩ v3).setCell ⟨R, 4, none⟩ v4).setCell ⟨R, 5, none⟩ v5) v xs :=
  RecAt.same h fun i hi => by rw [heap_setCell_other _ _ _ _ (hR i hi), heap_setCell_other _ _ _ _ (hR i hi), heap_setCell_other _ _ _ _ (hR i hi), heap_setCell_other _ _ _ _ (hR i hi), heap_setCell_other _ _ _ _ (hR i hi), heap_setCell_other _ _ _ _ (hR i hi)]

end Go.Proofs.YtaegckehjlkaaaaGreat

/- Contracts of the program's withWhoAt (a smithy for its costs alone) and CoalWith. Conditions: the smithy can be read; what each theorem names. -/
namespace Go.Proofs.YtaegckehjlkaaaaGreat
open Go.ChangeShapes Go.WideShapes Go.ChangeAt Go.RowKit Go.Sort
set_option linter.unusedVariables false
set_option linter.unusedSimpArgs false
set_option maxRecDepth 100000

set_option maxHeartbeats 8000000 in
theorem withWhoAt_any {w : World} {a0 a1 a2 a3 a4 : Option Addr} {p0 p1 p2 p3 p4 : Nat} {m : SmyV} {k : Nat} (b : Int) (h : Smy w (.slice a0 m.rooms.length p0) (.slice a1 m.guilds.length p1) (.slice a2 m.smiths.length p2) (.slice a3 m.desks.length p3) (.slice a4 m.paces.length p4) m) (hl : m.smiths.length ≤ 1000) (hk : k < m.smiths.length) : Calls Tryz.prog 198 #[.agg #[.slice a0 m.rooms.length p0, .slice a1 m.guilds.length p1, .slice a2 m.smiths.length p2, .slice a3 m.desks.length p3, .slice a4 m.paces.length p4, .int .i64 m.now], .int .i64 (k : Int), .int .i64 b] w fun e w' => ∃ g gc, e = .returned (.agg #[.slice a0 m.rooms.length p0, .slice a1 m.guilds.length p1, .slice (some ⟨g, 0, none⟩) m.smiths.length gc, .slice a3 m.desks.length p3, .slice a4 m.paces.length p4, .int .i64 m.now]) ∧ Smy w' (.slice a0 m.rooms.length p0) (.slice a1 m.guilds.length p1) (.slice (some ⟨g, 0, none⟩) m.smiths.length gc) (.slice a3 m.desks.length p3) (.slice a4 m.paces.length p4) (withM m (k : Int) b) ∧ Below w.heap.size w w' := by
  have Hv0 := hide h
  have hk1 : (k : Int) < (m.smiths.length : Int) := by omega
  clear h
  go_enter Tryz.func198, Tryz.ntmps198
  go_upto_region 1 with fail
  obtain ⟨W, hW, kb, kr, BB⟩ := two_boxes w 32 #[.slice a0 m.rooms.length p0, .slice a1 m.guilds.length p1, .slice a2 m.smiths.length p2, .slice a3 m.desks.length p3, .slice a4 m.paces.length p4, .int .i64 m.now] 32 #[.slice none 0 0, .slice none 0 0, .slice none 0 0, .slice none 0 0, .slice none 0 0, .int .i64 0]
  have Hv := hide ((unhide Hv0).below (unhide BB))
  rw [hW]
  clear hW
  obtain ⟨c0, c1, c2, c3, c4, c5⟩ := (unhide kb).c6
  go_wp2_with fail
  refine (smithsOf_any _ _ _ _ _ _ _ _ _ _ _ _ _ _ _ _ _).mono ?_
  rintro e w1 ⟨rfl, hb⟩
  replace kb := bl kb hb
  replace kr := bl kr hb
  replace Hv := hide ((unhide Hv).below hb)
  replace BB := bt BB hb
  clear hb c0 c1 c2 c3 c4 c5
  go_wp2_with fail
  refine (copiedSmith_any (unhide Hv).smiths hl).mono ?_
  rintro e w2 ⟨v2, rfl, hs, hb⟩
  have hlb := (unhide kb).lt
  have hlr := (unhide kr).lt
  have hlo := (unhide BB).size
  replace kb := bl kb hb
  replace kr := bl kr hb
  replace BB := bt BB hb
  clear hb Hv
  obtain ⟨ga, gc, rfl⟩ := RecAt.shape hs
  obtain ⟨g, rfl, hg1, hg2, hcl, hfr⟩ := RecAt.view encSmith_len (by omega) hs rfl (by omega)
  have hgb : g ≠ w.heap.size := by omega
  have hgr : g ≠ w.heap.size + 1 := by omega
  have hbg : w.heap.size ≠ g := by omega
  have hrg : w.heap.size + 1 ≠ g := by omega
  have hwg : w.heap.size ≤ g := by omega
  have HS : Hid (SmithsAt (w.heap.size + 1) w2 (.slice (some ⟨g, 0, none⟩) m.smiths.length gc) (m.smiths.set k (recAt m.smiths k))) := hide (by rw [set_same hk]; exact RecAt.mono hs (by omega))
  have s0 := hcl k hk 0 _ rfl
  have s1 := hcl k hk 1 _ rfl
  have f0 := hfr (k * 11)
  have f1 := hfr (k * 11 + 1)
  simp only [Nat.add_zero] at s0
  clear hcl hfr hs hg1
  obtain ⟨c0, c1, c2, c3, c4, c5⟩ := (unhide kb).c6
  obtain ⟨q0, q1, q2, q3, q4, q5⟩ := (unhide kb).f6
  obtain ⟨o0, o1, o2, o3, o4, o5⟩ := (unhide kr).c6
  obtain ⟨t0, t1, t2, t3, t4, t5⟩ := (unhide kr).f6
  go_wp2_with fail
  refine bodyPost_ret (v := .agg #[.slice a0 m.rooms.length p0, .slice a1 m.guilds.length p1, .slice (some ⟨g, 0, none⟩) m.smiths.length gc, .slice a3 m.desks.length p3, .slice a4 m.paces.length p4, .int .i64 m.now]) (by simp [results, Tryz.results198, go_sem, *]) rfl ⟨g, gc, rfl, ?_, ?_⟩
  · have h1 : SmithsAt (w.heap.size + 1) (w2.setCell ⟨w.heap.size, 2, none⟩ (.slice (some ⟨g, 0, none⟩) m.smiths.length gc)) (.slice (some ⟨g, 0, none⟩) m.smiths.length gc) (m.smiths.set k (recAt m.smiths k)) := RecAt.same (unhide HS) (fun i e => by cases e; exact heap_setCell_other _ _ _ _ hgb)
    have h2 := h1.put rfl hk (i := 0) (by omega) (.int .i64 2) (2, (recAt m.smiths k).2) rfl
    have h3 := h2.put rfl hk (i := 1) (by omega) (.int .i64 b) (2, b, (recAt m.smiths k).2.2) rfl
    exact (unhide Hv0).other (Below.put6 _ _ _ _ _ _ ((((unhide BB).setCell (Nat.le_refl _) _).setCell (by show w.heap.size ≤ g; omega) _).setCell (by show w.heap.size ≤ g; omega) _) (Nat.le_succ _)) (RecAt.off6 (.slice a0 m.rooms.length p0) (.slice a1 m.guilds.length p1) (.slice (some ⟨g, 0, none⟩) m.smiths.length gc) (.slice a3 m.desks.length p3) (.slice a4 m.paces.length p4) (.int .i64 m.now) h3 (fun i e => by cases e; exact hgr))
  · exact Below.put6 _ _ _ _ _ _ ((((unhide BB).setCell (Nat.le_refl _) _).setCell (by show w.heap.size ≤ g; omega) _).setCell (by show w.heap.size ≤ g; omega) _) (Nat.le_succ _)
theorem want_neg {m : SmyV} {who q : Int} (h : wantOfV m who = q) : q = -1 ∨ (0 ≤ q ∧ smyB m = true ∧ whoB m who = true) := by
  subst h
  unfold wantOfV
  by_cases hh : (smyB m && whoB m who) = true
  · right
    rw [if_pos hh]
    simp only [Bool.and_eq_true] at hh
    exact ⟨(wantV_bd m who).1, hh.1, hh.2⟩
  · left; rw [if_neg hh]
theorem want_none {m : SmyV} {who b : Int} (h : wantOfV m who = -1) : coalWithOfV m who b = -1 := by
  unfold coalWithOfV
  unfold wantOfV at h
  have hb := (wantV_bd m who).1
  cases h1 : smyB m
  · rfl
  · cases h2 : whoB m who
    · rfl
    · have h9 : wantV m who = -1 := by simpa [h1, h2] using h
      omega
set_option maxHeartbeats 8000000 in
theorem implCoalWith_any {w : World} {v0 v1 v2 v3 v4 : Value} {m : SmyV} {who b q : Int} (hq : coalWithOfV m who b = q) (h : Smy w v0 v1 v2 v3 v4 m) : Calls Tryz.prog 143 #[.agg #[v0, v1, v2, v3, v4, .int .i64 m.now], .int .i64 who, .int .i64 b] w fun e w' => e = .returned (.int .i64 q) ∧ Below w.heap.size w w' := by
  have Hq := hide hq
  clear hq
  obtain ⟨wn, hwn⟩ : ∃ x, wantOfV m who = x := ⟨_, rfl⟩
  have Hwn := hide hwn
  clear hwn
  obtain ⟨a0, p0, a1, p1, a2, p2, a3, p3, a4, p4, rfl, rfl, rfl, rfl, rfl, K⟩ := Bx.new h
  clear h
  go_enter Tryz.func143, Tryz.ntmps143
  go_wp2_with fail
  generalize w.alloc (.cells #[.slice a0 m.rooms.length p0, .slice a1 m.guilds.length p1, .slice a2 m.smiths.length p2, .slice a3 m.desks.length p3, .slice a4 m.paces.length p4, .int .i64 m.now] 32) = W at *
  refine (implWantOf_any (unhide Hwn) K.smy).mono ?_
  rintro e w1 ⟨rfl, hb⟩
  replace K := K.next hb
  clear hb
  rcases want_neg (unhide Hwn) with rfl | ⟨hw0, hok, hwh⟩
  · obtain rfl : q = -1 := (unhide Hq).symm.trans (want_none (unhide Hwn))
    go_wp2_with fail
    go_ret
    exact ⟨rfl, K.bb⟩
  have hwb : (wn == -1) = false := beq_eq_false_iff_ne.mpr (by omega)
  have hwd : ¬ wn = -1 := by omega
  obtain ⟨op, hop⟩ : ∃ x, openB m b = x := ⟨_, rfl⟩
  have Hop := hide hop
  clear hop
  obtain ⟨c0, c1, c2, c3, c4, c5⟩ := K.cells
  go_wp2_with fail
  refine (hasOpen_any (unhide Hop) K.smy).mono ?_
  rintro e w2 ⟨rfl, hb⟩
  replace K := K.next hb
  clear hb c0 c1 c2 c3 c4 c5
  cases op
  · obtain rfl : q = -1 := by rw [← unhide Hq]; unfold coalWithOfV; rw [unhide Hop]; simp
    go_wp2_with fail
    go_ret
    exact ⟨rfl, K.bb⟩
  obtain ⟨k, rfl, hk, hs⟩ := whoB_of hwh
  have hq2 : coalAll (withM m (k : Int) b) = q := by rw [← unhide Hq]; unfold coalWithOfV; rw [hok, hwh, unhide Hop]; rfl
  have HL := hide (smy_loose hok)
  have HS := hide ((unhide HL).sane.with hk hs b)
  have HT := hide ((unhide HL).wants.with hk hs b)
  have hl := smyB_few hok
  have HR : Hid (∀ {X : World} {R : Nat} {c0 : Option Addr} {g gc r0 : Nat} {W : World}, Bx X W R a0 p0 a1 p1 (some ⟨g, 0, none⟩) gc a3 p3 a4 p4 (withM m (k : Int) b) → Calls Tryz.prog 196 #[.slice c0 m.rooms.length r0, .func (Fn.func 233) #[] #[.pointer (some ⟨R, 0, none⟩)]] W fun e w' => e = .returned (.int .i64 q) ∧ Below W.heap.size W w') := hide (fun hK => by rw [← hq2]; exact together_any hK (unhide HS) (unhide HT))
  have HC : Hid (∀ (g gc : Nat) (W : World), Smy W (.slice a0 m.rooms.length p0) (.slice a1 m.guilds.length p1) (.slice (some ⟨g, 0, none⟩) m.smiths.length gc) (.slice a3 m.desks.length p3) (.slice a4 m.paces.length p4) (withM m (k : Int) b) → Calls Tryz.prog 197 #[.agg #[.slice a0 m.rooms.length p0, .slice a1 m.guilds.length p1, .slice (some ⟨g, 0, none⟩) m.smiths.length gc, .slice a3 m.desks.length p3, .slice a4 m.paces.length p4, .int .i64 m.now]] W fun e w' => e = .returned (.func (Fn.func 233) #[] #[.pointer (some ⟨W.heap.size, 0, none⟩)]) ∧ Bx W w' W.heap.size a0 p0 a1 p1 (some ⟨g, 0, none⟩) gc a3 p3 a4 p4 (withM m (k : Int) b)) := hide (fun g gc W hs => by
    have hwl : (withM m (k : Int) b).smiths.length = m.smiths.length := by unfold withM; simp
    have h9 := costsIn_any (w := W) (m := withM m (k : Int) b) (a0 := a0) (a1 := a1) (a2 := some ⟨g, 0, none⟩) (a3 := a3) (a4 := a4) (p0 := p0) (p1 := p1) (p2 := gc) (p3 := p3) (p4 := p4) (by rw [hwl]; exact hs)
    rw [hwl] at h9
    exact h9)
  clear hwh Hq Hwn hok hwb hwd hw0 HS HT hq2
  have KD := K.drew
  obtain ⟨c0, c1, c2, c3, c4, c5⟩ := K.cells
  go_wp2_with fail
  go_region_with (first
    | (go_at_call 198; refine (withWhoAt_any b KD.smy (by omega) hk).mono ?_; rintro e w3 ⟨g, gc, rfl, hsm, hb3⟩; have K3 := KD.next hb3; have z0 := K3.blk.cell (i := 0) (v := .slice a0 m.rooms.length p0) rfl; have HS3 := hide hsm; clear hsm hb3)
    | (go_at_call 197; refine (unhide HC _ _ _ (unhide HS3)).mono ?_; rintro e w4 ⟨rfl, KX⟩; have K4 := K3.next KX.bb; have y0 := K4.blk.cell (i := 0) (v := .slice a0 m.rooms.length p0) rfl)
    | (go_at_call 196; refine (unhide HR KX).mono ?_; rintro e w5 ⟨rfl, hb5⟩; have K5 := K4.next hb5; clear hb5))
  all_goals
    go_wp2_with fail
    go_ret
    exact ⟨rfl, K5.bb⟩

end Go.Proofs.YtaegckehjlkaaaaGreat

