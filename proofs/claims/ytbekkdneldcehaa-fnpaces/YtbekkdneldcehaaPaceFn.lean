/- Contracts of PaceFor, CoalFor and LeastCoal, the program's and the model's, at whatever room can be read and whatever numbers: each returns what the lists say and writes into no memory that was there. No other condition. -/
import Derived.Test.YtbekkdneldcehaaHallOk
import Derived.Test.YtbekkdneldcehaaPace5
import Derived.Test.YtbekkdneldcehaaAmt
import Derived.WalkMore
namespace Go.Proofs.Ytbekkdneldcehaa
open Go.ChangeShapes Go.WideShapes Go.ChangeAt Go.RowKit Go.Sort
set_option linter.unusedVariables false

theorem enough_any (f c need : Int) (w : World) (f0 : 1 ≤ f) (f1 : f ≤ 1024) (n0 : 0 ≤ need) (n1 : need ≤ 1000000) :
    Calls Try.prog 48 #[.int .i64 f, .int .i64 need] w fun e w' => e = .returned (.bool (enoughB need (f, c))) ∧ Below w.heap.size w w' :=
  (isEnough_any f need w (by omega) (by omega) n0 (by omega)).mono fun _ _ ⟨he, hw⟩ => ⟨he, hw ▸ Below.refl _ _⟩

set_option maxHeartbeats 1000000 in
theorem slowest_any {w : World} {v : Value} {ps : List PaceV} (b need : Int) (h : IsPaces w v ps) (hr : roomB (b, ps) = true) (hn : inB need 0 1000000 = true) :
    Calls Try.prog 38 #[v, .int .i64 need] w fun e w' => e = .returned (.int .i64 (paceN need ps)) ∧ Below w.heap.size w w' := by
  obtain ⟨a, cap, rfl, hc, hm, hrow⟩ := h
  have hbd := room_bd hr
  simp only at hbd
  obtain ⟨_, _, hl1, hl4⟩ := hbd
  obtain ⟨n0, n1⟩ := inB_of hn
  rcases hrow with h0 | ⟨bk, off, rfl, hbw, hcl⟩
  · rw [h0] at hl1; simp at hl1
  have Hcl := hide hcl
  have Hr := hide hr
  clear hcl hr hn
  go_enter Try.func38, Try.ntmps38
  go_wp2_with fail
  go_step3
  go_wp2_with fail
  go_step3
  go_wp2_with fail
  go_loopw [5] (fun i wr => ∃ k : Nat, k + 1 ≤ ps.length ∧ i = .int .i64 k ∧ (∀ j, j < k → enoughB need (paceAt ps j) = false) ∧ Below w.heap.size w wr) (fun i _ => ps.length - (intOf i).toNat)
  case atStart => exact ⟨0, by omega, rfl, fun j hj => by omega, Below.refl _ _⟩
  case round =>
    obtain ⟨k, hk, rfl, hlo, hb⟩ := hrel
    have Hlo := hide hlo
    have Hb := hide hb
    clear hlo
    by_cases hlast : k + 1 = ps.length
    · clear hb
      have he : (k : Int) = (ps.length : Int) - 1 := by omega
      have Hp := hide (paceN_eq need ps k hk (unhide Hlo) (.inl hlast))
      go_wp2_with fail
      (try rw [Exit.noGoto_ret])
      go_ret
      exact ⟨ret_int (by rw [unhide Hp]), unhide Hb⟩
    · have hne : ¬ (k : Int) = (ps.length : Int) - 1 := by omega
      obtain ⟨c0, c1⟩ := unhide Hcl k (by omega)
      rw [← hb.cell (p := ⟨bk, off + k * 2, none⟩) hbw] at c0
      rw [← hb.cell (p := ⟨bk, off + k * 2 + 1, none⟩) hbw] at c1
      have hpb := room_pace (unhide Hr) (k := k) (show k < ps.length by omega)
      simp only at hpb
      generalize hp : paceAt ps k = p at c0 c1 hpb
      have Hp := hide hp
      clear hp hb
      obtain ⟨f, c⟩ := p
      simp only at c0 c1 hpb
      obtain ⟨f0, f1, _, _⟩ := hpb
      go_wp2_with fail
      refine (enough_any f c need _ f0 f1 n0 n1).mono ?_
      rintro e w1 ⟨rfl, hb1⟩
      have Hb1 := hide hb1
      clear hb1
      cases hen : enoughB need (f, c)
      · go_wp2_with fail
        go_roundw
        case rel => exact ⟨k + 1, by omega, by go_num, next_all (unhide Hlo) (by rw [unhide Hp]; exact hen), (unhide Hb).trans ((unhide Hb1).mono (unhide Hb).size)⟩
        case measure => simp [intOf]; omega
      · have Hq := hide (paceN_eq need ps k hk (unhide Hlo) (.inr (by rw [unhide Hp]; exact hen)))
        go_wp2_with fail
        (try rw [Exit.noGoto_ret])
        go_ret
        exact ⟨ret_int (by rw [unhide Hq]), (unhide Hb).trans ((unhide Hb1).mono (unhide Hb).size)⟩

set_option maxHeartbeats 1000000 in
theorem implPaceFor_any {w : World} {v : Value} {ps : List PaceV} (b need : Int) (h : IsPaces w v ps) :
    Calls Try.prog 11 #[.agg #[.int .i64 b, v], .int .i64 need] w fun e w' => e = .returned (.int .i64 (paceForV (b, ps) need)) ∧ Below w.heap.size w w' := by
  have Hv := hide h
  obtain ⟨a, cap, rfl, hc, hm, hrow⟩ := h
  clear hrow
  cases hr : roomB (b, ps)
  · rw [paceForV_f1 hr]
    go_enter Try.func11, Try.ntmps11
    go_wp2_with fail
    refine (implRoomOk_any b ((unhide Hv).below ((Below.refl _ _).alloc (Nat.le_refl _) _))).mono ?_
    rintro e w1 ⟨rfl, hb⟩
    have B1 : Hid (Below w.heap.size w w1) := hide (((Below.refl _ _).alloc (Nat.le_refl _) _).trans (hb.mono (by simp)))
    clear hb
    go_wp2_with fail
    go_ret
    exact ⟨rfl, unhide B1⟩
  cases hn : inB need 0 1000000
  · rw [paceForV_f2 hn]
    go_enter Try.func11, Try.ntmps11
    go_wp2_with fail
    refine (implRoomOk_any b ((unhide Hv).below ((Below.refl _ _).alloc (Nat.le_refl _) _))).mono ?_
    rintro e w1 ⟨rfl, hb⟩
    have B1 : Hid (Below w.heap.size w w1) := hide (((Below.refl _ _).alloc (Nat.le_refl _) _).trans (hb.mono (by simp)))
    clear hb
    go_wp2_with (go_at_call 37; refine (liesFrom_any _ _ _ _).mono ?_; rintro e w' ⟨rfl, rfl⟩)
    go_ret
    exact ⟨rfl, unhide B1⟩
  · rw [paceForV_t hr hn]
    have Hr := hide hr
    go_enter Try.func11, Try.ntmps11
    go_wp2_with fail
    refine (implRoomOk_any b ((unhide Hv).below ((Below.refl _ _).alloc (Nat.le_refl _) _))).mono ?_
    rintro e w1 ⟨rfl, hb⟩
    have x1 : w1.cell? ⟨w.heap.size, 1, none⟩ = some (.slice a ps.length cap) := (hb.cell (p := ⟨w.heap.size, 1, none⟩) (by simp)).trans (by simp)
    have B1 : Hid (Below w.heap.size w w1) := hide (((Below.refl _ _).alloc (Nat.le_refl _) _).trans (hb.mono (by simp)))
    clear hb
    go_wp2_with (go_at_call 37; refine (liesFrom_any _ _ _ _).mono ?_; rintro e w' ⟨rfl, rfl⟩)
    refine (slowest_any b need ((unhide Hv).below (unhide B1)) (unhide Hr) hn).mono ?_
    rintro e w2 ⟨rfl, hb2⟩
    have Hb2 := hide hb2
    clear hb2
    go_wp2_with fail
    go_ret
    exact ⟨rfl, (unhide B1).trans ((unhide Hb2).mono (unhide B1).size)⟩

theorem l5Work_any (x : Int) (w : World) : Calls Try.prog 41 #[.int .i64 x] w fun e w' => e = .returned (.bool (inB x 0 1000000)) ∧ w' = w := by
  go_enter Try.func41, Try.ntmps41
  go_wp2_with (go_at_call 42; refine (l1In_any _ _ _ _).mono ?_; rintro e w' ⟨rfl, rfl⟩)
  go_ret
  exact ⟨rfl, rfl⟩

set_option maxHeartbeats 2000000 in
theorem specPaceFor_any {w : World} {v : Value} {ps : List PaceV} (b need : Int) (h : IsPaces w v ps) :
    Calls Try.prog 16 #[.agg #[.int .i64 b, v], .int .i64 need] w fun e w' => e = .returned (.int .i64 (paceForV (b, ps) need)) ∧ Below w.heap.size w w' := by
  have Hv := hide h
  obtain ⟨a, cap, rfl, hc, hm, hrow⟩ := h
  clear hrow
  cases hr : roomB (b, ps)
  · rw [paceForV_f1 hr]
    go_enter Try.func16, Try.ntmps16
    go_wp2_with fail
    refine (specRoomOk_any b ((unhide Hv).below ((Below.refl _ _).alloc (Nat.le_refl _) _))).mono ?_
    rintro e w1 ⟨rfl, hb⟩
    have B1 : Hid (Below w.heap.size w w1) := hide (((Below.refl _ _).alloc (Nat.le_refl _) _).trans (hb.mono (by simp)))
    clear hb
    go_wp2_with fail
    go_ret
    exact ⟨rfl, unhide B1⟩
  cases hn : inB need 0 1000000
  · rw [paceForV_f2 hn]
    go_enter Try.func16, Try.ntmps16
    go_wp2_with fail
    refine (specRoomOk_any b ((unhide Hv).below ((Below.refl _ _).alloc (Nat.le_refl _) _))).mono ?_
    rintro e w1 ⟨rfl, hb⟩
    have B1 : Hid (Below w.heap.size w w1) := hide (((Below.refl _ _).alloc (Nat.le_refl _) _).trans (hb.mono (by simp)))
    clear hb
    go_wp2_with (go_at_call 41; refine (l5Work_any _ _).mono ?_; rintro e w' ⟨rfl, rfl⟩)
    go_ret
    exact ⟨rfl, unhide B1⟩
  rw [paceForV_t hr hn]
  have Hr := hide hr
  have hn' := hn
  obtain ⟨n0, n1⟩ := inB_of hn'
  clear hn'
  go_enter Try.func16, Try.ntmps16
  go_wp2_with fail
  refine (specRoomOk_any b ((unhide Hv).below ((Below.refl _ _).alloc (Nat.le_refl _) _))).mono ?_
  rintro e w1 ⟨rfl, hb⟩
  have x1 : w1.cell? ⟨w.heap.size, 1, none⟩ = some (.slice a ps.length cap) := (hb.cell (p := ⟨w.heap.size, 1, none⟩) (by simp)).trans (by simp)
  have B1 : Hid (Below w.heap.size w w1) := hide (((Below.refl _ _).alloc (Nat.le_refl _) _).trans (hb.mono (by simp)))
  clear hb
  have hv1 := (unhide Hv).below (unhide B1)
  obtain ⟨a', cap', he, _, _, hrow⟩ := hv1
  cases he
  have hbd := room_bd (unhide Hr)
  simp only at hbd
  obtain ⟨_, _, hl1, hl4⟩ := hbd
  rcases hrow with h0 | ⟨bk, off, rfl, hbw, hcl⟩
  · rw [h0] at hl1; simp at hl1
  have Hcl := hide hcl
  clear hcl
  go_wp2_with (go_at_call 41; refine (l5Work_any _ _).mono ?_; rintro e w' ⟨rfl, rfl⟩)
  clear hr hn
  go_loop [5] (fun i => ∃ k : Nat, k + 1 ≤ ps.length ∧ i = .int .i64 k ∧ (∀ j, j < k → enoughB need (paceAt ps j) = false)) (fun i => ps.length - (intOf i).toNat)
  case atStart => exact ⟨0, by omega, rfl, fun j hj => by omega⟩
  case round =>
    obtain ⟨k, hk, rfl, hlo⟩ := hrel
    have Hlo := hide hlo
    clear hlo
    by_cases hlast : k + 1 = ps.length
    · have Hp := hide (paceN_eq need ps k hk (unhide Hlo) (.inl hlast))
      have hd : ¬ (k : Int) + 1 < (ps.length : Int) := by omega
      go_wp2_with fail
      go_ret
      exact ⟨ret_int (by rw [unhide Hp]), unhide B1⟩
    · have hd : (k : Int) + 1 < (ps.length : Int) := by omega
      obtain ⟨c0, c1⟩ := unhide Hcl k (by omega)
      have hpb := room_pace (unhide Hr) (k := k) (show k < ps.length by omega)
      simp only at hpb
      generalize hp : paceAt ps k = p at c0 c1 hpb
      have Hp := hide hp
      clear hp
      obtain ⟨f, c⟩ := p
      simp only at c0 c1 hpb
      obtain ⟨f0, f1, _, _⟩ := hpb
      by_cases hen : 4 * f < 5 * need
      · go_wp2_with fail
        go_round
        case rel => exact ⟨k + 1, by omega, by go_num, next_all (unhide Hlo) (by rw [unhide Hp]; exact enough_f hen)⟩
        case measure => simp [intOf]; omega
      · have Hq := hide (paceN_eq need ps k hk (unhide Hlo) (.inr (by rw [unhide Hp]; exact enough_t (by simp only; omega))))
        go_wp2_with fail
        go_ret
        exact ⟨ret_int (by rw [unhide Hq]), unhide B1⟩

end Go.Proofs.Ytbekkdneldcehaa
