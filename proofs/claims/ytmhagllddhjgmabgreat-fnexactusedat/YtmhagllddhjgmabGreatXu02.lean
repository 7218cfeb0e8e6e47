/- What the proof rests on, part 2: lists and numbers, how they lie in memory, and contracts of the calls. No condition but those that a theorem names. -/
import Derived.Test.YtmhagllddhjgmabGreatXu01
import Derived.Lib.QuietBelow
import Derived.WalkKit
import Derived.ProofKit
import Derived.OpenShut
import Derived.Outline
import Derived.Deep.QuietTactic
import Derived.BigQuiet
import Derived.Laws.OwnMore
import Derived.OwnWalk
import Derived.Maps.AppendAt
/- Contracts of RoomOk and HallOk, the program's and the model's, and of what they call: each returns what the lists say and writes into no memory that was there. Condition: the slices can be read. -/
namespace Go.Proofs.YtmhagllddhjgmabGreat
open Go.ChangeShapes Go.WideShapes Go.ChangeAt Go.RowKit Go.Sort
set_option linter.unusedVariables false

theorem isPace_any (f c : Int) (w : World) : Calls Tryz.prog 145 #[.agg #[.int .i64 f, .int .i64 c]] w fun e w' => e = .returned (.bool (paceB (f, c))) ∧ Below w.heap.size w w' := by
  cases h1 : inB f 1 1024
  · go_enter Tryz.func145, Tryz.ntmps145
    go_wp2_with fail
    refine (liesFrom_any _ _ _ _).mono ?_
    rintro e w' ⟨rfl, rfl⟩
    go_wp2_with fail
    go_ret
    exact ⟨ret_bool (by unfold paceB; simp [h1]), (Below.refl _ _).alloc (Nat.le_refl _) _⟩
  · go_enter Tryz.func145, Tryz.ntmps145
    go_wp2_with fail
    refine (liesFrom_any _ _ _ _).mono ?_
    rintro e w' ⟨rfl, rfl⟩
    go_wp2_with fail
    refine (liesFrom_any _ _ _ _).mono ?_
    rintro e w' ⟨rfl, rfl⟩
    go_wp2_with fail
    go_ret
    exact ⟨ret_bool (by unfold paceB; simp [h1]), (Below.refl _ _).alloc (Nat.le_refl _) _⟩

theorem isAbove_any (f c f' c' : Int) (w : World) : Calls Tryz.prog 146 #[.agg #[.int .i64 f, .int .i64 c], .agg #[.int .i64 f', .int .i64 c']] w fun e w' => e = .returned (.bool (aboveB (f, c) (f', c'))) ∧ Below w.heap.size w w' := by
  by_cases h1 : f' < f
  · go_enter Tryz.func146, Tryz.ntmps146
    go_wp2_with fail
    all_goals
      go_ret
      exact ⟨ret_bool (by unfold aboveB; simp [h1]), ((Below.refl _ _).alloc (Nat.le_refl _) _).alloc (by simp) _⟩
  · go_enter Tryz.func146, Tryz.ntmps146
    go_wp2_with fail
    all_goals
      go_ret
      exact ⟨ret_bool (by unfold aboveB; simp; omega), ((Below.refl _ _).alloc (Nat.le_refl _) _).alloc (by simp) _⟩

theorem stepB_p {ps : List PaceV} {k : Nat} {p : PaceV} (hp : paceAt ps k = p) (h : paceB p = false) : stepB ps k = false := by unfold stepB; rw [hp]; simp [h]
theorem stepB_0 {ps : List PaceV} {p : PaceV} (hp : paceAt ps 0 = p) (h : paceB p = true) : stepB ps 0 = true := by unfold stepB; rw [hp]; simp [h]
theorem stepB_s {ps : List PaceV} {k : Nat} {p q : PaceV} (hp : paceAt ps (k + 1) = p) (hq : paceAt ps k = q) (h : paceB p = true) : stepB ps (k + 1) = aboveB p q := by unfold stepB; simp [hp, hq, h]

set_option maxHeartbeats 1000000 in
theorem pacesOk_any {w : World} {v : Value} {ps : List PaceV} (h : IsPaces w v ps) :
    Calls Tryz.prog 143 #[v] w fun e w' => e = .returned (.bool (pacesB ps)) ∧ Below w.heap.size w w' := by
  obtain ⟨a, cap, rfl, hc, hm, hr⟩ := h
  have Hr := hide hr
  clear hr
  go_enter Tryz.func143, Tryz.ntmps143
  go_wp2_with fail
  go_loopw [7] (fun i wr => ∃ k : Nat, k ≤ ps.length ∧ i = .int .i64 k ∧ (∀ j, j < k → stepB ps j = true) ∧ Below w.heap.size w wr) (fun i _ => ps.length - (intOf i).toNat)
  case atStart => exact ⟨0, Nat.zero_le _, rfl, fun j hj => by omega, Below.refl _ _⟩
  case round =>
    obtain ⟨k, hk, rfl, hst, hb⟩ := hrel
    have Hst := hide hst
    have Hb := hide hb
    clear hst
    by_cases hlt : k < ps.length
    · rcases unhide Hr with h0 | ⟨b, off, rfl, hbw, hcl⟩
      · rw [h0] at hlt; simp at hlt
      have hbr : b < wr.heap.size := Nat.lt_of_lt_of_le hbw hb.size
      have hne : b ≠ wr.heap.size := Nat.ne_of_lt hbr
      obtain ⟨c0, c1⟩ := hcl k hlt
      rw [← hb.cell (p := ⟨b, off + k * 2, none⟩) hbw] at c0
      rw [← hb.cell (p := ⟨b, off + k * 2 + 1, none⟩) hbw] at c1
      generalize hp : paceAt ps k = p at c0 c1
      have Hp := hide hp
      clear hp
      obtain ⟨f, c⟩ := p
      simp only at c0 c1
      have d0 : (wr.alloc (.cells #[.int .i64 f, .int .i64 c] 152)).cell? ⟨wr.heap.size, 0, none⟩ = some (.int .i64 f) := by simp
      have d1 : (wr.alloc (.cells #[.int .i64 f, .int .i64 c] 152)).cell? ⟨wr.heap.size, 1, none⟩ = some (.int .i64 c) := by simp
      have k0 := cell_regrown d0
      have k1 := cell_regrown d1
      clear d0 d1
      cases hpb : paceB (f, c)
      · clear hcl
        go_wp2_with fail
        refine wp_region_quiet_below (by kernel_rfl) (by kernel_rfl) ?_
        repeat (go_big_quiet_step (first | exact Calls.regrown_of (isPace_any _ _ _) | exact Calls.regrown_of (isAbove_any _ _ _ _ _)))
        refine wpQuiet_nil ?_
        intro _ hw'
        obtain ⟨⟨dq, osq⟩, hw''⟩ := hw'
        subst hw''
        go_wp2_with fail
        go_ret
        exact ⟨ret_bool (pacesB_f hlt (stepB_p (unhide Hp) hpb)).symm, (unhide Hb).trans (((Below.refl _ _).alloc (unhide Hb).size _).trans ((below_regrown _ _ _).mono (by simp; have := (unhide Hb).size; omega)))⟩
      · by_cases hz : 0 < k
        · have hd : decide (0 < k) = true := decide_eq_true hz
          obtain ⟨e0, e1⟩ := hcl (k - 1) (by omega)
          rw [← hb.cell (p := ⟨b, off + (k - 1) * 2, none⟩) hbw] at e0
          rw [← hb.cell (p := ⟨b, off + (k - 1) * 2 + 1, none⟩) hbw] at e1
          generalize hq : paceAt ps (k - 1) = q at e0 e1
          have Hq := hide hq
          clear hq
          obtain ⟨f', c'⟩ := q
          simp only at e0 e1
          have m0 := cell_regrown (w := wr.alloc (.cells #[.int .i64 f, .int .i64 c] 152)) (a := ⟨b, off + (k - 1) * 2, none⟩) (v := .int .i64 f') (by rw [World.cell?_alloc_old _ _ _ hne]; exact e0)
          have m1 := cell_regrown (w := wr.alloc (.cells #[.int .i64 f, .int .i64 c] 152)) (a := ⟨b, off + (k - 1) * 2 + 1, none⟩) (v := .int .i64 c') (by rw [World.cell?_alloc_old _ _ _ hne]; exact e1)
          clear hcl e0 e1
          cases hab : aboveB (f, c) (f', c')
          all_goals
            go_wp2_with fail
            refine wp_region_quiet_below (by kernel_rfl) (by kernel_rfl) ?_
            repeat (go_big_quiet_step (first | exact Calls.regrown_of (isPace_any _ _ _) | exact Calls.regrown_of (isAbove_any _ _ _ _ _)))
            refine wpQuiet_nil ?_
            intro _ hw'
            obtain ⟨⟨dq, osq⟩, hw''⟩ := hw'
            subst hw''
            go_wp2_with fail
          · go_ret
            exact ⟨ret_bool (pacesB_f hlt (by obtain ⟨m, rfl⟩ : ∃ m, k = m + 1 := ⟨k - 1, by omega⟩; rw [stepB_s (unhide Hp) (unhide Hq) hpb]; exact hab)).symm, (unhide Hb).trans (((Below.refl _ _).alloc (unhide Hb).size _).trans ((below_regrown _ _ _).mono (by simp; have := (unhide Hb).size; omega)))⟩
          · have hs : stepB ps k = true := by obtain ⟨m, rfl⟩ : ∃ m, k = m + 1 := ⟨k - 1, by omega⟩; rw [stepB_s (unhide Hp) (unhide Hq) hpb]; exact hab
            go_roundw
            case rel => exact ⟨k + 1, by omega, by go_num, next_all (unhide Hst) hs, (unhide Hb).trans (((Below.refl _ _).alloc (unhide Hb).size _).trans ((below_regrown _ _ _).mono (by simp; have := (unhide Hb).size; omega)))⟩
            case measure => simp [intOf]; omega
        · obtain rfl : k = 0 := by omega
          simp only [Nat.zero_mul, Nat.add_zero] at c0 c1
          clear hcl hz
          go_wp2_with fail
          refine wp_region_quiet_below (by kernel_rfl) (by kernel_rfl) ?_
          repeat (go_big_quiet_step (first | exact Calls.regrown_of (isPace_any _ _ _) | exact Calls.regrown_of (isAbove_any _ _ _ _ _)))
          refine wpQuiet_nil ?_
          intro _ hw'
          obtain ⟨⟨dq, osq⟩, hw''⟩ := hw'
          subst hw''
          go_wp2_with fail
          go_roundw
          case rel => exact ⟨1, by omega, by go_num, next_all (unhide Hst) (stepB_0 (unhide Hp) hpb), (unhide Hb).trans (((Below.refl _ _).alloc (unhide Hb).size _).trans ((below_regrown _ _ _).mono (by simp; have := (unhide Hb).size; omega)))⟩
          case measure => simp [intOf]; omega
    · obtain rfl : k = ps.length := by omega
      go_wp2_with fail
      go_ret
      exact ⟨ret_bool (pacesB_t (unhide Hst)).symm, hb⟩

end Go.Proofs.YtmhagllddhjgmabGreat

/- Contracts of RoomOk, HallOk and BenchesIn, the program's and the model's, at whatever room or hall can be read. No other condition. -/
namespace Go.Proofs.YtmhagllddhjgmabGreat
open Go.ChangeShapes Go.WideShapes Go.ChangeAt Go.RowKit Go.Sort
set_option linter.unusedVariables false

theorem roomB_1 {b : Int} {ps : List PaceV} (h : inB b 1 4 = false) : roomB (b, ps) = false := by unfold roomB; simp [h]
theorem roomB_2 {b : Int} {ps : List PaceV} (h : inB ps.length 1 4 = false) : roomB (b, ps) = false := by unfold roomB; simp [h]
theorem roomB_3 {b : Int} {ps : List PaceV} (h : inB b 1 4 = true) (h2 : inB ps.length 1 4 = true) : roomB (b, ps) = pacesB ps := by unfold roomB; simp [h, h2]

set_option maxHeartbeats 1000000 in
theorem implRoomOk_any {w : World} {v : Value} {ps : List PaceV} (b : Int) (h : IsPaces w v ps) :
    Calls Tryz.prog 139 #[.agg #[.int .i64 b, v]] w fun e w' => e = .returned (.bool (roomB (b, ps))) ∧ Below w.heap.size w w' := by
  have Hv := hide h
  obtain ⟨a, cap, rfl, hc, hm, hr⟩ := h
  clear hr
  have hl : (ps.length : Int) ≤ 9223372036854775807 := by omega
  cases h1 : inB b 1 4
  · go_enter Tryz.func139, Tryz.ntmps139
    go_wp2_with fail
    refine (liesFrom_any _ _ _ _).mono ?_
    rintro e w' ⟨rfl, rfl⟩
    go_wp2_with fail
    go_ret
    exact ⟨ret_bool (roomB_1 h1).symm, (Below.refl _ _).alloc (Nat.le_refl _) _⟩
  cases h2 : inB ps.length 1 4
  · go_enter Tryz.func139, Tryz.ntmps139
    go_wp2_with fail
    refine (liesFrom_any _ _ _ _).mono ?_
    rintro e w' ⟨rfl, rfl⟩
    go_wp2_with fail
    refine (liesFrom_any _ _ _ _).mono ?_
    rintro e w' ⟨rfl, rfl⟩
    go_wp2_with fail
    go_ret
    exact ⟨ret_bool (roomB_2 h2).symm, (Below.refl _ _).alloc (Nat.le_refl _) _⟩
  · have H3 := hide (roomB_3 h1 h2)
    go_enter Tryz.func139, Tryz.ntmps139
    go_wp2_with fail
    refine (liesFrom_any _ _ _ _).mono ?_
    rintro e w' ⟨rfl, rfl⟩
    go_wp2_with fail
    refine (liesFrom_any _ _ _ _).mono ?_
    rintro e w' ⟨rfl, rfl⟩
    go_wp2_with fail
    refine (pacesOk_any ((unhide Hv).below ((Below.refl _ _).alloc (Nat.le_refl _) _))).mono ?_
    rintro e w1 ⟨rfl, hb⟩
    go_wp2_with fail
    go_ret
    exact ⟨ret_bool (unhide H3).symm, ((Below.refl _ _).alloc (Nat.le_refl _) _).trans (hb.mono (by simp))⟩

theorem below_drewN {B : Nat} {w w' : World} (h : Below B w w') (n : Nat) : Below B w (w'.drewN n) := ⟨h.os, h.tape, h.output, h.size, h.block⟩
theorem stepB_f1 {ps : List PaceV} {k : Nat} {f c : Int} (hp : paceAt ps k = (f, c)) (h : inB f 1 1024 = false) : stepB ps k = false := by unfold stepB paceB; rw [hp]; simp [h]
theorem stepB_f2 {ps : List PaceV} {k : Nat} {f c : Int} (hp : paceAt ps k = (f, c)) (h : inB c 1 1024 = false) : stepB ps k = false := by unfold stepB paceB; rw [hp]; simp [h]
theorem stepB_b {ps : List PaceV} {k : Nat} {f c f' c' : Int} (hp : paceAt ps k = (f, c)) (hz : 0 < k) (hq : paceAt ps (k - 1) = (f', c')) (h1 : inB f 1 1024 = true) (h2 : inB c 1 1024 = true) : stepB ps k = (decide (f' < f) && decide (c' < c)) := by
  unfold stepB paceB aboveB; rw [hp, hq]; simp [h1, h2]; omega
theorem stepB_t0 {ps : List PaceV} {f c : Int} (hp : paceAt ps 0 = (f, c)) (h1 : inB f 1 1024 = true) (h2 : inB c 1 1024 = true) : stepB ps 0 = true := by unfold stepB paceB; rw [hp]; simp [h1, h2]

set_option maxHeartbeats 4000000 in
theorem specRoomOk_any {w : World} {v : Value} {ps : List PaceV} (rb : Int) (h : IsPaces w v ps) :
    Calls Tryz.prog 84 #[.agg #[.int .i64 rb, v]] w fun e w' => e = .returned (.bool (roomB (rb, ps))) ∧ Below w.heap.size w w' := by
  obtain ⟨a, cap, rfl, hc, hm, hr⟩ := h
  have Hr := hide hr
  clear hr
  have hl : (ps.length : Int) ≤ 9223372036854775807 := by omega
  cases h1 : inB rb 1 4
  · go_enter Tryz.func84, Tryz.ntmps84
    go_wp2_with fail
    refine (l1In_any _ _ _ _).mono ?_
    rintro e w' ⟨rfl, rfl⟩
    go_wp2_with fail
    go_ret
    exact ⟨ret_bool (roomB_1 h1).symm, (Below.refl _ _).alloc (Nat.le_refl _) _⟩
  cases h2 : inB ps.length 1 4
  · go_enter Tryz.func84, Tryz.ntmps84
    go_wp2_with fail
    refine (l1In_any _ _ _ _).mono ?_
    rintro e w' ⟨rfl, rfl⟩
    go_wp2_with fail
    refine (l1In_any _ _ _ _).mono ?_
    rintro e w' ⟨rfl, rfl⟩
    go_wp2_with fail
    go_ret
    exact ⟨ret_bool (roomB_2 h2).symm, (Below.refl _ _).alloc (Nat.le_refl _) _⟩
  have H3 := hide (roomB_3 h1 h2)
  go_enter Tryz.func84, Tryz.ntmps84
  go_wp2_with fail
  refine (l1In_any _ _ _ _).mono ?_
  rintro e w' ⟨rfl, rfl⟩
  go_wp2_with fail
  refine (l1In_any _ _ _ _).mono ?_
  rintro e w' ⟨rfl, rfl⟩
  go_wp2_with fail
  clear h1 h2
  go_loopw [3] (fun i wr => ∃ k : Nat, k ≤ ps.length ∧ i = .int .i64 k ∧ (∀ j, j < k → stepB ps j = true) ∧ Below (w.heap.size + 1) (w.alloc (.cells #[.int .i64 rb, .slice a ps.length cap] 105)) wr) (fun i _ => ps.length - (intOf i).toNat)
  case atStart => exact ⟨0, Nat.zero_le _, rfl, fun j hj => by omega, Below.refl _ _⟩
  case round =>
    obtain ⟨k, hk, rfl, hst, hb⟩ := hrel
    have Hst := hide hst
    have Hb := hide hb
    clear hst
    have hsz : w.heap.size + 1 ≤ wr.heap.size := by have := hb.size; simpa using this
    have hbox : wr.cell? ⟨w.heap.size, 1, none⟩ = some (.slice a ps.length cap) := by rw [hb.cell (p := ⟨w.heap.size, 1, none⟩) (by simp)]; simp
    have hne0 : w.heap.size ≠ wr.heap.size := by omega
    by_cases hlt : k < ps.length
    · rcases unhide Hr with h0 | ⟨b, off, rfl, hbw, hcl⟩
      · rw [h0] at hlt; simp at hlt
      have hbB : Below w.heap.size w wr := ((Below.refl _ _).alloc (Nat.le_refl _) _).trans (hb.mono (by omega))
      have hne : b ≠ wr.heap.size := by omega
      have hne' : b ≠ w.heap.size := by omega
      obtain ⟨c0, c1⟩ := hcl k hlt
      rw [← hbB.cell (p := ⟨b, off + k * 2, none⟩) hbw] at c0
      rw [← hbB.cell (p := ⟨b, off + k * 2 + 1, none⟩) hbw] at c1
      generalize hp : paceAt ps k = p at c0 c1
      have Hp := hide hp
      obtain ⟨f, c⟩ := p
      simp only at c0 c1
      clear hp hb
      cases h1 : inB f 1 1024
      · clear hcl
        go_wp2_with fail
        go_quiet (exact Calls.quiet_of_same (l1In_any _ _ _ _))
        go_wp2_with fail
        go_ret
        exact ⟨ret_bool (by rw [unhide H3]; exact (pacesB_f hlt (stepB_f1 (unhide Hp) h1)).symm), ((Below.refl _ _).alloc (Nat.le_refl _) _).trans ((below_drewN ((unhide Hb).alloc hsz _) _).mono (by omega))⟩
      cases h2 : inB c 1 1024
      · clear hcl
        go_wp2_with fail
        go_quiet (exact Calls.quiet_of_same (l1In_any _ _ _ _))
        go_wp2_with fail
        go_ret
        exact ⟨ret_bool (by rw [unhide H3]; exact (pacesB_f hlt (stepB_f2 (unhide Hp) h2)).symm), ((Below.refl _ _).alloc (Nat.le_refl _) _).trans ((below_drewN ((unhide Hb).alloc hsz _) _).mono (by omega))⟩
      by_cases hz : 0 < k
      · have hd : decide (0 < k) = true := decide_eq_true hz
        obtain ⟨e0, e1⟩ := hcl (k - 1) (by omega)
        rw [← hbB.cell (p := ⟨b, off + (k - 1) * 2, none⟩) hbw] at e0
        rw [← hbB.cell (p := ⟨b, off + (k - 1) * 2 + 1, none⟩) hbw] at e1
        generalize hq : paceAt ps (k - 1) = q at e0 e1
        have Hq := hide hq
        obtain ⟨f', c'⟩ := q
        simp only at e0 e1
        have q0 : (wr.alloc (.cells #[.int .i64 f, .int .i64 c] 152)).cell? ⟨w.heap.size, 1, none⟩ = some (.slice (some ⟨b, off, none⟩) ps.length cap) := by rw [World.cell?_alloc_old _ _ _ hne0]; exact hbox
        have q1 : (wr.alloc (.cells #[.int .i64 f, .int .i64 c] 152)).cell? ⟨b, off + (k - 1) * 2, none⟩ = some (.int .i64 f') := by rw [World.cell?_alloc_old _ _ _ hne]; exact e0
        have q2 : (wr.alloc (.cells #[.int .i64 f, .int .i64 c] 152)).cell? ⟨b, off + (k - 1) * 2 + 1, none⟩ = some (.int .i64 c') := by rw [World.cell?_alloc_old _ _ _ hne]; exact e1
        clear hcl hq e0 e1
        have Hs := hide (stepB_b (unhide Hp) hz (unhide Hq) h1 h2)
        by_cases g1 : f ≤ f'
        · have g1' : decide (f ≤ f') = true := decide_eq_true g1
          go_wp2_with fail
          go_quiet (exact Calls.quiet_of_same (l1In_any _ _ _ _))
          go_wp2_with fail
          go_ret
          exact ⟨ret_bool (by rw [unhide H3]; exact (pacesB_f hlt (by rw [unhide Hs]; simp; omega)).symm), ((Below.refl _ _).alloc (Nat.le_refl _) _).trans ((below_drewN ((unhide Hb).alloc hsz _) _).mono (by omega))⟩
        have g1' : decide (f ≤ f') = false := decide_eq_false g1
        by_cases g2 : c ≤ c'
        · have g2' : decide (c ≤ c') = true := decide_eq_true g2
          go_wp2_with fail
          go_quiet (exact Calls.quiet_of_same (l1In_any _ _ _ _))
          go_wp2_with fail
          go_ret
          exact ⟨ret_bool (by rw [unhide H3]; exact (pacesB_f hlt (by rw [unhide Hs]; simp; omega)).symm), ((Below.refl _ _).alloc (Nat.le_refl _) _).trans ((below_drewN ((unhide Hb).alloc hsz _) _).mono (by omega))⟩
        · have g2' : decide (c ≤ c') = false := decide_eq_false g2
          go_wp2_with fail
          go_quiet (exact Calls.quiet_of_same (l1In_any _ _ _ _))
          go_wp2_with fail
          go_roundw
          case rel => exact ⟨k + 1, by omega, by go_num, next_all (unhide Hst) (by rw [unhide Hs]; simp; omega), below_drewN ((unhide Hb).alloc hsz _) _⟩
          case measure => simp [intOf]; omega
      · obtain rfl : k = 0 := by omega
        simp only [Nat.zero_mul, Nat.add_zero] at c0 c1
        clear hcl hz
        go_wp2_with fail
        go_quiet (exact Calls.quiet_of_same (l1In_any _ _ _ _))
        go_wp2_with fail
        go_roundw
        case rel => exact ⟨1, by omega, by go_num, next_all (unhide Hst) (stepB_t0 (unhide Hp) h1 h2), below_drewN ((unhide Hb).alloc hsz _) _⟩
        case measure => simp [intOf]; omega
    · obtain rfl : k = ps.length := by omega
      clear hb
      go_wp2_with fail
      go_ret
      exact ⟨ret_bool (by rw [unhide H3]; exact (pacesB_t (unhide Hst)).symm), ((Below.refl _ _).alloc (Nat.le_refl _) _).trans ((unhide Hb).mono (by omega))⟩

end Go.Proofs.YtmhagllddhjgmabGreat

