/- Contracts of RoomOk, HallOk and BenchesIn, the program's and the model's, at whatever room or hall can be read. No other condition. -/
import Derived.Test.YtbekkdneldcehaaHallRead
namespace Go.Proofs.Ytbekkdneldcehaa
open Go.ChangeShapes Go.WideShapes Go.ChangeAt Go.RowKit Go.Sort
set_option linter.unusedVariables false

theorem roomB_1 {b : Int} {ps : List PaceV} (h : inB b 1 4 = false) : roomB (b, ps) = false := by unfold roomB; simp [h]
theorem roomB_2 {b : Int} {ps : List PaceV} (h : inB ps.length 1 4 = false) : roomB (b, ps) = false := by unfold roomB; simp [h]
theorem roomB_3 {b : Int} {ps : List PaceV} (h : inB b 1 4 = true) (h2 : inB ps.length 1 4 = true) : roomB (b, ps) = pacesB ps := by unfold roomB; simp [h, h2]

set_option maxHeartbeats 1000000 in
theorem implRoomOk_any {w : World} {v : Value} {ps : List PaceV} (b : Int) (h : IsPaces w v ps) :
    Calls Try.prog 36 #[.agg #[.int .i64 b, v]] w fun e w' => e = .returned (.bool (roomB (b, ps))) ∧ Below w.heap.size w w' := by
  have Hv := hide h
  obtain ⟨a, cap, rfl, hc, hm, hr⟩ := h
  clear hr
  have hl : (ps.length : Int) ≤ 9223372036854775807 := by omega
  cases h1 : inB b 1 4
  · go_enter Try.func36, Try.ntmps36
    go_wp2_with fail
    refine (liesFrom_any _ _ _ _).mono ?_
    rintro e w' ⟨rfl, rfl⟩
    go_wp2_with fail
    go_ret
    exact ⟨ret_bool (roomB_1 h1).symm, (Below.refl _ _).alloc (Nat.le_refl _) _⟩
  cases h2 : inB ps.length 1 4
  · go_enter Try.func36, Try.ntmps36
    go_wp2_with fail
    refine (liesFrom_any _ _ _ _).mono ?_
    rintro e w' ⟨rfl, rfl⟩
    go_wp2_with fail
    refine (liesFrom_any _ _ _ _).mono ?_
    rintro e w' ⟨rfl, rfl⟩
    go_wp2_with fail
    go_ret
    exact ⟨ret_bool (roomB_2 h2).symm, (Below.refl _ _).alloc (Nat.le_refl _) _⟩
  · have H3 := hide (roomB_3 h1 h2)
    go_enter Try.func36, Try.ntmps36
    go_wp2_with fail
    refine (liesFrom_any _ _ _ _).mono ?_
    rintro e w' ⟨rfl, rfl⟩
    go_wp2_with fail
    refine (liesFrom_any _ _ _ _).mono ?_
    rintro e w' ⟨rfl, rfl⟩
    go_wp2_with fail
    refine (pacesOk_any ((unhide Hv).below ((Below.refl _ _).alloc (Nat.le_refl _) _))).mono ?_
    rintro e w1 ⟨rfl, hb⟩
    go_wp2_with fail
    go_ret
    exact ⟨ret_bool (unhide H3).symm, ((Below.refl _ _).alloc (Nat.le_refl _) _).trans (hb.mono (by simp))⟩

theorem below_drewN {B : Nat} {w w' : World} (h : Below B w w') (n : Nat) : Below B w (w'.drewN n) := ⟨h.os, h.tape, h.output, h.size, h.block⟩
theorem stepB_f1 {ps : List PaceV} {k : Nat} {f c : Int} (hp : paceAt ps k = (f, c)) (h : inB f 1 1024 = false) : stepB ps k = false := by unfold stepB paceB; rw [hp]; simp [h]
theorem stepB_f2 {ps : List PaceV} {k : Nat} {f c : Int} (hp : paceAt ps k = (f, c)) (h : inB c 1 1024 = false) : stepB ps k = false := by unfold stepB paceB; rw [hp]; simp [h]
theorem stepB_b {ps : List PaceV} {k : Nat} {f c f' c' : Int} (hp : paceAt ps k = (f, c)) (hz : 0 < k) (hq : paceAt ps (k - 1) = (f', c')) (h1 : inB f 1 1024 = true) (h2 : inB c 1 1024 = true) : stepB ps k = (decide (f' < f) && decide (c' < c)) := by
  unfold stepB paceB aboveB; rw [hp, hq]; simp [h1, h2]; omega
theorem stepB_t0 {ps : List PaceV} {f c : Int} (hp : paceAt ps 0 = (f, c)) (h1 : inB f 1 1024 = true) (h2 : inB c 1 1024 = true) : stepB ps 0 = true := by unfold stepB paceB; rw [hp]; simp [h1, h2]

set_option maxHeartbeats 4000000 in
theorem specRoomOk_any {w : World} {v : Value} {ps : List PaceV} (rb : Int) (h : IsPaces w v ps) :
    Calls Try.prog 40 #[.agg #[.int .i64 rb, v]] w fun e w' => e = .returned (.bool (roomB (rb, ps))) ∧ Below w.heap.size w w' := by
  obtain ⟨a, cap, rfl, hc, hm, hr⟩ := h
  have Hr := hide hr
  clear hr
  have hl : (ps.length : Int) ≤ 9223372036854775807 := by omega
  cases h1 : inB rb 1 4
  · go_enter Try.func40, Try.ntmps40
    go_wp2_with fail
    refine (l1In_any _ _ _ _).mono ?_
    rintro e w' ⟨rfl, rfl⟩
    go_wp2_with fail
    go_ret
    exact ⟨ret_bool (roomB_1 h1).symm, (Below.refl _ _).alloc (Nat.le_refl _) _⟩
  cases h2 : inB ps.length 1 4
  · go_enter Try.func40, Try.ntmps40
    go_wp2_with fail
    refine (l1In_any _ _ _ _).mono ?_
    rintro e w' ⟨rfl, rfl⟩
    go_wp2_with fail
    refine (l1In_any _ _ _ _).mono ?_
    rintro e w' ⟨rfl, rfl⟩
    go_wp2_with fail
    go_ret
    exact ⟨ret_bool (roomB_2 h2).symm, (Below.refl _ _).alloc (Nat.le_refl _) _⟩
  have H3 := hide (roomB_3 h1 h2)
  go_enter Try.func40, Try.ntmps40
  go_wp2_with fail
  refine (l1In_any _ _ _ _).mono ?_
  rintro e w' ⟨rfl, rfl⟩
  go_wp2_with fail
  refine (l1In_any _ _ _ _).mono ?_
  rintro e w' ⟨rfl, rfl⟩
  go_wp2_with fail
  clear h1 h2
  go_loopw [3] (fun i wr => ∃ k : Nat, k ≤ ps.length ∧ i = .int .i64 k ∧ (∀ j, j < k → stepB ps j = true) ∧ Below (w.heap.size + 1) (w.alloc (.cells #[.int .i64 rb, .slice a ps.length cap] 26)) wr) (fun i _ => ps.length - (intOf i).toNat)
  case atStart => exact ⟨0, Nat.zero_le _, rfl, fun j hj => by omega, Below.refl _ _⟩
  case round =>
    obtain ⟨k, hk, rfl, hst, hb⟩ := hrel
    have Hst := hide hst
    have Hb := hide hb
    clear hst
    have hsz : w.heap.size + 1 ≤ wr.heap.size := by have := hb.size; simpa using this
    have hbox : wr.cell? ⟨w.heap.size, 1, none⟩ = some (.slice a ps.length cap) := by rw [hb.cell (p := ⟨w.heap.size, 1, none⟩) (by simp)]; simp
    have hne0 : w.heap.size ≠ wr.heap.size := by omega
    by_cases hlt : k < ps.length
    · rcases unhide Hr with h0 | ⟨b, off, rfl, hbw, hcl⟩
      · rw [h0] at hlt; simp at hlt
      have hbB : Below w.heap.size w wr := ((Below.refl _ _).alloc (Nat.le_refl _) _).trans (hb.mono (by omega))
      have hne : b ≠ wr.heap.size := by omega
      have hne' : b ≠ w.heap.size := by omega
      obtain ⟨c0, c1⟩ := hcl k hlt
      rw [← hbB.cell (p := ⟨b, off + k * 2, none⟩) hbw] at c0
      rw [← hbB.cell (p := ⟨b, off + k * 2 + 1, none⟩) hbw] at c1
      generalize hp : paceAt ps k = p at c0 c1
      have Hp := hide hp
      obtain ⟨f, c⟩ := p
      simp only at c0 c1
      clear hp hb
      cases h1 : inB f 1 1024
      · clear hcl
        go_wp2_with fail
        go_quiet (exact Calls.quiet_of_same (l1In_any _ _ _ _))
        go_wp2_with fail
        go_ret
        exact ⟨ret_bool (by rw [unhide H3]; exact (pacesB_f hlt (stepB_f1 (unhide Hp) h1)).symm), ((Below.refl _ _).alloc (Nat.le_refl _) _).trans ((below_drewN ((unhide Hb).alloc hsz _) _).mono (by omega))⟩
      cases h2 : inB c 1 1024
      · clear hcl
        go_wp2_with fail
        go_quiet (exact Calls.quiet_of_same (l1In_any _ _ _ _))
        go_wp2_with fail
        go_ret
        exact ⟨ret_bool (by rw [unhide H3]; exact (pacesB_f hlt (stepB_f2 (unhide Hp) h2)).symm), ((Below.refl _ _).alloc (Nat.le_refl _) _).trans ((below_drewN ((unhide Hb).alloc hsz _) _).mono (by omega))⟩
      by_cases hz : 0 < k
      · have hd : decide (0 < k) = true := decide_eq_true hz
        obtain ⟨e0, e1⟩ := hcl (k - 1) (by omega)
        rw [← hbB.cell (p := ⟨b, off + (k - 1) * 2, none⟩) hbw] at e0
        rw [← hbB.cell (p := ⟨b, off + (k - 1) * 2 + 1, none⟩) hbw] at e1
        generalize hq : paceAt ps (k - 1) = q at e0 e1
        have Hq := hide hq
        obtain ⟨f', c'⟩ := q
        simp only at e0 e1
        have q0 : (wr.alloc (.cells #[.int .i64 f, .int .i64 c] 34)).cell? ⟨w.heap.size, 1, none⟩ = some (.slice (some ⟨b, off, none⟩) ps.length cap) := by rw [World.cell?_alloc_old _ _ _ hne0]; exact hbox
        have q1 : (wr.alloc (.cells #[.int .i64 f, .int .i64 c] 34)).cell? ⟨b, off + (k - 1) * 2, none⟩ = some (.int .i64 f') := by rw [World.cell?_alloc_old _ _ _ hne]; exact e0
        have q2 : (wr.alloc (.cells #[.int .i64 f, .int .i64 c] 34)).cell? ⟨b, off + (k - 1) * 2 + 1, none⟩ = some (.int .i64 c') := by rw [World.cell?_alloc_old _ _ _ hne]; exact e1
        clear hcl hq e0 e1
        have Hs := hide (stepB_b (unhide Hp) hz (unhide Hq) h1 h2)
        by_cases g1 : f ≤ f'
        · have g1' : decide (f ≤ f') = true := decide_eq_true g1
          go_wp2_with fail
          go_quiet (exact Calls.quiet_of_same (l1In_any _ _ _ _))
          go_wp2_with fail
          go_ret
          exact ⟨ret_bool (by rw [unhide H3]; exact (pacesB_f hlt (by rw [unhide Hs]; simp; omega)).symm), ((Below.refl _ _).alloc (Nat.le_refl _) _).trans ((below_drewN ((unhide Hb).alloc hsz _) _).mono (by omega))⟩
        have g1' : decide (f ≤ f') = false := decide_eq_false g1
        by_cases g2 : c ≤ c'
        · have g2' : decide (c ≤ c') = true := decide_eq_true g2
          go_wp2_with fail
          go_quiet (exact Calls.quiet_of_same (l1In_any _ _ _ _))
          go_wp2_with fail
          go_ret
          exact ⟨ret_bool (by rw [unhide H3]; exact (pacesB_f hlt (by rw [unhide Hs]; simp; omega)).symm), ((Below.refl _ _).alloc (Nat.le_refl _) _).trans ((below_drewN ((unhide Hb).alloc hsz _) _).mono (by omega))⟩
        · have g2' : decide (c ≤ c') = false := decide_eq_false g2
          go_wp2_with fail
          go_quiet (exact Calls.quiet_of_same (l1In_any _ _ _ _))
          go_wp2_with fail
          go_roundw
          case rel => exact ⟨k + 1, by omega, by go_num, next_all (unhide Hst) (by rw [unhide Hs]; simp; omega), below_drewN ((unhide Hb).alloc hsz _) _⟩
          case measure => simp [intOf]; omega
      · obtain rfl : k = 0 := by omega
        simp only [Nat.zero_mul, Nat.add_zero] at c0 c1
        clear hcl hz
        go_wp2_with fail
        go_quiet (exact Calls.quiet_of_same (l1In_any _ _ _ _))
        go_wp2_with fail
        go_roundw
        case rel => exact ⟨1, by omega, by go_num, next_all (unhide Hst) (stepB_t0 (unhide Hp) h1 h2), below_drewN ((unhide Hb).alloc hsz _) _⟩
        case measure => simp [intOf]; omega
    · obtain rfl : k = ps.length := by omega
      clear hb
      go_wp2_with fail
      go_ret
      exact ⟨ret_bool (by rw [unhide H3]; exact (pacesB_t (unhide Hst)).symm), ((Below.refl _ _).alloc (Nat.le_refl _) _).trans ((unhide Hb).mono (by omega))⟩

end Go.Proofs.Ytbekkdneldcehaa
