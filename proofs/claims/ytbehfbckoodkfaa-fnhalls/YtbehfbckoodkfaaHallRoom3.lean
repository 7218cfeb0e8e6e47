/- Contracts of the model's ForceOf, at whatever hall can be read and whatever bench. No other condition. -/
import Derived.Test.YtbehfbckoodkfaaHallRoom2
namespace Go.Proofs.Ytbehfbckoodkfaa
open Go.ChangeShapes Go.WideShapes Go.ChangeAt Go.RowKit Go.Sort
set_option linter.unusedVariables false

set_option maxHeartbeats 1000000 in
theorem l4Force_any {w : World} {v : Value} {rs : List RoomV} (n : Int) (h : IsRooms w v rs) (h1 : isBench rs n = true) :
    Calls Try.prog 56 #[.agg #[v], .int .i64 n] w fun e w' => e = .returned (.int .i64 (lastForce (roomAt rs (roomN rs n)).2)) ∧ Below w.heap.size w w' := by
  have Hv := hide h
  obtain ⟨a, cap, rfl, hc, hm⟩ : ∃ a cap, v = .slice a rs.length cap ∧ rs.length ≤ cap ∧ cap ≤ 9223372036854775807 := by obtain ⟨a, cap, rfl, hc, hm, _⟩ := h; exact ⟨a, cap, rfl, hc, hm⟩
  clear h
  have hlt := room_found h1
  have Hh := hide (isBench_of h1).1
  have H1 := hide h1
  have hl3 : rs.length ≤ 3 := (hallB_of (isBench_of h1).1).2.1
  clear h1
  have hw1 := (unhide Hv).alloc (.cells #[.slice a rs.length cap] 45)
  have Hw1 := hide hw1
  obtain ⟨b, off, a', cap', rfl, hbw, d1, p1, p4, sp, hbw', d2⟩ := room_at hw1 hlt (unhide Hh)
  obtain ⟨b', off', sp'⟩ := a'
  simp only at sp hbw' d2
  subst sp
  clear hw1
  have k0 := cell_regrown (w := w.alloc (.cells #[.slice (some ⟨b, off, none⟩) rs.length cap] 45)) (a := ⟨w.heap.size, 0, none⟩) (v := .slice (some ⟨b, off, none⟩) rs.length cap) (by simp)
  have k1 := cell_regrown d1
  have k2 := cell_regrown d2
  clear d1 d2
  go_enter Try.func56, Try.ntmps56
  go_wp2_with fail
  refine wp_region_quiet_below (by kernel_rfl) (by kernel_rfl) ?_
  repeat (go_big_quiet_step (exact Calls.regrown_of (l4Room_any n ((unhide Hw1).below (below_regrown _ _ _)) (unhide H1))))
  refine wpQuiet_nil ?_
  intro _ hw'
  obtain ⟨⟨dq, osq⟩, hw''⟩ := hw'
  subst hw''
  generalize hr1 : roomN rs n = r at *
  generalize hr2 : lastForce (roomAt rs r).2 = fo at *
  generalize (roomAt rs r).2.length = m at *
  have Hr1 := hide hr1
  have Hr2 := hide hr2
  clear hr1 hr2
  go_wp2_with fail
  go_ret
  exact ⟨ret_int (by rw [unhide Hr1, unhide Hr2]), ((Below.refl _ _).alloc (Nat.le_refl _) _).trans ((below_regrown _ _ _).mono (by simp))⟩

set_option maxHeartbeats 1000000 in
theorem specForceOf_any {w : World} {v : Value} {rs : List RoomV} (n : Int) (h : IsRooms w v rs) :
    Calls Try.prog 29 #[.agg #[v], .int .i64 n] w fun e w' => e = .returned (.int .i64 (forceV rs n)) ∧ Below w.heap.size w w' := by
  have Hv := hide h
  obtain ⟨a, cap, rfl, hc, hm⟩ : ∃ a cap, v = .slice a rs.length cap ∧ rs.length ≤ cap ∧ cap ≤ 9223372036854775807 := by obtain ⟨a, cap, rfl, hc, hm, _⟩ := h; exact ⟨a, cap, rfl, hc, hm⟩
  clear h
  cases h1 : isBench rs n
  · have H2 := hide (forceV_f h1)
    go_enter Try.func29, Try.ntmps29
    go_wp2_with fail
    refine (l4Is_any n ((unhide Hv).alloc _)).mono ?_
    rintro e w1 ⟨rfl, hb⟩
    have Hb := hide hb
    clear hb
    go_wp2_with fail
    go_ret
    exact ⟨ret_int (unhide H2).symm, ((Below.refl _ _).alloc (Nat.le_refl _) _).trans ((unhide Hb).mono (by simp))⟩
  · have H2 := hide (forceV_t h1)
    have H1 := hide h1
    go_enter Try.func29, Try.ntmps29
    go_wp2_with fail
    refine (l4Is_any n ((unhide Hv).alloc _)).mono ?_
    rintro e w1 ⟨rfl, hb⟩
    have hz : w.heap.size + 1 ≤ w1.heap.size := by have := hb.size; simpa using this
    have hbox : w1.cell? ⟨w.heap.size, 0, none⟩ = some (.slice a rs.length cap) := by rw [hb.cell (p := ⟨w.heap.size, 0, none⟩) (by simp)]; simp
    have hw1 := hide (((unhide Hv).alloc _).below hb)
    have Hb := hide hb
    clear hb
    go_wp2_with fail
    refine (l4Force_any n (unhide hw1) (unhide H1)).mono ?_
    rintro e w2 ⟨rfl, hb2⟩
    have Hb2 := hide hb2
    clear hb2
    go_wp2_with fail
    go_ret
    exact ⟨ret_int (unhide H2).symm, ((Below.refl _ _).alloc (Nat.le_refl _) _).trans (((unhide Hb).trans ((unhide Hb2).mono (unhide Hb).size)).mono (by simp))⟩

end Go.Proofs.Ytbehfbckoodkfaa
