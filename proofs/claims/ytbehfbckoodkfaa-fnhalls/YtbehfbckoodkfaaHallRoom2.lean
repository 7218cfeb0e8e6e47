/- Contracts of the model's RoomOf and ForceOf and of the program's ForceOf, at whatever hall can be read and whatever bench. No other condition. -/
import Derived.Test.YtbehfbckoodkfaaHallRoom
namespace Go.Proofs.Ytbehfbckoodkfaa
open Go.ChangeShapes Go.WideShapes Go.ChangeAt Go.RowKit Go.Sort
set_option linter.unusedVariables false

set_option maxHeartbeats 1000000 in
theorem l4Room_any {w : World} {v : Value} {rs : List RoomV} (n : Int) (h : IsRooms w v rs) (hbn : isBench rs n = true) :
    Calls Try.prog 55 #[.agg #[v], .int .i64 n] w fun e w' => e = .returned (.int .i64 (roomN rs n)) ∧ Below w.heap.size w w' := by
  obtain ⟨a, cap, rfl, hc, hm, hr⟩ := h
  have Hr := hide hr
  have H := hide hbn
  have hh := (isBench_of hbn).1
  have hn0 := (isBench_of hbn).2.1
  have hn1 : n < 12 := by have h1 := (isBench_of hbn).2.2; have := (hallB_of hh).2.2.2; omega
  have Hh := hide hh
  have hl3 : rs.length ≤ 3 := (hallB_of hh).2.1
  clear hr hbn hh
  go_enter Try.func55, Try.ntmps55
  go_wp2_with fail
  go_loop [1, 5] (fun q i => ∃ r : Nat, r ≤ rs.length ∧ i = .int .i64 r ∧ q = .int .i64 (n - benchSum (rs.take r)) ∧ (∀ j, j < r → benchSum (rs.take (j + 1)) ≤ n)) (fun _ i => rs.length - (intOf i).toNat)
  case atStart => exact ⟨0, Nat.zero_le _, rfl, by simp [benchSum], fun j hj => by omega⟩
  case round =>
    obtain ⟨r, hr, rfl, rfl, hl⟩ := hrel
    have hlt := room_more (unhide H) hr hl
    rcases unhide Hr with e0 | ⟨b, off, rfl, hbw, hcl⟩
    · rw [e0] at hlt; simp at hlt
    obtain ⟨c0, pv, c1, hip⟩ := hcl r hlt
    have hne : b ≠ w.heap.size := Nat.ne_of_lt hbw
    have Hl := hide hl
    have hb0 := benches_hall (unhide Hh) r hr
    have hb1 := benches_hall (unhide Hh) (r + 1) hlt
    have Hs := hide (benchSum_take rs hlt)
    have HN : Hid (n < benchSum (rs.take (r + 1)) → roomN rs n = r) := hide (fun hx => roomN_eq hlt hx (unhide Hl))
    have HM : Hid (benchSum (rs.take (r + 1)) ≤ n → ∀ j, j < r + 1 → benchSum (rs.take (j + 1)) ≤ n) := hide (fun hx => next_all (unhide Hl) hx)
    rw [benchSum_take rs hlt] at hb1 HN HM
    generalize benchSum (rs.take r) = s at *
    generalize (roomAt rs r).1 = rb at *
    clear hcl hip hl
    by_cases hq : rb ≤ n - s
    · go_wp2_with fail
      go_round
      case rel => exact ⟨r + 1, by omega, by go_num, by rw [unhide Hs]; congr 1; omega, unhide HM (by omega)⟩
      case measure => simp [intOf]; omega
    · go_wp2_with fail
      go_ret
      exact ⟨ret_int (by rw [unhide HN (by omega)]), (Below.refl _ _).alloc (Nat.le_refl _) _⟩

set_option maxHeartbeats 1000000 in
theorem l4Is_any {w : World} {v : Value} {rs : List RoomV} (n : Int) (h : IsRooms w v rs) :
    Calls Try.prog 54 #[.agg #[v], .int .i64 n] w fun e w' => e = .returned (.bool (isBench rs n)) ∧ Below w.heap.size w w' := by
  have Hv := hide h
  obtain ⟨a, cap, rfl, hc, hm⟩ : ∃ a cap, v = .slice a rs.length cap ∧ rs.length ≤ cap ∧ cap ≤ 9223372036854775807 := by obtain ⟨a, cap, rfl, hc, hm, _⟩ := h; exact ⟨a, cap, rfl, hc, hm⟩
  clear h
  cases h1 : hallB rs
  · have H2 := hide (isBench_f1 (n := n) h1)
    go_enter Try.func54, Try.ntmps54
    go_wp2_with fail
    refine (specHallOk_any ((unhide Hv).alloc _)).mono ?_
    rintro e w1 ⟨rfl, hb⟩
    have Hb := hide hb
    clear hb
    go_wp2_with fail
    go_ret
    exact ⟨ret_bool (unhide H2).symm, ((Below.refl _ _).alloc (Nat.le_refl _) _).trans ((unhide Hb).mono (by simp))⟩
  · have H2 : Hid (isBench rs n = inB n 0 (benchSum rs - 1)) := hide (by unfold isBench; rw [h1]; rfl)
    have hbs := benches_hall h1 rs.length (Nat.le_refl _)
    rw [benchSum_all] at hbs
    have H1 := hide h1
    go_enter Try.func54, Try.ntmps54
    go_wp2_with fail
    refine (specHallOk_any ((unhide Hv).alloc _)).mono ?_
    rintro e w1 ⟨rfl, hb⟩
    have hz : w.heap.size + 1 ≤ w1.heap.size := by have := hb.size; simpa using this
    have hbox : w1.cell? ⟨w.heap.size, 0, none⟩ = some (.slice a rs.length cap) := by rw [hb.cell (p := ⟨w.heap.size, 0, none⟩) (by simp)]; simp
    have hw1 := hide (((unhide Hv).alloc _).below hb)
    have Hb := hide hb
    clear hb
    go_wp2_with fail
    refine (l4Count_any (unhide hw1) (adds_hall (unhide H1))).mono ?_
    rintro e w2 ⟨rfl, hb2⟩
    have Hb2 := hide hb2
    clear hb2
    generalize benchSum rs = s at *
    go_wp2_with fail
    refine (l1In_any _ _ _ _).mono ?_
    rintro e w' ⟨rfl, rfl⟩
    go_wp2_with fail
    go_ret
    exact ⟨ret_bool (unhide H2).symm, ((Below.refl _ _).alloc (Nat.le_refl _) _).trans (((unhide Hb).trans ((unhide Hb2).mono (unhide Hb).size)).mono (by simp))⟩

set_option maxHeartbeats 1000000 in
theorem specRoomOf_any {w : World} {v : Value} {rs : List RoomV} (n : Int) (h : IsRooms w v rs) :
    Calls Try.prog 28 #[.agg #[v], .int .i64 n] w fun e w' => e = .returned (.int .i64 (roomV rs n)) ∧ Below w.heap.size w w' := by
  have Hv := hide h
  obtain ⟨a, cap, rfl, hc, hm⟩ : ∃ a cap, v = .slice a rs.length cap ∧ rs.length ≤ cap ∧ cap ≤ 9223372036854775807 := by obtain ⟨a, cap, rfl, hc, hm, _⟩ := h; exact ⟨a, cap, rfl, hc, hm⟩
  clear h
  cases h1 : isBench rs n
  · have H2 := hide (roomV_f h1)
    go_enter Try.func28, Try.ntmps28
    go_wp2_with fail
    refine (l4Is_any n ((unhide Hv).alloc _)).mono ?_
    rintro e w1 ⟨rfl, hb⟩
    have Hb := hide hb
    clear hb
    go_wp2_with fail
    go_ret
    exact ⟨ret_int (unhide H2).symm, ((Below.refl _ _).alloc (Nat.le_refl _) _).trans ((unhide Hb).mono (by simp))⟩
  · have H2 := hide (roomV_t h1)
    have H1 := hide h1
    go_enter Try.func28, Try.ntmps28
    go_wp2_with fail
    refine (l4Is_any n ((unhide Hv).alloc _)).mono ?_
    rintro e w1 ⟨rfl, hb⟩
    have hz : w.heap.size + 1 ≤ w1.heap.size := by have := hb.size; simpa using this
    have hbox : w1.cell? ⟨w.heap.size, 0, none⟩ = some (.slice a rs.length cap) := by rw [hb.cell (p := ⟨w.heap.size, 0, none⟩) (by simp)]; simp
    have hw1 := hide (((unhide Hv).alloc _).below hb)
    have Hb := hide hb
    clear hb
    go_wp2_with fail
    refine (l4Room_any n (unhide hw1) (unhide H1)).mono ?_
    rintro e w2 ⟨rfl, hb2⟩
    have Hb2 := hide hb2
    clear hb2
    go_wp2_with fail
    go_ret
    exact ⟨ret_int (unhide H2).symm, ((Below.refl _ _).alloc (Nat.le_refl _) _).trans (((unhide Hb).trans ((unhide Hb2).mono (unhide Hb).size)).mono (by simp))⟩

/-- A room of a hall that is right, with its paces. -/
theorem room_at {w : World} {a : Option Addr} {cap : Nat} {rs : List RoomV} {r : Nat} (h : IsRooms w (.slice a rs.length cap) rs) (hr : r < rs.length) (hh : hallB rs = true) :
    ∃ b off a' cap', a = some ⟨b, off, none⟩ ∧ b < w.heap.size ∧ w.cell? ⟨b, off + r * 2 + 1, none⟩ = some (.slice (some a') (roomAt rs r).2.length cap') ∧ 1 ≤ (roomAt rs r).2.length ∧ (roomAt rs r).2.length ≤ 4 ∧ a'.spot = none ∧ a'.block < w.heap.size ∧ w.cell? ⟨a'.block, a'.off + ((roomAt rs r).2.length - 1) * 2, none⟩ = some (.int .i64 (lastForce (roomAt rs r).2)) := by
  obtain ⟨a0, cap0, he, hc, hm, hr'⟩ := h
  cases he
  rcases hr' with e0 | ⟨b, off, rfl, hbw, hcl⟩
  · rw [e0] at hr; simp at hr
  obtain ⟨_, pv, c1, hip⟩ := hcl r hr
  have hb := room_bd (allRooms_of (hallB_of hh).2.2.1 hr)
  obtain ⟨pa, pcap, rfl, _, _, hp⟩ := hip
  rcases hp with e1 | ⟨b', off', rfl, hbw', hcl'⟩
  · rw [e1] at hb; simp at hb
  · exact ⟨b, off, ⟨b', off', none⟩, pcap, rfl, hbw, c1, hb.2.2.1, hb.2.2.2, rfl, hbw', (hcl' _ (by omega)).1⟩

set_option maxHeartbeats 1000000 in
theorem implForceOf_any {w : World} {v : Value} {rs : List RoomV} (n : Int) (h : IsRooms w v rs) :
    Calls Try.prog 23 #[.agg #[v], .int .i64 n] w fun e w' => e = .returned (.int .i64 (forceV rs n)) ∧ Below w.heap.size w w' := by
  have Hv := hide h
  obtain ⟨a, cap, rfl, hc, hm⟩ : ∃ a cap, v = .slice a rs.length cap ∧ rs.length ≤ cap ∧ cap ≤ 9223372036854775807 := by obtain ⟨a, cap, rfl, hc, hm, _⟩ := h; exact ⟨a, cap, rfl, hc, hm⟩
  clear h
  cases h1 : isBench rs n
  · have H2 := hide (forceV_f h1)
    have H3 := roomV_f h1
    have H3' := hide H3
    clear H3 h1
    go_enter Try.func23, Try.ntmps23
    go_wp2_with fail
    refine (implRoomOf_any n ((unhide Hv).alloc _)).mono ?_
    rw [unhide H3']
    rintro e w1 ⟨rfl, hb⟩
    have Hb := hide hb
    clear hb
    go_wp2_with fail
    go_ret
    exact ⟨ret_int (unhide H2).symm, ((Below.refl _ _).alloc (Nat.le_refl _) _).trans ((unhide Hb).mono (by simp))⟩
  · have H2 := hide (forceV_t h1)
    have H3 := hide (roomV_t h1)
    have hlt := room_found h1
    have Hh := hide (isBench_of h1).1
    have hl3 : rs.length ≤ 3 := (hallB_of (isBench_of h1).1).2.1
    clear h1
    go_enter Try.func23, Try.ntmps23
    go_wp2_with fail
    refine (implRoomOf_any n ((unhide Hv).alloc _)).mono ?_
    rw [unhide H3]
    rintro e w1 ⟨rfl, hb⟩
    have hz : w.heap.size + 1 ≤ w1.heap.size := by have := hb.size; simpa using this
    have hbox : w1.cell? ⟨w.heap.size, 0, none⟩ = some (.slice a rs.length cap) := by rw [hb.cell (p := ⟨w.heap.size, 0, none⟩) (by simp)]; simp
    have hw1 := ((unhide Hv).alloc _).below hb
    have Hb := hide hb
    obtain ⟨b, off, a', cap', rfl, hbw, d1, p1, p4, sp, hbw', d2⟩ := room_at hw1 hlt (unhide Hh)
    obtain ⟨b', off', sp'⟩ := a'
    simp only at sp hbw' d2
    subst sp
    clear hb hw1 H3
    generalize roomN rs n = r at *
    generalize lastForce (roomAt rs r).2 = fo at *
    generalize (roomAt rs r).2.length = m at *
    have hr0 : ((r : Int) == -1) = false := beq_eq_false_iff_ne.2 (by omega)
    go_wp2_with fail
    go_ret
    exact ⟨ret_int (unhide H2).symm, ((Below.refl _ _).alloc (Nat.le_refl _) _).trans ((unhide Hb).mono (by simp))⟩

end Go.Proofs.Ytbehfbckoodkfaa
