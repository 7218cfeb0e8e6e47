/- The exact law on ShowHall: whatever hall is handed in, the program answers as its model and leaves it as it was. No condition but that what is handed in can be read. -/
import Derived.Test.YtnofnjddbflpmaaDoorHallLaw
import Derived.Test.YtnofnjddbflpmaaDoorHallShow2
namespace Go.Proofs.YtnofnjddbflpmaaDoor
open Go.ChangeShapes Go.WideShapes Go.ChangeAt Go.RowKit Go.Sort
set_option linter.unusedVariables false

set_option maxHeartbeats 4000000 in
theorem walkFnExactShowHall (v : Value) (rs : List RoomV) (w : World) (h : IsRooms w v rs) (ht : Tab w) :
    Calls Tryd.prog 5 #[.agg #[v]] w fun e w' => e = .returned (.bool true) ∧ Below w.heap.size w w' := by
  have Hv := hide h
  have Ht := hide ht
  clear ht
  obtain ⟨a, cap, rfl, hc, hm⟩ := h.shape
  clear h
  go_enter Tryd.func5, Tryd.ntmps5
  go_wp2_with fail
  refine (szHall_any ((unhide Hv).alloc _) _ (by omega) (by omega)).mono ?_
  rintro e w1 ⟨x, rfl, hx, hb⟩
  have hsz : w.heap.size + 1 ≤ w1.heap.size := by have := hb.size; simpa using this
  have hbox : w1.cell? ⟨w.heap.size, 0, none⟩ = some (.slice a rs.length cap) := by rw [hb.cell (p := ⟨w.heap.size, 0, none⟩) (by simp)]; simp
  have B1 : Hid (Below w.heap.size w w1) := hide (((Below.refl _ _).alloc (Nat.le_refl _) _).trans (hb.mono (by simp)))
  have Hx := hide hx
  clear hx hb
  by_cases hx0 : x < 0
  · go_wp2_with fail
    go_ret
    exact ⟨rfl, unhide B1⟩
  have hs : Small rs := unhide Hx (by omega)
  have Hs := hide hs
  clear hs Hx
  go_wp2_with fail
  refine (toHall_any ((unhide Hv).below (unhide B1)) (unhide Hs)).mono ?_
  rintro e w2 ⟨v1, rfl, hi1, hb2⟩
  have hbox2 : w2.cell? ⟨w.heap.size, 0, none⟩ = some (.slice a rs.length cap) := by rw [hb2.cell (p := ⟨w.heap.size, 0, none⟩) (by simp; omega)]; exact hbox
  have hz2 := hb2.size
  have B2 : Hid (Below w.heap.size w w2) := hide ((unhide B1).trans (hb2.mono (by omega)))
  obtain ⟨a1, cap1, rfl, _⟩ := hi1.shape
  have Hi1 := hide hi1
  clear hi1 hb2 hbox
  go_wp2_with fail
  refine (specShowHall_any (unhide Hi1)).mono ?_
  rintro e w3 ⟨rfl, hb3⟩
  have hbox3 : w3.cell? ⟨w.heap.size, 0, none⟩ = some (.slice a rs.length cap) := by rw [hb3.cell (p := ⟨w.heap.size, 0, none⟩) (by simp; omega)]; exact hbox2
  have hz3 := hb3.size
  have B3 : Hid (Below w.heap.size w w3) := hide ((unhide B2).trans (hb3.mono (by omega)))
  clear Hi1 hb3 hbox2
  go_wp2_with fail
  refine (toHall_any ((unhide Hv).below (unhide B3)) (unhide Hs)).mono ?_
  rintro e w4 ⟨v2, rfl, hi2, hb4⟩
  have hbox4 : w4.cell? ⟨w.heap.size, 0, none⟩ = some (.slice a rs.length cap) := by rw [hb4.cell (p := ⟨w.heap.size, 0, none⟩) (by simp; omega)]; exact hbox3
  have hz4 := hb4.size
  have B4 : Hid (Below w.heap.size w w4) := hide ((unhide B3).trans (hb4.mono (by omega)))
  obtain ⟨a2, cap2, rfl, _⟩ := hi2.shape
  have Hi2 := hide hi2
  clear hi2 hb4 hbox3
  go_wp2_with fail
  refine (implShowHall_any ((unhide Hi2).alloc _) ((unhide Ht).below ((unhide B4).alloc (unhide B4).size _))).mono ?_
  rintro e w5 ⟨rfl, hb5⟩
  have hbox5 : w5.cell? ⟨w.heap.size, 0, none⟩ = some (.slice a rs.length cap) := by rw [hb5.cell (p := ⟨w.heap.size, 0, none⟩) (by simp; omega), World.cell?_alloc_old _ _ _ (by simp; omega)]; exact hbox4
  have hbx5 : w5.cell? ⟨w4.heap.size, 0, none⟩ = some (.slice a2 rs.length cap2) := by rw [hb5.cell (p := ⟨w4.heap.size, 0, none⟩) (by simp)]; simp
  have hz5 : w4.heap.size + 1 ≤ w5.heap.size := by have := hb5.size; simpa using this
  have B5 : Hid (Below w.heap.size w w5) := hide (((unhide B4).alloc (by omega) _).trans (hb5.mono (by simp; omega)))
  have Hi5 := hide (((unhide Hi2).alloc _).below hb5)
  have Hv5 := hide ((unhide Hv).below (unhide B5))
  clear hb5 hbox4 Hi2
  go_wp2_with fail
  go_region_with (first
    | (go_at_call 19; refine (toHall_any (rs := rs) ?_ (unhide Hs)).mono ?_; exact unhide Hv5; rintro e w6 ⟨v3, rfl, hi6, hb6⟩; obtain ⟨a3, cap3, rfl, _⟩ := hi6.shape; have Hi6 := hide hi6; have Hb6 : Hid (Below w5.heap.size w5 w6) := hide ⟨hb6.os, hb6.tape, hb6.output, hb6.size, hb6.block⟩; have hc6 : w6.cell? ⟨w4.heap.size, 0, none⟩ = some (.slice a2 rs.length cap2) := (hb6.cell (p := ⟨w4.heap.size, 0, none⟩) (show w4.heap.size < w5.heap.size by omega)).trans hbx5; clear hi6 hb6)
    | (go_at_call 15; refine (eqHall_yes (rs := rs) ?_ ?_).mono ?_; exact (unhide Hi5).below (unhide Hb6); exact unhide Hi6; rintro e w7 ⟨rfl, hb7⟩; have Hb7 := hide hb7; clear hb7))
  all_goals
    go_wp2_with fail
    go_ret
    exact ⟨rfl, (unhide B5).trans (((unhide Hb6).trans ((unhide Hb7).mono (unhide Hb6).size)).mono (unhide B5).size)⟩

end Go.Proofs.YtnofnjddbflpmaaDoor
