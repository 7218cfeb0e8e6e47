/- The exact law on LeastCoal: whatever room and numbers (a need and a work) are handed in, the program answers as its model and leaves it as it was. No condition but that what is handed in can be read. -/
import Derived.Test.YtbekkdneldcehaaRoomLaw
import Derived.Test.YtbekkdneldcehaaPaceFn2
import Derived.Deep.RegionWith
namespace Go.Proofs.Ytbekkdneldcehaa
open Go.ChangeShapes Go.WideShapes Go.ChangeAt Go.RowKit Go.Sort
set_option linter.unusedVariables false

set_option maxHeartbeats 4000000 in
theorem walkFnExactLeastCoal (rb : Int) (v : Value) (ps : List PaceV) (n m : Int) (w : World) (h : IsPaces w v ps) :
    Calls Try.prog 6 #[.agg #[.int .i64 rb, v], .int .i64 n, .int .i64 m] w fun e w' => e = .returned (.bool true) ∧ Below w.heap.size w w' := by
  have Hv := hide h
  obtain ⟨a, cap, rfl, hc, hm⟩ := h.shape
  clear h
  go_enter Try.func6, Try.ntmps6
  go_wp2_with fail
  refine (szRoom_any _ _ _ _ _ (by omega) (by omega) (by omega) _).mono ?_
  rintro e w1 ⟨rfl, hb⟩
  have hsz : w.heap.size + 1 ≤ w1.heap.size := by have := hb.size; simpa using this
  have hbox := two_below (b := w.heap.size) (u := .int .i64 rb) (u' := .slice a ps.length cap) hb (by simp) ⟨by simp, by simp⟩
  have B1 : Hid (Below w.heap.size w w1) := hide (((Below.refl _ _).alloc (Nat.le_refl _) _).trans (hb.mono (by simp)))
  clear hb
  by_cases hx0 : (1048576 : Int) - ps.length < 0
  · rw [szV_f (by omega)]
    obtain ⟨g0, g1⟩ := hbox
    go_wp2_with fail
    go_ret
    exact ⟨rfl, unhide B1⟩
  have hs : ps.length ≤ 1048576 := by omega
  rw [szV_t (by omega)]
  obtain ⟨g0, g1⟩ := hbox
  go_wp2_with fail
  refine (toRoom_any rb ((unhide Hv).below (unhide B1)) hs).mono ?_
  rintro e w2 ⟨v1, rfl, hi1, _, hb2⟩
  have hbox2 := two_below hb2 (by omega) ⟨g0, g1⟩
  have hz2 := hb2.size
  have B2 : Hid (Below w.heap.size w w2) := hide ((unhide B1).trans (hb2.mono (by omega)))
  obtain ⟨a1, cap1, rfl, _⟩ := hi1.shape
  have Hi1 := hide hi1
  clear hi1 hb2 g0 g1
  obtain ⟨g0, g1⟩ := hbox2
  go_wp2_with fail
  refine (specLeastCoal_any rb n m (unhide Hi1)).mono ?_
  rintro e w3 ⟨rfl, hb3⟩
  have hbox3 := two_below hb3 (by omega) ⟨g0, g1⟩
  have hz3 := hb3.size
  have B3 : Hid (Below w.heap.size w w3) := hide ((unhide B2).trans (hb3.mono (by omega)))
  clear Hi1 hb3 g0 g1
  obtain ⟨g0, g1⟩ := hbox3
  go_wp2_with fail
  refine (toRoom_any rb ((unhide Hv).below (unhide B3)) hs).mono ?_
  rintro e w4 ⟨v2, rfl, hi2, _, hb4⟩
  have hbox4 := two_below hb4 (by omega) ⟨g0, g1⟩
  have hz4 := hb4.size
  have B4 : Hid (Below w.heap.size w w4) := hide ((unhide B3).trans (hb4.mono (by omega)))
  obtain ⟨a2, cap2, rfl, _⟩ := hi2.shape
  have Hi2 := hide hi2
  clear hi2 hb4 g0 g1
  obtain ⟨g0, g1⟩ := hbox4
  go_wp2_with fail
  refine (implLeastCoal_any rb n m ((unhide Hi2).alloc _)).mono ?_
  rintro e w5 ⟨rfl, hb5⟩
  have hbox5 := two_below (b := w.heap.size) (u := .int .i64 rb) (u' := .slice a ps.length cap) hb5 (by simp; omega) ⟨(World.cell?_alloc_old _ _ _ (by simp; omega)).trans g0, (World.cell?_alloc_old _ _ _ (by simp; omega)).trans g1⟩
  have hbx5 := two_below (b := w4.heap.size) (u := .int .i64 rb) (u' := .slice a2 ps.length cap2) hb5 (by simp) ⟨by simp, by simp⟩
  have hz5 : w4.heap.size + 1 ≤ w5.heap.size := by have := hb5.size; simpa using this
  have B5 : Hid (Below w.heap.size w w5) := hide (((unhide B4).alloc (by omega) _).trans (hb5.mono (by simp; omega)))
  have Hi5 := hide (((unhide Hi2).alloc _).below hb5)
  have Hv5 := hide ((unhide Hv).below (unhide B5))
  clear hb5 g0 g1 Hi2
  obtain ⟨g0, g1⟩ := hbox5
  have Hbx := hide hbx5
  obtain ⟨x0, x1⟩ := hbx5
  go_wp2_with fail
  go_region_with (first
    | (go_at_call 20; refine (toRoom_any (ps := ps) rb ?_ hs).mono ?_; exact unhide Hv5; rintro e w6 ⟨v3, rfl, hi6, _, hb6⟩; obtain ⟨a3, cap3, rfl, _⟩ := hi6.shape; have Hi6 := hide hi6; have Hb6 : Hid (Below w5.heap.size w5 w6) := hide ⟨hb6.os, hb6.tape, hb6.output, hb6.size, hb6.block⟩; have hc6 := two_below (unhide Hb6) (by omega) (unhide Hbx); obtain ⟨y0, y1⟩ := hc6; clear hi6 hb6)
    | (go_at_call 21; refine (eqRoom_yes (ps := ps) rb ?_ ?_).mono ?_; exact (unhide Hi5).below (unhide Hb6); exact unhide Hi6; rintro e w7 ⟨rfl, hb7⟩; have Hb7 := hide hb7; clear hb7))
  all_goals
    go_wp2_with fail
    go_ret
    exact ⟨rfl, (unhide B5).trans (((unhide Hb6).trans ((unhide Hb7).mono (unhide Hb6).size)).mono (unhide B5).size)⟩

end Go.Proofs.Ytbekkdneldcehaa
