/- The exact law on Unqueued: whatever is handed in, the program answers as its model, in memory of its own, leaves what is handed in as it was, and a second call answers alike and changes nothing of the first one's answer. No condition but that what is handed in can be read. -/
import Derived.Test.YtekobedbjemdiaaEntTo
import Derived.Test.YtekobedbjemdiaaEntSpec
import Derived.Test.YtekobedbjemdiaaEntLen
namespace Go.Proofs.Ytekobedbjemdiaa
open Go.ChangeShapes Go.WideShapes Go.ChangeAt Go.RowKit Go.Sort
set_option linter.unusedVariables false

set_option maxRecDepth 100000 in
set_option maxHeartbeats 8000000 in
theorem walkFnExactUnqueued (v : Value) (ps : List PaceV) (who : Int) (w : World) (h : IsPaces w v ps) :
    Calls Try.prog 8 #[v, .int .i64 who] w fun e w' => e = .returned (.bool true) ∧ Below w.heap.size w w' := by
  have Hv := hide h
  obtain ⟨a, cap, rfl, hc, hm, hr⟩ := h
  clear hr
  obtain ⟨L, b, hR⟩ : ∃ L b, (unqueuedV ps who) = (L, b) := ⟨_, _, rfl⟩
  have hL : L.length ≤ 101 := by have := unqueuedV_len ps who; rw [hR] at this; exact this
  have HR := hide hR
  clear hR
  go_enter Try.func8, Try.ntmps8
  go_wp2_with fail
  refine (szEntryS_any _ _ _ _ (by omega) (by omega) (by omega) _).mono ?_
  by_cases hx : (1048576 : Int) - ps.length < 0
  · rw [szV_f hx]
    rintro e w1 ⟨rfl, rfl⟩
    go_wp2_with fail
    go_ret
    exact ⟨rfl, Below.refl _ _⟩
  rw [szV_t hx]
  rintro e w1 ⟨rfl, h1⟩
  subst w1
  have Hv0 := hide (unhide Hv)
  go_wp2_with fail
  refine (toEntryS_any (unhide Hv0) (by omega)).mono ?_
  rintro e w2 ⟨v1, rfl, hi1, hb2⟩
  obtain ⟨a1, cap1, rfl⟩ := hi1.shape
  have Hi1 := hide hi1
  have B2 := hide hb2
  clear hi1 hb2
  go_wp2_with fail
  refine (specUnqueued_any who (unhide Hi1).paces).mono ?_
  rw [unhide HR]
  rintro e w3 ⟨⟨u, rfl, hu⟩, hb3⟩
  simp only at hu
  obtain ⟨ua, ucap, rfl⟩ := hu.shape
  have HU3 := hide (hu.mono (n₁ := w.heap.size) (unhide B2).size)
  have B3 : Hid (Below w.heap.size w w3) := hide ((unhide B2).trans (hb3.mono (unhide B2).size))
  clear hu hb3 Hi1 B2
  have hz3 := (unhide B3).size
  go_wp2_with fail
  refine (toEntryS_any ((unhide Hv0).below (unhide B3)) (by omega)).mono ?_
  rintro e w4 ⟨x, rfl, hx4, hb4⟩
  obtain ⟨xa, xcap, rfl⟩ := hx4.shape
  have HX4 := hide hx4
  have HU4 := hide ((unhide HU3).later hb4)
  have hz4 := hb4.size
  have B4 : Hid (Below w.heap.size w w4) := hide ((unhide B3).trans (hb4.mono hz3))
  have HUlt : Hid (∀ k, (Value.slice ua L.length ucap).ownBlock = some k → k < w3.heap.size) := hide (fun k e => ((unhide HU3).lt e).2)
  have HXlt : Hid (∀ k, (Value.slice xa ps.length xcap).ownBlock = some k → w3.heap.size ≤ k ∧ k < w4.heap.size) := hide (fun k e => (unhide HX4).lt e)
  clear hx4 hb4 HU3
  go_wp2_with fail
  refine (implUnqueued_any who (unhide HX4).paces).mono ?_
  rw [unhide HR]
  rintro e w5 ⟨⟨gv, rfl, hg⟩, hb5⟩
  simp only at hg
  obtain ⟨ga, gcap, rfl⟩ := hg.shape
  have HG5 := hide hg
  have HX5 := hide ((unhide HX4).later hb5)
  have HU5 := hide ((unhide HU4).later hb5)
  have B5 : Hid (Below w.heap.size w w5) := hide ((unhide B4).trans (hb5.mono (unhide B4).size))
  have HGlt : Hid (∀ k, (Value.slice ga L.length gcap).ownBlock = some k → w4.heap.size ≤ k) := hide (fun k e => ((unhide HG5).lt e).1)
  clear hg hb5 HX4 HU4 B4
  go_wp2_with fail
  refine (eqEntryS_yes (unhide HG5).paces (unhide HU5).paces).mono ?_
  rintro e w6 ⟨rfl, hb6⟩
  have HG6 := hide ((unhide HG5).later hb6)
  have HU6 := hide ((unhide HU5).later hb6)
  have HX6 := hide ((unhide HX5).later hb6)
  have B6 : Hid (Below w.heap.size w w6) := hide ((unhide B5).trans (hb6.mono (unhide B5).size))
  have hz6 := hb6.size
  clear hb6 HG5 HU5 HX5 B5
  all_goals
    go_wp2_with fail
    refine (toEntryS_any ((unhide Hv0).below (unhide B6)) (by omega)).mono ?_
    rintro e w7 ⟨y, rfl, hy7, hb7⟩
    obtain ⟨ya, ycap, rfl⟩ := hy7.shape
    have HY7 := hide hy7
    have HG7 := hide ((unhide HG6).later hb7)
    have HU7 := hide ((unhide HU6).later hb7)
    have HX7 := hide ((unhide HX6).later hb7)
    have B7 : Hid (Below w.heap.size w w7) := hide ((unhide B6).trans (hb7.mono (unhide B6).size))
    have hz7 := hb7.size
    clear hy7 hb7 HG6 HU6 HX6 B6
    go_wp2_with fail
    refine (eqEntryS_yes (unhide HX7).paces (unhide HY7).paces).mono ?_
    rintro e w8 ⟨rfl, hb8⟩
    have HG8 := hide ((unhide HG7).later hb8)
    have HU8 := hide ((unhide HU7).later hb8)
    have HX8 := hide ((unhide HX7).later hb8)
    have B8 : Hid (Below w.heap.size w w8) := hide ((unhide B7).trans (hb8.mono (unhide B7).size))
    have hz8 := hb8.size
    clear hb8 HG7 HU7 HX7 HY7 B7
    go_wp2_with fail
    refine (markEntryS_any 1 (unhide HX8) (by omega) (by omega) (by omega)).mono ?_
    rintro e w9 ⟨rfl, _, hg9⟩
    have HG9 := hide ((unhide HG8).grown hg9 (fun k e e2 => by have h1 := unhide HGlt k e; have h2 := unhide HXlt k e2; omega))
    have HU9 := hide ((unhide HU8).grown hg9 (fun k e e2 => by have h1 := unhide HUlt k e; have h2 := unhide HXlt k e2; omega))
    have B9 : Hid (Below w.heap.size w w9) := hide ((unhide B8).grown hg9 (unhide B8).size (fun k e => by have h2 := unhide HXlt k e; omega))
    have hz9 := hg9.size
    have hkk : ¬ (1 : Int) + 2 * (ps.length : Int) < 0 := by omega
    clear hg9 HG8 HU8 HX8 B8
    go_wp2_with fail
    refine (eqEntryS_yes (unhide HG9).paces (unhide HU9).paces).mono ?_
    rintro e w10 ⟨rfl, hb10⟩
    have HG10 := hide ((unhide HG9).later hb10)
    have HU10 := hide ((unhide HU9).later hb10)
    have B10 : Hid (Below w.heap.size w w10) := hide ((unhide B9).trans (hb10.mono (unhide B9).size))
    have hz10 := hb10.size
    clear hb10 HG9 HU9 B9
    go_wp2_with fail
    refine (markEntryS_any 1 (unhide HG10) (by omega) (by omega) (by omega)).mono ?_
    rintro e w11 ⟨rfl, hgm, hg11⟩
    have HG11 := hide hgm
    have HU11 := hide ((unhide HU10).grown hg11 (fun k e e2 => by have h1 := unhide HUlt k e; have h2 := unhide HGlt k e2; omega))
    have B11 : Hid (Below w.heap.size w w11) := hide ((unhide B10).grown hg11 (unhide B10).size (fun k e => by have h2 := unhide HGlt k e; omega))
    have hz11 := hg11.size
    clear hgm hg11 HG10 HU10 B10
    go_wp2_with fail
    refine (heldEntryS_yes 1 L.length (unhide HG11).paces (by omega) (by omega) (by omega)).mono ?_
    rintro e w' ⟨rfl, h2⟩
    subst w'
    have hmm : ¬ (1 : Int) + 2 * (L.length : Int) < 0 := by omega
    go_wp2_with fail
    refine (toEntryS_any ((unhide Hv0).below (unhide B11)) (by omega)).mono ?_
    rintro e w12 ⟨y, rfl, hy12, hb12⟩
    obtain ⟨ya2, ycap2, rfl⟩ := hy12.shape
    have HY12 := hide hy12
    have HG12 := hide ((unhide HG11).later hb12)
    have HU12 := hide ((unhide HU11).later hb12)
    have B12 : Hid (Below w.heap.size w w12) := hide ((unhide B11).trans (hb12.mono (unhide B11).size))
    clear hy12 hb12
    go_wp2_with fail
    refine (implUnqueued_any who (unhide HY12).paces).mono ?_
    rw [unhide HR]
    rintro e w13 ⟨⟨hv, rfl, hh⟩, hb13⟩
    simp only at hh
    obtain ⟨ha, hcap, rfl⟩ := hh.shape
    have HH13 := hide hh
    have HG13 := hide ((unhide HG12).later hb13)
    have HU13 := hide ((unhide HU12).later hb13)
    have B13 : Hid (Below w.heap.size w w13) := hide ((unhide B12).trans (hb13.mono (unhide B12).size))
    clear hh hb13 HY12 HG12 HU12 B12
    all_goals
      clear HG11 HU11 B11
      go_wp2_with fail
      refine (eqEntryS_yes (unhide HH13).paces (unhide HU13).paces).mono ?_
      rintro e w14 ⟨rfl, hb14⟩
      have HG14 := hide ((unhide HG13).later hb14)
      have B14 : Hid (Below w.heap.size w w14) := hide ((unhide B13).trans (hb14.mono (unhide B13).size))
      clear hb14 HH13 HU13 HG13 B13
      go_wp2_with fail
      refine (heldEntryS_yes 1 L.length (unhide HG14).paces (by omega) (by omega) (by omega)).mono ?_
      rintro e w' ⟨rfl, h3⟩
      subst w'
      go_wp2_with fail
      go_ret
      exact ⟨rfl, unhide B14⟩

end Go.Proofs.Ytekobedbjemdiaa
