/- Contracts of the program's Queued and Unqueued: each answers what the lists say, in memory of its own, and writes into no memory that was there. Condition: the slice can be read. -/
import Derived.Test.YtekobedbjemdiaaEntEmpt
import Derived.Test.YtekobedbjemdiaaEntQ
namespace Go.Proofs.Ytekobedbjemdiaa
open Go.ChangeShapes Go.WideShapes Go.ChangeAt Go.RowKit Go.Sort
set_option linter.unusedVariables false

/-- A queue and a bool, handed back; the queue lies in blocks from n₀ on. -/
def GotQ (n₀ : Nat) (r : List PaceV × Bool) (e : Ending) (w' : World) : Prop := ∃ v', e = .returned (.tuple #[v', .bool r.2]) ∧ EntsAt n₀ w' v' r.1
theorem queuedV_no {ps : List PaceV} {e : PaceV} (h : queueB ps = false) : queuedV ps e = ([], false) := by unfold queuedV; rw [h]; rfl
theorem queuedV_stays {ps : List PaceV} {e : PaceV} (h : queueB ps = true) (h2 : queueB (putV ps e) = false) : queuedV ps e = (ps, false) := by unfold queuedV; rw [h, h2]; rfl
theorem queuedV_yes {ps : List PaceV} {e : PaceV} (h : queueB ps = true) (h2 : queueB (putV ps e) = true) : queuedV ps e = (putV ps e, true) := by unfold queuedV; rw [h, h2]; rfl
theorem unqueuedV_no {ps : List PaceV} {who : Int} (h : queueB ps = false) : unqueuedV ps who = ([], false) := by unfold unqueuedV; rw [h]; rfl
theorem unqueuedV_stays {ps : List PaceV} {who : Int} (h : queueB ps = true) (h2 : findV ps who = -1) : unqueuedV ps who = (ps, false) := by unfold unqueuedV; rw [h, h2]; rfl
theorem unqueuedV_yes {ps : List PaceV} {who : Int} {k : Nat} (h : queueB ps = true) (h2 : findV ps who = k) : unqueuedV ps who = (ps.eraseIdx k, true) := by unfold unqueuedV; rw [h, h2]; simp

set_option maxRecDepth 100000 in
set_option maxHeartbeats 4000000 in
theorem implQueued_any {w : World} {v : Value} {ps : List PaceV} (f z : Int) (h : IsPaces w v ps) :
    Calls Try.prog 11 #[v, .agg #[.int .i64 f, .int .i64 z]] w fun e w' => GotQ w.heap.size (queuedV ps (f, z)) e w' ∧ Below w.heap.size w w' := by
  have Hv := hide h
  obtain ⟨a, cap, rfl, hc, hm, hr⟩ := h
  clear hr
  cases hq : queueB ps
  · rw [queuedV_no hq]
    go_enter Try.func11, Try.ntmps11
    go_wp2_with fail
    refine (implQueueOk_any ((unhide Hv).below ((Below.refl _ _).alloc (Nat.le_refl _) _))).mono ?_
    rw [hq]
    rintro e w1 ⟨rfl, hb1⟩
    have B1 : Hid (Below w.heap.size w w1) := hide (((Below.refl _ _).alloc (Nat.le_refl _) _).trans (hb1.mono (by simp)))
    clear hb1
    go_wp2_with fail
    go_ret2
    exact ⟨⟨_, rfl, ents_empty rfl (unhide B1).size⟩, (unhide B1).alloc (unhide B1).size _⟩
  · have hQ := isQ_of hq
    have hlen := hQ.len
    have HQ := hide hQ
    clear hQ
    go_enter Try.func11, Try.ntmps11
    go_wp2_with fail
    refine (implQueueOk_any ((unhide Hv).below ((Below.refl _ _).alloc (Nat.le_refl _) _))).mono ?_
    rw [hq]
    rintro e w1 ⟨rfl, hb1⟩
    have hz1 : w.heap.size + 1 ≤ w1.heap.size := by have := hb1.size; simpa using this
    have c0 : w1.cell? ⟨w.heap.size, 0, none⟩ = some (.int .i64 f) := (hb1.cell (p := ⟨w.heap.size, 0, none⟩) (by simp)).trans (by simp)
    have c1 : w1.cell? ⟨w.heap.size, 1, none⟩ = some (.int .i64 z) := (hb1.cell (p := ⟨w.heap.size, 1, none⟩) (by simp)).trans (by simp)
    have B1 : Hid (Below w.heap.size w w1) := hide (((Below.refl _ _).alloc (Nat.le_refl _) _).trans (hb1.mono (by simp)))
    clear hb1
    go_wp2_with fail
    refine (heapOf_any ((unhide Hv).below (unhide B1)) (by omega)).mono ?_
    rintro e w2 ⟨bx, v2, rfl, hbx, hh2, hb2⟩
    have hlt1 : w.heap.size < w1.heap.size := by omega
    have d0 := (hb2.cell (p := ⟨w.heap.size, 0, none⟩) hlt1).trans c0
    have d1 := (hb2.cell (p := ⟨w.heap.size, 1, none⟩) hlt1).trans c1
    have hz2 := hb2.size
    have H2 := hide hh2
    have B2 : Hid (Below w.heap.size w w2) := hide ((unhide B1).trans (hb2.mono (by omega)))
    clear hb2 hh2 c0 c1
    go_wp2_with fail
    refine (heapPush_any f z (unhide H2) (ris_heap (unhide HQ).ris) (by omega) hbx hz2).mono ?_
    rintro e w3 ⟨rfl, v3, hs, hh3, hto3, hpe3, hb3⟩
    have hz3 := hb3.size
    have hsl : hs.length = ps.length + 1 := by have := hpe3.length_eq; simpa using this
    have H3 := hide hh3
    have T3 := hide hto3
    have P3 := hide hpe3
    have B3 : Hid (Below w.heap.size w w3) := hide ((unhide B2).trans (hb3.mono (by omega)))
    clear hb3 hh3 hto3 hpe3 d0 d1
    go_wp2_with fail
    refine (emptied_any (unhide H3) (unhide T3) (by omega) hbx (by omega)).mono ?_
    rintro e w4 ⟨v4, qs, rfl, hi4, hris4, hpe4, hb4⟩
    obtain rfl : qs = putV ps (f, z) := sorted_put (unhide HQ) hris4 (hpe4.trans (unhide P3))
    have hz4 := hb4.size
    obtain ⟨a4, cap4, rfl⟩ := hi4.shape
    have H4 := hide hi4
    have B4 : Hid (Below w.heap.size w w4) := hide ((unhide B3).trans (hb4.mono (by omega)))
    clear hi4 hris4 hpe4 hb4 H2 H3 T3 P3
    go_wp2_with fail
    refine (implQueueOk_any (unhide H4).paces).mono ?_
    cases hq2 : queueB (putV ps (f, z))
    · rintro e w5 ⟨rfl, hb5⟩
      have B5 : Hid (Below w.heap.size w w5) := hide ((unhide B4).trans (hb5.mono (by omega)))
      clear hb5
      go_wp2_with fail
      refine (copyOf_any ((unhide Hv).below (unhide B5)) (by omega)).mono ?_
      rintro e w6 ⟨v6, rfl, hi6, hb6⟩
      obtain ⟨a6, cap6, rfl⟩ := hi6.shape
      have H6 := hide hi6
      have B6 : Hid (Below w.heap.size w w6) := hide ((unhide B5).trans (hb6.mono (unhide B5).size))
      clear hi6 hb6
      go_wp2_with fail
      go_ret2
      rw [queuedV_stays hq hq2]
      exact ⟨⟨_, rfl, (unhide H6).mono (unhide B5).size⟩, unhide B6⟩
    · rintro e w5 ⟨rfl, hb5⟩
      have H5 := hide ((unhide H4).later hb5)
      have B5 : Hid (Below w.heap.size w w5) := hide ((unhide B4).trans (hb5.mono (by omega)))
      clear hb5
      go_wp2_with fail
      go_ret2
      rw [queuedV_yes hq hq2]
      exact ⟨⟨_, rfl, (unhide H5).mono (by omega)⟩, unhide B5⟩

set_option maxRecDepth 100000 in
set_option maxHeartbeats 4000000 in
theorem implUnqueued_any {w : World} {v : Value} {ps : List PaceV} (who : Int) (h : IsPaces w v ps) :
    Calls Try.prog 13 #[v, .int .i64 who] w fun e w' => GotQ w.heap.size (unqueuedV ps who) e w' ∧ Below w.heap.size w w' := by
  have Hv := hide h
  obtain ⟨a, cap, rfl, hc, hm, hr⟩ := h
  clear hr
  cases hq : queueB ps
  · rw [unqueuedV_no hq]
    go_enter Try.func13, Try.ntmps13
    go_wp2_with fail
    refine (implQueueOk_any (unhide Hv)).mono ?_
    rw [hq]
    rintro e w1 ⟨rfl, hb1⟩
    have B1 := hide hb1
    clear hb1
    go_wp2_with fail
    go_ret2
    exact ⟨⟨_, rfl, ents_empty rfl (unhide B1).size⟩, (unhide B1).alloc (unhide B1).size _⟩
  · have hQ := isQ_of hq
    have hlen := hQ.len
    have HQ := hide hQ
    clear hQ
    go_enter Try.func13, Try.ntmps13
    go_wp2_with fail
    refine (implQueueOk_any (unhide Hv)).mono ?_
    rw [hq]
    rintro e w1 ⟨rfl, hb1⟩
    have B1 := hide hb1
    clear hb1
    go_wp2_with fail
    refine (placeOf_any who ((unhide Hv).below (unhide B1))).mono ?_
    rintro e w2 ⟨rfl, hb2⟩
    have B2 : Hid (Below w.heap.size w w2) := hide ((unhide B1).trans (hb2.mono (unhide B1).size))
    clear hb2
    rcases findV_cases ps who with ⟨hF, hno⟩ | ⟨k, hF, hk, hw, hno⟩
    · rw [hF]
      go_wp2_with fail
      refine (copyOf_any ((unhide Hv).below (unhide B2)) (by omega)).mono ?_
      rintro e w6 ⟨v6, rfl, hi6, hb6⟩
      obtain ⟨a6, cap6, rfl⟩ := hi6.shape
      have H6 := hide hi6
      have B6 : Hid (Below w.heap.size w w6) := hide ((unhide B2).trans (hb6.mono (unhide B2).size))
      clear hi6 hb6
      go_wp2_with fail
      go_ret2
      rw [unqueuedV_stays hq hF]
      exact ⟨⟨_, rfl, (unhide H6).mono (unhide B2).size⟩, unhide B6⟩
    · rw [hF]
      have HF := hide hF
      have hk1 : ((k : Int) == -1) = false := beq_eq_false_iff_ne.2 (by omega)
      clear hF hno hw
      go_wp2_with fail
      refine (heapOf_any ((unhide Hv).below (unhide B2)) (by omega)).mono ?_
      rintro e w3 ⟨bx, v3, rfl, hbx, hh3, hb3⟩
      have hz3 := hb3.size
      have hz2 := (unhide B2).size
      have H3 := hide hh3
      have B3 : Hid (Below w.heap.size w w3) := hide ((unhide B2).trans (hb3.mono hz2))
      clear hb3 hh3
      go_wp2_with fail
      refine (heapRemove_any (m := ps.length - 1) (i := k) (unhide H3) (ris_heap (unhide HQ).ris) (by omega) (by omega) (by omega)).mono ?_
      rintro e w4 ⟨x, v4, hs, rfl, hh4, hto4, hpe4, ho4, hf4⟩
      have hsl : hs.length + 1 = ps.length := by have := hpe4.length_eq; simpa using this
      have hz4 := hf4.size
      have H4 := hide hh4
      have T4 := hide hto4
      have P4 := hide hpe4
      have hb4 := (unhide H3).below (v' := v4) (qs := hs) hf4 hbx hz3
      have B4 : Hid (Below w.heap.size w w4) := hide ((unhide B3).trans (hb4.mono hz2))
      clear hb4 hh4 hto4 hpe4 hf4
      go_wp2_with fail
      refine (emptied_any (unhide H4) (unhide T4) (by omega) hbx (by omega)).mono ?_
      rintro e w5 ⟨v5, qs, rfl, hi5, hris5, hpe5, hb5⟩
      obtain rfl : qs = ps.eraseIdx k := sorted_erase (unhide HQ) hk hris5 ((hpe5.append_right _).trans (unhide P4))
      obtain ⟨a5, cap5, rfl⟩ := hi5.shape
      have H5 := hide hi5
      have B5 : Hid (Below w.heap.size w w5) := hide ((unhide B4).trans (hb5.mono hz2))
      clear hi5 hris5 hpe5 hb5
      go_wp2_with fail
      go_ret2
      rw [unqueuedV_yes hq (unhide HF)]
      exact ⟨⟨_, rfl, (unhide H5).mono (by omega)⟩, unhide B5⟩

end Go.Proofs.Ytekobedbjemdiaa
