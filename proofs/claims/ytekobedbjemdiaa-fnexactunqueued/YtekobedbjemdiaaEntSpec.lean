/- Contracts of the model's Queued and Unqueued: each answers what the lists say, in memory of its own, and writes into no memory that was there. Condition: the slice can be read. -/
import Derived.Test.YtekobedbjemdiaaEntPut
import Derived.Test.YtekobedbjemdiaaEntImpl
namespace Go.Proofs.Ytekobedbjemdiaa
open Go.ChangeShapes Go.WideShapes Go.ChangeAt Go.RowKit Go.Sort
set_option linter.unusedVariables false

set_option maxRecDepth 100000 in
set_option maxHeartbeats 4000000 in
theorem specQueued_any {w : World} {v : Value} {ps : List PaceV} (f z : Int) (h : IsPaces w v ps) :
    Calls Try.prog 15 #[v, .agg #[.int .i64 f, .int .i64 z]] w fun e w' => GotQ w.heap.size (queuedV ps (f, z)) e w' ∧ Below w.heap.size w w' := by
  have Hv := hide h
  obtain ⟨a, cap, rfl, hc, hm, hr⟩ := h
  clear hr
  cases hq : queueB ps
  · rw [queuedV_no hq]
    go_enter Try.func15, Try.ntmps15
    go_wp2_with fail
    refine (specQueueOk_any ((unhide Hv).below ((Below.refl _ _).alloc (Nat.le_refl _) _))).mono ?_
    rw [hq]
    rintro e w1 ⟨rfl, hb1⟩
    have B1 : Hid (Below w.heap.size w w1) := hide (((Below.refl _ _).alloc (Nat.le_refl _) _).trans (hb1.mono (by simp)))
    clear hb1
    go_wp2_with fail
    go_ret2
    exact ⟨⟨_, rfl, ents_empty rfl (unhide B1).size⟩, (unhide B1).alloc (unhide B1).size _⟩
  · have hQ := isQ_of hq
    have hlen := hQ.len
    clear hQ
    go_enter Try.func15, Try.ntmps15
    go_wp2_with fail
    refine (specQueueOk_any ((unhide Hv).below ((Below.refl _ _).alloc (Nat.le_refl _) _))).mono ?_
    rw [hq]
    rintro e w1 ⟨rfl, hb1⟩
    have hz1 : w.heap.size + 1 ≤ w1.heap.size := by have := hb1.size; simpa using this
    have c0 : w1.cell? ⟨w.heap.size, 0, none⟩ = some (.int .i64 f) := (hb1.cell (p := ⟨w.heap.size, 0, none⟩) (by simp)).trans (by simp)
    have c1 : w1.cell? ⟨w.heap.size, 1, none⟩ = some (.int .i64 z) := (hb1.cell (p := ⟨w.heap.size, 1, none⟩) (by simp)).trans (by simp)
    have B1 : Hid (Below w.heap.size w w1) := hide (((Below.refl _ _).alloc (Nat.le_refl _) _).trans (hb1.mono (by simp)))
    clear hb1
    go_wp2_with fail
    refine (l6Put_any f z ((unhide Hv).below (unhide B1)) (by omega)).mono ?_
    rintro e w4 ⟨v4, rfl, hi4, hb4⟩
    have hz4 := hb4.size
    obtain ⟨a4, cap4, rfl⟩ := hi4.shape
    have H4 := hide hi4
    have B4 : Hid (Below w.heap.size w w4) := hide ((unhide B1).trans (hb4.mono (by omega)))
    clear hi4 hb4 c0 c1
    go_wp2_with fail
    refine (specQueueOk_any (unhide H4).paces).mono ?_
    cases hq2 : queueB (putV ps (f, z))
    · rintro e w5 ⟨rfl, hb5⟩
      have B5 : Hid (Below w.heap.size w w5) := hide ((unhide B4).trans (hb5.mono (by omega)))
      clear hb5
      go_wp2_with fail
      refine (l6Copy_any ((unhide Hv).below (unhide B5)) (by omega)).mono ?_
      rintro e w6 ⟨v6, rfl, hi6, hb6⟩
      obtain ⟨a6, cap6, rfl⟩ := hi6.shape
      have H6 := hide hi6
      have B6 : Hid (Below w.heap.size w w6) := hide ((unhide B5).trans (hb6.mono (unhide B5).size))
      clear hi6 hb6
      go_wp2_with fail
      go_ret2
      rw [queuedV_stays hq hq2]
      exact ⟨⟨_, rfl, (unhide H6).mono (unhide B5).size⟩, unhide B6⟩
    · rintro e w5 ⟨rfl, hb5⟩
      have H5 := hide ((unhide H4).later hb5)
      have B5 : Hid (Below w.heap.size w w5) := hide ((unhide B4).trans (hb5.mono (by omega)))
      clear hb5
      go_wp2_with fail
      go_ret2
      rw [queuedV_yes hq hq2]
      exact ⟨⟨_, rfl, (unhide H5).mono (by omega)⟩, unhide B5⟩

set_option maxRecDepth 100000 in
set_option maxHeartbeats 4000000 in
theorem specUnqueued_any {w : World} {v : Value} {ps : List PaceV} (who : Int) (h : IsPaces w v ps) :
    Calls Try.prog 19 #[v, .int .i64 who] w fun e w' => GotQ w.heap.size (unqueuedV ps who) e w' ∧ Below w.heap.size w w' := by
  have Hv := hide h
  obtain ⟨a, cap, rfl, hc, hm, hr⟩ := h
  clear hr
  cases hq : queueB ps
  · rw [unqueuedV_no hq]
    go_enter Try.func19, Try.ntmps19
    go_wp2_with fail
    refine (specQueueOk_any (unhide Hv)).mono ?_
    rw [hq]
    rintro e w1 ⟨rfl, hb1⟩
    have B1 := hide hb1
    clear hb1
    go_wp2_with fail
    go_ret2
    exact ⟨⟨_, rfl, ents_empty rfl (unhide B1).size⟩, (unhide B1).alloc (unhide B1).size _⟩
  · have hlen := (isQ_of hq).len
    go_enter Try.func19, Try.ntmps19
    go_wp2_with fail
    refine (specQueueOk_any (unhide Hv)).mono ?_
    rw [hq]
    rintro e w1 ⟨rfl, hb1⟩
    have B1 := hide hb1
    clear hb1
    go_wp2_with fail
    refine (l6Find_any who ((unhide Hv).below (unhide B1))).mono ?_
    rintro e w2 ⟨rfl, h2⟩
    subst w2
    rcases findV_cases ps who with ⟨hF, hno⟩ | ⟨k, hF, hk, hw, hno⟩
    · rw [hF]
      go_wp2_with fail
      refine (l6Copy_any ((unhide Hv).below (unhide B1)) (by omega)).mono ?_
      rintro e w6 ⟨v6, rfl, hi6, hb6⟩
      obtain ⟨a6, cap6, rfl⟩ := hi6.shape
      have H6 := hide hi6
      have B6 : Hid (Below w.heap.size w w6) := hide ((unhide B1).trans (hb6.mono (unhide B1).size))
      clear hi6 hb6
      go_wp2_with fail
      go_ret2
      rw [unqueuedV_stays hq hF]
      exact ⟨⟨_, rfl, (unhide H6).mono (unhide B1).size⟩, unhide B6⟩
    · rw [hF]
      have HF := hide hF
      have hz1 := (unhide B1).size
      have hto := slice_to a ps.length cap k (by omega)
      have hfr := slice_from a ps.length cap (k + 1) (by omega)
      obtain ⟨ra, hra⟩ := fromV_shape a ps.length cap (k + 1)
      rw [hra] at hfr
      have hc1 : ((k + 1 : Nat) : Int) = (k : Int) + 1 := by omega
      rw [hc1] at hfr
      have Hfrom : Hid (IsPaces w1 (.slice ra (ps.length - (k + 1)) (cap - (k + 1))) (ps.drop (k + 1))) := hide (by rw [← hra]; exact ((unhide Hv).below (unhide B1)).from (by omega))
      have Hcut : Hid (IsPaces w1 (.slice a k cap) (ps.take k)) := hide (((unhide Hv).below (unhide B1)).cut (by omega))
      have HE : Hid (ps.take k ++ ps.drop (k + 1) = ps.eraseIdx k) := hide (by rw [List.eraseIdx_eq_take_drop_succ])
      have hkl : (ps.take k).length = k := by simp; omega
      have hdl : (ps.drop (k + 1)).length = ps.length - (k + 1) := by simp
      have hwk : IntKind.i64.wrap ((k : Int) + 1) = (k : Int) + 1 := by rw [IntKind.wrap_i64]; omega
      clear hra hc1 hF hno hw
      go_wp2_with fail
      go_region_law (first
        | (refine step_append_ents rfl (.tmp 21) (.tmp 25) 24 Try.underlying24 rfl w1.heap.size _ _ (ps.take k) (ps.drop (k + 1)) rfl rfl E3 ((unhide Hfrom).below X3) (by simp; omega) (by omega) ?_; intro v4 w4 hown4 hg4 hat4; have X4 : Below w1.heap.size w1 w4 := X3.trans ((Below.refl _ _).grown hg4 (by omega) (fun i e => (E3.lt e).1)))
        | (go_simp; go_at_call 42; refine (l6Copy_any (ps := ps.take k) ?_ (by simp; omega)).mono ?_; (exact (unhide Hcut).below ((Below.refl _ _).drew)); rintro e w3 ⟨v3, rfl, hi3, hb3⟩; obtain ⟨a3, cap3, hv3⟩ := hi3.shape; rw [hkl] at hv3; subst hv3; have E3 := hi3.mono (n₁ := w1.heap.size) (by simp); have X3 : Below w1.heap.size w1 w3 := ((Below.refl _ _).drew).trans (hb3.mono (by simp)); have hz3 := X3.size))
      all_goals
        rw [unhide HE] at hown4
        have HX4 := hide X4
        have HO4 := hide hown4
        clear hown4 hg4 hat4 X4 X3 E3 hi3 hb3
        go_wp2_with fail
        go_ret2
        rw [unqueuedV_yes hq (unhide HF)]
        exact ⟨⟨_, rfl, (unhide HO4).mono hz1⟩, (unhide B1).trans ((unhide HX4).mono hz1)⟩

end Go.Proofs.Ytekobedbjemdiaa
