/- Contracts of container/heap's Push, Pop and Remove at the program's heap. Conditions: those that each theorem names. -/
import Derived.Test.YtekobedbjemdiaaEntDown
namespace Go.Proofs.Ytekobedbjemdiaa
open Go.ChangeShapes Go.WideShapes Go.ChangeAt Go.RowKit Go.Sort
set_option linter.unusedVariables false

theorem HeapTo.take {ps : List PaceV} {n m : Nat} (h : HeapTo ps n) (hm : n ≤ m) : HeapTo (ps.take m) n := fun k k0 kn => by
  rw [paceAt_take (by omega), paceAt_take (by omega)]; exact h k k0 kn
/-- All that is asked of the memory: nothing below n₀ has turned. -/
theorem HeapIs.below {n₀ bx : Nat} {v v' : Value} {w w' : World} {ps qs : List PaceV} (h : HeapIs n₀ bx v w ps) (hf : Fr bx v.ownBlock w w') (hx : n₀ ≤ bx) (hn : n₀ ≤ w.heap.size) : Below n₀ w w' :=
  hf.below hx (fun k e => (h.row.lt e).1) hn

set_option maxRecDepth 100000 in
set_option maxHeartbeats 2000000 in
theorem heapPush_any {n₀ bx : Nat} {v : Value} {w : World} {ps : List PaceV} (f z : Int) (h : HeapIs n₀ bx v w ps) (hp : HeapTo ps ps.length) (hl : ps.length ≤ 900) (hx : n₀ ≤ bx) (hn : n₀ ≤ w.heap.size) :
    Calls Try.prog 35 #[.iface 56 (.pointer (some ⟨bx, 0, none⟩)), .iface 26 (.agg #[.int .i64 f, .int .i64 z])] w fun e w' => e = .returned (.tuple #[]) ∧ ∃ v' qs, HeapIs n₀ bx v' w' qs ∧ HeapTo qs qs.length ∧ qs.Perm (ps ++ [(f, z)]) ∧ Below n₀ w w' := by
  have H := hide h
  have HP := hide hp
  have hm1 := m_push ⟨bx, 0, none⟩
  have hm2 := m_len ⟨bx, 0, none⟩
  clear h hp
  go_enter Try.func35, Try.ntmps35
  go_wp2_with fail
  refine (pushM_any f z (unhide H) (by omega) hn).mono ?_
  rintro e w1 ⟨rfl, v1, hh1, hat, hf1⟩
  have H1 := hide hh1
  have B1 := hide ((unhide H).below (v' := v1) (qs := ps) hf1 hx hn)
  have hz1 := hf1.size
  clear hh1 hat hf1
  go_wp2_with fail
  refine (len_any (unhide H1)).mono ?_
  rintro e w' ⟨rfl, h2⟩
  subst w'
  have hlen : (ps ++ [(f, z)]).length = ps.length + 1 := by simp
  rw [hlen]
  go_wp2_with fail
  refine (up_any (j0 := ps.length) (n := ps.length + 1) (unhide H1) ((unhide HP).push (f, z)) (by omega) (by rw [hlen]; exact Nat.le_refl _) (by rw [hlen]; omega)).mono ?_
  rintro e w2 ⟨rfl, qs, hh2, hq, hpe, _, hf2⟩
  have hql : qs.length = ps.length + 1 := by rw [hpe.length_eq, hlen]
  have H2 := hide hh2
  have HQ := hide hq
  have HE := hide hpe
  have B2 := hide ((unhide B1).trans ((unhide H1).below (v' := v1) (qs := ps) hf2 hx (by omega)))
  clear hh2 hq hpe hf2
  go_wp2_with fail
  go_end0
  exact ⟨rfl, v1, qs, unhide H2, by rw [hql]; exact unhide HQ, unhide HE, unhide B2⟩

theorem DnTo.none {ps : List PaceV} {i0 i : Nat} : DnTo ps 0 i0 i := ⟨fun k k0 kn => by omega, fun k k0 kn => by omega⟩
theorem DownPost.zero {n₀ bx : Nat} {v : Value} {w : World} {ps : List PaceV} {n : Nat} {e : Ending} {w' : World} (h : DownPost n₀ bx v w ps n 0 e w') :
    ∃ (b : Bool) (qs : List PaceV), e = .returned (.bool b) ∧ HeapIs n₀ bx v w' qs ∧ qs.Perm ps ∧ (∀ k, n ≤ k → paceAt qs k = paceAt ps k) ∧ Fr bx v.ownBlock w w' ∧ HeapTo qs n := by
  obtain ⟨b, qs, he, hh, hp, hs, hf, h1, h2⟩ := h
  refine ⟨b, qs, he, hh, hp, hs, hf, ?_⟩
  cases b
  · exact (h2 rfl).done (.inl rfl)
  · exact h1 rfl

set_option maxRecDepth 100000 in
set_option maxHeartbeats 2000000 in
theorem heapPop_any {n₀ bx : Nat} {v : Value} {w : World} {ps : List PaceV} {m : Nat} (h : HeapIs n₀ bx v w ps) (hp : HeapTo ps ps.length) (hm : ps.length = m + 1) (hl : ps.length ≤ 900) :
    Calls Try.prog 52 #[.iface 56 (.pointer (some ⟨bx, 0, none⟩))] w fun e w' => e = .returned (.iface 26 (.agg #[.int .i64 (paceAt ps 0).1, .int .i64 (paceAt ps 0).2])) ∧ ∃ v' qs, HeapIs n₀ bx v' w' qs ∧ HeapTo qs qs.length ∧ (qs ++ [paceAt ps 0]).Perm ps ∧ v'.ownBlock = v.ownBlock ∧ Fr bx v.ownBlock w w' := by
  have H := hide h
  rw [hm] at hp
  have HP := hide hp
  have hm1 := m_pop ⟨bx, 0, none⟩
  have hm2 := m_len ⟨bx, 0, none⟩
  have hm3 := m_swap ⟨bx, 0, none⟩
  clear h hp
  go_enter Try.func52, Try.ntmps52
  go_wp2_with fail
  refine (len_any (unhide H)).mono ?_
  rw [hm]
  rintro e w' ⟨rfl, h2⟩
  subst w'
  go_wp2_with fail
  refine (swap_any (i := 0) (j := m) (unhide H) (by omega) (by omega)).mono ?_
  rintro e w1 ⟨rfl, hh1, hf1⟩
  have H1 := hide hh1
  have F1 := hide hf1
  have hl1 : (swp ps 0 m).length = m + 1 := by rw [swp_len]; exact hm
  have HD : Hid (DnTo (swp ps 0 m) m 0 0) := hide (by
    by_cases e : m = 0
    · subst e; exact DnTo.none
    · exact (unhide HP).swap hm (by omega))
  have HA : Hid (paceAt (swp ps 0 m) m = paceAt ps 0) := hide (by rw [swp_at (by omega) (by omega), if_pos rfl])
  have HPm : Hid ((swp ps 0 m).Perm ps) := hide (swp_perm (by omega) (by omega))
  clear hh1 hf1
  go_wp2_with fail
  refine (down_any (n := m) (i0 := 0) (unhide H1) (unhide HD) (by omega) (by omega) (by omega)).mono ?_
  intro e w2 hpost
  obtain ⟨b, qs, rfl, hh2, hp2, hs2, hf2, hq2⟩ := hpost.zero
  have hql : qs.length = m + 1 := by rw [hp2.length_eq, hl1]
  have H2 := hide hh2
  have HE : Hid ((qs.take m ++ [paceAt ps 0]).Perm ps) := hide (by rw [← unhide HA, ← hs2 m (Nat.le_refl _), take_snoc_last hql]; exact hp2.trans (unhide HPm))
  have HV : Hid (paceAt qs m = paceAt ps 0) := hide ((hs2 m (Nat.le_refl _)).trans (unhide HA))
  have HQ : Hid (HeapTo (qs.take m) (qs.take m).length) := hide (by rw [List.length_take, Nat.min_eq_left (by omega)]; exact hq2.take (Nat.le_refl _))
  have F2 := hide ((unhide F1).trans hf2)
  clear hpost hh2 hp2 hs2 hf2 hq2
  go_wp2_with fail
  refine (popM_any (unhide H2) hql).mono ?_
  rw [unhide HV]
  rintro e w3 ⟨rfl, v3, hh3, ho3, hf3⟩
  have H3 := hide hh3
  have F3 := hide ((unhide F2).trans hf3)
  clear hh3 hf3
  go_wp2_with fail
  go_ret
  exact ⟨rfl, v3, qs.take m, unhide H3, unhide HQ, unhide HE, ho3, unhide F3⟩

set_option maxRecDepth 100000 in
set_option maxHeartbeats 2000000 in
theorem heapRemove_any {n₀ bx : Nat} {v : Value} {w : World} {ps : List PaceV} {m i : Nat} (h : HeapIs n₀ bx v w ps) (hp : HeapTo ps ps.length) (hm : ps.length = m + 1) (hi : i ≤ m) (hl : ps.length ≤ 900) :
    Calls Try.prog 40 #[.iface 56 (.pointer (some ⟨bx, 0, none⟩)), .int .i64 i] w fun e w' => ∃ x v' qs, e = .returned x ∧ HeapIs n₀ bx v' w' qs ∧ HeapTo qs qs.length ∧ (qs ++ [paceAt ps i]).Perm ps ∧ v'.ownBlock = v.ownBlock ∧ Fr bx v.ownBlock w w' := by
  have H := hide h
  rw [hm] at hp
  have HP := hide hp
  have hm1 := m_pop ⟨bx, 0, none⟩
  have hm2 := m_len ⟨bx, 0, none⟩
  have hm3 := m_swap ⟨bx, 0, none⟩
  clear h hp
  by_cases him : i = m
  · subst him
    go_enter Try.func40, Try.ntmps40
    go_wp2_with fail
    refine (len_any (unhide H)).mono ?_
    rw [hm]
    rintro e w' ⟨rfl, h2⟩
    subst w'
    go_wp2_with fail
    refine (popM_any (unhide H) hm).mono ?_
    rintro e w3 ⟨rfl, v3, hh3, ho3, hf3⟩
    have H3 := hide hh3
    have F3 := hide hf3
    clear hh3 hf3
    go_wp2_with fail
    go_ret
    exact ⟨_, v3, ps.take i, rfl, unhide H3, by rw [List.length_take, Nat.min_eq_left (by omega)]; exact ((unhide HP).mono (by omega)).take (Nat.le_refl _), by rw [take_snoc_last hm], ho3, unhide F3⟩
  · have hn1 : ((m : Int) == (i : Int)) = false := beq_eq_false_iff_ne.2 (by omega)
    have hn2 : ((m : Int) != (i : Int)) = true := by simp [bne, hn1]
    have hn3 : (m == i) = false := beq_eq_false_iff_ne.2 (by omega)
    go_enter Try.func40, Try.ntmps40
    go_wp2_with fail
    refine (len_any (unhide H)).mono ?_
    rw [hm]
    rintro e w' ⟨rfl, h2⟩
    subst w'
    go_wp2_with fail
    refine (swap_any (i := i) (j := m) (unhide H) (by omega) (by omega)).mono ?_
    rintro e w1 ⟨rfl, hh1, hf1⟩
    have H1 := hide hh1
    have F1 := hide hf1
    have hl1 : (swp ps i m).length = m + 1 := by rw [swp_len]; exact hm
    have HD : Hid (DnTo (swp ps i m) m i i) := hide ((unhide HP).swap hm (by omega))
    have HA : Hid (paceAt (swp ps i m) m = paceAt ps i) := hide (by rw [swp_at (by omega) (by omega), if_pos rfl])
    have HPm : Hid ((swp ps i m).Perm ps) := hide (swp_perm (by omega) (by omega))
    clear hh1 hf1
    go_wp2_with fail
    refine (down_any (n := m) (i0 := i) (unhide H1) (unhide HD) (by omega) (by omega) (by omega)).mono ?_
    rintro e w2 ⟨b, qs, rfl, hh2, hp2, hs2, hf2, hb1, hb2⟩
    have hql : qs.length = m + 1 := by rw [hp2.length_eq, hl1]
    have H2 := hide hh2
    have HA2 : Hid (paceAt qs m = paceAt ps i) := hide ((hs2 m (Nat.le_refl _)).trans (unhide HA))
    have HP2 : Hid (qs.Perm ps) := hide (hp2.trans (unhide HPm))
    have Hb1 := hide hb1
    have Hb2 := hide hb2
    have F2 := hide ((unhide F1).trans hf2)
    clear hh2 hp2 hs2 hf2 hb1 hb2
    cases b
    · have HU := hide (unhide Hb2 rfl)
      go_wp2_with fail
      refine (up_any (j0 := i) (n := m) (unhide H2) (unhide HU) (by omega) (by omega) (by omega)).mono ?_
      rintro e w3 ⟨rfl, rs, hh3, hq3, hp3, hs3, hf3⟩
      have hrl : rs.length = m + 1 := by rw [hp3.length_eq, hql]
      have H3 := hide hh3
      have HE : Hid ((rs.take m ++ [paceAt ps i]).Perm ps) := hide (by rw [← unhide HA2, ← hs3 m (Nat.le_refl _), take_snoc_last hrl]; exact hp3.trans (unhide HP2))
      have HQ : Hid (HeapTo (rs.take m) (rs.take m).length) := hide (by rw [List.length_take, Nat.min_eq_left (by omega)]; exact hq3.take (Nat.le_refl _))
      have F3 := hide ((unhide F2).trans hf3)
      clear hh3 hq3 hp3 hs3 hf3
      go_wp2_with fail
      refine (popM_any (unhide H3) hrl).mono ?_
      rintro e w4 ⟨rfl, v4, hh4, ho4, hf4⟩
      have H4 := hide hh4
      have F4 := hide ((unhide F3).trans hf4)
      clear hh4 hf4
      go_wp2_with fail
      go_ret
      exact ⟨_, v4, rs.take m, rfl, unhide H4, unhide HQ, unhide HE, ho4, unhide F4⟩
    · have HE : Hid ((qs.take m ++ [paceAt ps i]).Perm ps) := hide (by rw [← unhide HA2, take_snoc_last hql]; exact unhide HP2)
      have HQ : Hid (HeapTo (qs.take m) (qs.take m).length) := hide (by rw [List.length_take, Nat.min_eq_left (by omega)]; exact (unhide Hb1 rfl).take (Nat.le_refl _))
      go_wp2_with fail
      refine (popM_any (unhide H2) hql).mono ?_
      rintro e w4 ⟨rfl, v4, hh4, ho4, hf4⟩
      have H4 := hide hh4
      have F4 := hide ((unhide F2).trans hf4)
      clear hh4 hf4
      go_wp2_with fail
      go_ret
      exact ⟨_, v4, qs.take m, rfl, unhide H4, unhide HQ, unhide HE, ho4, unhide F4⟩

end Go.Proofs.Ytekobedbjemdiaa
