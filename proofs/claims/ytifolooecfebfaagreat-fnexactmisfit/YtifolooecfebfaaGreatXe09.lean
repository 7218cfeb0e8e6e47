/- What the proof rests on, part 9: lists and numbers, how they lie in memory, and contracts of the calls. No condition but those that a theorem names. -/
import Derived.Test.YtifolooecfebfaaGreatXe01
import Derived.Test.YtifolooecfebfaaGreatXe04
import Derived.Deep.RegionHeld3
import Derived.Deep.DrawnRows
import Derived.BigRegion
import Derived.Deep.RegionLawGrows
import Derived.Deep.LoopGhost
import GoSem.Claim
import GoSem.ClaimJoined
import GoSem.ClaimMapViews
import Derived.JoinedTies
import Derived.KernelRfl
import Derived.RowKit
import Derived.WalkKit
import Derived.ProofKit
import Derived.OpenShut
import Derived.Outline
import Derived.Lib.QuietBelow
import Derived.Deep.QuietTactic
import Derived.BigQuiet
import Derived.Laws.OwnMore
import Derived.OwnWalk
import Derived.Maps.AppendAt
/- A contract of container/heap's down at the program's heap. Conditions: those that the theorem names. -/
namespace Go.Proofs.YtifolooecfebfaaGreat
open Go.ChangeShapes Go.WideShapes Go.ChangeAt Go.RowKit Go.Sort
set_option linter.unusedVariables false

/-- What down leaves: the first n are a heap where it answers true, else a heap but for i0. -/
def DownPost (n₀ bx : Nat) (v : Value) (w : World) (ps : List PaceV) (n i0 : Nat) (e : Ending) (w' : World) : Prop :=
  ∃ (b : Bool) (qs : List PaceV), e = .returned (.bool b) ∧ HeapIs n₀ bx v w' qs ∧ qs.Perm ps ∧ (∀ k, n ≤ k → paceAt qs k = paceAt ps k) ∧ Fr bx v.ownBlock w w' ∧ (b = true → HeapTo qs n) ∧ (b = false → UpTo qs n i0)
theorem down_end {n₀ bx : Nat} {v : Value} {w wr : World} {ps qs : List PaceV} {n i0 i : Nat} (hi : i0 ≤ i) (hh : HeapIs n₀ bx v wr qs) (hdn : DnTo qs n i0 i) (hp : qs.Perm ps) (hs : ∀ k, n ≤ k → paceAt qs k = paceAt ps k) (hf : Fr bx v.ownBlock w wr)
    (hd : ∀ k, 0 < k → k < n → (k - 1) / 2 = i → ltB (paceAt qs k) (paceAt qs i) = false) : DownPost n₀ bx v w ps n i0 (.returned (.bool (decide (i0 < i)))) wr := by
  refine ⟨_, qs, rfl, hh, hp, hs, hf, fun h => ?_, fun h => ?_⟩
  · have := of_decide_eq_true h
    exact hdn.moved (by omega) hd
  · have := of_decide_eq_false h
    obtain rfl : i = i0 := by omega
    exact hdn.still hd
theorem kid {k i : Nat} (h0 : 0 < k) (h : (k - 1) / 2 = i) : k = 2 * i + 1 ∨ k = 2 * i + 2 := by omega

set_option maxRecDepth 100000 in
set_option maxHeartbeats 4000000 in
theorem down_any {n₀ bx : Nat} {v : Value} {w : World} {ps : List PaceV} {n i0 : Nat} (h : HeapIs n₀ bx v w ps) (hu : DnTo ps n i0 i0) (hi0 : i0 ≤ n) (hn : n ≤ ps.length) (hl : ps.length ≤ 1000) :
    Calls Tryz.prog 263 #[.iface 201 (.pointer (some ⟨bx, 0, none⟩)), .int .i64 i0, .int .i64 n] w (DownPost n₀ bx v w ps n i0) := by
  have H := hide h
  have HU := hide hu
  have hm1 := m_less ⟨bx, 0, none⟩
  have hm2 := m_swap ⟨bx, 0, none⟩
  clear h hu
  go_enter Tryz.func263, Tryz.ntmps263
  go_wp2_with fail
  go_loopw [7] (fun q wr => ∃ (i : Nat) (qs : List PaceV), i0 ≤ i ∧ i ≤ n ∧ q = .int .i64 i ∧ HeapIs n₀ bx v wr qs ∧ DnTo qs n i0 i ∧ qs.Perm ps ∧ (∀ k, n ≤ k → paceAt qs k = paceAt ps k) ∧ Fr bx v.ownBlock w wr) (fun q _ => n - (intOf q).toNat)
  case atStart => exact ⟨i0, ps, Nat.le_refl _, hi0, rfl, unhide H, unhide HU, List.Perm.refl _, fun _ _ => rfl, Fr.refl _ _ _⟩
  case round =>
    obtain ⟨i, qs, hii, hin, rfl, hh, hdn, hperm, hsame, hfr⟩ := hrel
    have hql : qs.length = ps.length := hperm.length_eq
    have Hh := hide hh
    have Hdn := hide hdn
    have Hpe := hide hperm
    have Hsa := hide hsame
    have Hfr := hide hfr
    clear hh hdn hperm hsame hfr
    obtain ⟨j1, hj1⟩ : ∃ j1, j1 = 2 * i + 1 := ⟨_, rfl⟩
    obtain ⟨j2, hj2⟩ : ∃ j2, j2 = 2 * i + 2 := ⟨_, rfl⟩
    have e1 : 2 * (i : Int) + 1 = (j1 : Int) := by omega
    have e2 : (j1 : Int) + 1 = (j2 : Int) := by omega
    have Hj1 := hide hj1
    have Hj2 := hide hj2
    by_cases hn1 : n ≤ j1
    · have hg1 : (n : Int) ≤ (j1 : Int) := by omega
      clear hj1 hj2
      go_wp2_with fail
      go_ret
      exact down_end hii (unhide Hh) (unhide Hdn) (unhide Hpe) (unhide Hsa) (unhide Hfr) (fun k k0 kn kp => by have := kid k0 kp; have := unhide Hj1; omega)
    · have hg1 : ¬ (n : Int) ≤ (j1 : Int) := by omega
      have hg2 : ¬ (j1 : Int) < 0 := by omega
      have hil : i < qs.length := by omega
      have hjl : j1 < qs.length := by omega
      have hij1 : i < j1 := by omega
      by_cases hn2 : j2 < n
      · have hg3 : (j2 : Int) < (n : Int) := by omega
        have hkl : j2 < qs.length := by omega
        have hij2 : i < j2 := by omega
        clear hj1 hj2
        have HL := hide (less_any (unhide Hh) hkl hjl)
        cases hlt : ltB (paceAt qs j2) (paceAt qs j1)
        · have HM : Hid (∀ k, 0 < k → k < n → (k - 1) / 2 = i → ltB (paceAt qs k) (paceAt qs j1) = false) := hide (fun k k0 kn kp => by
            have e3 := unhide Hj1; have e4 := unhide Hj2
            rcases kid k0 kp with e | e
            · rw [show k = j1 by omega]; exact ltB_self _
            · rw [show k = j2 by omega]; exact hlt)
          have HP : Hid ((j1 - 1) / 2 = i) := hide (by have := unhide Hj1; omega)
          go_wp2_with fail
          refine (unhide HL).mono ?_
          rw [hlt]
          rintro e w1 ⟨rfl, hb1⟩
          have H1 := hide ((unhide Hh).later hb1)
          have F1 := hide ((unhide Hfr).trans (Fr.of_below hb1))
          clear hb1 hlt HL Hh Hfr
          have HL2 := hide (less_any (unhide H1) hjl hil)
          cases hlt2 : ltB (paceAt qs j1) (paceAt qs i)
          · go_wp2_with fail
            refine (unhide HL2).mono ?_
            rw [hlt2]
            rintro e w2 ⟨rfl, hb2⟩
            have H2 := hide ((unhide H1).later hb2)
            have F2 := hide ((unhide F1).trans (Fr.of_below hb2))
            clear hb2 HL2
            go_wp2_with fail
            go_ret
            exact down_end hii (unhide H2) (unhide Hdn) (unhide Hpe) (unhide Hsa) (unhide F2) (fun k k0 kn kp => ltB_le hlt2 (unhide HM k k0 kn kp))
          · go_wp2_with fail
            refine (unhide HL2).mono ?_
            rw [hlt2]
            rintro e w2 ⟨rfl, hb2⟩
            have H2 := hide ((unhide H1).later hb2)
            have F2 := hide ((unhide F1).trans (Fr.of_below hb2))
            clear hb2 HL2
            go_wp2_with fail
            refine (swap_any (unhide H2) hil hjl).mono ?_
            rintro e w3 ⟨rfl, hh3, hf3⟩
            have H3 := hide hh3
            have F3 := hide ((unhide F2).trans hf3)
            clear hh3 hf3
            have HS : Hid (DnTo (swp qs i j1) n i0 j1) := hide ((unhide Hdn).step hii (by omega) (unhide HP) (by omega) (by omega) hlt2 (unhide HM))
            have HA : Hid (∀ k, n ≤ k → paceAt (swp qs i j1) k = paceAt ps k) := hide (fun k hk => by rw [swp_at hil hjl, if_neg (by omega), if_neg (by omega)]; exact unhide Hsa k hk)
            go_wp2_with fail
            go_roundw
            case rel => exact ⟨j1, swp qs i j1, by omega, by omega, rfl, unhide H3, unhide HS, (swp_perm hil hjl).trans (unhide Hpe), unhide HA, unhide F3⟩
            case measure => simp [intOf]; omega
        · have HM : Hid (∀ k, 0 < k → k < n → (k - 1) / 2 = i → ltB (paceAt qs k) (paceAt qs j2) = false) := hide (fun k k0 kn kp => by
            have e3 := unhide Hj1; have e4 := unhide Hj2
            rcases kid k0 kp with e | e
            · rw [show k = j1 by omega]; exact ltB_not hlt
            · rw [show k = j2 by omega]; exact ltB_self _)
          have HP : Hid ((j2 - 1) / 2 = i) := hide (by have := unhide Hj2; omega)
          go_wp2_with fail
          refine (unhide HL).mono ?_
          rw [hlt]
          rintro e w1 ⟨rfl, hb1⟩
          have H1 := hide ((unhide Hh).later hb1)
          have F1 := hide ((unhide Hfr).trans (Fr.of_below hb1))
          clear hb1 hlt HL Hh Hfr
          have HL2 := hide (less_any (unhide H1) hkl hil)
          cases hlt2 : ltB (paceAt qs j2) (paceAt qs i)
          · go_wp2_with fail
            refine (unhide HL2).mono ?_
            rw [hlt2]
            rintro e w2 ⟨rfl, hb2⟩
            have H2 := hide ((unhide H1).later hb2)
            have F2 := hide ((unhide F1).trans (Fr.of_below hb2))
            clear hb2 HL2
            go_wp2_with fail
            go_ret
            exact down_end hii (unhide H2) (unhide Hdn) (unhide Hpe) (unhide Hsa) (unhide F2) (fun k k0 kn kp => ltB_le hlt2 (unhide HM k k0 kn kp))
          · go_wp2_with fail
            refine (unhide HL2).mono ?_
            rw [hlt2]
            rintro e w2 ⟨rfl, hb2⟩
            have H2 := hide ((unhide H1).later hb2)
            have F2 := hide ((unhide F1).trans (Fr.of_below hb2))
            clear hb2 HL2
            go_wp2_with fail
            refine (swap_any (unhide H2) hil hkl).mono ?_
            rintro e w3 ⟨rfl, hh3, hf3⟩
            have H3 := hide hh3
            have F3 := hide ((unhide F2).trans hf3)
            clear hh3 hf3
            have HS : Hid (DnTo (swp qs i j2) n i0 j2) := hide ((unhide Hdn).step hii (by omega) (unhide HP) (by omega) (by omega) hlt2 (unhide HM))
            have HA : Hid (∀ k, n ≤ k → paceAt (swp qs i j2) k = paceAt ps k) := hide (fun k hk => by rw [swp_at hil hkl, if_neg (by omega), if_neg (by omega)]; exact unhide Hsa k hk)
            go_wp2_with fail
            go_roundw
            case rel => exact ⟨j2, swp qs i j2, by omega, by omega, rfl, unhide H3, unhide HS, (swp_perm hil hkl).trans (unhide Hpe), unhide HA, unhide F3⟩
            case measure => simp [intOf]; omega
      · have hg3 : ¬ (j2 : Int) < (n : Int) := by omega
        have HM : Hid (∀ k, 0 < k → k < n → (k - 1) / 2 = i → ltB (paceAt qs k) (paceAt qs j1) = false) := hide (fun k k0 kn kp => by
            have e3 := unhide Hj1; have e4 := unhide Hj2
            rcases kid k0 kp with e | e
            · rw [show k = j1 by omega]; exact ltB_self _
            · omega)
        have HP : Hid ((j1 - 1) / 2 = i) := hide (by have := unhide Hj1; omega)
        clear hj1 hj2
        have HL2 := hide (less_any (unhide Hh) hjl hil)
        cases hlt2 : ltB (paceAt qs j1) (paceAt qs i)
        · go_wp2_with fail
          refine (unhide HL2).mono ?_
          rw [hlt2]
          rintro e w2 ⟨rfl, hb2⟩
          have H2 := hide ((unhide Hh).later hb2)
          have F2 := hide ((unhide Hfr).trans (Fr.of_below hb2))
          clear hb2 HL2
          go_wp2_with fail
          go_ret
          exact down_end hii (unhide H2) (unhide Hdn) (unhide Hpe) (unhide Hsa) (unhide F2) (fun k k0 kn kp => ltB_le hlt2 (unhide HM k k0 kn kp))
        · go_wp2_with fail
          refine (unhide HL2).mono ?_
          rw [hlt2]
          rintro e w2 ⟨rfl, hb2⟩
          have H2 := hide ((unhide Hh).later hb2)
          have F2 := hide ((unhide Hfr).trans (Fr.of_below hb2))
          clear hb2 HL2
          go_wp2_with fail
          refine (swap_any (unhide H2) hil hjl).mono ?_
          rintro e w3 ⟨rfl, hh3, hf3⟩
          have H3 := hide hh3
          have F3 := hide ((unhide F2).trans hf3)
          clear hh3 hf3
          have HS : Hid (DnTo (swp qs i j1) n i0 j1) := hide ((unhide Hdn).step hii (by omega) (unhide HP) (by omega) (by omega) hlt2 (unhide HM))
          have HA : Hid (∀ k, n ≤ k → paceAt (swp qs i j1) k = paceAt ps k) := hide (fun k hk => by rw [swp_at hil hjl, if_neg (by omega), if_neg (by omega)]; exact unhide Hsa k hk)
          go_wp2_with fail
          go_roundw
          case rel => exact ⟨j1, swp qs i j1, by omega, by omega, rfl, unhide H3, unhide HS, (swp_perm hil hjl).trans (unhide Hpe), unhide HA, unhide F3⟩
          case measure => simp [intOf]; omega

end Go.Proofs.YtifolooecfebfaaGreat

/- Contracts of container/heap's Push, Pop and Remove at the program's heap. Conditions: those that each theorem names. -/
namespace Go.Proofs.YtifolooecfebfaaGreat
open Go.ChangeShapes Go.WideShapes Go.ChangeAt Go.RowKit Go.Sort
set_option linter.unusedVariables false

theorem HeapTo.take {ps : List PaceV} {n m : Nat} (h : HeapTo ps n) (hm : n ≤ m) : HeapTo (ps.take m) n := fun k k0 kn => by
  rw [paceAt_take (by omega), paceAt_take (by omega)]; exact h k k0 kn
/-- All that is asked of the memory: nothing below n₀ has turned. -/
theorem HeapIs.below {n₀ bx : Nat} {v v' : Value} {w w' : World} {ps qs : List PaceV} (h : HeapIs n₀ bx v w ps) (hf : Fr bx v.ownBlock w w') (hx : n₀ ≤ bx) (hn : n₀ ≤ w.heap.size) : Below n₀ w w' :=
  hf.below hx (fun k e => (h.row.lt e).1) hn

set_option maxRecDepth 100000 in
set_option maxHeartbeats 2000000 in
theorem heapPush_any {n₀ bx : Nat} {v : Value} {w : World} {ps : List PaceV} (f z : Int) (h : HeapIs n₀ bx v w ps) (hp : HeapTo ps ps.length) (hl : ps.length ≤ 900) (hx : n₀ ≤ bx) (hn : n₀ ≤ w.heap.size) :
    Calls Tryz.prog 217 #[.iface 201 (.pointer (some ⟨bx, 0, none⟩)), .iface 129 (.agg #[.int .i64 f, .int .i64 z])] w fun e w' => e = .returned (.tuple #[]) ∧ ∃ v' qs, HeapIs n₀ bx v' w' qs ∧ HeapTo qs qs.length ∧ qs.Perm (ps ++ [(f, z)]) ∧ Below n₀ w w' := by
  have H := hide h
  have HP := hide hp
  have hm1 := m_push ⟨bx, 0, none⟩
  have hm2 := m_len ⟨bx, 0, none⟩
  clear h hp
  go_enter Tryz.func217, Tryz.ntmps217
  go_wp2_with fail
  refine (pushM_any f z (unhide H) (by omega) hn).mono ?_
  rintro e w1 ⟨rfl, v1, hh1, hat, hf1⟩
  have H1 := hide hh1
  have B1 := hide ((unhide H).below (v' := v1) (qs := ps) hf1 hx hn)
  have hz1 := hf1.size
  clear hh1 hat hf1
  go_wp2_with fail
  refine (len_any (unhide H1)).mono ?_
  rintro e w' ⟨rfl, h2⟩
  subst w'
  have hlen : (ps ++ [(f, z)]).length = ps.length + 1 := by simp
  rw [hlen]
  go_wp2_with fail
  refine (up_any (j0 := ps.length) (n := ps.length + 1) (unhide H1) ((unhide HP).push (f, z)) (by omega) (by rw [hlen]; exact Nat.le_refl _) (by rw [hlen]; omega)).mono ?_
  rintro e w2 ⟨rfl, qs, hh2, hq, hpe, _, hf2⟩
  have hql : qs.length = ps.length + 1 := by rw [hpe.length_eq, hlen]
  have H2 := hide hh2
  have HQ := hide hq
  have HE := hide hpe
  have B2 := hide ((unhide B1).trans ((unhide H1).below (v' := v1) (qs := ps) hf2 hx (by omega)))
  clear hh2 hq hpe hf2
  go_wp2_with fail
  go_end0
  exact ⟨rfl, v1, qs, unhide H2, by rw [hql]; exact unhide HQ, unhide HE, unhide B2⟩

theorem DnTo.none {ps : List PaceV} {i0 i : Nat} : DnTo ps 0 i0 i := ⟨fun k k0 kn => by omega, fun k k0 kn => by omega⟩
theorem DownPost.zero {n₀ bx : Nat} {v : Value} {w : World} {ps : List PaceV} {n : Nat} {e : Ending} {w' : World} (h : DownPost n₀ bx v w ps n 0 e w') :
    ∃ (b : Bool) (qs : List PaceV), e = .returned (.bool b) ∧ HeapIs n₀ bx v w' qs ∧ qs.Perm ps ∧ (∀ k, n ≤ k → paceAt qs k = paceAt ps k) ∧ Fr bx v.ownBlock w w' ∧ HeapTo qs n := by
  obtain ⟨b, qs, he, hh, hp, hs, hf, h1, h2⟩ := h
  refine ⟨b, qs, he, hh, hp, hs, hf, ?_⟩
  cases b
  · exact (h2 rfl).done (.inl rfl)
  · exact h1 rfl

set_option maxRecDepth 100000 in
set_option maxHeartbeats 2000000 in
theorem heapPop_any {n₀ bx : Nat} {v : Value} {w : World} {ps : List PaceV} {m : Nat} (h : HeapIs n₀ bx v w ps) (hp : HeapTo ps ps.length) (hm : ps.length = m + 1) (hl : ps.length ≤ 900) :
    Calls Tryz.prog 238 #[.iface 201 (.pointer (some ⟨bx, 0, none⟩))] w fun e w' => e = .returned (.iface 129 (.agg #[.int .i64 (paceAt ps 0).1, .int .i64 (paceAt ps 0).2])) ∧ ∃ v' qs, HeapIs n₀ bx v' w' qs ∧ HeapTo qs qs.length ∧ (qs ++ [paceAt ps 0]).Perm ps ∧ v'.ownBlock = v.ownBlock ∧ Fr bx v.ownBlock w w' := by
  have H := hide h
  rw [hm] at hp
  have HP := hide hp
  have hm1 := m_pop ⟨bx, 0, none⟩
  have hm2 := m_len ⟨bx, 0, none⟩
  have hm3 := m_swap ⟨bx, 0, none⟩
  clear h hp
  go_enter Tryz.func238, Tryz.ntmps238
  go_wp2_with fail
  refine (len_any (unhide H)).mono ?_
  rw [hm]
  rintro e w' ⟨rfl, h2⟩
  subst w'
  go_wp2_with fail
  refine (swap_any (i := 0) (j := m) (unhide H) (by omega) (by omega)).mono ?_
  rintro e w1 ⟨rfl, hh1, hf1⟩
  have H1 := hide hh1
  have F1 := hide hf1
  have hl1 : (swp ps 0 m).length = m + 1 := by rw [swp_len]; exact hm
  have HD : Hid (DnTo (swp ps 0 m) m 0 0) := hide (by
    by_cases e : m = 0
    · subst e; exact DnTo.none
    · exact (unhide HP).swap hm (by omega))
  have HA : Hid (paceAt (swp ps 0 m) m = paceAt ps 0) := hide (by rw [swp_at (by omega) (by omega), if_pos rfl])
  have HPm : Hid ((swp ps 0 m).Perm ps) := hide (swp_perm (by omega) (by omega))
  clear hh1 hf1
  go_wp2_with fail
  refine (down_any (n := m) (i0 := 0) (unhide H1) (unhide HD) (by omega) (by omega) (by omega)).mono ?_
  intro e w2 hpost
  obtain ⟨b, qs, rfl, hh2, hp2, hs2, hf2, hq2⟩ := hpost.zero
  have hql : qs.length = m + 1 := by rw [hp2.length_eq, hl1]
  have H2 := hide hh2
  have HE : Hid ((qs.take m ++ [paceAt ps 0]).Perm ps) := hide (by rw [← unhide HA, ← hs2 m (Nat.le_refl _), take_snoc_last hql]; exact hp2.trans (unhide HPm))
  have HV : Hid (paceAt qs m = paceAt ps 0) := hide ((hs2 m (Nat.le_refl _)).trans (unhide HA))
  have HQ : Hid (HeapTo (qs.take m) (qs.take m).length) := hide (by rw [List.length_take, Nat.min_eq_left (by omega)]; exact hq2.take (Nat.le_refl _))
  have F2 := hide ((unhide F1).trans hf2)
  clear hpost hh2 hp2 hs2 hf2 hq2
  go_wp2_with fail
  refine (popM_any (unhide H2) hql).mono ?_
  rw [unhide HV]
  rintro e w3 ⟨rfl, v3, hh3, ho3, hf3⟩
  have H3 := hide hh3
  have F3 := hide ((unhide F2).trans hf3)
  clear hh3 hf3
  go_wp2_with fail
  go_ret
  exact ⟨rfl, v3, qs.take m, unhide H3, unhide HQ, unhide HE, ho3, unhide F3⟩

end Go.Proofs.YtifolooecfebfaaGreat

/- Entries appended to a row of the call's own; contracts of the copies, of the heap that is made of a queue, and of the heap that is emptied from its top. Conditions: those that each theorem names. -/
namespace Go.Proofs.YtifolooecfebfaaGreat
open Go.ChangeShapes Go.WideShapes Go.ChangeAt Go.RowKit Go.Sort
set_option linter.unusedVariables false

theorem addr_at (g o i : Nat) : (⟨g, o, none⟩ : Addr).add i = ⟨g, o + i, none⟩ := by unfold Addr.add; split <;> simp_all
theorem run_append_zero {w : World} {base t ty e size n : Nat} {i : TypeInfo} (ht : Tryz.prog.underlying t = some (.slice e)) (hi : Tryz.prog.info? e = some i) {v : Value} {xs : List Value} (hown : w.ownsRow base e size v n xs) (a : Option Addr) (c : Nat) :
    (Builtin.append_ #[t, t] ty #[v, .slice a 0 c]).run Tryz.prog w = .ok v w := by
  rcases hown.2 with ⟨rfl, rfl⟩ | ⟨g, cap, cur, rfl, _, _, hnc, _⟩
  · cases a <;> simp [Builtin.append_, run_underlying ht, sizeOf, typeInfo, hi, Builtin.lenOf, Builtin.firstCells, loadCells, loadCellsFrom]
  · cases a <;> simp [Builtin.append_, run_underlying ht, sizeOf, typeInfo, hi, Builtin.lenOf, Builtin.firstCells, hnc, storeCells, loadCells, loadCellsFrom]
theorem cells_of {w : World} {b off : Nat} {qs : List PaceV} (h : ∀ k, k < qs.length → w.cell? ⟨b, off + k * 2, none⟩ = some (.int .i64 (paceAt qs k).1) ∧ w.cell? ⟨b, off + k * 2 + 1, none⟩ = some (.int .i64 (paceAt qs k).2)) :
    ∀ (j : Nat) (u : Value), (pcells qs)[j]? = some u → w.cell? ((⟨b, off, none⟩ : Addr).add j) = some u := fun j u hj => by
  have hlt : j < qs.length * 2 := by
    rcases Nat.lt_or_ge j (qs.length * 2) with h | h
    · exact h
    · rw [List.getElem?_eq_none (by rw [pcells_len]; exact h)] at hj; cases hj
  rw [addr_at]
  have hp := pairs_get (f := fun p : PaceV => Value.int .i64 p.1) (g := fun p : PaceV => Value.int .i64 p.2) qs (j / 2) (by omega)
  have e : paceAt qs (j / 2) = qs[j / 2]'(by omega) := by unfold paceAt; simp [List.getD, (by omega : j / 2 < qs.length)]
  obtain ⟨h1, h2⟩ := h (j / 2) (by omega)
  rw [e] at h1 h2
  rcases Nat.mod_two_eq_zero_or_one j with e2 | e2
  · rw [show off + j = off + j / 2 * 2 by omega, h1, ← hj]
    conv => rhs; rw [show j = j / 2 * 2 by omega]
    exact hp.1.symm
  · rw [show off + j = off + j / 2 * 2 + 1 by omega, h2, ← hj]
    conv => rhs; rw [show j = j / 2 * 2 + 1 by omega]
    exact hp.2.symm
theorem one_cells (qs : List PaceV) : ∀ u ∈ pcells qs, u.oneCell' = true := fun u hu => by
  unfold pcells at hu
  obtain ⟨p, _, hp⟩ := List.mem_flatMap.1 hu
  simp only [List.mem_cons, List.not_mem_nil, or_false] at hp
  rcases hp with rfl | rfl <;> rfl
/-- Entries that read as qs, appended to a row of the call's own. -/
theorem run_append_ents {w : World} {base t ty : Nat} (ht : Tryz.prog.underlying t = some (.slice 129)) {v x : Value} {ps qs : List PaceV} (hown : EntsAt base w v ps) (hx : IsPaces w x qs) (hb : ps.length + qs.length ≤ 4000) (hbase : base ≤ w.heap.size) :
    ∃ v' w', (Builtin.append_ #[t, t] ty #[v, x]).run Tryz.prog w = .ok v' w' ∧ EntsAt base w' v' (ps ++ qs) ∧ w.grownBy w' v.ownBlock ∧ (v'.ownBlock = v.ownBlock ∨ v'.ownBlock = some w.heap.size) := by
  obtain ⟨i0, hi, hz0, hz1, hz2⟩ := info_parts infoEntry
  obtain ⟨a, c, rfl, hc, hm, hr⟩ := hx
  by_cases h0 : qs = []
  · subst h0
    refine ⟨v, w, run_append_zero ht hi hown a c, by simpa using hown, grown_refl _ _, .inl rfl⟩
  · rcases hr with hr | ⟨b, off, rfl, hlt, hcl⟩
    · exact absurd hr h0
    · obtain ⟨v', w', hr, h2, h3, _, h5⟩ := run_append_own_at (P := Tryz.prog) w base t ty 129 i0 (.agg #[.int .i64 0, .int .i64 0]) 2 16 ht hi hz0 hz1 hz2 rfl (by decide) v ps.length _ hown ⟨b, off, none⟩ qs.length c (pcells qs) (pcells_len qs)
        (cells_of hcl) (one_cells qs) (by simp only [maxLen]; omega) (by omega) hbase
      refine ⟨v', w', hr, ?_, h3, h5⟩
      unfold EntsAt
      rw [pcells_append, List.length_append]
      exact h2
/-- At a plain region's list. -/
theorem wpList_append_ents {w : World} {ops : Array Oper} {rest : List Oper} {o : Oper} {a : Act} {Q : Exit → Act → World → Prop} (hgd : o.guard = none) (s x : Operand) (t : TypeId) (ht : Tryz.prog.underlying t = some (.slice 129))
    (ho : o.op = .call { callee := .builtin .append, args := #[s, x], argTypes := #[t, t] }) (base : Nat) (v u : Value) (ps qs : List PaceV) (hs : a.eval s = v) (hx : a.eval x = u) (hown : EntsAt base w v ps) (hr : IsPaces w u qs)
    (hb : ps.length + qs.length ≤ 4000) (hbase : base ≤ w.heap.size)
    (h : ∀ v' w', EntsAt base w' v' (ps ++ qs) → w.grownBy w' v.ownBlock → (v'.ownBlock = v.ownBlock ∨ v'.ownBlock = some w.heap.size) → wpList Tryz.prog ops Q rest (a.put o.dst v') w') :
    wpList Tryz.prog ops Q (o :: rest) a w := by
  refine wpList_plain hgd fun K hK => ?_
  obtain ⟨v', w', hrun, h2, h3, h5⟩ := run_append_ents (ty := o.type) ht hown hr hb hbase
  unfold Oper.wp execOp
  simp only [ho, resolve, invoke, builtin, Sem.run_bind, Sem.run_pure, Result.andThen_ok, List.map_toArray, List.map_cons, List.map_nil, hs, hx, hrun]
  exact hK _ _ (h v' w' h2 h3 h5)
/-- At a step of a region that draws its order. -/
theorem step_append_ents {ops : Array Oper} {o : Oper} {a : Act} {w : World} {K : Act → World → Prop} {Q : Exit → Act → World → Prop} {E : Prop} (hgd : o.guard = none) (s x : Operand) (t : TypeId) (ht : Tryz.prog.underlying t = some (.slice 129))
    (ho : o.op = .call { callee := .builtin .append, args := #[s, x], argTypes := #[t, t] }) (base : Nat) (v u : Value) (ps qs : List PaceV) (hs : a.eval s = v) (hx : a.eval x = u) (hown : EntsAt base w v ps) (hr : IsPaces w u qs)
    (hb : ps.length + qs.length ≤ 4000) (hbase : base ≤ w.heap.size)
    (h : ∀ v' w', EntsAt base w' v' (ps ++ qs) → w.grownBy w' v.ownBlock → (v'.ownBlock = v.ownBlock ∨ v'.ownBlock = some w.heap.size) → K (a.put o.dst v') w') :
    if Region.wanted o (yielded ops a.tmps) = true then Oper.wp Tryz.prog o a w K Q else E := by
  have hw : Region.wanted o (yielded ops a.tmps) = true := by simp [Region.wanted, hgd]
  rw [if_pos hw]
  obtain ⟨v', w', hrun, h2, h3, h5⟩ := run_append_ents (ty := o.type) ht hown hr hb hbase
  unfold Oper.wp execOp
  simp only [ho, resolve, invoke, builtin, Sem.run_bind, Sem.run_pure, Result.andThen_ok, List.map_toArray, List.map_cons, List.map_nil, hs, hx, hrun]
  exact h v' w' h2 h3 h5
theorem ents_empty {B g : Nat} {w : World} (hg : g = w.heap.size) (hB : B ≤ g) : EntsAt B (w.alloc (.cells #[] 129)) (.slice (some ⟨g, 0, none⟩) 0 0) [] := by
  subst hg
  exact ⟨by simp [pcells], .inr ⟨_, 0, #[], rfl, hB, heap_alloc_new w _, Nat.le_refl _, Nat.zero_le _, by simp, by simp [pcells]⟩⟩
theorem ents_one {w : World} {f z : Int} {g c : Nat} (hg : g = w.heap.size) (hc : 1 ≤ c) (hc2 : c ≤ 4000) : IsPaces (w.alloc (.cells #[.int .i64 f, .int .i64 z] 129)) (.slice (some ⟨g, 0, none⟩) 1 c) [(f, z)] := by
  subst hg
  refine ⟨_, c, rfl, hc, by omega, .inr ⟨_, 0, rfl, by simp, fun k hk => ?_⟩⟩
  obtain rfl : k = 0 := by simpa using hk
  simp [paceAt]

set_option maxHeartbeats 1000000 in
theorem copyOf_any {w : World} {v : Value} {ps : List PaceV} (h : IsPaces w v ps) (hl : ps.length ≤ 1000) :
    Calls Tryz.prog 219 #[v] w fun e w' => ∃ v', e = .returned v' ∧ EntsAt w.heap.size w' v' ps ∧ Below w.heap.size w w' := by
  have Hv := hide h
  obtain ⟨a, cap, rfl, hc, hm, hr⟩ := h
  clear hr
  go_enter Tryz.func219, Tryz.ntmps219
  go_wp2_with (at_builtin; refine wpList_append_ents rfl (.tmp 3) (.tmp 4) 47 Tryz.underlying47 rfl w.heap.size _ _ [] ps rfl rfl (ents_empty rfl (Nat.le_refl _)) ((unhide Hv).below ((Below.refl _ _).alloc (Nat.le_refl _) _)) (by simp; omega) (by simp) ?_; intro v' w1 hown hgrow hat)
  go_ret
  refine ⟨v', rfl, by simpa using hown, ((Below.refl _ _).alloc (Nat.le_refl _) _).trans ((Below.refl _ _).grown hgrow (by simp) (fun k e => ?_))⟩
  cases e; exact Nat.le_refl _

set_option maxHeartbeats 1000000 in
theorem l6Copy_any {w : World} {v : Value} {ps : List PaceV} (h : IsPaces w v ps) (hl : ps.length ≤ 1000) :
    Calls Tryz.prog 177 #[v] w fun e w' => ∃ v', e = .returned v' ∧ EntsAt w.heap.size w' v' ps ∧ Below w.heap.size w w' := by
  have Hv := hide h
  obtain ⟨a, cap, rfl, hc, hm, hr⟩ := h
  clear hr
  go_enter Tryz.func177, Tryz.ntmps177
  go_wp2_with (at_builtin; refine wpList_append_ents rfl (.tmp 3) (.tmp 4) 47 Tryz.underlying47 rfl w.heap.size _ _ [] ps rfl rfl (ents_empty rfl (Nat.le_refl _)) ((unhide Hv).below ((Below.refl _ _).alloc (Nat.le_refl _) _)) (by simp; omega) (by simp) ?_; intro v' w1 hown hgrow hat)
  go_ret
  refine ⟨v', rfl, by simpa using hown, ((Below.refl _ _).alloc (Nat.le_refl _) _).trans ((Below.refl _ _).grown hgrow (by simp) (fun k e => ?_))⟩
  cases e; exact Nat.le_refl _

set_option maxHeartbeats 1000000 in
theorem heapOf_any {w : World} {v : Value} {ps : List PaceV} (h : IsPaces w v ps) (hl : ps.length ≤ 1000) :
    Calls Tryz.prog 216 #[v] w fun e w' => ∃ bx v', e = .returned (.pointer (some ⟨bx, 0, none⟩)) ∧ w.heap.size ≤ bx ∧ HeapIs w.heap.size bx v' w' ps ∧ Below w.heap.size w w' := by
  have Hv := hide h
  obtain ⟨a, cap, rfl, hc, hm, hr⟩ := h
  clear hr
  go_enter Tryz.func216, Tryz.ntmps216
  go_wp2_with fail
  refine (copyOf_any (unhide Hv) hl).mono ?_
  rintro e w1 ⟨v1, rfl, hi1, hb1⟩
  obtain ⟨a1, cap1, rfl⟩ := hi1.shape
  have H1 := hide hi1
  have B1 := hide hb1
  have hz1 := hb1.size
  clear hi1 hb1
  go_wp2_with fail
  go_ret
  refine ⟨w1.heap.size, .slice a1 ps.length cap1, rfl, hz1, ⟨by simp, by simp, by simp, (unhide H1).later ((Below.refl _ _).alloc (Nat.le_refl _) _), fun e => ?_⟩, (unhide B1).alloc hz1 _⟩
  have := (unhide H1).lt e
  omega

end Go.Proofs.YtifolooecfebfaaGreat

/- A contract of the heap that is emptied from its top: a rising list of all that was there, in memory of its own. Conditions: those that the theorem names. -/
namespace Go.Proofs.YtifolooecfebfaaGreat
open Go.ChangeShapes Go.WideShapes Go.ChangeAt Go.RowKit Go.Sort
set_option linter.unusedVariables false

theorem empt_step {ps qs hs hs' : List PaceV} (hr : Ris qs) (hle : ∀ x ∈ qs, ∀ y ∈ hs, ltB y x = false) (hh : HeapTo hs hs.length) (hl : 0 < hs.length) (hp : (qs ++ hs).Perm ps) (hp' : (hs' ++ [paceAt hs 0]).Perm hs) :
    Ris (qs ++ [paceAt hs 0]) ∧ (∀ x ∈ qs ++ [paceAt hs 0], ∀ y ∈ hs', ltB y x = false) ∧ ((qs ++ [paceAt hs 0]) ++ hs').Perm ps := by
  have hsub : ∀ y ∈ hs', y ∈ hs := fun y hy => hp'.subset (List.mem_append_left _ hy)
  refine ⟨ris_snoc hr (fun y hy => hle y hy _ (paceAt_mem hl)), fun x hx y hy => ?_, ?_⟩
  · rcases List.mem_append.1 hx with hx | hx
    · exact hle x hx y (hsub y hy)
    · obtain rfl : x = paceAt hs 0 := by simpa using hx
      obtain ⟨k, hk, rfl⟩ := mem_paceAt (hsub y hy)
      exact hh.least k hk
  · rw [List.append_assoc]
    exact ((List.perm_append_comm (l₁ := [paceAt hs 0]) (l₂ := hs')).trans hp').append_left qs |>.trans hp

set_option maxRecDepth 100000 in
set_option maxHeartbeats 4000000 in
theorem emptied_any {n₀ bx : Nat} {v : Value} {w : World} {ps : List PaceV} (h : HeapIs n₀ bx v w ps) (hp : HeapTo ps ps.length) (hl : ps.length ≤ 900) (hx : n₀ ≤ bx) (hn : n₀ ≤ w.heap.size) :
    Calls Tryz.prog 218 #[.pointer (some ⟨bx, 0, none⟩)] w fun e w' => ∃ v' qs, e = .returned v' ∧ EntsAt w.heap.size w' v' qs ∧ Ris qs ∧ qs.Perm ps ∧ Below n₀ w w' := by
  have H := hide h
  have HP := hide hp
  have hbx := h.lt
  have HO : Hid (∀ k, v.ownBlock = some k → n₀ ≤ k ∧ k < w.heap.size) := hide (fun k e => h.row.lt e)
  clear h hp
  go_enter Tryz.func218, Tryz.ntmps218
  go_wp2_with fail
  go_loopg [3] ps.length (fun gg q wr => ∃ (vh : Value) (qs hs : List PaceV), hs.length ≤ gg ∧ EntsAt w.heap.size wr q qs ∧ HeapIs n₀ bx vh wr hs ∧ HeapTo hs hs.length ∧ Ris qs ∧ (∀ x ∈ qs, ∀ y ∈ hs, ltB y x = false) ∧ (qs ++ hs).Perm ps ∧ vh.ownBlock = v.ownBlock ∧ Below n₀ w wr)
  case atStart => exact ⟨v, [], ps, Nat.le_refl _, ents_empty rfl (Nat.le_refl _), (unhide H).later ((Below.refl _ _).alloc (Nat.le_refl _) _), unhide HP, List.Pairwise.nil, fun _ hx => (by cases hx), List.Perm.refl _, rfl, (Below.refl _ _).alloc hn _⟩
  case round =>
    obtain ⟨vh, qs, hs, hgg, hq, hh, hto, hris, hle, hperm, hob, hbel⟩ := hrel
    have hlen : qs.length + hs.length = ps.length := by have := hperm.length_eq; simpa using this
    obtain ⟨qa, qcap, rfl⟩ := hq.shape
    have Hq := hide hq
    have Hh := hide hh
    have Hto := hide hto
    have Hris := hide hris
    have Hle := hide hle
    have Hpe := hide hperm
    have Hob := hide hob
    have Hbel := hide hbel
    have hsz := hbel.size
    clear hq hh hto hris hle hperm hob hbel
    by_cases h0 : hs.length = 0
    · have hz : ¬ (0 : Int) < (hs.length : Int) := by omega
      go_wp2_with fail
      refine (len_any (unhide Hh)).mono ?_
      rintro e w' ⟨rfl, h2⟩
      subst w'
      go_wp2_with fail
      go_ret
      obtain rfl : hs = [] := List.eq_nil_of_length_eq_zero h0
      exact ⟨_, qs, rfl, unhide Hq, unhide Hris, by have := unhide Hpe; simpa using this, unhide Hbel⟩
    · obtain ⟨m, hm⟩ : ∃ m, hs.length = m + 1 := ⟨hs.length - 1, by omega⟩
      have hz : (0 : Int) < (hs.length : Int) := by omega
      go_wp2_with fail
      refine (len_any (unhide Hh)).mono ?_
      rintro e w' ⟨rfl, h2⟩
      subst w'
      go_wp2_with fail
      refine (heapPop_any (unhide Hh) (unhide Hto) hm (by omega)).mono ?_
      rintro e w1 ⟨rfl, v1, hs', hh1, hto1, hpe1, hob1, hf1⟩
      obtain ⟨s1, s2, s3⟩ := empt_step (unhide Hris) (unhide Hle) (unhide Hto) (by omega) (unhide Hpe) hpe1
      have hlen' : hs'.length + 1 = hs.length := by have := hpe1.length_eq; simpa using this
      generalize paceAt hs 0 = p at *
      obtain ⟨f, z⟩ := p
      have hta := assert_ent f z
      have S1 := hide s1
      have S2 := hide s2
      have S3 := hide s3
      have H1 := hide hh1
      have T1 := hide hto1
      have O1 : Hid (v1.ownBlock = v.ownBlock) := hide (hob1.trans (unhide Hob))
      have Q1 : Hid (EntsAt w.heap.size w1 (.slice qa qs.length qcap) qs) := hide ((unhide Hq).fr hf1 (fun e => by have := (unhide Hq).lt e; omega) (fun k e e2 => by have h8 := (unhide Hq).lt e; have h9 := unhide HO k ((unhide Hob).symm.trans e2); omega))
      have hz1 := hf1.size
      have B1 : Hid (Below n₀ w w1) := hide ((unhide Hbel).trans ((unhide Hh).below (v' := v1) (qs := hs) hf1 hx (by omega)))
      clear s1 s2 s3 hh1 hto1 hpe1 hob1 hf1 Hh Hto Hris Hle Hpe Hob Hbel Hq
      go_wp2_with (at_builtin; refine wpList_append_ents rfl (.tmp 8) (.tmp 13) 47 Tryz.underlying47 rfl w.heap.size _ _ qs [(f, z)] rfl rfl ((unhide Q1).later ((Below.refl _ _).alloc (Nat.le_refl _) _)) (ents_one rfl (Nat.le_refl _) (by omega)) (by simp; omega) (by simp; omega) ?_; intro v' w2 hown hgrow hat)
      have hb0 : Below w1.heap.size w1 (w1.alloc (.cells #[.int .i64 f, .int .i64 z] 129)) := (Below.refl _ _).alloc (Nat.le_refl _) _
      have hq0 : ∀ k, (Value.slice qa qs.length qcap).ownBlock = some k → w.heap.size ≤ k := fun k e => ((unhide Q1).lt e).1
      have hw2 : Below w.heap.size (w1.alloc (.cells #[.int .i64 f, .int .i64 z] 129)) w2 := (Below.refl _ _).grown hgrow (by simp; omega) (fun k e => hq0 k e)
      have hh2 : HeapIs n₀ bx v1 w2 hs' := by
        have h3 := (unhide H1).later hb0
        have hk := hw2.block bx hbx
        refine ⟨(World.cell?_of_block (a := ⟨bx, 0, none⟩) hk).trans h3.cell, (World.frozen?_of_block (a := ⟨bx, 0, none⟩) hk).trans h3.free, Nat.lt_of_lt_of_le h3.lt hw2.size, h3.row.same (fun k e => hw2.block k ?_), h3.off⟩
        exact (unhide HO k ((unhide O1).symm.trans e)).2
      have H2 := hide hh2
      have N2 := hide hown
      have B2 : Hid (Below n₀ w w2) := hide ((unhide B1).trans ((hb0.mono (by omega)).trans (hw2.mono hn)))
      clear hown hgrow hat hb0 hw2 hh2 hq0
      go_roundg (m)
      case measure => omega
      case rel => exact ⟨v1, qs ++ [(f, z)], hs', by omega, unhide N2, unhide H2, unhide T1, unhide S1, unhide S2, unhide S3, unhide O1, unhide B2⟩

end Go.Proofs.YtifolooecfebfaaGreat

/- Contracts of the program's Queued and Unqueued: each answers what the lists say, in memory of its own, and writes into no memory that was there. Condition: the slice can be read. -/
namespace Go.Proofs.YtifolooecfebfaaGreat
open Go.ChangeShapes Go.WideShapes Go.ChangeAt Go.RowKit Go.Sort
set_option linter.unusedVariables false

/-- A queue and a bool, handed back; the queue lies in blocks from n₀ on. -/
def GotQ (n₀ : Nat) (r : List PaceV × Bool) (e : Ending) (w' : World) : Prop := ∃ v', e = .returned (.tuple #[v', .bool r.2]) ∧ EntsAt n₀ w' v' r.1
theorem queuedV_no {ps : List PaceV} {e : PaceV} (h : queueB ps = false) : queuedV ps e = ([], false) := by unfold queuedV; rw [h]; rfl
theorem queuedV_stays {ps : List PaceV} {e : PaceV} (h : queueB ps = true) (h2 : queueB (putV ps e) = false) : queuedV ps e = (ps, false) := by unfold queuedV; rw [h, h2]; rfl
theorem queuedV_yes {ps : List PaceV} {e : PaceV} (h : queueB ps = true) (h2 : queueB (putV ps e) = true) : queuedV ps e = (putV ps e, true) := by unfold queuedV; rw [h, h2]; rfl
set_option maxRecDepth 100000 in
set_option maxHeartbeats 4000000 in
theorem implQueued_any {w : World} {v : Value} {ps : List PaceV} (f z : Int) (h : IsPaces w v ps) :
    Calls Tryz.prog 186 #[v, .agg #[.int .i64 f, .int .i64 z]] w fun e w' => GotQ w.heap.size (queuedV ps (f, z)) e w' ∧ Below w.heap.size w w' := by
  have Hv := hide h
  obtain ⟨a, cap, rfl, hc, hm, hr⟩ := h
  clear hr
  cases hq : queueB ps
  · rw [queuedV_no hq]
    go_enter Tryz.func186, Tryz.ntmps186
    go_wp2_with fail
    refine (implQueueOk_any ((unhide Hv).below ((Below.refl _ _).alloc (Nat.le_refl _) _))).mono ?_
    rw [hq]
    rintro e w1 ⟨rfl, hb1⟩
    have B1 : Hid (Below w.heap.size w w1) := hide (((Below.refl _ _).alloc (Nat.le_refl _) _).trans (hb1.mono (by simp)))
    clear hb1
    go_wp2_with fail
    go_ret2
    exact ⟨⟨_, rfl, ents_empty rfl (unhide B1).size⟩, (unhide B1).alloc (unhide B1).size _⟩
  · have hQ := isQ_of hq
    have hlen := hQ.len
    have HQ := hide hQ
    clear hQ
    go_enter Tryz.func186, Tryz.ntmps186
    go_wp2_with fail
    refine (implQueueOk_any ((unhide Hv).below ((Below.refl _ _).alloc (Nat.le_refl _) _))).mono ?_
    rw [hq]
    rintro e w1 ⟨rfl, hb1⟩
    have hz1 : w.heap.size + 1 ≤ w1.heap.size := by have := hb1.size; simpa using this
    have c0 : w1.cell? ⟨w.heap.size, 0, none⟩ = some (.int .i64 f) := (hb1.cell (p := ⟨w.heap.size, 0, none⟩) (by simp)).trans (by simp)
    have c1 : w1.cell? ⟨w.heap.size, 1, none⟩ = some (.int .i64 z) := (hb1.cell (p := ⟨w.heap.size, 1, none⟩) (by simp)).trans (by simp)
    have B1 : Hid (Below w.heap.size w w1) := hide (((Below.refl _ _).alloc (Nat.le_refl _) _).trans (hb1.mono (by simp)))
    clear hb1
    go_wp2_with fail
    refine (heapOf_any ((unhide Hv).below (unhide B1)) (by omega)).mono ?_
    rintro e w2 ⟨bx, v2, rfl, hbx, hh2, hb2⟩
    have hlt1 : w.heap.size < w1.heap.size := by omega
    have d0 := (hb2.cell (p := ⟨w.heap.size, 0, none⟩) hlt1).trans c0
    have d1 := (hb2.cell (p := ⟨w.heap.size, 1, none⟩) hlt1).trans c1
    have hz2 := hb2.size
    have H2 := hide hh2
    have B2 : Hid (Below w.heap.size w w2) := hide ((unhide B1).trans (hb2.mono (by omega)))
    clear hb2 hh2 c0 c1
    go_wp2_with fail
    refine (heapPush_any f z (unhide H2) (ris_heap (unhide HQ).ris) (by omega) hbx hz2).mono ?_
    rintro e w3 ⟨rfl, v3, hs, hh3, hto3, hpe3, hb3⟩
    have hz3 := hb3.size
    have hsl : hs.length = ps.length + 1 := by have := hpe3.length_eq; simpa using this
    have H3 := hide hh3
    have T3 := hide hto3
    have P3 := hide hpe3
    have B3 : Hid (Below w.heap.size w w3) := hide ((unhide B2).trans (hb3.mono (by omega)))
    clear hb3 hh3 hto3 hpe3 d0 d1
    go_wp2_with fail
    refine (emptied_any (unhide H3) (unhide T3) (by omega) hbx (by omega)).mono ?_
    rintro e w4 ⟨v4, qs, rfl, hi4, hris4, hpe4, hb4⟩
    obtain rfl : qs = putV ps (f, z) := sorted_put (unhide HQ) hris4 (hpe4.trans (unhide P3))
    have hz4 := hb4.size
    obtain ⟨a4, cap4, rfl⟩ := hi4.shape
    have H4 := hide hi4
    have B4 : Hid (Below w.heap.size w w4) := hide ((unhide B3).trans (hb4.mono (by omega)))
    clear hi4 hris4 hpe4 hb4 H2 H3 T3 P3
    go_wp2_with fail
    refine (implQueueOk_any (unhide H4).paces).mono ?_
    cases hq2 : queueB (putV ps (f, z))
    · rintro e w5 ⟨rfl, hb5⟩
      have B5 : Hid (Below w.heap.size w w5) := hide ((unhide B4).trans (hb5.mono (by omega)))
      clear hb5
      go_wp2_with fail
      refine (copyOf_any ((unhide Hv).below (unhide B5)) (by omega)).mono ?_
      rintro e w6 ⟨v6, rfl, hi6, hb6⟩
      obtain ⟨a6, cap6, rfl⟩ := hi6.shape
      have H6 := hide hi6
      have B6 : Hid (Below w.heap.size w w6) := hide ((unhide B5).trans (hb6.mono (unhide B5).size))
      clear hi6 hb6
      go_wp2_with fail
      go_ret2
      rw [queuedV_stays hq hq2]
      exact ⟨⟨_, rfl, (unhide H6).mono (unhide B5).size⟩, unhide B6⟩
    · rintro e w5 ⟨rfl, hb5⟩
      have H5 := hide ((unhide H4).later hb5)
      have B5 : Hid (Below w.heap.size w w5) := hide ((unhide B4).trans (hb5.mono (by omega)))
      clear hb5
      go_wp2_with fail
      go_ret2
      rw [queuedV_yes hq hq2]
      exact ⟨⟨_, rfl, (unhide H5).mono (by omega)⟩, unhide B5⟩

end Go.Proofs.YtifolooecfebfaaGreat

