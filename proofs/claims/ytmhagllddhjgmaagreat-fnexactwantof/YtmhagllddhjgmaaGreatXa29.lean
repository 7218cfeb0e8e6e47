/- What the proof rests on, part 29: lists and numbers, how they lie in memory, and contracts of the calls. No condition but those that a theorem names. -/
import Derived.Test.YtmhagllddhjgmaaGreatXa01
import Derived.Test.YtmhagllddhjgmaaGreatXa12
import Derived.Test.YtmhagllddhjgmaaGreatXa27
import Derived.Test.YtmhagllddhjgmaaGreatXa28
import Derived.WalkKit
import Derived.ProofKit
import Derived.OpenShut
import Derived.Outline
import Derived.Lib.QuietBelow
import Derived.Maps.AppendAt
import Derived.Deep.RegionHeld3
import Derived.Deep.DrawnRows
import Derived.BigRegion
import Derived.Deep.RegionLawGrows
import Derived.Deep.QuietTactic
import Derived.BigQuiet
import Derived.Laws.OwnMore
import Derived.OwnWalk
/- A contract of container/heap's down at the program's heap. Conditions: those that the theorem names. -/
namespace Go.Proofs.YtmhagllddhjgmaaGreat
open Go.ChangeShapes Go.WideShapes Go.ChangeAt Go.RowKit Go.Sort
set_option linter.unusedVariables false

/-- What down leaves: the first n are a heap where it answers true, else a heap but for i0. -/
def DownPost (n₀ bx : Nat) (v : Value) (w : World) (ps : List PaceV) (n i0 : Nat) (e : Ending) (w' : World) : Prop :=
  ∃ (b : Bool) (qs : List PaceV), e = .returned (.bool b) ∧ HeapIs n₀ bx v w' qs ∧ qs.Perm ps ∧ (∀ k, n ≤ k → paceAt qs k = paceAt ps k) ∧ Fr bx v.ownBlock w w' ∧ (b = true → HeapTo qs n) ∧ (b = false → UpTo qs n i0)
theorem down_end {n₀ bx : Nat} {v : Value} {w wr : World} {ps qs : List PaceV} {n i0 i : Nat} (hi : i0 ≤ i) (hh : HeapIs n₀ bx v wr qs) (hdn : DnTo qs n i0 i) (hp : qs.Perm ps) (hs : ∀ k, n ≤ k → paceAt qs k = paceAt ps k) (hf : Fr bx v.ownBlock w wr)
    (hd : ∀ k, 0 < k → k < n → (k - 1) / 2 = i → ltB (paceAt qs k) (paceAt qs i) = false) : DownPost n₀ bx v w ps n i0 (.returned (.bool (decide (i0 < i)))) wr := by
  refine ⟨_, qs, rfl, hh, hp, hs, hf, fun h => ?_, fun h => ?_⟩
  · have := of_decide_eq_true h
    exact hdn.moved (by omega) hd
  · have := of_decide_eq_false h
    obtain rfl : i = i0 := by omega
    exact hdn.still hd
theorem kid {k i : Nat} (h0 : 0 < k) (h : (k - 1) / 2 = i) : k = 2 * i + 1 ∨ k = 2 * i + 2 := by omega

set_option maxRecDepth 100000 in
set_option maxHeartbeats 4000000 in
theorem down_any {n₀ bx : Nat} {v : Value} {w : World} {ps : List PaceV} {n i0 : Nat} (h : HeapIs n₀ bx v w ps) (hu : DnTo ps n i0 i0) (hi0 : i0 ≤ n) (hn : n ≤ ps.length) (hl : ps.length ≤ 1000) :
    Calls Tryz.prog 222 #[.iface 156 (.pointer (some ⟨bx, 0, none⟩)), .int .i64 i0, .int .i64 n] w (DownPost n₀ bx v w ps n i0) := by
  have H := hide h
  have HU := hide hu
  have hm1 := m_less ⟨bx, 0, none⟩
  have hm2 := m_swap ⟨bx, 0, none⟩
  clear h hu
  go_enter Tryz.func222, Tryz.ntmps222
  go_wp2_with fail
  go_loopw [7] (fun q wr => ∃ (i : Nat) (qs : List PaceV), i0 ≤ i ∧ i ≤ n ∧ q = .int .i64 i ∧ HeapIs n₀ bx v wr qs ∧ DnTo qs n i0 i ∧ qs.Perm ps ∧ (∀ k, n ≤ k → paceAt qs k = paceAt ps k) ∧ Fr bx v.ownBlock w wr) (fun q _ => n - (intOf q).toNat)
  case atStart => exact ⟨i0, ps, Nat.le_refl _, hi0, rfl, unhide H, unhide HU, List.Perm.refl _, fun _ _ => rfl, Fr.refl _ _ _⟩
  case round =>
    obtain ⟨i, qs, hii, hin, rfl, hh, hdn, hperm, hsame, hfr⟩ := hrel
    have hql : qs.length = ps.length := hperm.length_eq
    have Hh := hide hh
    have Hdn := hide hdn
    have Hpe := hide hperm
    have Hsa := hide hsame
    have Hfr := hide hfr
    clear hh hdn hperm hsame hfr
    obtain ⟨j1, hj1⟩ : ∃ j1, j1 = 2 * i + 1 := ⟨_, rfl⟩
    obtain ⟨j2, hj2⟩ : ∃ j2, j2 = 2 * i + 2 := ⟨_, rfl⟩
    have e1 : 2 * (i : Int) + 1 = (j1 : Int) := by omega
    have e2 : (j1 : Int) + 1 = (j2 : Int) := by omega
    have Hj1 := hide hj1
    have Hj2 := hide hj2
    by_cases hn1 : n ≤ j1
    · have hg1 : (n : Int) ≤ (j1 : Int) := by omega
      clear hj1 hj2
      go_wp2_with fail
      go_ret
      exact down_end hii (unhide Hh) (unhide Hdn) (unhide Hpe) (unhide Hsa) (unhide Hfr) (fun k k0 kn kp => by have := kid k0 kp; have := unhide Hj1; omega)
    · have hg1 : ¬ (n : Int) ≤ (j1 : Int) := by omega
      have hg2 : ¬ (j1 : Int) < 0 := by omega
      have hil : i < qs.length := by omega
      have hjl : j1 < qs.length := by omega
      have hij1 : i < j1 := by omega
      by_cases hn2 : j2 < n
      · have hg3 : (j2 : Int) < (n : Int) := by omega
        have hkl : j2 < qs.length := by omega
        have hij2 : i < j2 := by omega
        clear hj1 hj2
        have HL := hide (less_any (unhide Hh) hkl hjl)
        cases hlt : ltB (paceAt qs j2) (paceAt qs j1)
        · have HM : Hid (∀ k, 0 < k → k < n → (k - 1) / 2 = i → ltB (paceAt qs k) (paceAt qs j1) = false) := hide (fun k k0 kn kp => by
            have e3 := unhide Hj1; have e4 := unhide Hj2
            rcases kid k0 kp with e | e
            · rw [show k = j1 by omega]; exact ltB_self _
            · rw [show k = j2 by omega]; exact hlt)
          have HP : Hid ((j1 - 1) / 2 = i) := hide (by have := unhide Hj1; omega)
          go_wp2_with fail
          refine (unhide HL).mono ?_
          rw [hlt]
          rintro e w1 ⟨rfl, hb1⟩
          have H1 := hide ((unhide Hh).later hb1)
          have F1 := hide ((unhide Hfr).trans (Fr.of_below hb1))
          clear hb1 hlt HL Hh Hfr
          have HL2 := hide (less_any (unhide H1) hjl hil)
          cases hlt2 : ltB (paceAt qs j1) (paceAt qs i)
          · go_wp2_with fail
            refine (unhide HL2).mono ?_
            rw [hlt2]
            rintro e w2 ⟨rfl, hb2⟩
            have H2 := hide ((unhide H1).later hb2)
            have F2 := hide ((unhide F1).trans (Fr.of_below hb2))
            clear hb2 HL2
            go_wp2_with fail
            go_ret
            exact down_end hii (unhide H2) (unhide Hdn) (unhide Hpe) (unhide Hsa) (unhide F2) (fun k k0 kn kp => ltB_le hlt2 (unhide HM k k0 kn kp))
          · go_wp2_with fail
            refine (unhide HL2).mono ?_
            rw [hlt2]
            rintro e w2 ⟨rfl, hb2⟩
            have H2 := hide ((unhide H1).later hb2)
            have F2 := hide ((unhide F1).trans (Fr.of_below hb2))
            clear hb2 HL2
            go_wp2_with fail
            refine (swap_any (unhide H2) hil hjl).mono ?_
            rintro e w3 ⟨rfl, hh3, hf3⟩
            have H3 := hide hh3
            have F3 := hide ((unhide F2).trans hf3)
            clear hh3 hf3
            have HS : Hid (DnTo (swp qs i j1) n i0 j1) := hide ((unhide Hdn).step hii (by omega) (unhide HP) (by omega) (by omega) hlt2 (unhide HM))
            have HA : Hid (∀ k, n ≤ k → paceAt (swp qs i j1) k = paceAt ps k) := hide (fun k hk => by rw [swp_at hil hjl, if_neg (by omega), if_neg (by omega)]; exact unhide Hsa k hk)
            go_wp2_with fail
            go_roundw
            case rel => exact ⟨j1, swp qs i j1, by omega, by omega, rfl, unhide H3, unhide HS, (swp_perm hil hjl).trans (unhide Hpe), unhide HA, unhide F3⟩
            case measure => simp [intOf]; omega
        · have HM : Hid (∀ k, 0 < k → k < n → (k - 1) / 2 = i → ltB (paceAt qs k) (paceAt qs j2) = false) := hide (fun k k0 kn kp => by
            have e3 := unhide Hj1; have e4 := unhide Hj2
            rcases kid k0 kp with e | e
            · rw [show k = j1 by omega]; exact ltB_not hlt
            · rw [show k = j2 by omega]; exact ltB_self _)
          have HP : Hid ((j2 - 1) / 2 = i) := hide (by have := unhide Hj2; omega)
          go_wp2_with fail
          refine (unhide HL).mono ?_
          rw [hlt]
          rintro e w1 ⟨rfl, hb1⟩
          have H1 := hide ((unhide Hh).later hb1)
          have F1 := hide ((unhide Hfr).trans (Fr.of_below hb1))
          clear hb1 hlt HL Hh Hfr
          have HL2 := hide (less_any (unhide H1) hkl hil)
          cases hlt2 : ltB (paceAt qs j2) (paceAt qs i)
          · go_wp2_with fail
            refine (unhide HL2).mono ?_
            rw [hlt2]
            rintro e w2 ⟨rfl, hb2⟩
            have H2 := hide ((unhide H1).later hb2)
            have F2 := hide ((unhide F1).trans (Fr.of_below hb2))
            clear hb2 HL2
            go_wp2_with fail
            go_ret
            exact down_end hii (unhide H2) (unhide Hdn) (unhide Hpe) (unhide Hsa) (unhide F2) (fun k k0 kn kp => ltB_le hlt2 (unhide HM k k0 kn kp))
          · go_wp2_with fail
            refine (unhide HL2).mono ?_
            rw [hlt2]
            rintro e w2 ⟨rfl, hb2⟩
            have H2 := hide ((unhide H1).later hb2)
            have F2 := hide ((unhide F1).trans (Fr.of_below hb2))
            clear hb2 HL2
            go_wp2_with fail
            refine (swap_any (unhide H2) hil hkl).mono ?_
            rintro e w3 ⟨rfl, hh3, hf3⟩
            have H3 := hide hh3
            have F3 := hide ((unhide F2).trans hf3)
            clear hh3 hf3
            have HS : Hid (DnTo (swp qs i j2) n i0 j2) := hide ((unhide Hdn).step hii (by omega) (unhide HP) (by omega) (by omega) hlt2 (unhide HM))
            have HA : Hid (∀ k, n ≤ k → paceAt (swp qs i j2) k = paceAt ps k) := hide (fun k hk => by rw [swp_at hil hkl, if_neg (by omega), if_neg (by omega)]; exact unhide Hsa k hk)
            go_wp2_with fail
            go_roundw
            case rel => exact ⟨j2, swp qs i j2, by omega, by omega, rfl, unhide H3, unhide HS, (swp_perm hil hkl).trans (unhide Hpe), unhide HA, unhide F3⟩
            case measure => simp [intOf]; omega
      · have hg3 : ¬ (j2 : Int) < (n : Int) := by omega
        have HM : Hid (∀ k, 0 < k → k < n → (k - 1) / 2 = i → ltB (paceAt qs k) (paceAt qs j1) = false) := hide (fun k k0 kn kp => by
            have e3 := unhide Hj1; have e4 := unhide Hj2
            rcases kid k0 kp with e | e
            · rw [show k = j1 by omega]; exact ltB_self _
            · omega)
        have HP : Hid ((j1 - 1) / 2 = i) := hide (by have := unhide Hj1; omega)
        clear hj1 hj2
        have HL2 := hide (less_any (unhide Hh) hjl hil)
        cases hlt2 : ltB (paceAt qs j1) (paceAt qs i)
        · go_wp2_with fail
          refine (unhide HL2).mono ?_
          rw [hlt2]
          rintro e w2 ⟨rfl, hb2⟩
          have H2 := hide ((unhide Hh).later hb2)
          have F2 := hide ((unhide Hfr).trans (Fr.of_below hb2))
          clear hb2 HL2
          go_wp2_with fail
          go_ret
          exact down_end hii (unhide H2) (unhide Hdn) (unhide Hpe) (unhide Hsa) (unhide F2) (fun k k0 kn kp => ltB_le hlt2 (unhide HM k k0 kn kp))
        · go_wp2_with fail
          refine (unhide HL2).mono ?_
          rw [hlt2]
          rintro e w2 ⟨rfl, hb2⟩
          have H2 := hide ((unhide Hh).later hb2)
          have F2 := hide ((unhide Hfr).trans (Fr.of_below hb2))
          clear hb2 HL2
          go_wp2_with fail
          refine (swap_any (unhide H2) hil hjl).mono ?_
          rintro e w3 ⟨rfl, hh3, hf3⟩
          have H3 := hide hh3
          have F3 := hide ((unhide F2).trans hf3)
          clear hh3 hf3
          have HS : Hid (DnTo (swp qs i j1) n i0 j1) := hide ((unhide Hdn).step hii (by omega) (unhide HP) (by omega) (by omega) hlt2 (unhide HM))
          have HA : Hid (∀ k, n ≤ k → paceAt (swp qs i j1) k = paceAt ps k) := hide (fun k hk => by rw [swp_at hil hjl, if_neg (by omega), if_neg (by omega)]; exact unhide Hsa k hk)
          go_wp2_with fail
          go_roundw
          case rel => exact ⟨j1, swp qs i j1, by omega, by omega, rfl, unhide H3, unhide HS, (swp_perm hil hjl).trans (unhide Hpe), unhide HA, unhide F3⟩
          case measure => simp [intOf]; omega

end Go.Proofs.YtmhagllddhjgmaaGreat

/- Contracts of container/heap's Push, Pop and Remove at the program's heap. Conditions: those that each theorem names. -/
namespace Go.Proofs.YtmhagllddhjgmaaGreat
open Go.ChangeShapes Go.WideShapes Go.ChangeAt Go.RowKit Go.Sort
set_option linter.unusedVariables false

theorem HeapTo.take {ps : List PaceV} {n m : Nat} (h : HeapTo ps n) (hm : n ≤ m) : HeapTo (ps.take m) n := fun k k0 kn => by
  rw [paceAt_take (by omega), paceAt_take (by omega)]; exact h k k0 kn
/-- All that is asked of the memory: nothing below n₀ has turned. -/
theorem HeapIs.below {n₀ bx : Nat} {v v' : Value} {w w' : World} {ps qs : List PaceV} (h : HeapIs n₀ bx v w ps) (hf : Fr bx v.ownBlock w w') (hx : n₀ ≤ bx) (hn : n₀ ≤ w.heap.size) : Below n₀ w w' :=
  hf.below hx (fun k e => (h.row.lt e).1) hn

set_option maxRecDepth 100000 in
set_option maxHeartbeats 2000000 in
theorem heapPush_any {n₀ bx : Nat} {v : Value} {w : World} {ps : List PaceV} (f z : Int) (h : HeapIs n₀ bx v w ps) (hp : HeapTo ps ps.length) (hl : ps.length ≤ 900) (hx : n₀ ≤ bx) (hn : n₀ ≤ w.heap.size) :
    Calls Tryz.prog 144 #[.iface 156 (.pointer (some ⟨bx, 0, none⟩)), .iface 45 (.agg #[.int .i64 f, .int .i64 z])] w fun e w' => e = .returned (.tuple #[]) ∧ ∃ v' qs, HeapIs n₀ bx v' w' qs ∧ HeapTo qs qs.length ∧ qs.Perm (ps ++ [(f, z)]) ∧ Below n₀ w w' := by
  have H := hide h
  have HP := hide hp
  have hm1 := m_push ⟨bx, 0, none⟩
  have hm2 := m_len ⟨bx, 0, none⟩
  clear h hp
  go_enter Tryz.func144, Tryz.ntmps144
  go_wp2_with fail
  refine (pushM_any f z (unhide H) (by omega) hn).mono ?_
  rintro e w1 ⟨rfl, v1, hh1, hat, hf1⟩
  have H1 := hide hh1
  have B1 := hide ((unhide H).below (v' := v1) (qs := ps) hf1 hx hn)
  have hz1 := hf1.size
  clear hh1 hat hf1
  go_wp2_with fail
  refine (len_any (unhide H1)).mono ?_
  rintro e w' ⟨rfl, h2⟩
  subst w'
  have hlen : (ps ++ [(f, z)]).length = ps.length + 1 := by simp
  rw [hlen]
  go_wp2_with fail
  refine (up_any (j0 := ps.length) (n := ps.length + 1) (unhide H1) ((unhide HP).push (f, z)) (by omega) (by rw [hlen]; exact Nat.le_refl _) (by rw [hlen]; omega)).mono ?_
  rintro e w2 ⟨rfl, qs, hh2, hq, hpe, _, hf2⟩
  have hql : qs.length = ps.length + 1 := by rw [hpe.length_eq, hlen]
  have H2 := hide hh2
  have HQ := hide hq
  have HE := hide hpe
  have B2 := hide ((unhide B1).trans ((unhide H1).below (v' := v1) (qs := ps) hf2 hx (by omega)))
  clear hh2 hq hpe hf2
  go_wp2_with fail
  go_end0
  exact ⟨rfl, v1, qs, unhide H2, by rw [hql]; exact unhide HQ, unhide HE, unhide B2⟩

theorem DnTo.none {ps : List PaceV} {i0 i : Nat} : DnTo ps 0 i0 i := ⟨fun k k0 kn => by omega, fun k k0 kn => by omega⟩
theorem DownPost.zero {n₀ bx : Nat} {v : Value} {w : World} {ps : List PaceV} {n : Nat} {e : Ending} {w' : World} (h : DownPost n₀ bx v w ps n 0 e w') :
    ∃ (b : Bool) (qs : List PaceV), e = .returned (.bool b) ∧ HeapIs n₀ bx v w' qs ∧ qs.Perm ps ∧ (∀ k, n ≤ k → paceAt qs k = paceAt ps k) ∧ Fr bx v.ownBlock w w' ∧ HeapTo qs n := by
  obtain ⟨b, qs, he, hh, hp, hs, hf, h1, h2⟩ := h
  refine ⟨b, qs, he, hh, hp, hs, hf, ?_⟩
  cases b
  · exact (h2 rfl).done (.inl rfl)
  · exact h1 rfl

set_option maxRecDepth 100000 in
set_option maxHeartbeats 2000000 in
theorem heapPop_any {n₀ bx : Nat} {v : Value} {w : World} {ps : List PaceV} {m : Nat} (h : HeapIs n₀ bx v w ps) (hp : HeapTo ps ps.length) (hm : ps.length = m + 1) (hl : ps.length ≤ 900) :
    Calls Tryz.prog 178 #[.iface 156 (.pointer (some ⟨bx, 0, none⟩))] w fun e w' => e = .returned (.iface 45 (.agg #[.int .i64 (paceAt ps 0).1, .int .i64 (paceAt ps 0).2])) ∧ ∃ v' qs, HeapIs n₀ bx v' w' qs ∧ HeapTo qs qs.length ∧ (qs ++ [paceAt ps 0]).Perm ps ∧ v'.ownBlock = v.ownBlock ∧ Fr bx v.ownBlock w w' := by
  have H := hide h
  rw [hm] at hp
  have HP := hide hp
  have hm1 := m_pop ⟨bx, 0, none⟩
  have hm2 := m_len ⟨bx, 0, none⟩
  have hm3 := m_swap ⟨bx, 0, none⟩
  clear h hp
  go_enter Tryz.func178, Tryz.ntmps178
  go_wp2_with fail
  refine (len_any (unhide H)).mono ?_
  rw [hm]
  rintro e w' ⟨rfl, h2⟩
  subst w'
  go_wp2_with fail
  refine (swap_any (i := 0) (j := m) (unhide H) (by omega) (by omega)).mono ?_
  rintro e w1 ⟨rfl, hh1, hf1⟩
  have H1 := hide hh1
  have F1 := hide hf1
  have hl1 : (swp ps 0 m).length = m + 1 := by rw [swp_len]; exact hm
  have HD : Hid (DnTo (swp ps 0 m) m 0 0) := hide (by
    by_cases e : m = 0
    · subst e; exact DnTo.none
    · exact (unhide HP).swap hm (by omega))
  have HA : Hid (paceAt (swp ps 0 m) m = paceAt ps 0) := hide (by rw [swp_at (by omega) (by omega), if_pos rfl])
  have HPm : Hid ((swp ps 0 m).Perm ps) := hide (swp_perm (by omega) (by omega))
  clear hh1 hf1
  go_wp2_with fail
  refine (down_any (n := m) (i0 := 0) (unhide H1) (unhide HD) (by omega) (by omega) (by omega)).mono ?_
  intro e w2 hpost
  obtain ⟨b, qs, rfl, hh2, hp2, hs2, hf2, hq2⟩ := hpost.zero
  have hql : qs.length = m + 1 := by rw [hp2.length_eq, hl1]
  have H2 := hide hh2
  have HE : Hid ((qs.take m ++ [paceAt ps 0]).Perm ps) := hide (by rw [← unhide HA, ← hs2 m (Nat.le_refl _), take_snoc_last hql]; exact hp2.trans (unhide HPm))
  have HV : Hid (paceAt qs m = paceAt ps 0) := hide ((hs2 m (Nat.le_refl _)).trans (unhide HA))
  have HQ : Hid (HeapTo (qs.take m) (qs.take m).length) := hide (by rw [List.length_take, Nat.min_eq_left (by omega)]; exact hq2.take (Nat.le_refl _))
  have F2 := hide ((unhide F1).trans hf2)
  clear hpost hh2 hp2 hs2 hf2 hq2
  go_wp2_with fail
  refine (popM_any (unhide H2) hql).mono ?_
  rw [unhide HV]
  rintro e w3 ⟨rfl, v3, hh3, ho3, hf3⟩
  have H3 := hide hh3
  have F3 := hide ((unhide F2).trans hf3)
  clear hh3 hf3
  go_wp2_with fail
  go_ret
  exact ⟨rfl, v3, qs.take m, unhide H3, unhide HQ, unhide HE, ho3, unhide F3⟩

end Go.Proofs.YtmhagllddhjgmaaGreat

