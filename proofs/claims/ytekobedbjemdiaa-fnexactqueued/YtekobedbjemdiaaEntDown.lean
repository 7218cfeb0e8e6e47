/- A contract of container/heap's down at the program's heap. Conditions: those that the theorem names. -/
import Derived.Test.YtekobedbjemdiaaEntUp
namespace Go.Proofs.Ytekobedbjemdiaa
open Go.ChangeShapes Go.WideShapes Go.ChangeAt Go.RowKit Go.Sort
set_option linter.unusedVariables false

/-- What down leaves: the first n are a heap where it answers true, else a heap but for i0. -/
def DownPost (n₀ bx : Nat) (v : Value) (w : World) (ps : List PaceV) (n i0 : Nat) (e : Ending) (w' : World) : Prop :=
  ∃ (b : Bool) (qs : List PaceV), e = .returned (.bool b) ∧ HeapIs n₀ bx v w' qs ∧ qs.Perm ps ∧ (∀ k, n ≤ k → paceAt qs k = paceAt ps k) ∧ Fr bx v.ownBlock w w' ∧ (b = true → HeapTo qs n) ∧ (b = false → UpTo qs n i0)
theorem down_end {n₀ bx : Nat} {v : Value} {w wr : World} {ps qs : List PaceV} {n i0 i : Nat} (hi : i0 ≤ i) (hh : HeapIs n₀ bx v wr qs) (hdn : DnTo qs n i0 i) (hp : qs.Perm ps) (hs : ∀ k, n ≤ k → paceAt qs k = paceAt ps k) (hf : Fr bx v.ownBlock w wr)
    (hd : ∀ k, 0 < k → k < n → (k - 1) / 2 = i → ltB (paceAt qs k) (paceAt qs i) = false) : DownPost n₀ bx v w ps n i0 (.returned (.bool (decide (i0 < i)))) wr := by
  refine ⟨_, qs, rfl, hh, hp, hs, hf, fun h => ?_, fun h => ?_⟩
  · have := of_decide_eq_true h
    exact hdn.moved (by omega) hd
  · have := of_decide_eq_false h
    obtain rfl : i = i0 := by omega
    exact hdn.still hd
theorem kid {k i : Nat} (h0 : 0 < k) (h : (k - 1) / 2 = i) : k = 2 * i + 1 ∨ k = 2 * i + 2 := by omega

set_option maxRecDepth 100000 in
set_option maxHeartbeats 4000000 in
theorem down_any {n₀ bx : Nat} {v : Value} {w : World} {ps : List PaceV} {n i0 : Nat} (h : HeapIs n₀ bx v w ps) (hu : DnTo ps n i0 i0) (hi0 : i0 ≤ n) (hn : n ≤ ps.length) (hl : ps.length ≤ 1000) :
    Calls Try.prog 55 #[.iface 56 (.pointer (some ⟨bx, 0, none⟩)), .int .i64 i0, .int .i64 n] w (DownPost n₀ bx v w ps n i0) := by
  have H := hide h
  have HU := hide hu
  have hm1 := m_less ⟨bx, 0, none⟩
  have hm2 := m_swap ⟨bx, 0, none⟩
  clear h hu
  go_enter Try.func55, Try.ntmps55
  go_wp2_with fail
  go_loopw [7] (fun q wr => ∃ (i : Nat) (qs : List PaceV), i0 ≤ i ∧ i ≤ n ∧ q = .int .i64 i ∧ HeapIs n₀ bx v wr qs ∧ DnTo qs n i0 i ∧ qs.Perm ps ∧ (∀ k, n ≤ k → paceAt qs k = paceAt ps k) ∧ Fr bx v.ownBlock w wr) (fun q _ => n - (intOf q).toNat)
  case atStart => exact ⟨i0, ps, Nat.le_refl _, hi0, rfl, unhide H, unhide HU, List.Perm.refl _, fun _ _ => rfl, Fr.refl _ _ _⟩
  case round =>
    obtain ⟨i, qs, hii, hin, rfl, hh, hdn, hperm, hsame, hfr⟩ := hrel
    have hql : qs.length = ps.length := hperm.length_eq
    have Hh := hide hh
    have Hdn := hide hdn
    have Hpe := hide hperm
    have Hsa := hide hsame
    have Hfr := hide hfr
    clear hh hdn hperm hsame hfr
    obtain ⟨j1, hj1⟩ : ∃ j1, j1 = 2 * i + 1 := ⟨_, rfl⟩
    obtain ⟨j2, hj2⟩ : ∃ j2, j2 = 2 * i + 2 := ⟨_, rfl⟩
    have e1 : 2 * (i : Int) + 1 = (j1 : Int) := by omega
    have e2 : (j1 : Int) + 1 = (j2 : Int) := by omega
    have Hj1 := hide hj1
    have Hj2 := hide hj2
    by_cases hn1 : n ≤ j1
    · have hg1 : (n : Int) ≤ (j1 : Int) := by omega
      clear hj1 hj2
      go_wp2_with fail
      go_ret
      exact down_end hii (unhide Hh) (unhide Hdn) (unhide Hpe) (unhide Hsa) (unhide Hfr) (fun k k0 kn kp => by have := kid k0 kp; have := unhide Hj1; omega)
    · have hg1 : ¬ (n : Int) ≤ (j1 : Int) := by omega
      have hg2 : ¬ (j1 : Int) < 0 := by omega
      have hil : i < qs.length := by omega
      have hjl : j1 < qs.length := by omega
      have hij1 : i < j1 := by omega
      by_cases hn2 : j2 < n
      · have hg3 : (j2 : Int) < (n : Int) := by omega
        have hkl : j2 < qs.length := by omega
        have hij2 : i < j2 := by omega
        clear hj1 hj2
        have HL := hide (less_any (unhide Hh) hkl hjl)
        cases hlt : ltB (paceAt qs j2) (paceAt qs j1)
        · have HM : Hid (∀ k, 0 < k → k < n → (k - 1) / 2 = i → ltB (paceAt qs k) (paceAt qs j1) = false) := hide (fun k k0 kn kp => by
            have e3 := unhide Hj1; have e4 := unhide Hj2
            rcases kid k0 kp with e | e
            · rw [show k = j1 by omega]; exact ltB_self _
            · rw [show k = j2 by omega]; exact hlt)
          have HP : Hid ((j1 - 1) / 2 = i) := hide (by have := unhide Hj1; omega)
          go_wp2_with fail
          refine (unhide HL).mono ?_
          rw [hlt]
          rintro e w1 ⟨rfl, hb1⟩
          have H1 := hide ((unhide Hh).later hb1)
          have F1 := hide ((unhide Hfr).trans (Fr.of_below hb1))
          clear hb1 hlt HL Hh Hfr
          have HL2 := hide (less_any (unhide H1) hjl hil)
          cases hlt2 : ltB (paceAt qs j1) (paceAt qs i)
          · go_wp2_with fail
            refine (unhide HL2).mono ?_
            rw [hlt2]
            rintro e w2 ⟨rfl, hb2⟩
            have H2 := hide ((unhide H1).later hb2)
            have F2 := hide ((unhide F1).trans (Fr.of_below hb2))
            clear hb2 HL2
            go_wp2_with fail
            go_ret
            exact down_end hii (unhide H2) (unhide Hdn) (unhide Hpe) (unhide Hsa) (unhide F2) (fun k k0 kn kp => ltB_le hlt2 (unhide HM k k0 kn kp))
          · go_wp2_with fail
            refine (unhide HL2).mono ?_
            rw [hlt2]
            rintro e w2 ⟨rfl, hb2⟩
            have H2 := hide ((unhide H1).later hb2)
            have F2 := hide ((unhide F1).trans (Fr.of_below hb2))
            clear hb2 HL2
            go_wp2_with fail
            refine (swap_any (unhide H2) hil hjl).mono ?_
            rintro e w3 ⟨rfl, hh3, hf3⟩
            have H3 := hide hh3
            have F3 := hide ((unhide F2).trans hf3)
            clear hh3 hf3
            have HS : Hid (DnTo (swp qs i j1) n i0 j1) := hide ((unhide Hdn).step hii (by omega) (unhide HP) (by omega) (by omega) hlt2 (unhide HM))
            have HA : Hid (∀ k, n ≤ k → paceAt (swp qs i j1) k = paceAt ps k) := hide (fun k hk => by rw [swp_at hil hjl, if_neg (by omega), if_neg (by omega)]; exact unhide Hsa k hk)
            go_wp2_with fail
            go_roundw
            case rel => exact ⟨j1, swp qs i j1, by omega, by omega, rfl, unhide H3, unhide HS, (swp_perm hil hjl).trans (unhide Hpe), unhide HA, unhide F3⟩
            case measure => simp [intOf]; omega
        · have HM : Hid (∀ k, 0 < k → k < n → (k - 1) / 2 = i → ltB (paceAt qs k) (paceAt qs j2) = false) := hide (fun k k0 kn kp => by
            have e3 := unhide Hj1; have e4 := unhide Hj2
            rcases kid k0 kp with e | e
            · rw [show k = j1 by omega]; exact ltB_not hlt
            · rw [show k = j2 by omega]; exact ltB_self _)
          have HP : Hid ((j2 - 1) / 2 = i) := hide (by have := unhide Hj2; omega)
          go_wp2_with fail
          refine (unhide HL).mono ?_
          rw [hlt]
          rintro e w1 ⟨rfl, hb1⟩
          have H1 := hide ((unhide Hh).later hb1)
          have F1 := hide ((unhide Hfr).trans (Fr.of_below hb1))
          clear hb1 hlt HL Hh Hfr
          have HL2 := hide (less_any (unhide H1) hkl hil)
          cases hlt2 : ltB (paceAt qs j2) (paceAt qs i)
          · go_wp2_with fail
            refine (unhide HL2).mono ?_
            rw [hlt2]
            rintro e w2 ⟨rfl, hb2⟩
            have H2 := hide ((unhide H1).later hb2)
            have F2 := hide ((unhide F1).trans (Fr.of_below hb2))
            clear hb2 HL2
            go_wp2_with fail
            go_ret
            exact down_end hii (unhide H2) (unhide Hdn) (unhide Hpe) (unhide Hsa) (unhide F2) (fun k k0 kn kp => ltB_le hlt2 (unhide HM k k0 kn kp))
          · go_wp2_with fail
            refine (unhide HL2).mono ?_
            rw [hlt2]
            rintro e w2 ⟨rfl, hb2⟩
            have H2 := hide ((unhide H1).later hb2)
            have F2 := hide ((unhide F1).trans (Fr.of_below hb2))
            clear hb2 HL2
            go_wp2_with fail
            refine (swap_any (unhide H2) hil hkl).mono ?_
            rintro e w3 ⟨rfl, hh3, hf3⟩
            have H3 := hide hh3
            have F3 := hide ((unhide F2).trans hf3)
            clear hh3 hf3
            have HS : Hid (DnTo (swp qs i j2) n i0 j2) := hide ((unhide Hdn).step hii (by omega) (unhide HP) (by omega) (by omega) hlt2 (unhide HM))
            have HA : Hid (∀ k, n ≤ k → paceAt (swp qs i j2) k = paceAt ps k) := hide (fun k hk => by rw [swp_at hil hkl, if_neg (by omega), if_neg (by omega)]; exact unhide Hsa k hk)
            go_wp2_with fail
            go_roundw
            case rel => exact ⟨j2, swp qs i j2, by omega, by omega, rfl, unhide H3, unhide HS, (swp_perm hil hkl).trans (unhide Hpe), unhide HA, unhide F3⟩
            case measure => simp [intOf]; omega
      · have hg3 : ¬ (j2 : Int) < (n : Int) := by omega
        have HM : Hid (∀ k, 0 < k → k < n → (k - 1) / 2 = i → ltB (paceAt qs k) (paceAt qs j1) = false) := hide (fun k k0 kn kp => by
            have e3 := unhide Hj1; have e4 := unhide Hj2
            rcases kid k0 kp with e | e
            · rw [show k = j1 by omega]; exact ltB_self _
            · omega)
        have HP : Hid ((j1 - 1) / 2 = i) := hide (by have := unhide Hj1; omega)
        clear hj1 hj2
        have HL2 := hide (less_any (unhide Hh) hjl hil)
        cases hlt2 : ltB (paceAt qs j1) (paceAt qs i)
        · go_wp2_with fail
          refine (unhide HL2).mono ?_
          rw [hlt2]
          rintro e w2 ⟨rfl, hb2⟩
          have H2 := hide ((unhide Hh).later hb2)
          have F2 := hide ((unhide Hfr).trans (Fr.of_below hb2))
          clear hb2 HL2
          go_wp2_with fail
          go_ret
          exact down_end hii (unhide H2) (unhide Hdn) (unhide Hpe) (unhide Hsa) (unhide F2) (fun k k0 kn kp => ltB_le hlt2 (unhide HM k k0 kn kp))
        · go_wp2_with fail
          refine (unhide HL2).mono ?_
          rw [hlt2]
          rintro e w2 ⟨rfl, hb2⟩
          have H2 := hide ((unhide Hh).later hb2)
          have F2 := hide ((unhide Hfr).trans (Fr.of_below hb2))
          clear hb2 HL2
          go_wp2_with fail
          refine (swap_any (unhide H2) hil hjl).mono ?_
          rintro e w3 ⟨rfl, hh3, hf3⟩
          have H3 := hide hh3
          have F3 := hide ((unhide F2).trans hf3)
          clear hh3 hf3
          have HS : Hid (DnTo (swp qs i j1) n i0 j1) := hide ((unhide Hdn).step hii (by omega) (unhide HP) (by omega) (by omega) hlt2 (unhide HM))
          have HA : Hid (∀ k, n ≤ k → paceAt (swp qs i j1) k = paceAt ps k) := hide (fun k hk => by rw [swp_at hil hjl, if_neg (by omega), if_neg (by omega)]; exact unhide Hsa k hk)
          go_wp2_with fail
          go_roundw
          case rel => exact ⟨j1, swp qs i j1, by omega, by omega, rfl, unhide H3, unhide HS, (swp_perm hil hjl).trans (unhide Hpe), unhide HA, unhide F3⟩
          case measure => simp [intOf]; omega

end Go.Proofs.Ytekobedbjemdiaa
