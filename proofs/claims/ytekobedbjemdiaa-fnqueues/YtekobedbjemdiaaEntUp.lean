/- Contracts of container/heap's up and down at the program's heap. Conditions: those that each theorem names. -/
import Derived.Test.YtekobedbjemdiaaEntHeap2
namespace Go.Proofs.Ytekobedbjemdiaa
open Go.ChangeShapes Go.WideShapes Go.ChangeAt Go.RowKit Go.Sort
set_option linter.unusedVariables false

theorem m_len (a : Addr) (w : World) : (method 203 56 (.pointer (some a)) "Len").run Try.prog w = .ok (51, .pointer (some a)) w := by kernel_rfl
theorem m_less (a : Addr) (w : World) : (method 203 56 (.pointer (some a)) "Less").run Try.prog w = .ok (77, .pointer (some a)) w := by kernel_rfl
theorem m_swap (a : Addr) (w : World) : (method 203 56 (.pointer (some a)) "Swap").run Try.prog w = .ok (80, .pointer (some a)) w := by kernel_rfl
theorem m_push (a : Addr) (w : World) : (method 203 56 (.pointer (some a)) "Push").run Try.prog w = .ok (79, .pointer (some a)) w := by kernel_rfl
theorem m_pop (a : Addr) (w : World) : (method 203 56 (.pointer (some a)) "Pop").run Try.prog w = .ok (78, .pointer (some a)) w := by kernel_rfl

set_option maxRecDepth 100000 in
set_option maxHeartbeats 2000000 in
theorem up_any {n₀ bx : Nat} {v : Value} {w : World} {ps : List PaceV} {n j0 : Nat} (h : HeapIs n₀ bx v w ps) (hu : UpTo ps n j0) (hj0 : j0 < n) (hn : n ≤ ps.length) (hl : ps.length ≤ 1000) :
    Calls Try.prog 50 #[.iface 56 (.pointer (some ⟨bx, 0, none⟩)), .int .i64 j0] w fun e w' => e = .returned (.tuple #[]) ∧ ∃ qs, HeapIs n₀ bx v w' qs ∧ HeapTo qs n ∧ qs.Perm ps ∧ (∀ k, n ≤ k → paceAt qs k = paceAt ps k) ∧ Fr bx v.ownBlock w w' := by
  have H := hide h
  have HU := hide hu
  clear h hu
  go_enter Try.func50, Try.ntmps50
  go_wp2_with fail
  go_loopw [1, 4] (fun q _ wr => ∃ (j : Nat) (qs : List PaceV), j < n ∧ q = .int .i64 j ∧ HeapIs n₀ bx v wr qs ∧ UpTo qs n j ∧ qs.Perm ps ∧ (∀ k, n ≤ k → paceAt qs k = paceAt ps k) ∧ Fr bx v.ownBlock w wr) (fun q _ _ => (intOf q).toNat)
  case atStart => exact ⟨j0, ps, hj0, rfl, unhide H, unhide HU, List.Perm.refl _, fun _ _ => rfl, Fr.refl _ _ _⟩
  case round =>
    obtain ⟨j, qs, hj, rfl, hh, hup, hperm, hsame, hfr⟩ := hrel
    have hql : qs.length = ps.length := hperm.length_eq
    have Hh := hide hh
    have Hup := hide hup
    have Hpe := hide hperm
    have Hsa := hide hsame
    have Hfr := hide hfr
    clear hh hup hperm hsame hfr
    by_cases hz : j = 0
    · subst hz
      go_wp2_with fail
      go_end0
      exact ⟨rfl, qs, unhide Hh, (unhide Hup).done (.inl rfl), unhide Hpe, unhide Hsa, unhide Hfr⟩
    · obtain ⟨i, hi⟩ : ∃ i, i = (j - 1) / 2 := ⟨_, rfl⟩
      have hj1 : (0 : Int) ≤ (j : Int) - 1 := by omega
      have hpar : ((j : Int) - 1) / 2 = (i : Int) := by omega
      have hij : ((i : Int) == (j : Int)) = false := beq_eq_false_iff_ne.2 (by omega)
      have hm1 := m_less ⟨bx, 0, none⟩
      have hm2 := m_swap ⟨bx, 0, none⟩
      have hjl : j < qs.length := by omega
      have hil : i < qs.length := by omega
      have Hless := hide (less_any (unhide Hh) hjl hil)
      have Hi := hide hi
      clear hi
      cases hlt : ltB (paceAt qs j) (paceAt qs i)
      · go_wp2_with fail
        refine (unhide Hless).mono ?_
        rw [hlt]
        rintro e w1 ⟨rfl, hb1⟩
        have H1 := hide ((unhide Hh).later hb1)
        have F1 := hide ((unhide Hfr).trans (Fr.of_below hb1))
        clear hb1
        go_wp2_with fail
        go_end0
        exact ⟨rfl, qs, unhide H1, (unhide Hup).done (.inr (by rw [← unhide Hi]; exact hlt)), unhide Hpe, unhide Hsa, unhide F1⟩
      · go_wp2_with fail
        refine (unhide Hless).mono ?_
        rw [hlt]
        rintro e w1 ⟨rfl, hb1⟩
        have H1 := hide ((unhide Hh).later hb1)
        have F1 := hide ((unhide Hfr).trans (Fr.of_below hb1))
        clear hb1
        go_wp2_with fail
        refine (swap_any (unhide H1) hil hjl).mono ?_
        rintro e w2 ⟨rfl, hh2, hf2⟩
        have H2 := hide hh2
        have F2 := hide ((unhide F1).trans hf2)
        clear hh2 hf2
        have HS : Hid (UpTo (swp qs i j) n i) := hide (by rw [unhide Hi]; exact (unhide Hup).step (by omega) hj (by omega) (by rw [← unhide Hi]; exact hlt))
        have HA : Hid (∀ k, n ≤ k → paceAt (swp qs i j) k = paceAt ps k) := hide (fun k hk => by rw [swp_at hil hjl, if_neg (by omega), if_neg (by omega)]; exact unhide Hsa k hk)
        go_wp2_with fail
        go_roundw
        case rel => exact ⟨i, swp qs i j, by omega, rfl, unhide H2, unhide HS, (swp_perm hil hjl).trans (unhide Hpe), unhide HA, unhide F2⟩
        case measure => simp [intOf]; omega

end Go.Proofs.Ytekobedbjemdiaa
