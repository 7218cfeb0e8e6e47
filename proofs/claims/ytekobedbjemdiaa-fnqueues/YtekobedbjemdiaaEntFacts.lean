/- What Queued and Unqueued come to, as lists: what was queued can be taken out again. Nothing of the program. -/
import Derived.Test.YtekobedbjemdiaaEntMath
namespace Go.Proofs.Ytekobedbjemdiaa
set_option linter.unusedVariables false

theorem who_perm {ps qs : List PaceV} (hp : ps.Perm qs) (h : qs.Pairwise fun a b => a.2 ≠ b.2) : ps.Pairwise fun a b => a.2 ≠ b.2 :=
  (hp.pairwise_iff (fun {x y} (hxy : x.2 ≠ y.2) => Ne.symm hxy)).2 h
theorem unq_yes {rs M : List PaceV} {who : Int} (h : unqueuedV rs who = (M, true)) : queueB M = true ∧ M.length + 1 = rs.length ∧ ∀ i, i < M.length → (paceAt M i).2 ≠ who := by
  unfold unqueuedV at h
  cases hq : queueB rs
  · rw [hq] at h; simp at h
  rw [hq] at h
  rcases findV_cases rs who with ⟨hF, hno⟩ | ⟨k, hF, hk, hw, hno⟩
  · rw [hF] at h; simp at h
  · rw [hF] at h
    simp only [if_true, Int.toNat_natCast] at h
    rw [if_pos (by omega)] at h
    simp only [Prod.mk.injEq, and_true] at h
    subst h
    have hQ := isQ_of hq
    refine ⟨queueB_isQ (hQ.sub (List.eraseIdx_sublist _ _)), by rw [List.length_eraseIdx_of_lt hk]; omega, fun i hi => ?_⟩
    have hpw := who_perm (erase_perm hk) hQ.who
    rw [List.pairwise_append] at hpw
    have := hpw.2.2 _ (paceAt_mem hi) (paceAt rs k) (by simp)
    rw [hw] at this
    exact this
theorem put_at (ps : List PaceV) (e : PaceV) : paceAt (putV ps e) (lessN e ps) = e := by
  have hle := lessN_le e ps
  unfold putV paceAt
  simp [List.getD, Nat.min_eq_left hle]
theorem put_erase (ps : List PaceV) (e : PaceV) : (putV ps e).eraseIdx (lessN e ps) = ps := by
  have hle := lessN_le e ps
  unfold putV
  rw [List.eraseIdx_append_of_length_le (by simp; omega)]
  simp [Nat.min_eq_left hle]
theorem put_find {ps : List PaceV} {e : PaceV} (h : queueB (putV ps e) = true) : findV (putV ps e) e.2 = (lessN e ps : Nat) := by
  have hle := lessN_le e ps
  have hl := putV_len ps e
  have hat := put_at ps e
  refine findV_some (by omega) (by rw [hat]) (fun j hj => ?_)
  have hw := List.pairwise_iff_getElem.1 (isQ_of h).who j (lessN e ps) (by omega) (by omega) hj
  have e1 : paceAt (putV ps e) j = (putV ps e)[j]'(by omega) := by unfold paceAt; simp [List.getD, (by omega : j < (putV ps e).length)]
  have e2 : paceAt (putV ps e) (lessN e ps) = (putV ps e)[lessN e ps]'(by omega) := by unfold paceAt; simp [List.getD, (by omega : lessN e ps < (putV ps e).length)]
  rw [← e1, ← e2, hat] at hw
  exact hw
theorem q_yes {ps L : List PaceV} {e : PaceV} (h : queuedV ps e = (L, true)) : queueB L = true ∧ L.length = ps.length + 1 ∧ unqueuedV L e.2 = (ps, true) := by
  unfold queuedV at h
  cases hq : queueB ps
  · rw [hq] at h; simp at h
  cases h2 : queueB (putV ps e)
  · rw [hq, h2] at h; simp at h
  rw [hq, h2] at h
  simp only [if_true, Prod.mk.injEq, and_true] at h
  subst h
  refine ⟨h2, putV_len ps e, ?_⟩
  unfold unqueuedV
  rw [h2, put_find h2]
  simp only [if_true, Int.toNat_natCast, put_erase]
  rw [if_pos (by omega)]
theorem q_no {ps L : List PaceV} {e : PaceV} (h : queuedV ps e = (L, false)) : (queueB ps = false ∧ L = []) ∨ (queueB ps = true ∧ L = ps) := by
  unfold queuedV at h
  cases hq : queueB ps
  · rw [hq] at h; simp at h; exact .inl ⟨rfl, h⟩
  cases h2 : queueB (putV ps e)
  · rw [hq, h2] at h; simp at h; exact .inr ⟨rfl, h.symm⟩
  · rw [hq, h2] at h; simp at h

end Go.Proofs.Ytekobedbjemdiaa
