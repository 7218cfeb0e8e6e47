/- What the proof rests on, part 14: lists and numbers, how they lie in memory, and contracts of the calls. No condition but those that a theorem names. -/
import Derived.Test.YtifolooecfebfaaGreatXe01
import Derived.Test.YtifolooecfebfaaGreatXe04
import Derived.Test.YtifolooecfebfaaGreatXe09
import GoSem.Claim
import GoSem.ClaimJoined
import GoSem.ClaimMapViews
import Derived.JoinedTies
import Derived.KernelRfl
import Derived.RowKit
import Derived.WalkKit
import Derived.ProofKit
import Derived.OpenShut
import Derived.Outline
import Derived.Lib.QuietBelow
import Derived.Deep.RegionHeld3
import Derived.Deep.DrawnRows
import Derived.BigRegion
import Derived.Deep.RegionLawGrows
import Derived.Deep.QuietTactic
import Derived.BigQuiet
import Derived.Laws.OwnMore
import Derived.OwnWalk
import Derived.Maps.AppendAt
/- Contracts of the model's l6Put: the entry stands where it belongs, in memory of the call's own. Condition: the slice can be read. -/
namespace Go.Proofs.YtifolooecfebfaaGreat
open Go.ChangeShapes Go.WideShapes Go.ChangeAt Go.RowKit Go.Sort
set_option linter.unusedVariables false

theorem slice_to (a : Option Addr) (n cap k : Nat) (hk : k ≤ cap) (W : World) : (Instr.slice 47 (.slice a n cap) none (some (.int .i64 k)) none).run Tryz.prog W = .ok (.slice a k cap) W := by
  obtain ⟨i0, hi, hz0, hz1, hz2⟩ := info_parts infoEntry
  have hs : ∀ W, (sizeOf 129).run Tryz.prog W = .ok 2 W := fun W => by simp [sizeOf, typeInfo, hi, hz1]
  have hb : ∀ W, (Instr.sliceBounds true n cap none (some (.int .i64 k)) none).run Tryz.prog W = .ok (0, k, cap) W := fun W => by
    simp [Instr.sliceBounds, Instr.sliceBound, asIntOf]
    intro h; omega
  simp only [Instr.slice, Sem.run_bind, run_underlying Tryz.underlying47, Result.andThen, hb, hs, Sem.run_pure]
  simp
  cases a <;> simp [Addr.add]
def fromV (a : Option Addr) (n cap k : Nat) : Value := .slice (if cap = k then a else a.map (·.add (k * 2))) (n - k) (cap - k)
theorem slice_from (a : Option Addr) (n cap k : Nat) (hk : k ≤ n) (W : World) : (Instr.slice 47 (.slice a n cap) (some (.int .i64 k)) none none).run Tryz.prog W = .ok (fromV a n cap k) W := by
  obtain ⟨i0, hi, hz0, hz1, hz2⟩ := info_parts infoEntry
  have hs : ∀ W, (sizeOf 129).run Tryz.prog W = .ok 2 W := fun W => by simp [sizeOf, typeInfo, hi, hz1]
  have hb : ∀ W, (Instr.sliceBounds true n cap (some (.int .i64 k)) none none).run Tryz.prog W = .ok (k, n, cap) W := fun W => by
    simp [Instr.sliceBounds, Instr.sliceBound, asIntOf]
    intro h; omega
  simp only [Instr.slice, Sem.run_bind, run_underlying Tryz.underlying47, Result.andThen, hb, hs, Sem.run_pure]
  rfl
theorem paceAt_drop (ps : List PaceV) (n k : Nat) : paceAt (ps.drop n) k = paceAt ps (n + k) := by unfold paceAt; simp [List.getD]
theorem IsPaces.from {w : World} {a : Option Addr} {n cap : Nat} {ps : List PaceV} (h : IsPaces w (.slice a n cap) ps) {k : Nat} (hk : k ≤ ps.length) : IsPaces w (fromV a n cap k) (ps.drop k) := by
  obtain ⟨a', cap', he, hc, hm, hr⟩ := h
  cases he
  refine ⟨_, cap - k, by unfold fromV; rw [List.length_drop], by rw [List.length_drop]; omega, by omega, ?_⟩
  rcases hr with hr | ⟨b, off, rfl, hlt, hcl⟩
  · exact .inl (by rw [hr]; simp)
  · by_cases hz : ps.length = k
    · exact .inl (by rw [List.drop_eq_nil_iff]; omega)
    · rw [if_neg (by omega)]
      refine .inr ⟨b, off + k * 2, by simp [addr_at], hlt, fun j hj => ?_⟩
      rw [List.length_drop] at hj
      rw [paceAt_drop]
      have := hcl (k + j) (by omega)
      rw [show off + (k + j) * 2 = off + k * 2 + j * 2 by omega] at this
      exact this
theorem fromV_shape (a : Option Addr) (n cap k : Nat) : ∃ a', fromV a n cap k = .slice a' (n - k) (cap - k) := ⟨_, rfl⟩

set_option maxRecDepth 100000 in
set_option maxHeartbeats 4000000 in
theorem l6Put_any {w : World} {v : Value} {ps : List PaceV} (f z : Int) (h : IsPaces w v ps) (hl : ps.length ≤ 900) :
    Calls Tryz.prog 124 #[v, .agg #[.int .i64 f, .int .i64 z]] w fun e w' => ∃ v', e = .returned v' ∧ EntsAt w.heap.size w' v' (putV ps (f, z)) ∧ Below w.heap.size w w' := by
  have Hv := hide h
  obtain ⟨a, cap, rfl, hc, hm, hr⟩ := h
  have Hr := hide hr
  clear hr
  go_enter Tryz.func124, Tryz.ntmps124
  go_wp2_with fail
  generalize hW : w.alloc (.cells #[.int .i64 f, .int .i64 z] 129) = W0
  have hs0 : W0.heap.size = w.heap.size + 1 := by rw [← hW]; simp
  have d0 : W0.cell? ⟨w.heap.size, 0, none⟩ = some (.int .i64 f) := by rw [← hW]; simp
  have d1 : W0.cell? ⟨w.heap.size, 1, none⟩ = some (.int .i64 z) := by rw [← hW]; simp
  have HB0 : Hid (Below w.heap.size w W0) := hide (by rw [← hW]; exact (Below.refl _ _).alloc (Nat.le_refl _) _)
  have D0 := hide d0
  have D1 := hide d1
  clear hW d0 d1
  go_loopw [5] (fun i wr => ∃ k : Nat, k ≤ ps.length ∧ i = .int .i64 k ∧ (∀ j, j < k → ltB (paceAt ps j) (f, z) = true) ∧ Below W0.heap.size W0 wr) (fun i _ => ps.length - (intOf i).toNat)
  case atStart => exact ⟨0, Nat.zero_le _, rfl, fun j hj => by omega, Below.refl _ _⟩
  case round =>
    obtain ⟨k, hk, rfl, hst, hb⟩ := hrel
    have Hst := hide hst
    have Hb := hide hb
    have hszr := hb.size
    have hlt0 : w.heap.size < W0.heap.size := by omega
    have g0 := (hb.cell (p := ⟨w.heap.size, 0, none⟩) hlt0).trans (unhide D0)
    have g1 := (hb.cell (p := ⟨w.heap.size, 1, none⟩) hlt0).trans (unhide D1)
    have k0 := cell_regrown g0
    have k1 := cell_regrown g1
    clear hst
    by_cases hgo : k < ps.length ∧ ltB (paceAt ps k) (f, z) = true
    · obtain ⟨hlt, hab⟩ := hgo
      rcases unhide Hr with h0 | ⟨b, off, rfl, hbw, hcl⟩
      · rw [h0] at hlt; simp at hlt
      obtain ⟨c0, c1⟩ := hcl k hlt
      have hbB := (unhide HB0).trans (hb.mono (by omega))
      rw [← hbB.cell (p := ⟨b, off + k * 2, none⟩) hbw] at c0
      rw [← hbB.cell (p := ⟨b, off + k * 2 + 1, none⟩) hbw] at c1
      generalize hp : paceAt ps k = p at *
      obtain ⟨f', z'⟩ := p
      simp only at c0 c1
      have Hp := hide hp
      have m0 := cell_regrown c0
      have m1 := cell_regrown c1
      have hd : decide (k < ps.length) = true := decide_eq_true hlt
      clear hp hcl hb hbB g0 g1 c0 c1
      go_wp2_with fail
      refine wp_region_quiet_below (by kernel_rfl) (by kernel_rfl) ?_
      repeat (go_big_quiet_step (exact Calls.regrown_of (specLess_any _ _ _ _ _)))
      refine wpQuiet_nil ?_
      intro _ hw'
      obtain ⟨⟨dq, osq⟩, hw''⟩ := hw'
      subst hw''
      go_wp2_with fail
      go_roundw
      case rel => exact ⟨k + 1, by omega, by go_num, next_all (unhide Hst) (by rw [unhide Hp]; exact hab), (unhide Hb).trans ((below_regrown _ _ _).mono (unhide Hb).size)⟩
      case measure => simp [intOf]; omega
    · have HK : Hid (lessN (f, z) ps = k) := hide (lessN_eq hk (unhide Hst) (by
        by_cases e : k = ps.length
        · exact .inl e
        · right
          cases hq : ltB (paceAt ps k) (f, z)
          · rfl
          · exact absurd ⟨by omega, hq⟩ hgo))
      have HQ : Hid (ps.take k ++ [(f, z)] ++ ps.drop k = putV ps (f, z)) := hide (by unfold putV; rw [unhide HK]; simp)
      have hto := slice_to a ps.length cap k (by omega)
      have hfr := slice_from a ps.length cap k hk
      obtain ⟨ra, hra⟩ := fromV_shape a ps.length cap k
      rw [hra] at hfr
      have Hfrom : Hid (IsPaces w (.slice ra (ps.length - k) (cap - k)) (ps.drop k)) := hide (by rw [← hra]; exact (unhide Hv).from hk)
      have Hcut : Hid (IsPaces w (.slice a k cap) (ps.take k)) := hide ((unhide Hv).cut hk)
      clear hra
      by_cases hlt : k < ps.length
      · have hab : ltB (paceAt ps k) (f, z) = false := by
          cases hq : ltB (paceAt ps k) (f, z)
          · rfl
          · exact absurd ⟨hlt, hq⟩ hgo
        rcases unhide Hr with h0 | ⟨b, off, rfl, hbw, hcl⟩
        · rw [h0] at hlt; simp at hlt
        obtain ⟨c0, c1⟩ := hcl k hlt
        have hbB := (unhide HB0).trans (hb.mono (by omega))
        rw [← hbB.cell (p := ⟨b, off + k * 2, none⟩) hbw] at c0
        rw [← hbB.cell (p := ⟨b, off + k * 2 + 1, none⟩) hbw] at c1
        generalize hp : paceAt ps k = p at *
        obtain ⟨f', z'⟩ := p
        simp only at c0 c1
        have m0 := cell_regrown c0
        have m1 := cell_regrown c1
        have hd : decide (k < ps.length) = true := decide_eq_true hlt
        clear hp hcl hb hbB g0 g1 c0 c1 hgo
        go_wp2_with fail
        refine wp_region_quiet_below (by kernel_rfl) (by kernel_rfl) ?_
        repeat (go_big_quiet_step (exact Calls.regrown_of (specLess_any _ _ _ _ _)))
        refine wpQuiet_nil ?_
        intro w1 hw'
        have Hb1 : Hid (Below W0.heap.size W0 w1) := hide (by obtain ⟨q, rfl⟩ := hw'; exact (unhide Hb).trans ((below_regrown _ _ _).mono (unhide Hb).size))
        clear hw' k0 k1 m0 m1
        go_wp2_with fail
        have B1 : Hid (Below w.heap.size w w1) := hide ((unhide HB0).trans ((unhide Hb1).mono (by omega)))
        refine (l6Copy_any ((unhide Hfrom).below (unhide B1)) (by simp; omega)).mono ?_
        rintro e w2 ⟨v2, rfl, hi2, hb2⟩
        obtain ⟨a2, cap2, hv2⟩ := hi2.shape
        rw [List.length_drop] at hv2
        subst hv2
        have hz1 := (unhide Hb1).size
        have hz2 := hb2.size
        have Hb2 : Hid (Below W0.heap.size W0 w2) := hide ((unhide Hb1).trans (hb2.mono hz1))
        have e0 := ((unhide Hb2).cell (p := ⟨w.heap.size, 0, none⟩) hlt0).trans (unhide D0)
        have e1 := ((unhide Hb2).cell (p := ⟨w.heap.size, 1, none⟩) hlt0).trans (unhide D1)
        have B2 : Hid (Below w.heap.size w w2) := hide ((unhide HB0).trans ((unhide Hb2).mono (by omega)))
        have Hi2 := hide hi2
        have HC := hide ((unhide Hcut).below (unhide B2))
        clear hi2 hb2
        have hlt2 : w.heap.size < w2.heap.size := by omega
        have hkl : (ps.take k).length = k := by simp; omega
        go_wp2_with fail
        go_region_law (first
          | (refine step_append_ents rfl (.tmp 28) (.tmp 30) 47 Tryz.underlying47 rfl w2.heap.size _ _ (ps.take k) [(f, z)] rfl rfl (E3.later ((Below.refl _ _).alloc (Nat.le_refl _) _)) (ents_one rfl (Nat.le_refl _) (by omega)) (by simp; omega) (by simp; omega) ?_; intro v4 w4 hown4 hg4 hat4; have X4 : Below w2.heap.size w2 w4 := (X3.alloc X3.size _).trans ((Below.refl _ _).grown hg4 (by simp; omega) (fun i e => (E3.lt e).1)))
          | (refine step_append_ents rfl (.tmp 28) (.tmp 30) 47 Tryz.underlying47 rfl w2.heap.size _ _ (ps.take k) [(f, z)] rfl rfl E3 ((ents_one (w := w2) rfl (Nat.le_refl _) (by omega)).below (((Below.refl _ _).drew).trans hb3)) (by simp; omega) (by omega) ?_; intro v4 w4 hown4 hg4 hat4; have X4 : Below w2.heap.size w2 w4 := X3.trans ((Below.refl _ _).grown hg4 (by omega) (fun i e => (E3.lt e).1)))
          | (refine step_append_ents rfl (.tmp 31) (.tmp 32) 47 Tryz.underlying47 rfl w2.heap.size _ _ (ps.take k ++ [(f, z)]) (ps.drop k) rfl rfl hown4 ((unhide Hi2).paces.below X4) (by simp; omega) (by have := X4.size; omega) ?_; intro v5 w5 hown5 hg5 hat5)
          | (go_simp; go_at_call 177; refine (l6Copy_any (ps := ps.take k) ?_ (by simp; omega)).mono ?_; (exact (unhide HC).below (by first | exact (Below.refl _ _).drew | exact ((Below.refl _ _).alloc (Nat.le_refl _) _).drew)); rintro e w3 ⟨v3, rfl, hi3, hb3⟩; obtain ⟨a3, cap3, hv3⟩ := hi3.shape; rw [hkl] at hv3; subst hv3; have E3 := hi3.mono (n₁ := w2.heap.size) (by simp); have X3 : Below w2.heap.size w2 w3 := (by first | exact ((Below.refl _ _).drew).trans (hb3.mono (by simp)) | exact (((Below.refl _ _).alloc (Nat.le_refl _) _).drew).trans (hb3.mono (by simp))); have hz3 := X3.size; have q0 := (X3.cell (p := ⟨w.heap.size, 0, none⟩) hlt2).trans e0; have q1 := (X3.cell (p := ⟨w.heap.size, 1, none⟩) hlt2).trans e1))
        all_goals
          have X5 : Below w2.heap.size w2 w5 := X4.trans ((Below.refl _ _).grown hg5 X4.size (fun i e => (hown4.lt e).1))
          rw [unhide HQ] at hown5
          have HX5 := hide X5
          have HO5 := hide hown5
          clear hown5 hg5 hat5 X4 X5 hown4 hg4 hat4 X3 E3 hi3 hb3 q0 q1
          go_wp2_with fail
          go_ret
          exact ⟨_, rfl, (unhide HO5).mono (unhide B2).size, (unhide B2).trans ((unhide HX5).mono (unhide B2).size)⟩
      · have hd : decide (k < ps.length) = false := decide_eq_false hlt
        clear hb g0 g1 hgo
        go_wp2_with fail
        refine wp_region_quiet_below (by kernel_rfl) (by kernel_rfl) ?_
        repeat (go_big_quiet_step (exact Calls.regrown_of (specLess_any _ _ _ _ _)))
        refine wpQuiet_nil ?_
        intro w1 hw'
        have Hb1 : Hid (Below W0.heap.size W0 w1) := hide (by obtain ⟨q, rfl⟩ := hw'; exact (unhide Hb).trans ((below_regrown _ _ _).mono (unhide Hb).size))
        clear hw' k0 k1
        go_wp2_with fail
        have B1 : Hid (Below w.heap.size w w1) := hide ((unhide HB0).trans ((unhide Hb1).mono (by omega)))
        refine (l6Copy_any ((unhide Hfrom).below (unhide B1)) (by simp; omega)).mono ?_
        rintro e w2 ⟨v2, rfl, hi2, hb2⟩
        obtain ⟨a2, cap2, hv2⟩ := hi2.shape
        rw [List.length_drop] at hv2
        subst hv2
        have hz1 := (unhide Hb1).size
        have hz2 := hb2.size
        have Hb2 : Hid (Below W0.heap.size W0 w2) := hide ((unhide Hb1).trans (hb2.mono hz1))
        have e0 := ((unhide Hb2).cell (p := ⟨w.heap.size, 0, none⟩) hlt0).trans (unhide D0)
        have e1 := ((unhide Hb2).cell (p := ⟨w.heap.size, 1, none⟩) hlt0).trans (unhide D1)
        have B2 : Hid (Below w.heap.size w w2) := hide ((unhide HB0).trans ((unhide Hb2).mono (by omega)))
        have Hi2 := hide hi2
        have HC := hide ((unhide Hcut).below (unhide B2))
        clear hi2 hb2
        have hlt2 : w.heap.size < w2.heap.size := by omega
        have hkl : (ps.take k).length = k := by simp; omega
        go_wp2_with fail
        go_region_law (first
          | (refine step_append_ents rfl (.tmp 28) (.tmp 30) 47 Tryz.underlying47 rfl w2.heap.size _ _ (ps.take k) [(f, z)] rfl rfl (E3.later ((Below.refl _ _).alloc (Nat.le_refl _) _)) (ents_one rfl (Nat.le_refl _) (by omega)) (by simp; omega) (by simp; omega) ?_; intro v4 w4 hown4 hg4 hat4; have X4 : Below w2.heap.size w2 w4 := (X3.alloc X3.size _).trans ((Below.refl _ _).grown hg4 (by simp; omega) (fun i e => (E3.lt e).1)))
          | (refine step_append_ents rfl (.tmp 28) (.tmp 30) 47 Tryz.underlying47 rfl w2.heap.size _ _ (ps.take k) [(f, z)] rfl rfl E3 ((ents_one (w := w2) rfl (Nat.le_refl _) (by omega)).below (((Below.refl _ _).drew).trans hb3)) (by simp; omega) (by omega) ?_; intro v4 w4 hown4 hg4 hat4; have X4 : Below w2.heap.size w2 w4 := X3.trans ((Below.refl _ _).grown hg4 (by omega) (fun i e => (E3.lt e).1)))
          | (refine step_append_ents rfl (.tmp 31) (.tmp 32) 47 Tryz.underlying47 rfl w2.heap.size _ _ (ps.take k ++ [(f, z)]) (ps.drop k) rfl rfl hown4 ((unhide Hi2).paces.below X4) (by simp; omega) (by have := X4.size; omega) ?_; intro v5 w5 hown5 hg5 hat5)
          | (go_simp; go_at_call 177; refine (l6Copy_any (ps := ps.take k) ?_ (by simp; omega)).mono ?_; (exact (unhide HC).below (by first | exact (Below.refl _ _).drew | exact ((Below.refl _ _).alloc (Nat.le_refl _) _).drew)); rintro e w3 ⟨v3, rfl, hi3, hb3⟩; obtain ⟨a3, cap3, hv3⟩ := hi3.shape; rw [hkl] at hv3; subst hv3; have E3 := hi3.mono (n₁ := w2.heap.size) (by simp); have X3 : Below w2.heap.size w2 w3 := (by first | exact ((Below.refl _ _).drew).trans (hb3.mono (by simp)) | exact (((Below.refl _ _).alloc (Nat.le_refl _) _).drew).trans (hb3.mono (by simp))); have hz3 := X3.size; have q0 := (X3.cell (p := ⟨w.heap.size, 0, none⟩) hlt2).trans e0; have q1 := (X3.cell (p := ⟨w.heap.size, 1, none⟩) hlt2).trans e1))
        all_goals
          have X5 : Below w2.heap.size w2 w5 := X4.trans ((Below.refl _ _).grown hg5 X4.size (fun i e => (hown4.lt e).1))
          rw [unhide HQ] at hown5
          have HX5 := hide X5
          have HO5 := hide hown5
          clear hown5 hg5 hat5 X4 X5 hown4 hg4 hat4 X3 E3 hi3 hb3 q0 q1
          go_wp2_with fail
          go_ret
          exact ⟨_, rfl, (unhide HO5).mono (unhide B2).size, (unhide B2).trans ((unhide HX5).mono (unhide B2).size)⟩

end Go.Proofs.YtifolooecfebfaaGreat

