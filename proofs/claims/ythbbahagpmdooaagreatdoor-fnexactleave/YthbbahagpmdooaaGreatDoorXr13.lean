/- What the proof rests on, part 13: lists and numbers, how they lie in memory, and contracts of the calls. No condition but those that a theorem names. -/
import Derived.Test.YthbbahagpmdooaaGreatDoorXr01
import Derived.Test.YthbbahagpmdooaaGreatDoorXr02
import Derived.Test.YthbbahagpmdooaaGreatDoorXr03
import Derived.Test.YthbbahagpmdooaaGreatDoorXr04
import Derived.Test.YthbbahagpmdooaaGreatDoorXr05
import Derived.Test.YthbbahagpmdooaaGreatDoorXr06
import Derived.Test.YthbbahagpmdooaaGreatDoorXr07
import Derived.Test.YthbbahagpmdooaaGreatDoorXr08
import Derived.Test.YthbbahagpmdooaaGreatDoorXr09
import Derived.Test.YthbbahagpmdooaaGreatDoorXr10
import Derived.Test.YthbbahagpmdooaaGreatDoorXr11
import Derived.Test.YthbbahagpmdooaaGreatDoorXr12
import Derived.BigQuiet
import Derived.Lib.QuietBelow
import Derived.Maps.AppendAt
import Derived.RangeFuncNested
import Derived.RangeFuncBound
import Derived.RangeFuncCalls
import Derived.RangeFuncLeaves
import Derived.RangeFuncBox
import Derived.Shelf.Abstract
import Derived.Shelf.RegionOpen
import Derived.WalkKit
import Derived.OwnWalkIn
import Derived.TacticsInMore
import Derived.LoopNIn
import Derived.LoopIn
import Derived.WalkMore
import Derived.Below
import Derived.ProofKit
import Derived.OpenShut
import Derived.Outline
import Derived.Deep.RegionHeld3
import Derived.Deep.DrawnRows
import Derived.BigRegion
import Derived.Deep.RegionLawGrows
import Derived.Deep.RegionWith
import Derived.Deep.QuietTactic
import Derived.Laws.OwnMore
import Derived.OwnWalk
import Derived.Lib.SmallJoins
import Derived.Deep.Fields
import Derived.Deep.Slices
import Derived.OrdersHeld
import Derived.Deep.RegionHeldLaw
import Derived.Laws.StructEq
import Derived.Deep.DeepCutAuto
/- Contracts of the model's l6Put: the entry stands where it belongs, in memory of the call's own. Condition: the slice can be read. -/
namespace Go.Proofs.YthbbahagpmdooaaGreatDoor
open Go.ChangeShapes Go.WideShapes Go.ChangeAt Go.RowKit Go.Sort
set_option linter.unusedVariables false

theorem slice_to (a : Option Addr) (n cap k : Nat) (hk : k ≤ cap) (W : World) : (Instr.slice 191 (.slice a n cap) none (some (.int .i64 k)) none).run Tryz.prog W = .ok (.slice a k cap) W := by
  obtain ⟨i0, hi, hz0, hz1, hz2⟩ := info_parts infoEntry
  have hs : ∀ W, (sizeOf 194).run Tryz.prog W = .ok 2 W := fun W => by simp [sizeOf, typeInfo, hi, hz1]
  have hb : ∀ W, (Instr.sliceBounds true n cap none (some (.int .i64 k)) none).run Tryz.prog W = .ok (0, k, cap) W := fun W => by
    simp [Instr.sliceBounds, Instr.sliceBound, asIntOf]
    intro h; omega
  simp only [Instr.slice, Sem.run_bind, run_underlying Tryz.underlying191, Result.andThen, hb, hs, Sem.run_pure]
  simp
  cases a <;> simp [Addr.add]
def fromV (a : Option Addr) (n cap k : Nat) : Value := .slice (if cap = k then a else a.map (·.add (k * 2))) (n - k) (cap - k)
theorem slice_from (a : Option Addr) (n cap k : Nat) (hk : k ≤ n) (W : World) : (Instr.slice 191 (.slice a n cap) (some (.int .i64 k)) none none).run Tryz.prog W = .ok (fromV a n cap k) W := by
  obtain ⟨i0, hi, hz0, hz1, hz2⟩ := info_parts infoEntry
  have hs : ∀ W, (sizeOf 194).run Tryz.prog W = .ok 2 W := fun W => by simp [sizeOf, typeInfo, hi, hz1]
  have hb : ∀ W, (Instr.sliceBounds true n cap (some (.int .i64 k)) none none).run Tryz.prog W = .ok (k, n, cap) W := fun W => by
    simp [Instr.sliceBounds, Instr.sliceBound, asIntOf]
    intro h; omega
  simp only [Instr.slice, Sem.run_bind, run_underlying Tryz.underlying191, Result.andThen, hb, hs, Sem.run_pure]
  rfl
theorem paceAt_drop (ps : List PaceV) (n k : Nat) : paceAt (ps.drop n) k = paceAt ps (n + k) := by unfold paceAt; simp [List.getD]
theorem IsPaces.from {w : World} {a : Option Addr} {n cap : Nat} {ps : List PaceV} (h : IsPaces w (.slice a n cap) ps) {k : Nat} (hk : k ≤ ps.length) : IsPaces w (fromV a n cap k) (ps.drop k) := by
  obtain ⟨a', cap', he, hc, hm, hr⟩ := h
  cases he
  refine ⟨_, cap - k, by unfold fromV; rw [List.length_drop], by rw [List.length_drop]; omega, by omega, ?_⟩
  rcases hr with hr | ⟨b, off, rfl, hlt, hcl⟩
  · exact .inl (by rw [hr]; simp)
  · by_cases hz : ps.length = k
    · exact .inl (by rw [List.drop_eq_nil_iff]; omega)
    · rw [if_neg (by omega)]
      refine .inr ⟨b, off + k * 2, by simp [addr_at], hlt, fun j hj => ?_⟩
      rw [List.length_drop] at hj
      rw [paceAt_drop]
      have := hcl (k + j) (by omega)
      rw [show off + (k + j) * 2 = off + k * 2 + j * 2 by omega] at this
      exact this
theorem fromV_shape (a : Option Addr) (n cap k : Nat) : ∃ a', fromV a n cap k = .slice a' (n - k) (cap - k) := ⟨_, rfl⟩

set_option maxRecDepth 100000 in
set_option maxHeartbeats 4000000 in
theorem l6Put_any {w : World} {v : Value} {ps : List PaceV} (f z : Int) (h : IsPaces w v ps) (hl : ps.length ≤ 900) :
    Calls Tryz.prog 226 #[v, .agg #[.int .i64 f, .int .i64 z]] w fun e w' => ∃ v', e = .returned v' ∧ EntsAt w.heap.size w' v' (putV ps (f, z)) ∧ Below w.heap.size w w' := by
  have Hv := hide h
  obtain ⟨a, cap, rfl, hc, hm, hr⟩ := h
  have Hr := hide hr
  clear hr
  go_enter Tryz.func226, Tryz.ntmps226
  go_wp2_with fail
  generalize hW : w.alloc (.cells #[.int .i64 f, .int .i64 z] 194) = W0
  have hs0 : W0.heap.size = w.heap.size + 1 := by rw [← hW]; simp
  have d0 : W0.cell? ⟨w.heap.size, 0, none⟩ = some (.int .i64 f) := by rw [← hW]; simp
  have d1 : W0.cell? ⟨w.heap.size, 1, none⟩ = some (.int .i64 z) := by rw [← hW]; simp
  have HB0 : Hid (Below w.heap.size w W0) := hide (by rw [← hW]; exact (Below.refl _ _).alloc (Nat.le_refl _) _)
  have D0 := hide d0
  have D1 := hide d1
  clear hW d0 d1
  go_loopw [5] (fun i wr => ∃ k : Nat, k ≤ ps.length ∧ i = .int .i64 k ∧ (∀ j, j < k → ltB (paceAt ps j) (f, z) = true) ∧ Below W0.heap.size W0 wr) (fun i _ => ps.length - (intOf i).toNat)
  case atStart => exact ⟨0, Nat.zero_le _, rfl, fun j hj => by omega, Below.refl _ _⟩
  case round =>
    obtain ⟨k, hk, rfl, hst, hb⟩ := hrel
    have Hst := hide hst
    have Hb := hide hb
    have hszr := hb.size
    have hlt0 : w.heap.size < W0.heap.size := by omega
    have g0 := (hb.cell (p := ⟨w.heap.size, 0, none⟩) hlt0).trans (unhide D0)
    have g1 := (hb.cell (p := ⟨w.heap.size, 1, none⟩) hlt0).trans (unhide D1)
    have k0 := cell_regrown g0
    have k1 := cell_regrown g1
    clear hst
    by_cases hgo : k < ps.length ∧ ltB (paceAt ps k) (f, z) = true
    · obtain ⟨hlt, hab⟩ := hgo
      rcases unhide Hr with h0 | ⟨b, off, rfl, hbw, hcl⟩
      · rw [h0] at hlt; simp at hlt
      obtain ⟨c0, c1⟩ := hcl k hlt
      have hbB := (unhide HB0).trans (hb.mono (by omega))
      rw [← hbB.cell (p := ⟨b, off + k * 2, none⟩) hbw] at c0
      rw [← hbB.cell (p := ⟨b, off + k * 2 + 1, none⟩) hbw] at c1
      generalize hp : paceAt ps k = p at *
      obtain ⟨f', z'⟩ := p
      simp only at c0 c1
      have Hp := hide hp
      have m0 := cell_regrown c0
      have m1 := cell_regrown c1
      have hd : decide (k < ps.length) = true := decide_eq_true hlt
      clear hp hcl hb hbB g0 g1 c0 c1
      go_wp2_with fail
      refine wp_region_quiet_below (by kernel_rfl) (by kernel_rfl) ?_
      repeat (go_big_quiet_step (exact Calls.regrown_of (specLess_any _ _ _ _ _)))
      refine wpQuiet_nil ?_
      intro _ hw'
      obtain ⟨⟨dq, osq⟩, hw''⟩ := hw'
      subst hw''
      go_wp2_with fail
      go_roundw
      case rel => exact ⟨k + 1, by omega, by go_num, next_all (unhide Hst) (by rw [unhide Hp]; exact hab), (unhide Hb).trans ((below_regrown _ _ _).mono (unhide Hb).size)⟩
      case measure => simp [intOf]; omega
    · have HK : Hid (lessN (f, z) ps = k) := hide (lessN_eq hk (unhide Hst) (by
        by_cases e : k = ps.length
        · exact .inl e
        · right
          cases hq : ltB (paceAt ps k) (f, z)
          · rfl
          · exact absurd ⟨by omega, hq⟩ hgo))
      have HQ : Hid (ps.take k ++ [(f, z)] ++ ps.drop k = putV ps (f, z)) := hide (by unfold putV; rw [unhide HK]; simp)
      have hto := slice_to a ps.length cap k (by omega)
      have hfr := slice_from a ps.length cap k hk
      obtain ⟨ra, hra⟩ := fromV_shape a ps.length cap k
      rw [hra] at hfr
      have Hfrom : Hid (IsPaces w (.slice ra (ps.length - k) (cap - k)) (ps.drop k)) := hide (by rw [← hra]; exact (unhide Hv).from hk)
      have Hcut : Hid (IsPaces w (.slice a k cap) (ps.take k)) := hide ((unhide Hv).cut hk)
      clear hra
      by_cases hlt : k < ps.length
      · have hab : ltB (paceAt ps k) (f, z) = false := by
          cases hq : ltB (paceAt ps k) (f, z)
          · rfl
          · exact absurd ⟨hlt, hq⟩ hgo
        rcases unhide Hr with h0 | ⟨b, off, rfl, hbw, hcl⟩
        · rw [h0] at hlt; simp at hlt
        obtain ⟨c0, c1⟩ := hcl k hlt
        have hbB := (unhide HB0).trans (hb.mono (by omega))
        rw [← hbB.cell (p := ⟨b, off + k * 2, none⟩) hbw] at c0
        rw [← hbB.cell (p := ⟨b, off + k * 2 + 1, none⟩) hbw] at c1
        generalize hp : paceAt ps k = p at *
        obtain ⟨f', z'⟩ := p
        simp only at c0 c1
        have m0 := cell_regrown c0
        have m1 := cell_regrown c1
        have hd : decide (k < ps.length) = true := decide_eq_true hlt
        clear hp hcl hb hbB g0 g1 c0 c1 hgo
        go_wp2_with fail
        refine wp_region_quiet_below (by kernel_rfl) (by kernel_rfl) ?_
        repeat (go_big_quiet_step (exact Calls.regrown_of (specLess_any _ _ _ _ _)))
        refine wpQuiet_nil ?_
        intro w1 hw'
        have Hb1 : Hid (Below W0.heap.size W0 w1) := hide (by obtain ⟨q, rfl⟩ := hw'; exact (unhide Hb).trans ((below_regrown _ _ _).mono (unhide Hb).size))
        clear hw' k0 k1 m0 m1
        go_wp2_with fail
        have B1 : Hid (Below w.heap.size w w1) := hide ((unhide HB0).trans ((unhide Hb1).mono (by omega)))
        refine (l6Copy_any ((unhide Hfrom).below (unhide B1)) (by simp; omega)).mono ?_
        rintro e w2 ⟨v2, rfl, hi2, hb2⟩
        obtain ⟨a2, cap2, hv2⟩ := hi2.shape
        rw [List.length_drop] at hv2
        subst hv2
        have hz1 := (unhide Hb1).size
        have hz2 := hb2.size
        have Hb2 : Hid (Below W0.heap.size W0 w2) := hide ((unhide Hb1).trans (hb2.mono hz1))
        have e0 := ((unhide Hb2).cell (p := ⟨w.heap.size, 0, none⟩) hlt0).trans (unhide D0)
        have e1 := ((unhide Hb2).cell (p := ⟨w.heap.size, 1, none⟩) hlt0).trans (unhide D1)
        have B2 : Hid (Below w.heap.size w w2) := hide ((unhide HB0).trans ((unhide Hb2).mono (by omega)))
        have Hi2 := hide hi2
        have HC := hide ((unhide Hcut).below (unhide B2))
        clear hi2 hb2
        have hlt2 : w.heap.size < w2.heap.size := by omega
        have hkl : (ps.take k).length = k := by simp; omega
        go_wp2_with fail
        go_region_law (first
          | (refine step_append_ents rfl (.tmp 28) (.tmp 30) 191 Tryz.underlying191 rfl w2.heap.size _ _ (ps.take k) [(f, z)] rfl rfl (E3.later ((Below.refl _ _).alloc (Nat.le_refl _) _)) (ents_one rfl (Nat.le_refl _) (by omega)) (by simp; omega) (by simp; omega) ?_; intro v4 w4 hown4 hg4 hat4; have X4 : Below w2.heap.size w2 w4 := (X3.alloc X3.size _).trans ((Below.refl _ _).grown hg4 (by simp; omega) (fun i e => (E3.lt e).1)))
          | (refine step_append_ents rfl (.tmp 28) (.tmp 30) 191 Tryz.underlying191 rfl w2.heap.size _ _ (ps.take k) [(f, z)] rfl rfl E3 ((ents_one (w := w2) rfl (Nat.le_refl _) (by omega)).below (((Below.refl _ _).drew).trans hb3)) (by simp; omega) (by omega) ?_; intro v4 w4 hown4 hg4 hat4; have X4 : Below w2.heap.size w2 w4 := X3.trans ((Below.refl _ _).grown hg4 (by omega) (fun i e => (E3.lt e).1)))
          | (refine step_append_ents rfl (.tmp 31) (.tmp 32) 191 Tryz.underlying191 rfl w2.heap.size _ _ (ps.take k ++ [(f, z)]) (ps.drop k) rfl rfl hown4 ((unhide Hi2).paces.below X4) (by simp; omega) (by have := X4.size; omega) ?_; intro v5 w5 hown5 hg5 hat5)
          | (go_simp; go_at_call 279; refine (l6Copy_any (ps := ps.take k) ?_ (by simp; omega)).mono ?_; (exact (unhide HC).below (by first | exact (Below.refl _ _).drew | exact ((Below.refl _ _).alloc (Nat.le_refl _) _).drew)); rintro e w3 ⟨v3, rfl, hi3, hb3⟩; obtain ⟨a3, cap3, hv3⟩ := hi3.shape; rw [hkl] at hv3; subst hv3; have E3 := hi3.mono (n₁ := w2.heap.size) (by simp); have X3 : Below w2.heap.size w2 w3 := (by first | exact ((Below.refl _ _).drew).trans (hb3.mono (by simp)) | exact (((Below.refl _ _).alloc (Nat.le_refl _) _).drew).trans (hb3.mono (by simp))); have hz3 := X3.size; have q0 := (X3.cell (p := ⟨w.heap.size, 0, none⟩) hlt2).trans e0; have q1 := (X3.cell (p := ⟨w.heap.size, 1, none⟩) hlt2).trans e1))
        all_goals
          have X5 : Below w2.heap.size w2 w5 := X4.trans ((Below.refl _ _).grown hg5 X4.size (fun i e => (hown4.lt e).1))
          rw [unhide HQ] at hown5
          have HX5 := hide X5
          have HO5 := hide hown5
          clear hown5 hg5 hat5 X4 X5 hown4 hg4 hat4 X3 E3 hi3 hb3 q0 q1
          go_wp2_with fail
          go_ret
          exact ⟨_, rfl, (unhide HO5).mono (unhide B2).size, (unhide B2).trans ((unhide HX5).mono (unhide B2).size)⟩
      · have hd : decide (k < ps.length) = false := decide_eq_false hlt
        clear hb g0 g1 hgo
        go_wp2_with fail
        refine wp_region_quiet_below (by kernel_rfl) (by kernel_rfl) ?_
        repeat (go_big_quiet_step (exact Calls.regrown_of (specLess_any _ _ _ _ _)))
        refine wpQuiet_nil ?_
        intro w1 hw'
        have Hb1 : Hid (Below W0.heap.size W0 w1) := hide (by obtain ⟨q, rfl⟩ := hw'; exact (unhide Hb).trans ((below_regrown _ _ _).mono (unhide Hb).size))
        clear hw' k0 k1
        go_wp2_with fail
        have B1 : Hid (Below w.heap.size w w1) := hide ((unhide HB0).trans ((unhide Hb1).mono (by omega)))
        refine (l6Copy_any ((unhide Hfrom).below (unhide B1)) (by simp; omega)).mono ?_
        rintro e w2 ⟨v2, rfl, hi2, hb2⟩
        obtain ⟨a2, cap2, hv2⟩ := hi2.shape
        rw [List.length_drop] at hv2
        subst hv2
        have hz1 := (unhide Hb1).size
        have hz2 := hb2.size
        have Hb2 : Hid (Below W0.heap.size W0 w2) := hide ((unhide Hb1).trans (hb2.mono hz1))
        have e0 := ((unhide Hb2).cell (p := ⟨w.heap.size, 0, none⟩) hlt0).trans (unhide D0)
        have e1 := ((unhide Hb2).cell (p := ⟨w.heap.size, 1, none⟩) hlt0).trans (unhide D1)
        have B2 : Hid (Below w.heap.size w w2) := hide ((unhide HB0).trans ((unhide Hb2).mono (by omega)))
        have Hi2 := hide hi2
        have HC := hide ((unhide Hcut).below (unhide B2))
        clear hi2 hb2
        have hlt2 : w.heap.size < w2.heap.size := by omega
        have hkl : (ps.take k).length = k := by simp; omega
        go_wp2_with fail
        go_region_law (first
          | (refine step_append_ents rfl (.tmp 28) (.tmp 30) 191 Tryz.underlying191 rfl w2.heap.size _ _ (ps.take k) [(f, z)] rfl rfl (E3.later ((Below.refl _ _).alloc (Nat.le_refl _) _)) (ents_one rfl (Nat.le_refl _) (by omega)) (by simp; omega) (by simp; omega) ?_; intro v4 w4 hown4 hg4 hat4; have X4 : Below w2.heap.size w2 w4 := (X3.alloc X3.size _).trans ((Below.refl _ _).grown hg4 (by simp; omega) (fun i e => (E3.lt e).1)))
          | (refine step_append_ents rfl (.tmp 28) (.tmp 30) 191 Tryz.underlying191 rfl w2.heap.size _ _ (ps.take k) [(f, z)] rfl rfl E3 ((ents_one (w := w2) rfl (Nat.le_refl _) (by omega)).below (((Below.refl _ _).drew).trans hb3)) (by simp; omega) (by omega) ?_; intro v4 w4 hown4 hg4 hat4; have X4 : Below w2.heap.size w2 w4 := X3.trans ((Below.refl _ _).grown hg4 (by omega) (fun i e => (E3.lt e).1)))
          | (refine step_append_ents rfl (.tmp 31) (.tmp 32) 191 Tryz.underlying191 rfl w2.heap.size _ _ (ps.take k ++ [(f, z)]) (ps.drop k) rfl rfl hown4 ((unhide Hi2).paces.below X4) (by simp; omega) (by have := X4.size; omega) ?_; intro v5 w5 hown5 hg5 hat5)
          | (go_simp; go_at_call 279; refine (l6Copy_any (ps := ps.take k) ?_ (by simp; omega)).mono ?_; (exact (unhide HC).below (by first | exact (Below.refl _ _).drew | exact ((Below.refl _ _).alloc (Nat.le_refl _) _).drew)); rintro e w3 ⟨v3, rfl, hi3, hb3⟩; obtain ⟨a3, cap3, hv3⟩ := hi3.shape; rw [hkl] at hv3; subst hv3; have E3 := hi3.mono (n₁ := w2.heap.size) (by simp); have X3 : Below w2.heap.size w2 w3 := (by first | exact ((Below.refl _ _).drew).trans (hb3.mono (by simp)) | exact (((Below.refl _ _).alloc (Nat.le_refl _) _).drew).trans (hb3.mono (by simp))); have hz3 := X3.size; have q0 := (X3.cell (p := ⟨w.heap.size, 0, none⟩) hlt2).trans e0; have q1 := (X3.cell (p := ⟨w.heap.size, 1, none⟩) hlt2).trans e1))
        all_goals
          have X5 : Below w2.heap.size w2 w5 := X4.trans ((Below.refl _ _).grown hg5 X4.size (fun i e => (hown4.lt e).1))
          rw [unhide HQ] at hown5
          have HX5 := hide X5
          have HO5 := hide hown5
          clear hown5 hg5 hat5 X4 X5 hown4 hg4 hat4 X3 E3 hi3 hb3 q0 q1
          go_wp2_with fail
          go_ret
          exact ⟨_, rfl, (unhide HO5).mono (unhide B2).size, (unhide B2).trans ((unhide HX5).mono (unhide B2).size)⟩

end Go.Proofs.YthbbahagpmdooaaGreatDoor

/- Who is at a bench: the model's l11At and At. Conditions: the smithy can be read; what each theorem names. -/
namespace Go.Proofs.YthbbahagpmdooaaGreatDoor
open Go.ChangeShapes Go.WideShapes Go.ChangeAt Go.RowKit Go.Sort
set_option linter.unusedVariables false

set_option maxRecDepth 100000 in
set_option maxHeartbeats 8000000 in
theorem l11At_any {w : World} {v0 v1 v2 v3 v4 : Value} {m : SmyV} (b : Int) (h : Smy w v0 v1 v2 v3 v4 m) (hl : m.smiths.length ≤ 800) :
    Calls Tryz.prog 179 #[.agg #[v0, v1, v2, v3, v4, .int .i64 m.now], .int .i64 b] w fun e w' => ∃ v', e = .returned v' ∧ EntsAt w.heap.size w' v' (atV m.smiths b m.smiths.length) ∧ Below w.heap.size w w' := by
  obtain ⟨h0, h1, h2, h3, h4⟩ := h
  obtain ⟨a0, p0, rfl, hc0, hm0, _⟩ := h0
  obtain ⟨a1, p1, rfl, hc1, hm1, _⟩ := h1
  obtain ⟨a2, p2, rfl, hc2, hm2, r2⟩ := h2
  obtain ⟨a3, p3, rfl, hc3, hm3, _⟩ := h3
  obtain ⟨a4, p4, rfl, hc4, hm4, _⟩ := h4
  have R2 := hide r2
  clear r2
  have kb0 : Hid (Blk ((w.alloc (.cells #[.slice a0 m.rooms.length p0, .slice a1 m.guilds.length p1, .slice a2 m.smiths.length p2, .slice a3 m.desks.length p3, .slice a4 m.paces.length p4, .int .i64 m.now] 32)).alloc (.cells #[] 194)) w.heap.size 32 #[.slice a0 m.rooms.length p0, .slice a1 m.guilds.length p1, .slice a2 m.smiths.length p2, .slice a3 m.desks.length p3, .slice a4 m.paces.length p4, .int .i64 m.now]) := hide ((Blk.new w _ _).alloc _)
  have BB0 : Hid (Below w.heap.size w ((w.alloc (.cells #[.slice a0 m.rooms.length p0, .slice a1 m.guilds.length p1, .slice a2 m.smiths.length p2, .slice a3 m.desks.length p3, .slice a4 m.paces.length p4, .int .i64 m.now] 32)).alloc (.cells #[] 194))) := hide (((Below.refl _ _).alloc (Nat.le_refl _) _).alloc (by simp) _)
  have E0 : Hid (EntsAt w.heap.size ((w.alloc (.cells #[.slice a0 m.rooms.length p0, .slice a1 m.guilds.length p1, .slice a2 m.smiths.length p2, .slice a3 m.desks.length p3, .slice a4 m.paces.length p4, .int .i64 m.now] 32)).alloc (.cells #[] 194)) (.slice (some ⟨w.heap.size + 1, 0, none⟩) 0 0) []) := hide (ents_empty (by simp) (by omega))
  go_enter Tryz.func179, Tryz.ntmps179
  go_wp2_with fail
  go_loopw [5, 6] (fun q i wr => ∃ k : Nat, k ≤ m.smiths.length ∧ i = .int .i64 k ∧ EntsAt w.heap.size wr q (atV m.smiths b k) ∧ Blk wr w.heap.size 32 #[.slice a0 m.rooms.length p0, .slice a1 m.guilds.length p1, .slice a2 m.smiths.length p2, .slice a3 m.desks.length p3, .slice a4 m.paces.length p4, .int .i64 m.now] ∧ Below w.heap.size w wr) (fun _ i _ => m.smiths.length - (intOf i).toNat)
  case atStart => exact ⟨0, Nat.zero_le _, rfl, unhide E0, unhide kb0, unhide BB0⟩
  case round =>
    obtain ⟨k, hk, rfl, he, kb1, hb1⟩ := hrel
    obtain ⟨qa, qcap, rfl⟩ := EntsAt.shape he
    have kb := hide kb1
    have BB := hide hb1
    have He := hide he
    clear kb1 hb1 he kb0 BB0 E0
    have hal := atV_len m.smiths b k
    have c2 := (unhide kb).cell (i := 2) (v := .slice a2 m.smiths.length p2) rfl
    by_cases hls : k < m.smiths.length
    · rcases unhide R2 with e0 | ⟨sb, off, rfl, hbw, hcl⟩
      · rw [e0] at hls; simp at hls
      obtain ⟨d0, d1, d2, d3, d4, d5, d6, d7, d8, d9, d10⟩ := smith_cells hcl hls
      rw [← (unhide BB).cell (p := ⟨sb, off + k * 11, none⟩) hbw] at d0
      rw [← (unhide BB).cell (p := ⟨sb, off + k * 11 + 1, none⟩) hbw] at d1
      rw [← (unhide BB).cell (p := ⟨sb, off + k * 11 + 2, none⟩) hbw] at d2
      rw [← (unhide BB).cell (p := ⟨sb, off + k * 11 + 3, none⟩) hbw] at d3
      rw [← (unhide BB).cell (p := ⟨sb, off + k * 11 + 4, none⟩) hbw] at d4
      rw [← (unhide BB).cell (p := ⟨sb, off + k * 11 + 5, none⟩) hbw] at d5
      rw [← (unhide BB).cell (p := ⟨sb, off + k * 11 + 6, none⟩) hbw] at d6
      rw [← (unhide BB).cell (p := ⟨sb, off + k * 11 + 7, none⟩) hbw] at d7
      rw [← (unhide BB).cell (p := ⟨sb, off + k * 11 + 8, none⟩) hbw] at d8
      rw [← (unhide BB).cell (p := ⟨sb, off + k * 11 + 9, none⟩) hbw] at d9
      rw [← (unhide BB).cell (p := ⟨sb, off + k * 11 + 10, none⟩) hbw] at d10
      clear hcl
      have S1 := hide (fun hs => atV_no (ss := m.smiths) (b := b) (k := k) hs)
      have S2 := hide (fun h1 h2 => atV_yes (ss := m.smiths) (b := b) (k := k) h1 h2)
      generalize recAt m.smiths k = ss at *
      obtain ⟨st, be, rk, my, gu, lo, hi, hd, ca, ut, wk⟩ := ss
      simp only at d0 d1 d2 d3 d4 d5 d6 d7 d8 d9 d10
      have hl0 : w.heap.size < wr.heap.size := (unhide kb).lt
      by_cases hbe : be = b
      rotate_left
      · have hbn : (be == b) = false := by simpa using hbe
        go_wp2_with fail
        go_roundw
        case rel => exact ⟨k + 1, by omega, by go_num, by rw [unhide S1 (fun h9 => hbe h9.1)]; exact EntsAt.later (unhide He) ((Below.refl _ _).alloc (Nat.le_refl _) _), (unhide kb).alloc _, (unhide BB).alloc (unhide BB).size _⟩
        case measure => simp [intOf]; omega
      subst hbe
      have hbn : (be == be) = true := by simp
      obtain ⟨ps, hps⟩ : ∃ q, presS (st, be, rk, my, gu, lo, hi, hd, ca, ut, wk) = q := ⟨_, rfl⟩
      have Hps := hide hps
      clear hps
      go_wp2_with fail
      clear c2 d0 d1 d2 d3 d4 d5 d6 d7 d8 d9 d10
      refine (l11Present_q (unhide Hps) _).mono ?_
      rintro e w2 ⟨rfl, hb⟩
      have ks : Hid (Blk w2 wr.heap.size 40 #[.int .i64 st, .int .i64 be, .int .i64 rk, .int .i64 my, .int .i64 gu, .int .i64 lo, .int .i64 hi, .int .i64 hd, .int .i64 ca, .int .i64 ut, .int .i64 wk]) := hide ((Blk.new wr _ _).below hb (by simp))
      replace kb := hide (((unhide kb).alloc (.cells #[.int .i64 st, .int .i64 be, .int .i64 rk, .int .i64 my, .int .i64 gu, .int .i64 lo, .int .i64 hi, .int .i64 hd, .int .i64 ca, .int .i64 ut, .int .i64 wk] 40)).below hb (by simp; omega))
      have hba := ((Below.refl wr.heap.size wr).alloc (Nat.le_refl _) (.cells #[.int .i64 st, .int .i64 be, .int .i64 rk, .int .i64 my, .int .i64 gu, .int .i64 lo, .int .i64 hi, .int .i64 hd, .int .i64 ca, .int .i64 ut, .int .i64 wk] 40)).trans (hb.mono (by simp))
      replace He := hide (EntsAt.later (unhide He) hba)
      replace BB := hide ((unhide BB).trans (hba.mono (unhide BB).size))
      clear hb hl0 hba
      have d7 := (unhide ks).cell (i := 7) (v := .int .i64 hd) rfl
      cases ps
      · go_wp2_with fail
        go_roundw
        case rel => exact ⟨k + 1, by omega, by go_num, by rw [unhide S1 (fun h9 => by have h8 := h9.2; rw [unhide Hps] at h8; cases h8)]; exact unhide He, unhide kb, unhide BB⟩
        case measure => simp [intOf]; omega
      go_wp2_with fail
      refine (l6Put_any hd (k : Int) (EntsAt.paces (unhide He)) (by omega)).mono ?_
      rintro e w3 ⟨v3, rfl, he3, hb⟩
      have hsz := (unhide BB).size
      have he4 := EntsAt.mono he3 hsz
      replace kb := hide ((unhide kb).below hb (unhide kb).lt)
      replace BB := hide ((unhide BB).trans (hb.mono hsz))
      obtain ⟨qa3, qcap3, rfl⟩ := EntsAt.shape he4
      have He4 := hide he4
      clear hb he3 he4 d7
      go_wp2_with fail
      go_roundw
      case rel => exact ⟨k + 1, by omega, by go_num, by rw [unhide S2 (by first | rfl | trivial) (unhide Hps)]; exact unhide He4, unhide kb, unhide BB⟩
      case measure => simp [intOf]; omega
    · obtain rfl : k = m.smiths.length := by omega
      go_wp2_with fail
      go_ret
      exact ⟨_, rfl, unhide He, unhide BB⟩

end Go.Proofs.YthbbahagpmdooaaGreatDoor

/- What one wants, and what is used at a bench: the model's l11Want, l11Who, l11Used. Conditions: the smithy can be read; what each theorem names. -/
namespace Go.Proofs.YthbbahagpmdooaaGreatDoor
open Go.ChangeShapes Go.WideShapes Go.ChangeAt Go.RowKit Go.Sort
set_option linter.unusedVariables false

/-- Right guilds, and each smith's is there who is not gone. -/
structure Guilded (m : SmyV) : Prop where
  guilds : guildsB m.guilds = true
  lo : ∀ i, i < m.smiths.length → (recAt m.smiths i).1 ≠ 0 → -1 ≤ (recAt m.smiths i).2.2.2.2.1
  hi : ∀ i, i < m.smiths.length → (recAt m.smiths i).1 ≠ 0 → (recAt m.smiths i).2.2.2.2.1 < m.guilds.length
end Go.Proofs.YthbbahagpmdooaaGreatDoor

/- What a smithy must be for what it costs and which bench is chosen to be told: lists alone. No condition but those that a theorem names. -/
namespace Go.Proofs.YthbbahagpmdooaaGreatDoor
open Go.ChangeShapes Go.WideShapes Go.ChangeAt Go.RowKit Go.Sort
set_option linter.unusedVariables false

structure Sane (m : SmyV) : Prop where
  hall : hallB m.rooms = true
  desks : (m.desks.length : Int) = benchSum m.rooms
  guilded : Guilded m
  few : m.smiths.length ≤ 12
theorem Sane.eight {m : SmyV} (h : Sane m) : m.desks.length ≤ 8 := by have := (hallB_of h.hall).2.2.2; have := h.desks; omega
theorem Loose.sane {m : SmyV} (h : Loose m) : Sane m := by
  have hd := h.head
  unfold headB at hd
  simp only [Bool.and_eq_true, decide_eq_true_eq] at hd
  obtain ⟨h1, h2, h3, h4, _⟩ := hd
  refine ⟨h1, h4, ⟨h2, fun i hi hs => ?_, fun i hi hs => (h.limits hi hs).2.1⟩, h3⟩
  have hp := (h.limits hi hs).1
  generalize recAt m.smiths i = s at *
  obtain ⟨st, be, rk, my, gu, lo', hi', hd, ca, ut, wk⟩ := s
  exact (presB_of hp).2.2.2.2.1.1
end Go.Proofs.YthbbahagpmdooaaGreatDoor

/- The members of a set, as a list; the model's Members and FirstOf. No condition. -/
namespace Go.Proofs.YthbbahagpmdooaaGreatDoor
open Go.ChangeShapes Go.WideShapes Go.ChangeAt Go.RowKit
set_option linter.unusedVariables false

/-- The benches below k that are in the set s, in their order. -/
def upto (s : Int) : Nat → List Int
  | 0 => []
  | k + 1 => if memB s k = true then upto s k ++ [(k : Int)] else upto s k
def mems (s : Int) : List Int := upto s 8
def firstMV (s : Int) : Int := (mems s).headD (-1)
theorem upto_hit {s : Int} {k : Nat} (h : memB s k = true) : upto s (k + 1) = upto s k ++ [(k : Int)] := by simp [upto, h]
theorem upto_miss {s : Int} {k : Nat} (h : memB s k = false) : upto s (k + 1) = upto s k := by simp [upto, h]
theorem upto_len (s : Int) : ∀ k, (upto s k).length ≤ k
  | 0 => by simp [upto]
  | k + 1 => by
    have := upto_len s k
    cases h : memB s k
    · rw [upto_miss h]; omega
    · rw [upto_hit h]; simp; omega
theorem upto_none {s : Int} (h : inB s 0 255 = false) : ∀ k, upto s k = []
  | 0 => rfl
  | k + 1 => by rw [upto_miss (memB_f (.inl h))]; exact upto_none h k
theorem upto_pre (s : Int) : ∀ k, k ≤ 8 → upto s k <+: mems s := by
  have step : ∀ k, upto s k <+: upto s (k + 1) := fun k => by
    cases h : memB s k
    · rw [upto_miss h]; exact List.prefix_refl _
    · rw [upto_hit h]; exact List.prefix_append _ _
  have go : ∀ d k, upto s k <+: upto s (k + d) := by
    intro d
    induction d with
    | zero => intro k; exact List.prefix_refl _
    | succ d ih => intro k; exact (ih k).trans (step (k + d))
  intro k hk
  have := go (8 - k) k
  rwa [show k + (8 - k) = 8 by omega] at this
end Go.Proofs.YthbbahagpmdooaaGreatDoor

/- What the program asks of a smithy, as plain lists; and that it is what the model asks. Lists and numbers alone; no condition but those that a theorem names. -/
namespace Go.Proofs.YthbbahagpmdooaaGreatDoor
open Go.ChangeShapes Go.WideShapes Go.ChangeAt Go.RowKit Go.Sort
set_option linter.unusedVariables false

/-- Of the first k, the places where it is so. -/
def whereTo {α : Type} [Inhabited α] (p : α → Bool) (xs : List α) : Nat → List Int
  | 0 => []
  | k + 1 => if p (recAt xs k) then whereTo p xs k ++ [(k : Int)] else whereTo p xs k
theorem whereTo_yes {α : Type} [Inhabited α] {p : α → Bool} {xs : List α} {k : Nat} (h : p (recAt xs k) = true) : whereTo p xs (k + 1) = whereTo p xs k ++ [(k : Int)] := by rw [whereTo, if_pos h]
theorem whereTo_no {α : Type} [Inhabited α] {p : α → Bool} {xs : List α} {k : Nat} (h : p (recAt xs k) = false) : whereTo p xs (k + 1) = whereTo p xs k := by rw [whereTo, if_neg (by simp [h])]
theorem whereTo_len {α : Type} [Inhabited α] (p : α → Bool) (xs : List α) : ∀ k, (whereTo p xs k).length ≤ k
  | 0 => Nat.le_refl _
  | k + 1 => by
    have := whereTo_len p xs k
    unfold whereTo
    split
    · simp; omega
    · omega
theorem whereTo_mem {α : Type} [Inhabited α] (p : α → Bool) (xs : List α) (x : Int) : ∀ k, x ∈ whereTo p xs k ↔ ∃ i : Nat, i < k ∧ x = (i : Int) ∧ p (recAt xs i) = true
  | 0 => by simp [whereTo]
  | k + 1 => by
    have ih := whereTo_mem p xs x k
    cases h : p (recAt xs k)
    · rw [whereTo_no h, ih]
      constructor
      · rintro ⟨i, hi, h1, h2⟩
        exact ⟨i, by omega, h1, h2⟩
      · rintro ⟨i, hi, h1, h2⟩
        by_cases hik : i = k
        · subst hik; rw [h] at h2; cases h2
        · exact ⟨i, by omega, h1, h2⟩
    · rw [whereTo_yes h, List.mem_append, ih]
      constructor
      · rintro (⟨i, hi, h1, h2⟩ | h1)
        · exact ⟨i, by omega, h1, h2⟩
        · exact ⟨k, by omega, by simpa using h1, h⟩
      · rintro ⟨i, hi, h1, h2⟩
        by_cases hik : i = k
        · subst hik; right; simp [h1]
        · exact .inl ⟨i, by omega, h1, h2⟩
theorem whereTo_any {α : Type} [Inhabited α] (p : α → Bool) (xs : List α) : ∀ k, decide (0 < (whereTo p xs k).length) = (List.range k).any fun j => p (recAt xs j)
  | 0 => rfl
  | k + 1 => by
    have ih := whereTo_any p xs k
    rw [any_up, ← ih]
    cases h : p (recAt xs k)
    · rw [whereTo_no h]; simp
    · rw [whereTo_yes h]; simp
def allTo {α : Type} [Inhabited α] (p : α → Bool) (xs : List α) (k : Nat) : Bool := (List.range k).all fun j => p (recAt xs j)
theorem allTo_no {α : Type} [Inhabited α] {p : α → Bool} {xs : List α} {k n : Nat} (hk : k < n) (h : p (recAt xs k) = false) : allTo p xs n = false := all_no (p := fun j => p (recAt xs j)) hk h
theorem allTo_up {α : Type} [Inhabited α] {p : α → Bool} {xs : List α} {k : Nat} (h : allTo p xs k = true) (h2 : p (recAt xs k) = true) : allTo p xs (k + 1) = true := by unfold allTo at h ⊢; rw [all_up, h, h2]; rfl
theorem allTo_and {α : Type} [Inhabited α] (p q : α → Bool) (xs : List α) : ∀ k, (allTo p xs k && allTo q xs k) = allTo (fun x => p x && q x) xs k
  | 0 => rfl
  | k + 1 => by
    have ih := allTo_and p q xs k
    unfold allTo at ih ⊢
    rw [all_up, all_up, all_up, ← ih]
    generalize ((List.range k).all fun j => p (recAt xs j)) = a
    generalize ((List.range k).all fun j => q (recAt xs j)) = b
    cases a <;> cases b <;> cases hp : p (recAt xs k) <;> cases hq : q (recAt xs k) <;> simp [hp, hq]
theorem allTo_congr {α : Type} [Inhabited α] {p q : α → Bool} (xs : List α) (h : ∀ x, p x = q x) (k : Nat) : allTo p xs k = allTo q xs k := by unfold allTo; congr 1; funext j; exact h _

def hasB (n : Nat) (i : Int) : Bool := decide (0 ≤ i) && decide (i < n)
def atB (b : Int) (s : SmithV) : Bool := (s.1 == 2 || s.1 == 3) && s.2.1 == b
def worksB (b : Int) (s : SmithV) : Bool := s.1 == 3 && s.2.1 == b
def thereB (n : Nat) (s : SmithV) : Bool := s.1 == 0 || (s.2.2.2.2.1 == -1 || hasB n s.2.2.2.2.1)
def placeB (ds : List DeskV) (s : SmithV) : Bool := s.1 == 0 || (hasB ds.length s.2.1 && (s.1 == 1 || ((recAt ds s.2.1.toNat).1 && (memB s.2.2.2.1 s.2.1 && inBandB s.2.2.2.2.2.2.2.1 (recAt ds s.2.1.toNat).2.2))))
def smithsIB (ss : List SmithV) (n : Nat) : Bool := decide (ss.length ≤ 12) && (allTo smithB ss ss.length && allTo (thereB n) ss ss.length)
def desksIB (ds : List DeskV) (n : Int) : Bool := decide ((ds.length : Int) = n) && (allTo deskB ds ds.length && decide (0 < (whereTo (fun d : DeskV => d.1) ds ds.length).length))
def pacesIB (ps : List Int) (rs : List RoomV) : Bool := decide (ps.length = rs.length) && (List.range ps.length).all fun j => hasB (roomAt rs j).2.length (recAt ps j)
def partsIB (m : SmyV) : Bool := hallB m.rooms && (guildsB m.guilds && (smithsIB m.smiths m.guilds.length && (desksIB m.desks (benchSum m.rooms) && (pacesIB m.paces m.rooms && inB m.now 0 1000000))))
def inPlaceIB (m : SmyV) : Bool := partsIB m && allTo (placeB m.desks) m.smiths m.smiths.length
def turnIB (m : SmyV) (b : Nat) : Bool := if (recAt m.desks b).2.1 = -1 then decide ((whereTo (atB b) m.smiths m.smiths.length).length = 0) else decide ((whereTo (worksB b) m.smiths m.smiths.length).length = 1) && decide (recAt (whereTo (worksB b) m.smiths m.smiths.length) 0 = (recAt m.desks b).2.1)
def turnsIB (m : SmyV) : Bool := (List.range m.desks.length).all (turnIB m)
def smyIB (m : SmyV) : Bool := inPlaceIB m && turnsIB m

theorem band_same (h m : Int) : inBandB h m = bandB h m := by
  unfold inBandB bandB hadB
  rw [Bool.and_assoc]
theorem one_same (m : SmyV) (s : SmithV) : (smithB s && (thereB m.guilds.length s && placeB m.desks s)) = (hereB m s && seatB m s) := by
  cases hs : smithB s
  · unfold hereB; rw [hs]; rfl
  · have hh : hereB m s = (s.1 == 0 || (decide (s.2.2.2.2.1 < m.guilds.length) && decide (s.2.1 < m.desks.length))) := by unfold hereB; rw [hs]; rfl
    rw [hh, Bool.true_and]
    unfold smithB at hs
    simp only [Bool.or_eq_true] at hs
    rcases hs with hg | hp
    · have e := goneB_of hg
      subst e
      rfl
    · obtain ⟨st, be, rk, my, gu, lo, hi, hd, ca, ut, wk⟩ := s
      obtain ⟨⟨s1, s2⟩, ⟨b1, b2⟩, _, ⟨m1, m2⟩, ⟨g1, g2⟩, _⟩ := presB_of hp
      have hmem : memB my be = bitB my be := memB_t (inB_t (by omega) (by omega)) (inB_t (by omega) (by omega))
      have hst0 : (st == 0) = false := by simp; omega
      have hgu : (gu == -1 || hasB m.guilds.length gu) = decide (gu < m.guilds.length) := by
        unfold hasB
        by_cases e : gu = -1
        · subst e; simp; omega
        · have : (gu == -1) = false := by simpa using e
          rw [this, Bool.false_or, show decide (0 ≤ gu) = true from decide_eq_true (by omega), Bool.true_and]
      have hbe : hasB m.desks.length be = decide (be < m.desks.length) := by
        unfold hasB
        rw [show decide (0 ≤ be) = true from decide_eq_true (by omega), Bool.true_and]
      have hpr : presS (st, be, rk, my, gu, lo, hi, hd, ca, ut, wk) = !(st == 1) := by
        unfold presS
        rcases (by omega : st = 1 ∨ st = 2 ∨ st = 3) with e | e | e <;> subst e <;> rfl
      unfold thereB placeB seatB
      simp only
      rw [hst0, hgu, hbe, hpr, hmem, band_same, Bool.not_not]
      simp only [Bool.false_or, Bool.and_assoc]
theorem scan_same (ss : List SmithV) (b : Int) : ∀ k : Nat,
    (match scanV ss b k with
      | none => 2 ≤ (whereTo (worksB b) ss k).length
      | some (wk, wt) => ((wk = -1 ∧ whereTo (worksB b) ss k = []) ∨ (0 ≤ wk ∧ whereTo (worksB b) ss k = [wk])) ∧ ((whereTo (atB b) ss k = []) ↔ (whereTo (worksB b) ss k = [] ∧ wt = false)))
  | 0 => by simp [scanV, whereTo]
  | k + 1 => by
    have ih := scan_same ss b k
    unfold scanV
    cases hsc : scanV ss b k with
    | none =>
      rw [hsc] at ih
      simp only at ih ⊢
      unfold whereTo
      split
      · simp; omega
      · exact ih
    | some r =>
      obtain ⟨wk, wt⟩ := r
      rw [hsc] at ih
      simp only at ih ⊢
      by_cases hat : (recAt ss k).2.1 = b ∧ presS (recAt ss k) = true
      · rw [if_pos hat]
        have hA : atB b (recAt ss k) = true := by
          have h2 := hat.2
          unfold presS at h2
          unfold atB
          rw [h2, hat.1]; simp
        by_cases h2 : (recAt ss k).1 = 2
        · rw [if_pos h2]
          have hW : worksB b (recAt ss k) = false := by unfold worksB; rw [h2]; rfl
          rw [whereTo_no hW, whereTo_yes hA]
          exact ⟨ih.1, by simp⟩
        · rw [if_neg h2]
          have h3 : (recAt ss k).1 = 3 := by
            have := hat.2
            unfold presS at this
            simp only [Bool.or_eq_true, beq_iff_eq] at this
            omega
          have hW : worksB b (recAt ss k) = true := by unfold worksB; rw [h3, hat.1]; simp
          rw [whereTo_yes hW, whereTo_yes hA]
          by_cases hwk : 0 ≤ wk
          · rw [if_pos hwk]
            rcases ih.1 with ⟨e, _⟩ | ⟨_, e⟩
            · omega
            · simp only
              rw [e]; simp
          · rw [if_neg hwk]
            rcases ih.1 with ⟨_, e⟩ | ⟨e, _⟩
            · simp only
              rw [e]; simp
            · omega
      · rw [if_neg hat]
        have hA : atB b (recAt ss k) = false := by
          cases hc : atB b (recAt ss k)
          · rfl
          · exfalso
            apply hat
            unfold atB at hc
            simp only [Bool.and_eq_true, beq_iff_eq] at hc
            exact ⟨hc.2, by unfold presS; exact hc.1⟩
        have hW : worksB b (recAt ss k) = false := by
          cases hc : worksB b (recAt ss k)
          · rfl
          · exfalso
            apply hat
            unfold worksB at hc
            simp only [Bool.and_eq_true, beq_iff_eq] at hc
            exact ⟨hc.2, by unfold presS; rw [hc.1]; rfl⟩
        rw [whereTo_no hW, whereTo_no hA]
        exact ih
theorem turn_same (m : SmyV) (b : Nat) : turnIB m b = benchOkB m b := by
  have h := scan_same m.smiths b m.smiths.length
  unfold turnIB benchOkB
  cases hsc : scanV m.smiths b m.smiths.length with
  | none =>
    rw [hsc] at h
    simp only at h ⊢
    split
    · have : whereTo (atB b) m.smiths m.smiths.length ≠ [] := by
        intro e
        have hx : recAt (whereTo (worksB b) m.smiths m.smiths.length) 0 ∈ whereTo (worksB b) m.smiths m.smiths.length := recAt_mem (by omega)
        obtain ⟨i, hi, _, hw⟩ := (whereTo_mem _ _ _ _).1 hx
        have : (i : Int) ∈ whereTo (atB b) m.smiths m.smiths.length := (whereTo_mem _ _ _ _).2 ⟨i, hi, rfl, by
          unfold worksB at hw
          simp only [Bool.and_eq_true, beq_iff_eq] at hw
          unfold atB
          rw [hw.1, hw.2]; simp⟩
        rw [e] at this
        cases this
      simp only [List.length_eq_zero_iff, this, decide_false]
    · rw [show decide ((whereTo (worksB b) m.smiths m.smiths.length).length = 1) = false from decide_eq_false (by omega), Bool.false_and]
  | some r =>
    obtain ⟨wk, wt⟩ := r
    rw [hsc] at h
    simp only at h ⊢
    obtain ⟨h1, h2⟩ := h
    generalize whereTo (worksB b) m.smiths m.smiths.length = ws at *
    generalize whereTo (atB b) m.smiths m.smiths.length = az at *
    generalize (recAt m.desks b).2.1 = who at *
    by_cases hw : who = -1
    · subst hw
      simp only [if_true, List.length_eq_zero_iff]
      rcases h1 with ⟨rfl, rfl⟩ | ⟨hk, rfl⟩
      · cases wt
        · simp at h2; simp [h2]
        · simp at h2; simp [h2]
      · have hne : az ≠ [] := by
          intro e
          have := (h2.1 e).1
          cases this
        have : ((-1 : Int) == wk) = false := by simp; omega
        rw [this]
        simp [hne]
    · rw [if_neg hw]
      rcases h1 with ⟨rfl, rfl⟩ | ⟨hk, rfl⟩
      · have : (who == -1) = false := by simpa using hw
        rw [this]; simp
      · have h0 : decide (wk < 0) = false := decide_eq_false (by omega)
        rw [h0, Bool.and_false, Bool.not_false, Bool.and_true]
        simp only [List.length_cons, List.length_nil, decide_true, Bool.true_and]
        show decide (wk = who) = (who == wk)
        by_cases e : wk = who
        · subst e; simp
        · rw [decide_eq_false e]; symm; simp; omega
theorem has_in (n : Nat) (i : Int) : hasB n i = inB i 0 ((n : Int) - 1) := by
  unfold hasB inB
  by_cases h0 : 0 ≤ i <;> by_cases h1 : i < n
  · rw [decide_eq_true h0, decide_eq_true h1, decide_eq_true (show 0 ≤ i ∧ i ≤ (n : Int) - 1 by omega)]; rfl
  · rw [decide_eq_true h0, decide_eq_false h1, decide_eq_false (show ¬ (0 ≤ i ∧ i ≤ (n : Int) - 1) by omega)]; rfl
  · rw [decide_eq_false h0, decide_eq_false (show ¬ (0 ≤ i ∧ i ≤ (n : Int) - 1) by omega)]; rfl
  · rw [decide_eq_false h0, decide_eq_false (show ¬ (0 ≤ i ∧ i ≤ (n : Int) - 1) by omega)]; rfl
theorem loose_same (m : SmyV) : inPlaceIB m = looseB m := by
  have e1 : upSmiths m m.smiths.length = (allTo smithB m.smiths m.smiths.length && (allTo (thereB m.guilds.length) m.smiths m.smiths.length && allTo (placeB m.desks) m.smiths m.smiths.length)) := by
    rw [allTo_and, allTo_and]
    exact (allTo_congr m.smiths (one_same m) m.smiths.length).symm
  have e2 : pacesIB m.paces m.rooms = (decide (m.paces.length = m.rooms.length) && upPaces m m.paces.length) := by
    unfold pacesIB upPaces
    congr 2
    funext j
    unfold paceInB
    exact has_in _ _
  have e3 : decide (0 < (whereTo (fun d : DeskV => d.1) m.desks m.desks.length).length) = upOpen m m.desks.length := whereTo_any _ _ _
  unfold inPlaceIB partsIB looseB headB smithsIB desksIB
  rw [e1, e2, e3]
  have e4 : allTo deskB m.desks m.desks.length = upDesks m m.desks.length := rfl
  rw [e4]
  generalize hallB m.rooms = x1
  generalize guildsB m.guilds = x2
  generalize decide (m.smiths.length ≤ 12) = x3
  generalize allTo smithB m.smiths m.smiths.length = x4
  generalize allTo (thereB m.guilds.length) m.smiths m.smiths.length = x5
  generalize decide ((m.desks.length : Int) = benchSum m.rooms) = x6
  generalize upDesks m m.desks.length = x7
  generalize upOpen m m.desks.length = x8
  generalize decide (m.paces.length = m.rooms.length) = x9
  generalize upPaces m m.paces.length = x10
  generalize inB m.now 0 1000000 = x11
  generalize allTo (placeB m.desks) m.smiths m.smiths.length = x12
  rw [Bool.eq_iff_iff]
  simp only [Bool.and_eq_true]
  constructor
  · rintro ⟨⟨a1, a2, ⟨a3, a4, a5⟩, ⟨a6, a7, a8⟩, ⟨a9, a10⟩, a11⟩, a12⟩
    exact ⟨⟨a1, a2, a3, a6, a9, a11⟩, a7, a10, ⟨a4, a5, a12⟩, a8⟩
  · rintro ⟨⟨a1, a2, a3, a6, a9, a11⟩, a7, a10, ⟨a4, a5, a12⟩, a8⟩
    exact ⟨⟨a1, a2, ⟨a3, a4, a5⟩, ⟨a6, a7, a8⟩, ⟨a9, a10⟩, a11⟩, a12⟩
theorem smy_same (m : SmyV) : smyIB m = smyB m := by
  unfold smyIB smyB turnsIB
  rw [loose_same, show turnIB m = benchOkB m from funext (turn_same m)]

/-! ### The program's queue -/
/-- Those of a list of places, put into a queue one after the other. -/
def queueOf (ss : List SmithV) (ps : List Int) : List PaceV := ps.foldl (fun q i => putV q (hadS (recAt ss i.toNat), i)) []
theorem queueOf_snoc (ss : List SmithV) (ps : List Int) (i : Int) : queueOf ss (ps ++ [i]) = putV (queueOf ss ps) (hadS (recAt ss i.toNat), i) := by unfold queueOf; rw [List.foldl_append]; rfl
theorem queueOf_at (ss : List SmithV) (b : Int) : ∀ k, queueOf ss (whereTo (atB b) ss k) = atV ss b k
  | 0 => rfl
  | k + 1 => by
    have ih := queueOf_at ss b k
    by_cases hat : (recAt ss k).2.1 = b ∧ presS (recAt ss k) = true
    · have hA : atB b (recAt ss k) = true := by
        have h2 := hat.2
        unfold presS at h2
        unfold atB
        rw [h2, hat.1]; simp
      rw [whereTo_yes hA, queueOf_snoc, ih, atV_yes hat.1 hat.2]
      rfl
    · have hA : atB b (recAt ss k) = false := by
        cases hc : atB b (recAt ss k)
        · rfl
        · exfalso
          apply hat
          unfold atB at hc
          simp only [Bool.and_eq_true, beq_iff_eq] at hc
          exact ⟨hc.2, by unfold presS; exact hc.1⟩
      rw [whereTo_no hA, atV_no hat, ih]
theorem take_snoc_at {ps : List Int} {k : Nat} (h : k < ps.length) : ps.take (k + 1) = ps.take k ++ [recAt ps k] := by
  unfold recAt
  rw [List.take_add_one, List.getD, List.getElem?_eq_getElem h]; rfl
/-- Who is at a bench of what is right but for who works can be queued. -/
theorem at_queue {m : SmyV} (h : Loose m) (b : Int) (k : Nat) (hk : k ≤ m.smiths.length) : queueB (atV m.smiths b k) = true := by
  have hd := h.head
  unfold headB at hd
  simp only [Bool.and_eq_true, decide_eq_true_eq] at hd
  have hl := atV_len m.smiths b k
  have h12 := hd.2.2.1
  refine queueB_isQ ⟨by omega, fun p hp => ?_, ?_, atV_whos _ _ _⟩
  · obtain ⟨i, hi, h1, h2, rfl⟩ := (atV_mem m.smiths b p k).1 hp
    have := bandB_of (h.at (i := i) (by omega) h2).2.2.2.2
    unfold entB
    rw [inB_t (by omega) (by omega), inB_t (by omega) (by show (i : Int) ≤ 99; omega)]; rfl
  · refine ((atV_ris m.smiths b k).and (atV_whos m.smiths b k)).imp fun {x y} hxy => ?_
    have h1 := hxy.1
    have h2 := hxy.2
    rw [ltB_f] at h1
    rw [ltB_t]
    omega
theorem whereTo_sub {α : Type} [Inhabited α] (p : α → Bool) (xs : List α) : ∀ n k : Nat, ∃ j, j ≤ n ∧ (whereTo p xs n).take k = whereTo p xs j
  | 0, k => ⟨0, Nat.le_refl _, by simp [whereTo]⟩
  | n + 1, k => by
    obtain ⟨j, hj, e⟩ := whereTo_sub p xs n k
    cases h : p (recAt xs n)
    · rw [whereTo_no h]; exact ⟨j, by omega, e⟩
    · rw [whereTo_yes h]
      by_cases hk : k ≤ (whereTo p xs n).length
      · rw [List.take_append_of_le_length hk]; exact ⟨j, by omega, e⟩
      · refine ⟨n + 1, Nat.le_refl _, ?_⟩
        rw [whereTo_yes h, List.take_of_length_le (by simp; omega)]
/-- As far as it goes, the program's queue is right. -/
theorem part_queue {m : SmyV} (h : Loose m) (b : Int) (k : Nat) : queueB (queueOf m.smiths ((whereTo (atB b) m.smiths m.smiths.length).take k)) = true := by
  obtain ⟨j, hj, e⟩ := whereTo_sub (atB b) m.smiths m.smiths.length k
  rw [e, queueOf_at]
  exact at_queue h b j hj

end Go.Proofs.YthbbahagpmdooaaGreatDoor

/- The model's At: who waits or works at a bench. Condition: the smithy can be read. -/
namespace Go.Proofs.YthbbahagpmdooaaGreatDoor
open Go.ChangeShapes Go.WideShapes Go.ChangeAt Go.RowKit Go.Sort
set_option linter.unusedVariables false

theorem spec_q {w : World} {v0 v1 v2 v3 v4 : Value} {m : SmyV} {q : Bool} (hq : smyB m = q) (h : Smy w v0 v1 v2 v3 v4 m) : Calls Tryz.prog 15 #[.agg #[v0, v1, v2, v3, v4, .int .i64 m.now]] w fun e w' => e = .returned (.bool q) ∧ Below w.heap.size w w' := by
  have := specSmithyOk_any h; rw [hq] at this; exact this

end Go.Proofs.YthbbahagpmdooaaGreatDoor

/- What the program's Come, Rest, Wake and Leave ask of lists and numbers: a code, and the smithy behind what was done; they come to what the model does. No condition but those that a theorem names. -/
namespace Go.Proofs.YthbbahagpmdooaaGreatDoor
open Go.ChangeShapes Go.WideShapes Go.ChangeAt Go.RowKit Go.Sort
set_option linter.unusedVariables false

/-- What is told: all as it was where the code is no zero. -/
def doneV (m X : SmyV) (c : Int) : SmyV × Int := if smyB m then (if c = 0 then (turnedV X, 0) else (m, c)) else (zeroM, 3)
theorem done_bad {m : SmyV} (h : smyB m = false) (X : SmyV) (c : Int) : doneV m X c = (zeroM, 3) := by unfold doneV; rw [h]; rfl
theorem done_yes {m : SmyV} (h : smyB m = true) (X : SmyV) : doneV m X 0 = (turnedV X, 0) := by unfold doneV; rw [h]; rfl
theorem done_no {m : SmyV} (h : smyB m = true) (X : SmyV) {c : Int} (hc : c ≠ 0) : doneV m X c = (m, c) := by unfold doneV; rw [h, if_pos rfl, if_neg hc]
theorem turned_is {m : SmyV} (h : Loose m) : turnedV m = turnV m := by unfold turnedV; rw [h.mk', if_pos rfl]

def restC (m : SmyV) (who : Int) : Int := if whoB m who then (if (recAt m.smiths who.toNat).1 = 1 then 2 else 0) else 1
def restX (m : SmyV) (who : Int) : SmyV := setS m who.toNat (stS (recAt m.smiths who.toNat) 1)
theorem state_of {m : SmyV} (h : Loose m) {k : Nat} (hk : k < m.smiths.length) (hs : (recAt m.smiths k).1 ≠ 0) : presS (recAt m.smiths k) = !decide ((recAt m.smiths k).1 = 1) := by
  obtain ⟨p, _, _⟩ := h.limits hk hs
  obtain ⟨⟨st, be, rk, my, gu, lo, hi, hd, ca, ut, wk⟩, hrk⟩ : ∃ d, recAt m.smiths k = d := ⟨_, rfl⟩
  rw [hrk] at p hs ⊢
  obtain ⟨⟨x0, x1⟩, _⟩ := presB_of p
  unfold presS
  show (st == 2 || st == 3) = !decide (st = 1)
  have hs' : st ≠ 0 := hs
  rcases (by omega : st = 1 ∨ st = 2 ∨ st = 3) with e | e | e <;> subst e <;> rfl
theorem rest_is (m : SmyV) (who : Int) : restV m who = doneV m (restX m who) (restC m who) := by
  cases h : smyB m
  · rw [done_bad h]; unfold restV; rw [h]; rfl
  unfold restV restC
  rw [h]
  simp only [if_true]
  by_cases hw : whoB m who = true
  rotate_left
  · rw [if_neg hw, if_neg hw, done_no h _ (by omega)]
  rw [if_pos hw, if_pos hw]
  obtain ⟨k, rfl, hk, hs⟩ := whoB_of hw
  rw [Int.toNat_natCast]
  have hp := state_of (smy_loose h) hk hs
  by_cases e : (recAt m.smiths k).1 = 1
  · rw [decide_eq_true e] at hp
    rw [if_pos e, hp, done_no h _ (by omega)]; rfl
  · rw [decide_eq_false e] at hp
    rw [if_neg e, hp, done_yes h]
    have hl := keep_rest (smy_loose h) hk hp
    unfold restX
    rw [Int.toNat_natCast, turned_is hl]
    rfl
def leaveC (m : SmyV) (who : Int) : Int := if whoB m who then 0 else 1
def leaveX (m : SmyV) (who : Int) : SmyV := setS m who.toNat zeroS
theorem leave_is (m : SmyV) (who : Int) : leaveV m who = doneV m (leaveX m who) (leaveC m who) := by
  cases h : smyB m
  · rw [done_bad h]; unfold leaveV; rw [h]; rfl
  unfold leaveV leaveC
  rw [h]
  simp only [if_true]
  by_cases hw : whoB m who = true
  rotate_left
  · rw [if_neg hw, if_neg hw, done_no h _ (by omega)]
  rw [if_pos hw, if_pos hw, done_yes h]
  obtain ⟨k, rfl, hk, hs⟩ := whoB_of hw
  unfold leaveX
  rw [Int.toNat_natCast, turned_is (keep_leave (smy_loose h) hk)]
end Go.Proofs.YthbbahagpmdooaaGreatDoor

/- Rows of open benches that stand behind the program's interface: what they read as, and how one more is appended. Conditions: those that each theorem names. -/
namespace Go.Proofs.YthbbahagpmdooaaGreatDoor
open Go.ChangeShapes Go.WideShapes Go.ChangeAt Go.RowKit Go.Sort
set_option linter.unusedVariables false

theorem infoBench : (Tryz.prog.info? 246).map (fun i => (i.zero, i.size, i.bytes)) = some (some .nilIface, 1, 16) := by kernel_rfl
end Go.Proofs.YthbbahagpmdooaaGreatDoor

/- The program's Members and FirstOf, which range over an iterator. No condition. -/
namespace Go.Proofs.YthbbahagpmdooaaGreatDoor
open Go.ChangeShapes Go.WideShapes Go.ChangeAt Go.RowKit Go.Shelf
set_option linter.unusedVariables false
attribute [local go_sem] Oper.semAt_some

/-- The box Bn holds on what it held. -/
def KeepsBox (Bn : Nat) (t : TypeId) (W W' : World) : Prop := ∀ v, Boxed W Bn t v → Boxed W' Bn t v
theorem KeepsBox.trans {Bn : Nat} {t : TypeId} {A B C : World} (h : KeepsBox Bn t A B) (k : KeepsBox Bn t B C) : KeepsBox Bn t A C := fun v hv => k v (h v hv)
theorem KeepsBox.putObj {Bn : Nat} {t : TypeId} {n : Nat} (h : Bn < n) (W : World) (l : Nat) (o o' : Obj) (hl : n ≤ l) (_ : W.heap[l]? = some o) (_ : o.isCells = false) (_ : o.isWalk = false) : KeepsBox Bn t W (W.putObj l o') :=
  fun v hv => hv.kept (grownBy_putObj' W l o') (fun e => by cases e; omega)

set_option maxRecDepth 100000 in
set_option maxHeartbeats 1000000 in
/-- The iterator: each member of the set s, in their order, until a round says no more. -/
theorem members1_in (n : Nat) (hn : 1 ≤ n) (l Bn : Nat) (s : Int) (J Jx : List Int → World → Prop)
    (hY : ∀ pre x W, J pre W → pre.length < 8 → YieldAt Fence.wide (n - 1) Tryz.prog l #[.int .i64 x] W fun e W' =>
      (e = .returned (.bool true) ∧ J (pre ++ [x]) W' ∧ KeepsBox Bn 2 W W') ∨ (e = .returned (.bool false) ∧ Jx (pre ++ [x]) W'))
    (W : World) (hBn : Boxed W Bn 2 (.int .i64 s)) (h0 : J [] W) :
    CallsIn Fence.wide n Tryz.prog 333 #[.func (.yield l) #[] #[], .pointer (some ⟨Bn, 0, none⟩)] W fun e W' => (∃ v, e = .returned v) ∧
      ((∃ ys, ys = mems s ∧ J ys W') ∨ (∃ pre, pre <+: mems s ∧ Jx pre W')) := by
  refine callsIn_of_wp Tryz.func333 rfl trivial ?_ rfl
  simp only [Tryz.ntmps333, List.size_toArray, List.length_cons, List.length_nil, Nat.reduceAdd, Nat.reduceSub, Array.replicate_succ, Array.replicate_zero, List.push_toArray, List.append_toArray, List.nil_append, List.cons_append]
  gi_wp2
  gi_loopw [4] (fun i wr => ∃ k : Nat, k ≤ 8 ∧ i = .int .i64 k ∧ Boxed wr Bn 2 (.int .i64 s) ∧ J (upto s k) wr)
    (fun i wr => 8 - (intOf i).toNat)
  case atStart => exact ⟨0, by omega, rfl, hBn, h0⟩
  case round =>
    obtain ⟨k, hk, rfl, hbx, hJ⟩ := hrel
    have hul := upto_len s k
    have hc := hbx.cell
    have Hb := hide hbx
    clear hbx
    by_cases hlt : (k : Int) < 8
    · cases hm : memB s k
      · gi_wp2_with (refine ⟨trivial, ?_⟩; gi_at_call 192; refine (callsIn_wide.2 (implInSet_any _ _ _)).mono ?_; rintro e w' ⟨rfl, rfl⟩)
        refine ⟨fun _ h => (by cases h), ?_⟩
        gi_wp2
        go_roundw
        case rel => exact ⟨k + 1, by omega, by go_num, unhide Hb, by rw [upto_miss hm]; exact hJ⟩
        case measure => simp [intOf]; omega
      · obtain ⟨fn, tmps, assign, body, hy, hR⟩ := hY (upto s k) k wr hJ (by omega)
        gi_wp2_with (refine ⟨trivial, ?_⟩; gi_at_call 192; refine (callsIn_wide.2 (implInSet_any _ _ _)).mono ?_; rintro e w' ⟨rfl, rfl⟩)
        refine hR.mono ?_
        rintro e W3 (⟨rfl, hJ3, hk3⟩ | ⟨rfl, hJx3⟩)
        · gi_wp2
          go_roundw
          case rel => exact ⟨k + 1, by omega, by go_num, hk3 _ (unhide Hb), by rw [upto_hit hm]; exact hJ3⟩
          case measure => simp [intOf]; omega
        · gi_wp2
          refine bodyPost_ret (results_none rfl _ _ _) rfl ?_
          exact ⟨⟨_, rfl⟩, .inr ⟨upto s k ++ [(k : Int)], by rw [← upto_hit hm]; exact upto_pre s (k + 1) (by omega), hJx3⟩⟩
    · obtain rfl : k = 8 := by omega
      gi_wp2
      go_end0
      exact ⟨⟨_, rfl⟩, .inl hJ⟩

set_option maxHeartbeats 1000000 in
theorem membersOf_in (n : Nat) (s : Int) (w : World) :
    CallsIn Fence.wide n Tryz.prog 319 #[.int .i64 s] w fun e w' => e = .returned (.func (.func 333) #[] #[.pointer (some ⟨w.heap.size, 0, none⟩)]) ∧ w' = w.alloc (.cells #[.int .i64 s] 2) := by
  refine callsIn_of_wp Tryz.func319 rfl trivial ?_ rfl
  simp only [Tryz.ntmps319, List.size_toArray, List.length_cons, List.length_nil, Nat.reduceAdd, Nat.reduceSub, Array.replicate_succ, Array.replicate_zero, List.push_toArray, List.append_toArray, List.nil_append, List.cons_append]
  gi_wp2
  go_ret
  exact ⟨rfl, rfl⟩

theorem members_stops (n : Nat) (hn : 1 ≤ n) (Bn : Nat) (s : Int) (w : World) (hBn : Boxed w Bn 2 (.int .i64 s)) :
    SeqStopsK Fence.wide n Tryz.prog 333 #[.pointer (some ⟨Bn, 0, none⟩)] (fun x : Int => #[Value.int .i64 x]) (KeepsBox Bn 2) (fun ys => ys = mems s) (fun pre => pre <+: mems s) 8 w := fun l J Jx W hW _ _ hY h0 =>
  members1_in n hn l Bn s J Jx hY W ((hW.block Bn hBn.lt).trans hBn) h0

set_option maxRecDepth 100000 in
set_option maxHeartbeats 2000000 in
theorem implFirstOf_in (n : Nat) (hn : 3 ≤ n) (s : Int) (w : World) :
    CallsIn Fence.wide n Tryz.prog 300 #[.int .i64 s] w fun e w' => e = .returned (.int .i64 (firstMV s)) ∧ Below w.heap.size w w' := by
  have h1 : 1 ≤ n := by omega
  refine callsIn_of_wp_marks Tryz.func300 rfl trivial ?_ rfl
  simp only [Tryz.ntmps300, List.size_toArray, List.length_cons, List.length_nil, Nat.reduceAdd, Nat.reduceSub, Array.replicate_succ, Array.replicate_zero, List.push_toArray, List.append_toArray, List.nil_append, List.cons_append]
  gi_wp2_with (refine ⟨trivial, ?_⟩; gi_at_call 319; refine (membersOf_in (n - 1) _ _).mono ?_; rintro e w' ⟨rfl, rfl⟩)
  have bR := Boxed.new w 2 (.int .i64 0)
  have bN := Boxed.new (w.alloc (.cells #[.int .i64 0] 2)) 2 (.int .i64 s)
  simp only [World.size_alloc] at bN
  have hB0 : Below w.heap.size w ((w.alloc (.cells #[.int .i64 0] 2)).alloc (.cells #[.int .i64 s] 2)) := ((Below.refl _ w).alloc (Nat.le_refl _) _).alloc (by simp) _
  refine wpIn_rangeFunc_ownG rfl h1 (gf := 333) (lb := #[.pointer (some ⟨w.heap.size + 1, 0, none⟩)]) rfl trivial (enters_of Tryz.func333 (by kernel_rfl) rfl)
    (members_stops (n - 1) (by omega) (w.heap.size + 1) s _ bN) (fun h k => h.trans k) (KeepsBox.putObj (by simp)) (Below.refl _ _) (fun _ => rfl)
    (fun pre W => (pre = [] ∧ Boxed W w.heap.size 2 (.int .i64 0)) ∧ Below w.heap.size w W)
    (fun c pre W => (c = .ret ∧ ∃ x, pre = [x] ∧ Boxed W w.heap.size 2 (.int .i64 x)) ∧ Below w.heap.size w W)
    (OwnFrom.and (Own.from (fun s A B row hs hg hr => ⟨hs.1, hs.2.kept hg (fun e => by obtain ⟨o, ho, hc⟩ := hr _ e.symm; rw [show A.heap[w.heap.size]? = _ from hs.2] at ho; cases ho; cases hc)⟩) _) (ownFrom_below (Nat.le_refl _) (by simp; omega)))
    (fun c => OwnFrom.and (Own.from (fun s A B row hs hg hr => by obtain ⟨e1, x, e2, hb⟩ := hs; exact ⟨e1, x, e2, hb.kept hg (fun e => by obtain ⟨o, ho, hc⟩ := hr _ e.symm; rw [show A.heap[w.heap.size]? = _ from hb] at ho; cases ho; cases hc)⟩) _) (ownFrom_below (Nat.le_refl _) (by simp; omega)))
    ⟨⟨rfl, bR.alloc _⟩, hB0⟩
    (fun x => { tmps := #[.int .i64 s, undef, .pointer (some ⟨w.heap.size, 0, none⟩), .int .i64 x, .int .i64 s, .func (.func 333) #[] #[.pointer (some ⟨w.heap.size + 1, 0, none⟩)], .int .i64 x, undef], defers := [] }) ?assign ?body ?done ?stop
  case assign =>
    intro l x W K hK
    gi_wp2
    exact hK
  case body =>
    rintro l pre x W ⟨⟨rfl, hb⟩, hB⟩ _
    have hc := hb.cell
    have hf := hb.frozen
    gi_wp2
    exact ⟨(KeepsOthers.setCell _ _ _).from _, ⟨rfl, x, rfl, hb.set _⟩, hB.setCell (p := ⟨w.heap.size, 0, none⟩) (Nat.le_refl _) _⟩
  case done =>
    rintro D ys W hD hys ⟨⟨hp, hb⟩, hB⟩ hK
    have hc := hb.cell
    have hf := hb.frozen
    gi_wp2
    have hK' := (KeepsOthers.setCell W ⟨w.heap.size, 0, none⟩ (.int .i64 (-1))).same D _ hK rfl
    refine ⟨by simp, .inl ⟨_, _, rfl, run_takeDeferred hK', ?_⟩⟩
    have hc5 := cell_kept (hb.set (.int .i64 (-1))).cell (grownBy_putObj' _ D (.deferred none)) (fun r e => by cases e; exact ⟨_, hK', rfl⟩)
    have hm : mems s = [] := hys.symm.trans hp
    refine ⟨.int .i64 (-1), ?_, ret_int (by unfold firstMV; rw [hm]; rfl), (hB.setCell (p := ⟨w.heap.size, 0, none⟩) (Nat.le_refl _) _).trans (belowK_b (w := w) (Nat.le_refl _) _ D _ _ (by simp at hD; omega) hK' rfl rfl)⟩
    simp [results, Tryz.f300, go_sem, hc5]
  case stop =>
    rintro D c pre W hD hpre ⟨⟨rfl, x, rfl, hb⟩, hB⟩ hK
    gi_wp2
    refine ⟨by simp, .inl ⟨_, _, rfl, run_takeDeferred hK, ?_⟩⟩
    have hc5 := cell_kept hb.cell (grownBy_putObj' _ D (.deferred none)) (fun r e => by cases e; exact ⟨_, hK, rfl⟩)
    have hx : firstMV s = x := by obtain ⟨r, hr⟩ := hpre; unfold firstMV; rw [← hr]; rfl
    refine ⟨.int .i64 x, ?_, ret_int hx.symm, hB.trans (belowK_b (w := w) (Nat.le_refl _) W D _ _ (by simp at hD; omega) hK rfl rfl)⟩
    simp [results, Tryz.f300, go_sem, hc5]

theorem implFirstOf_any (s : Int) (w : World) : Calls Tryz.prog 300 #[.int .i64 s] w fun e w' => e = .returned (.int .i64 (firstMV s)) ∧ Below w.heap.size w w' :=
  callsIn_wide.1 (implFirstOf_in 3 (Nat.le_refl _) s w)

end Go.Proofs.YthbbahagpmdooaaGreatDoor

