/- What the proof rests on, part 10: lists and numbers, how they lie in memory, and contracts of the calls. No condition but those that a theorem names. -/
import Derived.Test.YtnponpamjddpjabGreatXc01
import Derived.Test.YtnponpamjddpjabGreatXc02
import Derived.Test.YtnponpamjddpjabGreatXc03
import Derived.Test.YtnponpamjddpjabGreatXc04
import Derived.Test.YtnponpamjddpjabGreatXc05
import Derived.Test.YtnponpamjddpjabGreatXc06
import Derived.Test.YtnponpamjddpjabGreatXc08
import Derived.Test.YtnponpamjddpjabGreatXc09
import Derived.BigQuiet
import Derived.Lib.QuietBelow
import Derived.WalkMore
import Derived.Below
import Derived.WalkKit
import Derived.ProofKit
import Derived.OpenShut
import Derived.Outline
import Derived.Deep.RegionHeld3
import Derived.Deep.DrawnRows
import Derived.BigRegion
import Derived.Deep.RegionLawGrows
import Derived.Deep.RegionWith
import Derived.Deep.QuietTactic
import Derived.Laws.OwnMore
import Derived.OwnWalk
import Derived.Maps.AppendAt
import Derived.Lib.SmallJoins
import Derived.Deep.Fields
import Derived.Deep.Slices
import Derived.OrdersHeld
import Derived.Deep.RegionHeldLaw
import Derived.Laws.StructEq
import Derived.Deep.DeepCutAuto
/- Contracts of the model's l6Put: the entry stands where it belongs, in memory of the call's own. Condition: the slice can be read. -/
namespace Go.Proofs.YtnponpamjddpjabGreat
open Go.ChangeShapes Go.WideShapes Go.ChangeAt Go.RowKit Go.Sort
set_option linter.unusedVariables false

theorem slice_to (a : Option Addr) (n cap k : Nat) (hk : k ≤ cap) (W : World) : (Instr.slice 117 (.slice a n cap) none (some (.int .i64 k)) none).run Tryz.prog W = .ok (.slice a k cap) W := by
  obtain ⟨i0, hi, hz0, hz1, hz2⟩ := info_parts infoEntry
  have hs : ∀ W, (sizeOf 120).run Tryz.prog W = .ok 2 W := fun W => by simp [sizeOf, typeInfo, hi, hz1]
  have hb : ∀ W, (Instr.sliceBounds true n cap none (some (.int .i64 k)) none).run Tryz.prog W = .ok (0, k, cap) W := fun W => by
    simp [Instr.sliceBounds, Instr.sliceBound, asIntOf]
    intro h; omega
  simp only [Instr.slice, Sem.run_bind, run_underlying Tryz.underlying117, Result.andThen, hb, hs, Sem.run_pure]
  simp
  cases a <;> simp [Addr.add]
def fromV (a : Option Addr) (n cap k : Nat) : Value := .slice (if cap = k then a else a.map (·.add (k * 2))) (n - k) (cap - k)
theorem slice_from (a : Option Addr) (n cap k : Nat) (hk : k ≤ n) (W : World) : (Instr.slice 117 (.slice a n cap) (some (.int .i64 k)) none none).run Tryz.prog W = .ok (fromV a n cap k) W := by
  obtain ⟨i0, hi, hz0, hz1, hz2⟩ := info_parts infoEntry
  have hs : ∀ W, (sizeOf 120).run Tryz.prog W = .ok 2 W := fun W => by simp [sizeOf, typeInfo, hi, hz1]
  have hb : ∀ W, (Instr.sliceBounds true n cap (some (.int .i64 k)) none none).run Tryz.prog W = .ok (k, n, cap) W := fun W => by
    simp [Instr.sliceBounds, Instr.sliceBound, asIntOf]
    intro h; omega
  simp only [Instr.slice, Sem.run_bind, run_underlying Tryz.underlying117, Result.andThen, hb, hs, Sem.run_pure]
  rfl
theorem paceAt_drop (ps : List PaceV) (n k : Nat) : paceAt (ps.drop n) k = paceAt ps (n + k) := by unfold paceAt; simp [List.getD]
theorem IsPaces.from {w : World} {a : Option Addr} {n cap : Nat} {ps : List PaceV} (h : IsPaces w (.slice a n cap) ps) {k : Nat} (hk : k ≤ ps.length) : IsPaces w (fromV a n cap k) (ps.drop k) := by
  obtain ⟨a', cap', he, hc, hm, hr⟩ := h
  cases he
  refine ⟨_, cap - k, by unfold fromV; rw [List.length_drop], by rw [List.length_drop]; omega, by omega, ?_⟩
  rcases hr with hr | ⟨b, off, rfl, hlt, hcl⟩
  · exact .inl (by rw [hr]; simp)
  · by_cases hz : ps.length = k
    · exact .inl (by rw [List.drop_eq_nil_iff]; omega)
    · rw [if_neg (by omega)]
      refine .inr ⟨b, off + k * 2, by simp [addr_at], hlt, fun j hj => ?_⟩
      rw [List.length_drop] at hj
      rw [paceAt_drop]
      have := hcl (k + j) (by omega)
      rw [show off + (k + j) * 2 = off + k * 2 + j * 2 by omega] at this
      exact this
theorem fromV_shape (a : Option Addr) (n cap k : Nat) : ∃ a', fromV a n cap k = .slice a' (n - k) (cap - k) := ⟨_, rfl⟩

set_option maxRecDepth 100000 in
set_option maxHeartbeats 4000000 in
theorem l6Put_any {w : World} {v : Value} {ps : List PaceV} (f z : Int) (h : IsPaces w v ps) (hl : ps.length ≤ 900) :
    Calls Tryz.prog 119 #[v, .agg #[.int .i64 f, .int .i64 z]] w fun e w' => ∃ v', e = .returned v' ∧ EntsAt w.heap.size w' v' (putV ps (f, z)) ∧ Below w.heap.size w w' := by
  have Hv := hide h
  obtain ⟨a, cap, rfl, hc, hm, hr⟩ := h
  have Hr := hide hr
  clear hr
  go_enter Tryz.func119, Tryz.ntmps119
  go_wp2_with fail
  generalize hW : w.alloc (.cells #[.int .i64 f, .int .i64 z] 120) = W0
  have hs0 : W0.heap.size = w.heap.size + 1 := by rw [← hW]; simp
  have d0 : W0.cell? ⟨w.heap.size, 0, none⟩ = some (.int .i64 f) := by rw [← hW]; simp
  have d1 : W0.cell? ⟨w.heap.size, 1, none⟩ = some (.int .i64 z) := by rw [← hW]; simp
  have HB0 : Hid (Below w.heap.size w W0) := hide (by rw [← hW]; exact (Below.refl _ _).alloc (Nat.le_refl _) _)
  have D0 := hide d0
  have D1 := hide d1
  clear hW d0 d1
  go_loopw [5] (fun i wr => ∃ k : Nat, k ≤ ps.length ∧ i = .int .i64 k ∧ (∀ j, j < k → ltB (paceAt ps j) (f, z) = true) ∧ Below W0.heap.size W0 wr) (fun i _ => ps.length - (intOf i).toNat)
  case atStart => exact ⟨0, Nat.zero_le _, rfl, fun j hj => by omega, Below.refl _ _⟩
  case round =>
    obtain ⟨k, hk, rfl, hst, hb⟩ := hrel
    have Hst := hide hst
    have Hb := hide hb
    have hszr := hb.size
    have hlt0 : w.heap.size < W0.heap.size := by omega
    have g0 := (hb.cell (p := ⟨w.heap.size, 0, none⟩) hlt0).trans (unhide D0)
    have g1 := (hb.cell (p := ⟨w.heap.size, 1, none⟩) hlt0).trans (unhide D1)
    have k0 := cell_regrown g0
    have k1 := cell_regrown g1
    clear hst
    by_cases hgo : k < ps.length ∧ ltB (paceAt ps k) (f, z) = true
    · obtain ⟨hlt, hab⟩ := hgo
      rcases unhide Hr with h0 | ⟨b, off, rfl, hbw, hcl⟩
      · rw [h0] at hlt; simp at hlt
      obtain ⟨c0, c1⟩ := hcl k hlt
      have hbB := (unhide HB0).trans (hb.mono (by omega))
      rw [← hbB.cell (p := ⟨b, off + k * 2, none⟩) hbw] at c0
      rw [← hbB.cell (p := ⟨b, off + k * 2 + 1, none⟩) hbw] at c1
      generalize hp : paceAt ps k = p at *
      obtain ⟨f', z'⟩ := p
      simp only at c0 c1
      have Hp := hide hp
      have m0 := cell_regrown c0
      have m1 := cell_regrown c1
      have hd : decide (k < ps.length) = true := decide_eq_true hlt
      clear hp hcl hb hbB g0 g1 c0 c1
      go_wp2_with fail
      refine wp_region_quiet_below (by kernel_rfl) (by kernel_rfl) ?_
      repeat (go_big_quiet_step (exact Calls.regrown_of (specLess_any _ _ _ _ _)))
      refine wpQuiet_nil ?_
      intro _ hw'
      obtain ⟨⟨dq, osq⟩, hw''⟩ := hw'
      subst hw''
      go_wp2_with fail
      go_roundw
      case rel => exact ⟨k + 1, by omega, by go_num, next_all (unhide Hst) (by rw [unhide Hp]; exact hab), (unhide Hb).trans ((below_regrown _ _ _).mono (unhide Hb).size)⟩
      case measure => simp [intOf]; omega
    · have HK : Hid (lessN (f, z) ps = k) := hide (lessN_eq hk (unhide Hst) (by
        by_cases e : k = ps.length
        · exact .inl e
        · right
          cases hq : ltB (paceAt ps k) (f, z)
          · rfl
          · exact absurd ⟨by omega, hq⟩ hgo))
      have HQ : Hid (ps.take k ++ [(f, z)] ++ ps.drop k = putV ps (f, z)) := hide (by unfold putV; rw [unhide HK]; simp)
      have hto := slice_to a ps.length cap k (by omega)
      have hfr := slice_from a ps.length cap k hk
      obtain ⟨ra, hra⟩ := fromV_shape a ps.length cap k
      rw [hra] at hfr
      have Hfrom : Hid (IsPaces w (.slice ra (ps.length - k) (cap - k)) (ps.drop k)) := hide (by rw [← hra]; exact (unhide Hv).from hk)
      have Hcut : Hid (IsPaces w (.slice a k cap) (ps.take k)) := hide ((unhide Hv).cut hk)
      clear hra
      by_cases hlt : k < ps.length
      · have hab : ltB (paceAt ps k) (f, z) = false := by
          cases hq : ltB (paceAt ps k) (f, z)
          · rfl
          · exact absurd ⟨hlt, hq⟩ hgo
        rcases unhide Hr with h0 | ⟨b, off, rfl, hbw, hcl⟩
        · rw [h0] at hlt; simp at hlt
        obtain ⟨c0, c1⟩ := hcl k hlt
        have hbB := (unhide HB0).trans (hb.mono (by omega))
        rw [← hbB.cell (p := ⟨b, off + k * 2, none⟩) hbw] at c0
        rw [← hbB.cell (p := ⟨b, off + k * 2 + 1, none⟩) hbw] at c1
        generalize hp : paceAt ps k = p at *
        obtain ⟨f', z'⟩ := p
        simp only at c0 c1
        have m0 := cell_regrown c0
        have m1 := cell_regrown c1
        have hd : decide (k < ps.length) = true := decide_eq_true hlt
        clear hp hcl hb hbB g0 g1 c0 c1 hgo
        go_wp2_with fail
        refine wp_region_quiet_below (by kernel_rfl) (by kernel_rfl) ?_
        repeat (go_big_quiet_step (exact Calls.regrown_of (specLess_any _ _ _ _ _)))
        refine wpQuiet_nil ?_
        intro w1 hw'
        have Hb1 : Hid (Below W0.heap.size W0 w1) := hide (by obtain ⟨q, rfl⟩ := hw'; exact (unhide Hb).trans ((below_regrown _ _ _).mono (unhide Hb).size))
        clear hw' k0 k1 m0 m1
        go_wp2_with fail
        have B1 : Hid (Below w.heap.size w w1) := hide ((unhide HB0).trans ((unhide Hb1).mono (by omega)))
        refine (l6Copy_any ((unhide Hfrom).below (unhide B1)) (by simp; omega)).mono ?_
        rintro e w2 ⟨v2, rfl, hi2, hb2⟩
        obtain ⟨a2, cap2, hv2⟩ := hi2.shape
        rw [List.length_drop] at hv2
        subst hv2
        have hz1 := (unhide Hb1).size
        have hz2 := hb2.size
        have Hb2 : Hid (Below W0.heap.size W0 w2) := hide ((unhide Hb1).trans (hb2.mono hz1))
        have e0 := ((unhide Hb2).cell (p := ⟨w.heap.size, 0, none⟩) hlt0).trans (unhide D0)
        have e1 := ((unhide Hb2).cell (p := ⟨w.heap.size, 1, none⟩) hlt0).trans (unhide D1)
        have B2 : Hid (Below w.heap.size w w2) := hide ((unhide HB0).trans ((unhide Hb2).mono (by omega)))
        have Hi2 := hide hi2
        have HC := hide ((unhide Hcut).below (unhide B2))
        clear hi2 hb2
        have hlt2 : w.heap.size < w2.heap.size := by omega
        have hkl : (ps.take k).length = k := by simp; omega
        go_wp2_with fail
        go_region_law (first
          | (refine step_append_ents rfl (.tmp 28) (.tmp 30) 117 Tryz.underlying117 rfl w2.heap.size _ _ (ps.take k) [(f, z)] rfl rfl (E3.later ((Below.refl _ _).alloc (Nat.le_refl _) _)) (ents_one rfl (Nat.le_refl _) (by omega)) (by simp; omega) (by simp; omega) ?_; intro v4 w4 hown4 hg4 hat4; have X4 : Below w2.heap.size w2 w4 := (X3.alloc X3.size _).trans ((Below.refl _ _).grown hg4 (by simp; omega) (fun i e => (E3.lt e).1)))
          | (refine step_append_ents rfl (.tmp 28) (.tmp 30) 117 Tryz.underlying117 rfl w2.heap.size _ _ (ps.take k) [(f, z)] rfl rfl E3 ((ents_one (w := w2) rfl (Nat.le_refl _) (by omega)).below (((Below.refl _ _).drew).trans hb3)) (by simp; omega) (by omega) ?_; intro v4 w4 hown4 hg4 hat4; have X4 : Below w2.heap.size w2 w4 := X3.trans ((Below.refl _ _).grown hg4 (by omega) (fun i e => (E3.lt e).1)))
          | (refine step_append_ents rfl (.tmp 31) (.tmp 32) 117 Tryz.underlying117 rfl w2.heap.size _ _ (ps.take k ++ [(f, z)]) (ps.drop k) rfl rfl hown4 ((unhide Hi2).paces.below X4) (by simp; omega) (by have := X4.size; omega) ?_; intro v5 w5 hown5 hg5 hat5)
          | (go_simp; go_at_call 149; refine (l6Copy_any (ps := ps.take k) ?_ (by simp; omega)).mono ?_; (exact (unhide HC).below (by first | exact (Below.refl _ _).drew | exact ((Below.refl _ _).alloc (Nat.le_refl _) _).drew)); rintro e w3 ⟨v3, rfl, hi3, hb3⟩; obtain ⟨a3, cap3, hv3⟩ := hi3.shape; rw [hkl] at hv3; subst hv3; have E3 := hi3.mono (n₁ := w2.heap.size) (by simp); have X3 : Below w2.heap.size w2 w3 := (by first | exact ((Below.refl _ _).drew).trans (hb3.mono (by simp)) | exact (((Below.refl _ _).alloc (Nat.le_refl _) _).drew).trans (hb3.mono (by simp))); have hz3 := X3.size; have q0 := (X3.cell (p := ⟨w.heap.size, 0, none⟩) hlt2).trans e0; have q1 := (X3.cell (p := ⟨w.heap.size, 1, none⟩) hlt2).trans e1))
        all_goals
          have X5 : Below w2.heap.size w2 w5 := X4.trans ((Below.refl _ _).grown hg5 X4.size (fun i e => (hown4.lt e).1))
          rw [unhide HQ] at hown5
          have HX5 := hide X5
          have HO5 := hide hown5
          clear hown5 hg5 hat5 X4 X5 hown4 hg4 hat4 X3 E3 hi3 hb3 q0 q1
          go_wp2_with fail
          go_ret
          exact ⟨_, rfl, (unhide HO5).mono (unhide B2).size, (unhide B2).trans ((unhide HX5).mono (unhide B2).size)⟩
      · have hd : decide (k < ps.length) = false := decide_eq_false hlt
        clear hb g0 g1 hgo
        go_wp2_with fail
        refine wp_region_quiet_below (by kernel_rfl) (by kernel_rfl) ?_
        repeat (go_big_quiet_step (exact Calls.regrown_of (specLess_any _ _ _ _ _)))
        refine wpQuiet_nil ?_
        intro w1 hw'
        have Hb1 : Hid (Below W0.heap.size W0 w1) := hide (by obtain ⟨q, rfl⟩ := hw'; exact (unhide Hb).trans ((below_regrown _ _ _).mono (unhide Hb).size))
        clear hw' k0 k1
        go_wp2_with fail
        have B1 : Hid (Below w.heap.size w w1) := hide ((unhide HB0).trans ((unhide Hb1).mono (by omega)))
        refine (l6Copy_any ((unhide Hfrom).below (unhide B1)) (by simp; omega)).mono ?_
        rintro e w2 ⟨v2, rfl, hi2, hb2⟩
        obtain ⟨a2, cap2, hv2⟩ := hi2.shape
        rw [List.length_drop] at hv2
        subst hv2
        have hz1 := (unhide Hb1).size
        have hz2 := hb2.size
        have Hb2 : Hid (Below W0.heap.size W0 w2) := hide ((unhide Hb1).trans (hb2.mono hz1))
        have e0 := ((unhide Hb2).cell (p := ⟨w.heap.size, 0, none⟩) hlt0).trans (unhide D0)
        have e1 := ((unhide Hb2).cell (p := ⟨w.heap.size, 1, none⟩) hlt0).trans (unhide D1)
        have B2 : Hid (Below w.heap.size w w2) := hide ((unhide HB0).trans ((unhide Hb2).mono (by omega)))
        have Hi2 := hide hi2
        have HC := hide ((unhide Hcut).below (unhide B2))
        clear hi2 hb2
        have hlt2 : w.heap.size < w2.heap.size := by omega
        have hkl : (ps.take k).length = k := by simp; omega
        go_wp2_with fail
        go_region_law (first
          | (refine step_append_ents rfl (.tmp 28) (.tmp 30) 117 Tryz.underlying117 rfl w2.heap.size _ _ (ps.take k) [(f, z)] rfl rfl (E3.later ((Below.refl _ _).alloc (Nat.le_refl _) _)) (ents_one rfl (Nat.le_refl _) (by omega)) (by simp; omega) (by simp; omega) ?_; intro v4 w4 hown4 hg4 hat4; have X4 : Below w2.heap.size w2 w4 := (X3.alloc X3.size _).trans ((Below.refl _ _).grown hg4 (by simp; omega) (fun i e => (E3.lt e).1)))
          | (refine step_append_ents rfl (.tmp 28) (.tmp 30) 117 Tryz.underlying117 rfl w2.heap.size _ _ (ps.take k) [(f, z)] rfl rfl E3 ((ents_one (w := w2) rfl (Nat.le_refl _) (by omega)).below (((Below.refl _ _).drew).trans hb3)) (by simp; omega) (by omega) ?_; intro v4 w4 hown4 hg4 hat4; have X4 : Below w2.heap.size w2 w4 := X3.trans ((Below.refl _ _).grown hg4 (by omega) (fun i e => (E3.lt e).1)))
          | (refine step_append_ents rfl (.tmp 31) (.tmp 32) 117 Tryz.underlying117 rfl w2.heap.size _ _ (ps.take k ++ [(f, z)]) (ps.drop k) rfl rfl hown4 ((unhide Hi2).paces.below X4) (by simp; omega) (by have := X4.size; omega) ?_; intro v5 w5 hown5 hg5 hat5)
          | (go_simp; go_at_call 149; refine (l6Copy_any (ps := ps.take k) ?_ (by simp; omega)).mono ?_; (exact (unhide HC).below (by first | exact (Below.refl _ _).drew | exact ((Below.refl _ _).alloc (Nat.le_refl _) _).drew)); rintro e w3 ⟨v3, rfl, hi3, hb3⟩; obtain ⟨a3, cap3, hv3⟩ := hi3.shape; rw [hkl] at hv3; subst hv3; have E3 := hi3.mono (n₁ := w2.heap.size) (by simp); have X3 : Below w2.heap.size w2 w3 := (by first | exact ((Below.refl _ _).drew).trans (hb3.mono (by simp)) | exact (((Below.refl _ _).alloc (Nat.le_refl _) _).drew).trans (hb3.mono (by simp))); have hz3 := X3.size; have q0 := (X3.cell (p := ⟨w.heap.size, 0, none⟩) hlt2).trans e0; have q1 := (X3.cell (p := ⟨w.heap.size, 1, none⟩) hlt2).trans e1))
        all_goals
          have X5 : Below w2.heap.size w2 w5 := X4.trans ((Below.refl _ _).grown hg5 X4.size (fun i e => (hown4.lt e).1))
          rw [unhide HQ] at hown5
          have HX5 := hide X5
          have HO5 := hide hown5
          clear hown5 hg5 hat5 X4 X5 hown4 hg4 hat4 X3 E3 hi3 hb3 q0 q1
          go_wp2_with fail
          go_ret
          exact ⟨_, rfl, (unhide HO5).mono (unhide B2).size, (unhide B2).trans ((unhide HX5).mono (unhide B2).size)⟩

end Go.Proofs.YtnponpamjddpjabGreat

/- Who is at a bench: the model's l11At and At. Conditions: the smithy can be read; what each theorem names. -/
namespace Go.Proofs.YtnponpamjddpjabGreat
open Go.ChangeShapes Go.WideShapes Go.ChangeAt Go.RowKit Go.Sort
set_option linter.unusedVariables false

set_option maxRecDepth 100000 in
set_option maxHeartbeats 8000000 in
theorem l11At_any {w : World} {v0 v1 v2 v3 v4 : Value} {m : SmyV} (b : Int) (h : Smy w v0 v1 v2 v3 v4 m) (hl : m.smiths.length ≤ 800) :
    Calls Tryz.prog 90 #[.agg #[v0, v1, v2, v3, v4, .int .i64 m.now], .int .i64 b] w fun e w' => ∃ v', e = .returned v' ∧ EntsAt w.heap.size w' v' (atV m.smiths b m.smiths.length) ∧ Below w.heap.size w w' := by
  obtain ⟨h0, h1, h2, h3, h4⟩ := h
  obtain ⟨a0, p0, rfl, hc0, hm0, _⟩ := h0
  obtain ⟨a1, p1, rfl, hc1, hm1, _⟩ := h1
  obtain ⟨a2, p2, rfl, hc2, hm2, r2⟩ := h2
  obtain ⟨a3, p3, rfl, hc3, hm3, _⟩ := h3
  obtain ⟨a4, p4, rfl, hc4, hm4, _⟩ := h4
  have R2 := hide r2
  clear r2
  have kb0 : Hid (Blk ((w.alloc (.cells #[.slice a0 m.rooms.length p0, .slice a1 m.guilds.length p1, .slice a2 m.smiths.length p2, .slice a3 m.desks.length p3, .slice a4 m.paces.length p4, .int .i64 m.now] 40)).alloc (.cells #[] 120)) w.heap.size 40 #[.slice a0 m.rooms.length p0, .slice a1 m.guilds.length p1, .slice a2 m.smiths.length p2, .slice a3 m.desks.length p3, .slice a4 m.paces.length p4, .int .i64 m.now]) := hide ((Blk.new w _ _).alloc _)
  have BB0 : Hid (Below w.heap.size w ((w.alloc (.cells #[.slice a0 m.rooms.length p0, .slice a1 m.guilds.length p1, .slice a2 m.smiths.length p2, .slice a3 m.desks.length p3, .slice a4 m.paces.length p4, .int .i64 m.now] 40)).alloc (.cells #[] 120))) := hide (((Below.refl _ _).alloc (Nat.le_refl _) _).alloc (by simp) _)
  have E0 : Hid (EntsAt w.heap.size ((w.alloc (.cells #[.slice a0 m.rooms.length p0, .slice a1 m.guilds.length p1, .slice a2 m.smiths.length p2, .slice a3 m.desks.length p3, .slice a4 m.paces.length p4, .int .i64 m.now] 40)).alloc (.cells #[] 120)) (.slice (some ⟨w.heap.size + 1, 0, none⟩) 0 0) []) := hide (ents_empty (by simp) (by omega))
  go_enter Tryz.func90, Tryz.ntmps90
  go_wp2_with fail
  go_loopw [5, 6] (fun q i wr => ∃ k : Nat, k ≤ m.smiths.length ∧ i = .int .i64 k ∧ EntsAt w.heap.size wr q (atV m.smiths b k) ∧ Blk wr w.heap.size 40 #[.slice a0 m.rooms.length p0, .slice a1 m.guilds.length p1, .slice a2 m.smiths.length p2, .slice a3 m.desks.length p3, .slice a4 m.paces.length p4, .int .i64 m.now] ∧ Below w.heap.size w wr) (fun _ i _ => m.smiths.length - (intOf i).toNat)
  case atStart => exact ⟨0, Nat.zero_le _, rfl, unhide E0, unhide kb0, unhide BB0⟩
  case round =>
    obtain ⟨k, hk, rfl, he, kb1, hb1⟩ := hrel
    obtain ⟨qa, qcap, rfl⟩ := EntsAt.shape he
    have kb := hide kb1
    have BB := hide hb1
    have He := hide he
    clear kb1 hb1 he kb0 BB0 E0
    have hal := atV_len m.smiths b k
    have c2 := (unhide kb).cell (i := 2) (v := .slice a2 m.smiths.length p2) rfl
    by_cases hls : k < m.smiths.length
    · rcases unhide R2 with e0 | ⟨sb, off, rfl, hbw, hcl⟩
      · rw [e0] at hls; simp at hls
      obtain ⟨d0, d1, d2, d3, d4, d5, d6, d7, d8, d9, d10⟩ := smith_cells hcl hls
      rw [← (unhide BB).cell (p := ⟨sb, off + k * 11, none⟩) hbw] at d0
      rw [← (unhide BB).cell (p := ⟨sb, off + k * 11 + 1, none⟩) hbw] at d1
      rw [← (unhide BB).cell (p := ⟨sb, off + k * 11 + 2, none⟩) hbw] at d2
      rw [← (unhide BB).cell (p := ⟨sb, off + k * 11 + 3, none⟩) hbw] at d3
      rw [← (unhide BB).cell (p := ⟨sb, off + k * 11 + 4, none⟩) hbw] at d4
      rw [← (unhide BB).cell (p := ⟨sb, off + k * 11 + 5, none⟩) hbw] at d5
      rw [← (unhide BB).cell (p := ⟨sb, off + k * 11 + 6, none⟩) hbw] at d6
      rw [← (unhide BB).cell (p := ⟨sb, off + k * 11 + 7, none⟩) hbw] at d7
      rw [← (unhide BB).cell (p := ⟨sb, off + k * 11 + 8, none⟩) hbw] at d8
      rw [← (unhide BB).cell (p := ⟨sb, off + k * 11 + 9, none⟩) hbw] at d9
      rw [← (unhide BB).cell (p := ⟨sb, off + k * 11 + 10, none⟩) hbw] at d10
      clear hcl
      have S1 := hide (fun hs => atV_no (ss := m.smiths) (b := b) (k := k) hs)
      have S2 := hide (fun h1 h2 => atV_yes (ss := m.smiths) (b := b) (k := k) h1 h2)
      generalize recAt m.smiths k = ss at *
      obtain ⟨st, be, rk, my, gu, lo, hi, hd, ca, ut, wk⟩ := ss
      simp only at d0 d1 d2 d3 d4 d5 d6 d7 d8 d9 d10
      have hl0 : w.heap.size < wr.heap.size := (unhide kb).lt
      by_cases hbe : be = b
      rotate_left
      · have hbn : (be == b) = false := by simpa using hbe
        go_wp2_with fail
        go_roundw
        case rel => exact ⟨k + 1, by omega, by go_num, by rw [unhide S1 (fun h9 => hbe h9.1)]; exact EntsAt.later (unhide He) ((Below.refl _ _).alloc (Nat.le_refl _) _), (unhide kb).alloc _, (unhide BB).alloc (unhide BB).size _⟩
        case measure => simp [intOf]; omega
      subst hbe
      have hbn : (be == be) = true := by simp
      obtain ⟨ps, hps⟩ : ∃ q, presS (st, be, rk, my, gu, lo, hi, hd, ca, ut, wk) = q := ⟨_, rfl⟩
      have Hps := hide hps
      clear hps
      go_wp2_with fail
      clear c2 d0 d1 d2 d3 d4 d5 d6 d7 d8 d9 d10
      refine (l11Present_q (unhide Hps) _).mono ?_
      rintro e w2 ⟨rfl, hb⟩
      have ks : Hid (Blk w2 wr.heap.size 75 #[.int .i64 st, .int .i64 be, .int .i64 rk, .int .i64 my, .int .i64 gu, .int .i64 lo, .int .i64 hi, .int .i64 hd, .int .i64 ca, .int .i64 ut, .int .i64 wk]) := hide ((Blk.new wr _ _).below hb (by simp))
      replace kb := hide (((unhide kb).alloc (.cells #[.int .i64 st, .int .i64 be, .int .i64 rk, .int .i64 my, .int .i64 gu, .int .i64 lo, .int .i64 hi, .int .i64 hd, .int .i64 ca, .int .i64 ut, .int .i64 wk] 75)).below hb (by simp; omega))
      have hba := ((Below.refl wr.heap.size wr).alloc (Nat.le_refl _) (.cells #[.int .i64 st, .int .i64 be, .int .i64 rk, .int .i64 my, .int .i64 gu, .int .i64 lo, .int .i64 hi, .int .i64 hd, .int .i64 ca, .int .i64 ut, .int .i64 wk] 75)).trans (hb.mono (by simp))
      replace He := hide (EntsAt.later (unhide He) hba)
      replace BB := hide ((unhide BB).trans (hba.mono (unhide BB).size))
      clear hb hl0 hba
      have d7 := (unhide ks).cell (i := 7) (v := .int .i64 hd) rfl
      cases ps
      · go_wp2_with fail
        go_roundw
        case rel => exact ⟨k + 1, by omega, by go_num, by rw [unhide S1 (fun h9 => by have h8 := h9.2; rw [unhide Hps] at h8; cases h8)]; exact unhide He, unhide kb, unhide BB⟩
        case measure => simp [intOf]; omega
      go_wp2_with fail
      refine (l6Put_any hd (k : Int) (EntsAt.paces (unhide He)) (by omega)).mono ?_
      rintro e w3 ⟨v3, rfl, he3, hb⟩
      have hsz := (unhide BB).size
      have he4 := EntsAt.mono he3 hsz
      replace kb := hide ((unhide kb).below hb (unhide kb).lt)
      replace BB := hide ((unhide BB).trans (hb.mono hsz))
      obtain ⟨qa3, qcap3, rfl⟩ := EntsAt.shape he4
      have He4 := hide he4
      clear hb he3 he4 d7
      go_wp2_with fail
      go_roundw
      case rel => exact ⟨k + 1, by omega, by go_num, by rw [unhide S2 (by first | rfl | trivial) (unhide Hps)]; exact unhide He4, unhide kb, unhide BB⟩
      case measure => simp [intOf]; omega
    · obtain rfl : k = m.smiths.length := by omega
      go_wp2_with fail
      go_ret
      exact ⟨_, rfl, unhide He, unhide BB⟩

end Go.Proofs.YtnponpamjddpjabGreat

/- What one wants, and what is used at a bench: the model's l11Want, l11Who, l11Used. Conditions: the smithy can be read; what each theorem names. -/
namespace Go.Proofs.YtnponpamjddpjabGreat
open Go.ChangeShapes Go.WideShapes Go.ChangeAt Go.RowKit Go.Sort
set_option linter.unusedVariables false

/-- Right guilds, and each smith's is there who is not gone. -/
structure Guilded (m : SmyV) : Prop where
  guilds : guildsB m.guilds = true
  lo : ∀ i, i < m.smiths.length → (recAt m.smiths i).1 ≠ 0 → -1 ≤ (recAt m.smiths i).2.2.2.2.1
  hi : ∀ i, i < m.smiths.length → (recAt m.smiths i).1 ≠ 0 → (recAt m.smiths i).2.2.2.2.1 < m.guilds.length
theorem pres_ne {s : SmithV} (h : presS s = true) : s.1 ≠ 0 := fun e => by unfold presS at h; rw [e] at h; cases h

set_option maxHeartbeats 2000000 in
theorem l11Want_any {w : World} {v0 v1 v2 v3 v4 : Value} {m : SmyV} {k : Nat} (h : Smy w v0 v1 v2 v3 v4 m) (hg : guildsB m.guilds = true) (hk : k < m.smiths.length) (g0 : -1 ≤ (recAt m.smiths k).2.2.2.2.1) (g1 : (recAt m.smiths k).2.2.2.2.1 < m.guilds.length) :
    Calls Tryz.prog 91 #[.agg #[v0, v1, v2, v3, v4, .int .i64 m.now], .int .i64 (k : Int)] w fun e w' => e = .returned (.int .i64 (wantV m (k : Int))) ∧ Below w.heap.size w w' := by
  have hw : wantV m (k : Int) = wantS m.guilds (recAt m.smiths k) := rfl
  rw [hw]
  clear hw
  have Hv := hide h
  obtain ⟨h0, h1, h2, h3, h4⟩ := h
  obtain ⟨a0, p0, rfl, hc0, hm0⟩ := IsRooms.shape h0
  obtain ⟨a1, p1, rfl, hc1, hm1⟩ := IsRec.shape h1
  obtain ⟨a2, p2, rfl, hc2, hm2, r2⟩ := h2
  obtain ⟨a3, p3, rfl, hc3, hm3⟩ := IsRec.shape h3
  obtain ⟨a4, p4, rfl, hc4, hm4⟩ := IsRec.shape h4
  clear h0 h1 h3 h4
  rcases r2 with e0 | ⟨sb, off, rfl, hbw, hcl⟩
  · rw [e0] at hk; simp at hk
  obtain ⟨d0, d1, d2, d3, d4, d5, d6, d7, d8, d9, d10⟩ := smith_cells hcl hk
  clear hcl
  generalize recAt m.smiths k = ss at *
  obtain ⟨st, be, rk, my, gu, lo, hi, hd, ca, ut, wk⟩ := ss
  simp only at d0 d1 d2 d3 d4 d5 d6 d7 d8 d9 d10 g0 g1
  have Hg := hide hg
  clear hg
  go_enter Tryz.func91, Tryz.ntmps91
  go_wp2_with fail
  have BB : Hid (Below w.heap.size w ((w.alloc (.cells #[.slice a0 m.rooms.length p0, .slice a1 m.guilds.length p1, .slice (some ⟨sb, off, none⟩) m.smiths.length p2, .slice a3 m.desks.length p3, .slice a4 m.paces.length p4, .int .i64 m.now] 40)).alloc (.cells #[.int .i64 st, .int .i64 be, .int .i64 rk, .int .i64 my, .int .i64 gu, .int .i64 lo, .int .i64 hi, .int .i64 hd, .int .i64 ca, .int .i64 ut, .int .i64 wk] 75))) := hide (((Below.refl _ _).alloc (Nat.le_refl _) _).alloc (by simp) _)
  have Hv2 := hide ((unhide Hv).below (unhide BB)).guilds
  have ks := hide (Blk.new (w.alloc (.cells #[.slice a0 m.rooms.length p0, .slice a1 m.guilds.length p1, .slice (some ⟨sb, off, none⟩) m.smiths.length p2, .slice a3 m.desks.length p3, .slice a4 m.paces.length p4, .int .i64 m.now] 40)) 75 #[.int .i64 st, .int .i64 be, .int .i64 rk, .int .i64 my, .int .i64 gu, .int .i64 lo, .int .i64 hi, .int .i64 hd, .int .i64 ca, .int .i64 ut, .int .i64 wk])
  simp only [World.size_alloc] at ks
  generalize (w.alloc (.cells #[.slice a0 m.rooms.length p0, .slice a1 m.guilds.length p1, .slice (some ⟨sb, off, none⟩) m.smiths.length p2, .slice a3 m.desks.length p3, .slice a4 m.paces.length p4, .int .i64 m.now] 40)).alloc (.cells #[.int .i64 st, .int .i64 be, .int .i64 rk, .int .i64 my, .int .i64 gu, .int .i64 lo, .int .i64 hi, .int .i64 hd, .int .i64 ca, .int .i64 ut, .int .i64 wk] 75) = W at *
  refine (l8Within_of gu lo hi (unhide Hv2) (l8Bounds_any (unhide Hg) m.guilds.length gu (unhide Hv2) g0 g1 g1)).mono ?_
  rintro e w1 ⟨rfl, hb⟩
  replace ks := hide ((unhide ks).below hb (unhide ks).lt)
  replace BB := hide ((unhide BB).trans (hb.mono (unhide BB).size))
  have x9 := (unhide ks).cell (i := 9) (v := .int .i64 ut) rfl
  clear hb d0 d1 d2 d3 d4 d5 d6 d7 d8 d9 d10
  go_wp2_with (go_at_call 121; refine (specClamped_any _ _ _ _).mono ?_; rintro e w' ⟨rfl, h9⟩; subst w')
  go_ret
  exact ⟨rfl, unhide BB⟩

theorem usedL_step (m : SmyV) (but : Int) {q : List PaceV} {k : Nat} (hk : k < q.length) : usedL m but (q.take (k + 1)) = if (paceAt q k).2 = but then usedL m but (q.take k) else usedL m but (q.take k) + wantV m (paceAt q k).2 := by
  have : q.take (k + 1) = q.take k ++ [paceAt q k] := by
    rw [List.take_succ_eq_append_getElem hk]; unfold paceAt; simp [List.getD, hk]
  rw [this, usedL_snoc]

set_option maxRecDepth 100000 in
set_option maxHeartbeats 4000000 in
theorem l11Used_any {w : World} {v0 v1 v2 v3 v4 : Value} {m : SmyV} (b but : Int) (h : Smy w v0 v1 v2 v3 v4 m) (hG : Guilded m) (hl : m.smiths.length ≤ 800) :
    Calls Tryz.prog 54 #[.agg #[v0, v1, v2, v3, v4, .int .i64 m.now], .int .i64 b, .int .i64 but] w fun e w' => e = .returned (.int .i64 (usedV m b but)) ∧ Below w.heap.size w w' := by
  have Hv := hide (h.alloc (.cells #[v0, v1, v2, v3, v4, .int .i64 m.now] 40))
  obtain ⟨a0, p0, rfl, _, _⟩ := IsRooms.shape h.rooms
  obtain ⟨a1, p1, rfl, _, _⟩ := IsRec.shape h.guilds
  obtain ⟨a2, p2, rfl, _, _⟩ := IsRec.shape h.smiths
  obtain ⟨a3, p3, rfl, _, _⟩ := IsRec.shape h.desks
  obtain ⟨a4, p4, rfl, _, _⟩ := IsRec.shape h.paces
  clear h
  have HG := hide hG
  clear hG
  go_enter Tryz.func54, Tryz.ntmps54
  go_wp2_with fail
  refine (l11At_any b (unhide Hv) hl).mono ?_
  rintro e w1 ⟨v', rfl, he, hb⟩
  have kb : Hid (Blk w1 w.heap.size 40 #[.slice a0 m.rooms.length p0, .slice a1 m.guilds.length p1, .slice a2 m.smiths.length p2, .slice a3 m.desks.length p3, .slice a4 m.paces.length p4, .int .i64 m.now]) := hide ((Blk.new w _ _).below hb (by simp))
  have BB : Hid (Below w.heap.size w w1) := hide (((Below.refl _ _).alloc (Nat.le_refl _) _).trans (hb.mono (by simp)))
  replace Hv := hide ((unhide Hv).below hb)
  have hq := atV_len m.smiths b m.smiths.length
  have hmem := atV_mem m.smiths b
  have Hu : Hid (usedV m b but = usedL m but (atV m.smiths b m.smiths.length)) := hide rfl
  have hmq : ∀ x ∈ atV m.smiths b m.smiths.length, ∃ j : Nat, j < m.smiths.length ∧ presS (recAt m.smiths j) = true ∧ x.2 = (j : Int) := fun x hx => by
    obtain ⟨j, hj, _, hp, rfl⟩ := (hmem x m.smiths.length).1 hx
    exact ⟨j, hj, hp, rfl⟩
  have Hm := hide hmq
  clear hmem hmq hb
  have hp := EntsAt.paces he
  clear he
  generalize atV m.smiths b m.smiths.length = q at *
  obtain ⟨qa, qc, rfl, hqc, hqm, hr⟩ := hp
  have Hr := hide hr
  clear hr
  go_wp2_with fail
  go_loopw [7, 9] (fun n i wr => ∃ k : Nat, k ≤ q.length ∧ i = .int .i64 k ∧ n = .int .i64 (usedL m but (q.take k)) ∧ Below w1.heap.size w1 wr) (fun _ i _ => q.length - (intOf i).toNat)
  case atStart => exact ⟨0, Nat.zero_le _, rfl, rfl, Below.refl _ _⟩
  case round =>
    obtain ⟨k, hk, rfl, rfl, hbr⟩ := hrel
    have hub := usedL_bd m but (q.take k)
    have htl : (q.take k).length ≤ k := by rw [List.length_take]; omega
    by_cases hlt : k < q.length
    · rcases unhide Hr with e0 | ⟨eb, eo, rfl, hbw, hcl⟩
      · rw [e0] at hlt; simp at hlt
      obtain ⟨c0, c1⟩ := hcl k hlt
      rw [← hbr.cell (p := ⟨eb, eo + k * 2, none⟩) hbw] at c0
      rw [← hbr.cell (p := ⟨eb, eo + k * 2 + 1, none⟩) hbw] at c1
      obtain ⟨j, hj, hjp, hje⟩ := unhide Hm _ (paceAt_mem hlt)
      have Hjp := hide (pres_ne hjp)
      clear hjp
      have hst := usedL_step m but hlt
      have hwb := wantV_bd m (j : Int)
      rw [hje] at c1 hst
      clear hje hcl
      generalize (paceAt q k).1 = hd at *
      have Hst := hide hst
      clear hst
      generalize usedL m but (q.take k) = u at *
      have u1 : u ≤ 1024 * 800 := by omega
      have kb1 := (unhide kb).below hbr (unhide kb).lt
      have Hv1 := hide ((unhide Hv).below hbr)
      have Kb1 := hide kb1
      have Hbr := hide hbr
      clear hbr kb1
      have x0 := (unhide Kb1).cell (i := 0) (v := .slice a0 m.rooms.length p0) rfl
      have x1 := (unhide Kb1).cell (i := 1) (v := .slice a1 m.guilds.length p1) rfl
      have x2 := (unhide Kb1).cell (i := 2) (v := .slice a2 m.smiths.length p2) rfl
      have x3 := (unhide Kb1).cell (i := 3) (v := .slice a3 m.desks.length p3) rfl
      have x4 := (unhide Kb1).cell (i := 4) (v := .slice a4 m.paces.length p4) rfl
      have x5 := (unhide Kb1).cell (i := 5) (v := .int .i64 m.now) rfl
      by_cases hbut : (j : Int) = but
      · have hbn : ((j : Int) == but) = true := by simpa using hbut
        go_wp2_with fail
        go_roundw
        case rel => exact ⟨k + 1, by omega, by go_num, by rw [unhide Hst, if_pos hbut], unhide Hbr⟩
        case measure => simp [intOf]; omega
      · have hbn : ((j : Int) == but) = false := by simpa using hbut
        have Hw := hide (fun (W : World) (hW : Below wr.heap.size wr W) => l11Want_any ((unhide Hv1).below hW) (unhide HG).guilds hj ((unhide HG).lo j hj (unhide Hjp)) ((unhide HG).hi j hj (unhide Hjp)))
        generalize wantV m (j : Int) = wa at *
        have y0 := cell_regrown x0
        have y1 := cell_regrown x1
        have y2 := cell_regrown x2
        have y3 := cell_regrown x3
        have y4 := cell_regrown x4
        have y5 := cell_regrown x5
        have z0 := cell_regrown c0
        have z1 := cell_regrown c1
        go_wp2_with fail
        refine wp_region_quiet_below (by kernel_rfl) (by kernel_rfl) ?_
        repeat (go_big_quiet_step (exact Calls.regrown_of (unhide Hw _ (below_regrown _ _ _))))
        refine wpQuiet_nil ?_
        intro _ hw'
        obtain ⟨⟨dq, osq⟩, hw''⟩ := hw'
        subst hw''
        go_wp2_with fail
        go_roundw
        case rel => exact ⟨k + 1, by omega, by go_num, by rw [unhide Hst, if_neg hbut], (unhide Hbr).trans ((below_regrown _ _ _).mono (unhide Hbr).size)⟩
        case measure => simp [intOf]; omega
    · obtain rfl : k = q.length := by omega
      rw [List.take_length]
      go_wp2_with fail
      go_ret
      exact ⟨ret_int (unhide Hu).symm, (unhide BB).trans (hbr.mono (unhide BB).size)⟩

end Go.Proofs.YtnponpamjddpjabGreat

/- What a smithy must be for what it costs and which bench is chosen to be told: lists alone. No condition but those that a theorem names. -/
namespace Go.Proofs.YtnponpamjddpjabGreat
open Go.ChangeShapes Go.WideShapes Go.ChangeAt Go.RowKit Go.Sort
set_option linter.unusedVariables false

structure Sane (m : SmyV) : Prop where
  hall : hallB m.rooms = true
  desks : (m.desks.length : Int) = benchSum m.rooms
  guilded : Guilded m
  few : m.smiths.length ≤ 12
theorem Sane.bench {m : SmyV} (h : Sane m) {b : Nat} (hb : b < m.desks.length) : isBench m.rooms (b : Int) = true := isBench_t h.hall (by omega) (by have := h.desks; omega)
theorem Sane.eight {m : SmyV} (h : Sane m) : m.desks.length ≤ 8 := by have := (hallB_of h.hall).2.2.2; have := h.desks; omega
theorem Loose.sane {m : SmyV} (h : Loose m) : Sane m := by
  have hd := h.head
  unfold headB at hd
  simp only [Bool.and_eq_true, decide_eq_true_eq] at hd
  obtain ⟨h1, h2, h3, h4, _⟩ := hd
  refine ⟨h1, h4, ⟨h2, fun i hi hs => ?_, fun i hi hs => (h.limits hi hs).2.1⟩, h3⟩
  have hp := (h.limits hi hs).1
  generalize recAt m.smiths i = s at *
  obtain ⟨st, be, rk, my, gu, lo', hi', hd, ca, ut, wk⟩ := s
  exact (presB_of hp).2.2.2.2.1.1
theorem Sane.with {m : SmyV} (h : Sane m) {k : Nat} (hk : k < m.smiths.length) (hs : (recAt m.smiths k).1 ≠ 0) (b : Int) : Sane (withM m (k : Int) b) := by
  have hset : ∀ i, recAt (withM m (k : Int) b).smiths i = if i = k then atBench (recAt m.smiths k) b else recAt m.smiths i := fun i => by
    unfold withM
    simp only [Int.toNat_natCast]
    exact recAt_set hk i
  refine ⟨h.hall, h.desks, ⟨h.guilded.guilds, fun i hi hne => ?_, fun i hi hne => ?_⟩, by unfold withM; simpa using h.few⟩
  · have hi' : i < m.smiths.length := by unfold withM at hi; simpa using hi
    rw [hset] at hne ⊢
    by_cases e : i = k
    · rw [if_pos e]; exact h.guilded.lo k hk hs
    · rw [if_neg e] at hne ⊢; exact h.guilded.lo i hi' hne
  · have hi' : i < m.smiths.length := by unfold withM at hi; simpa using hi
    rw [hset] at hne ⊢
    by_cases e : i = k
    · rw [if_pos e]; exact h.guilded.hi k hk hs
    · rw [if_neg e] at hne ⊢; exact h.guilded.hi i hi' hne
theorem Sane.few' {m : SmyV} (h : Sane m) (hp : m.paces.length ≤ 1000) : Few m := by
  obtain ⟨r1, r2, r3, r4⟩ := hallB_of h.hall
  have hg := (guildsB_of h.guilded.guilds).2
  refine ⟨by omega, fun r hr => ?_, by omega, by have := h.few; omega, by have := h.eight; omega, hp⟩
  have hrb := List.all_eq_true.1 r3 r hr
  unfold roomB at hrb
  simp only [Bool.and_eq_true] at hrb
  have := inB_of hrb.2.1
  omega

end Go.Proofs.YtnponpamjddpjabGreat

/- Contracts of the model's RoomOf and ForceOf and of the program's ForceOf, at whatever hall can be read and whatever bench. No other condition. -/
namespace Go.Proofs.YtnponpamjddpjabGreat
open Go.ChangeShapes Go.WideShapes Go.ChangeAt Go.RowKit Go.Sort
set_option linter.unusedVariables false

set_option maxHeartbeats 1000000 in
theorem l4Room_any {w : World} {v : Value} {rs : List RoomV} (n : Int) (h : IsRooms w v rs) (hbn : isBench rs n = true) :
    Calls Tryz.prog 53 #[.agg #[v], .int .i64 n] w fun e w' => e = .returned (.int .i64 (roomN rs n)) ∧ Below w.heap.size w w' := by
  obtain ⟨a, cap, rfl, hc, hm, hr⟩ := h
  have Hr := hide hr
  have H := hide hbn
  have hh := (isBench_of hbn).1
  have hn0 := (isBench_of hbn).2.1
  have hn1 : n < 12 := by have h1 := (isBench_of hbn).2.2; have := (hallB_of hh).2.2.2; omega
  have Hh := hide hh
  have hl3 : rs.length ≤ 3 := (hallB_of hh).2.1
  clear hr hbn hh
  go_enter Tryz.func53, Tryz.ntmps53
  go_wp2_with fail
  go_loop [1, 5] (fun q i => ∃ r : Nat, r ≤ rs.length ∧ i = .int .i64 r ∧ q = .int .i64 (n - benchSum (rs.take r)) ∧ (∀ j, j < r → benchSum (rs.take (j + 1)) ≤ n)) (fun _ i => rs.length - (intOf i).toNat)
  case atStart => exact ⟨0, Nat.zero_le _, rfl, by simp [benchSum], fun j hj => by omega⟩
  case round =>
    obtain ⟨r, hr, rfl, rfl, hl⟩ := hrel
    have hlt := room_more (unhide H) hr hl
    rcases unhide Hr with e0 | ⟨b, off, rfl, hbw, hcl⟩
    · rw [e0] at hlt; simp at hlt
    obtain ⟨c0, pv, c1, hip⟩ := hcl r hlt
    have hne : b ≠ w.heap.size := Nat.ne_of_lt hbw
    have Hl := hide hl
    have hb0 := benches_hall (unhide Hh) r hr
    have hb1 := benches_hall (unhide Hh) (r + 1) hlt
    have Hs := hide (benchSum_take rs hlt)
    have HN : Hid (n < benchSum (rs.take (r + 1)) → roomN rs n = r) := hide (fun hx => roomN_eq hlt hx (unhide Hl))
    have HM : Hid (benchSum (rs.take (r + 1)) ≤ n → ∀ j, j < r + 1 → benchSum (rs.take (j + 1)) ≤ n) := hide (fun hx => next_all (unhide Hl) hx)
    rw [benchSum_take rs hlt] at hb1 HN HM
    generalize benchSum (rs.take r) = s at *
    generalize (roomAt rs r).1 = rb at *
    clear hcl hip hl
    by_cases hq : rb ≤ n - s
    · go_wp2_with fail
      go_round
      case rel => exact ⟨r + 1, by omega, by go_num, by rw [unhide Hs]; congr 1; omega, unhide HM (by omega)⟩
      case measure => simp [intOf]; omega
    · go_wp2_with fail
      go_ret
      exact ⟨ret_int (by rw [unhide HN (by omega)]), (Below.refl _ _).alloc (Nat.le_refl _) _⟩

end Go.Proofs.YtnponpamjddpjabGreat

/- Contracts of BenchSet, the program's and the model's, at whatever hall can be read and whatever room. No other condition. -/
namespace Go.Proofs.YtnponpamjddpjabGreat
open Go.ChangeShapes Go.WideShapes Go.ChangeAt Go.RowKit Go.Sort
set_option linter.unusedVariables false

def isRoom (rs : List RoomV) (n : Int) : Bool := hallB rs && inB n 0 ((rs.length : Int) - 1)
/-- The benches from lo to hi less 1, as a set. -/
def bitsV (lo hi : Int) : Int := (2 : Int) ^ hi.toNat - 2 ^ lo.toNat
def setV (rs : List RoomV) (n : Int) : Int := if isRoom rs n = true then bitsV (benchSum (rs.take n.toNat)) (benchSum (rs.take (n.toNat + 1))) else -1
theorem setV_t {rs : List RoomV} {n : Int} (h : isRoom rs n = true) : setV rs n = bitsV (benchSum (rs.take n.toNat)) (benchSum (rs.take (n.toNat + 1))) := by unfold setV; rw [if_pos h]
theorem setV_f {rs : List RoomV} {n : Int} (h : isRoom rs n = false) : setV rs n = -1 := by unfold setV; rw [h]; rfl
theorem isRoom_f1 {rs : List RoomV} {n : Int} (h : hallB rs = false) : isRoom rs n = false := by unfold isRoom; rw [h]; rfl
theorem isRoom_f2 {rs : List RoomV} {n : Int} (h : n < 0 ∨ rs.length ≤ n) : isRoom rs n = false := by unfold isRoom; rw [inB_f (by omega)]; simp

theorem pow_small {s : Int} (h0 : 0 ≤ s) (h1 : s ≤ 12) : 1 ≤ (2 : Int) ^ s.toNat ∧ (2 : Int) ^ s.toNat ≤ 4096 := by
  have key : ∀ k : Fin 13, 1 ≤ (2 : Int) ^ k.val ∧ (2 : Int) ^ k.val ≤ 4096 := by decide
  exact key ⟨s.toNat, by omega⟩
theorem wrap_small {x : Int} (h0 : -100000 ≤ x) (h1 : x ≤ 100000) : wrap64 x = x := by unfold wrap64; omega

set_option maxHeartbeats 2000000 in
theorem implBenchSet_any {w : World} {v : Value} {rs : List RoomV} (n : Int) (h : IsRooms w v rs) :
    Calls Tryz.prog 64 #[.agg #[v], .int .i64 n] w fun e w' => e = .returned (.int .i64 (setV rs n)) ∧ Below w.heap.size w w' := by
  have Hv := hide h
  obtain ⟨a, cap, rfl, hc, hm⟩ : ∃ a cap, v = .slice a rs.length cap ∧ rs.length ≤ cap ∧ cap ≤ 9223372036854775807 := by obtain ⟨a, cap, rfl, hc, hm, _⟩ := h; exact ⟨a, cap, rfl, hc, hm⟩
  clear h
  have Hb0 : Hid (Below w.heap.size w (w.alloc (.cells #[.slice a rs.length cap] 35))) := hide ((Below.refl _ _).alloc (Nat.le_refl _) _)
  cases h1 : hallB rs
  · have H2 := hide (setV_f (isRoom_f1 (n := n) h1))
    go_enter Tryz.func64, Tryz.ntmps64
    go_wp2_with fail
    refine (implHallOk_any ((unhide Hv).alloc _)).mono ?_
    rintro e w1 ⟨rfl, hb⟩
    have Hb := hide hb
    clear hb
    go_wp2_with fail
    go_ret
    exact ⟨ret_int (unhide H2).symm, (unhide Hb0).trans ((unhide Hb).mono (by simp))⟩
  by_cases h2 : n < 0
  · have H2 := hide (setV_f (isRoom_f2 (rs := rs) (.inl h2)))
    go_enter Tryz.func64, Tryz.ntmps64
    go_wp2_with fail
    refine (implHallOk_any ((unhide Hv).alloc _)).mono ?_
    rintro e w1 ⟨rfl, hb⟩
    have Hb := hide hb
    clear hb
    go_wp2_with fail
    go_ret
    exact ⟨ret_int (unhide H2).symm, (unhide Hb0).trans ((unhide Hb).mono (by simp))⟩
  by_cases h3 : (rs.length : Int) ≤ n
  · have H2 := hide (setV_f (isRoom_f2 (rs := rs) (.inr h3)))
    go_enter Tryz.func64, Tryz.ntmps64
    go_wp2_with fail
    refine (implHallOk_any ((unhide Hv).alloc _)).mono ?_
    rintro e w1 ⟨rfl, hb⟩
    have hbox : w1.cell? ⟨w.heap.size, 0, none⟩ = some (.slice a rs.length cap) := by rw [hb.cell (p := ⟨w.heap.size, 0, none⟩) (by simp)]; simp
    have Hb := hide hb
    clear hb
    go_wp2_with fail
    go_ret
    exact ⟨ret_int (unhide H2).symm, (unhide Hb0).trans ((unhide Hb).mono (by simp))⟩
  have h4 : isRoom rs n = true := by unfold isRoom; rw [h1, inB_t (by omega) (by omega)]; rfl
  have H2 := hide (setV_t h4)
  obtain ⟨r, rfl⟩ := Int.eq_ofNat_of_zero_le (show 0 ≤ n by omega)
  have H1 := hide h1
  have Ha := hide (adds_hall h1)
  have hl3 : rs.length ≤ 3 := (hallB_of h1).2.1
  have hb0 := benches_hall h1 r (by omega)
  have hb1 := benches_hall h1 (r + 1) (by omega)
  go_enter Tryz.func64, Tryz.ntmps64
  go_wp2_with fail
  refine (implHallOk_any ((unhide Hv).alloc _)).mono ?_
  rintro e w1 ⟨rfl, hb⟩
  have hbox : w1.cell? ⟨w.heap.size, 0, none⟩ = some (.slice a rs.length cap) := by rw [hb.cell (p := ⟨w.heap.size, 0, none⟩) (by simp)]; simp
  have k0 := cell_regrown hbox
  have Hb := hide hb
  have Hw := hide (((unhide Hv).alloc _).below hb)
  clear hb h4
  go_wp2_with fail
  refine wp_region_quiet_below (by kernel_rfl) (by kernel_rfl) ?_
  repeat (go_big_quiet_step (first | exact Calls.regrown_of (benchesOf_any (((unhide Hw).below (below_regrown _ _ _)).taken (n := r) (by omega)) ((unhide Ha).taken _)) | exact Calls.regrown_of (benchesOf_any (((unhide Hw).below (below_regrown _ _ _)).taken (n := r + 1) (by omega)) ((unhide Ha).taken _))))
  refine wpQuiet_nil ?_
  intro _ hw'
  obtain ⟨⟨dq, osq⟩, hw''⟩ := hw'
  subst hw''
  rw [Int.toNat_natCast] at H2
  generalize benchSum (rs.take r) = s0 at *
  generalize benchSum (rs.take (r + 1)) = s1 at *
  obtain ⟨x0, x1⟩ := hb0
  obtain ⟨y0, y1⟩ := hb1
  go_wp2_with fail
  go_quiet (fail)
  go_wp2_with fail
  go_ret
  refine ⟨ret_int ?_, (unhide Hb0).trans (((unhide Hb).trans (below_drewN ((below_regrown _ _ _).mono (unhide Hb).size) _)).mono (by simp))⟩
  have p0 := pow_small x0 x1
  have p1 := pow_small y0 y1
  rw [unhide H2, wrap_small (x := 2 ^ s1.toNat) (by omega) (by omega), wrap_small (x := 2 ^ s0.toNat) (by omega) (by omega), wrap_small (x := 2 ^ s1.toNat - 2 ^ s0.toNat) (by omega) (by omega)]
  rfl

theorem benchSum_mono {rs : List RoomV} (h : rs.all roomB = true) {i : Nat} : ∀ d, i + d ≤ rs.length → benchSum (rs.take i) ≤ benchSum (rs.take (i + d))
  | 0, _ => Int.le_refl _
  | d + 1, hd => by
    have ih := benchSum_mono h (i := i) d (by omega)
    have hb := room_bd (allRooms_of h (j := i + d) (by omega))
    rw [← Nat.add_assoc, benchSum_take rs (by omega)]; omega
/-- Where a bench stands. -/
theorem room_is {rs : List RoomV} {n : Int} (h : isBench rs n = true) {r : Nat} (hr : r < rs.length) : roomN rs n = r ↔ benchSum (rs.take r) ≤ n ∧ n < benchSum (rs.take (r + 1)) := by
  have hb := isBench_of h
  have ha := (hallB_of hb.1).2.2.1
  have key : ∀ d q : Nat, q + d = rs.length → (∀ j, j < q → benchSum (rs.take (j + 1)) ≤ n) → benchSum (rs.take (roomN rs n)) ≤ n ∧ n < benchSum (rs.take (roomN rs n + 1)) := by
    intro d
    induction d with
    | zero => intro q hq hl; have := room_more h (by omega) hl; omega
    | succ d ih =>
      intro q hq hl
      have hlt := room_more h (r := q) (by omega) hl
      by_cases hc : n < benchSum (rs.take (q + 1))
      · rw [roomN_eq hlt hc hl]
        refine ⟨?_, hc⟩
        cases q with
        | zero => simp [benchSum]; omega
        | succ q => exact hl q (by omega)
      · exact ih (q + 1) (by omega) (next_all hl (by omega))
  constructor
  · intro e; have := key rs.length 0 (by omega) (fun j hj => by omega); rwa [e] at this
  · intro hx
    refine roomN_eq hr hx.2 (fun j hj => ?_)
    have := benchSum_mono ha (i := j + 1) (r - (j + 1)) (by omega)
    rw [show j + 1 + (r - (j + 1)) = r by omega] at this
    omega

end Go.Proofs.YtnponpamjddpjabGreat

/- Sets of benches that stand one behind the other: how two of them are joined, how many members one has, and which. No condition but those that a theorem names. -/
namespace Go.Proofs.YtnponpamjddpjabGreat
open Go.ChangeShapes Go.WideShapes Go.ChangeAt Go.RowKit Go.Sort
set_option linter.unusedVariables false

theorem bits_mem {lo hi b : Int} (h0 : 0 ≤ lo) (h1 : lo ≤ hi) (h2 : hi ≤ 8) (hb0 : -1 ≤ b) (hb1 : b ≤ 8) : memB (bitsV lo hi) b = decide (lo ≤ b ∧ b < hi) := by
  have key : ∀ b : Fin 10, ∀ hi : Fin 9, ∀ lo : Fin 9, lo.val ≤ hi.val → memB (bitsV lo.val hi.val) ((b.val : Int) - 1) = decide ((lo.val : Int) ≤ (b.val : Int) - 1 ∧ (b.val : Int) - 1 < hi.val) := by decide +kernel
  have := key ⟨(b + 1).toNat, by omega⟩ ⟨hi.toNat, by omega⟩ ⟨lo.toNat, by omega⟩ (by show lo.toNat ≤ hi.toNat; omega)
  simp only [show ((lo.toNat : Nat) : Int) = lo by omega, show ((hi.toNat : Nat) : Int) = hi by omega, show (((b + 1).toNat : Nat) : Int) - 1 = b by omega] at this
  exact this

end Go.Proofs.YtnponpamjddpjabGreat

/- The model's At: who waits or works at a bench. Condition: the smithy can be read. -/
namespace Go.Proofs.YtnponpamjddpjabGreat
open Go.ChangeShapes Go.WideShapes Go.ChangeAt Go.RowKit Go.Sort
set_option linter.unusedVariables false

theorem spec_q {w : World} {v0 v1 v2 v3 v4 : Value} {m : SmyV} {q : Bool} (hq : smyB m = q) (h : Smy w v0 v1 v2 v3 v4 m) : Calls Tryz.prog 23 #[.agg #[v0, v1, v2, v3, v4, .int .i64 m.now]] w fun e w' => e = .returned (.bool q) ∧ Below w.heap.size w w' := by
  have := specSmithyOk_any h; rw [hq] at this; exact this

set_option maxHeartbeats 1000000 in
theorem l11Bench_q {w : World} {v0 v1 v2 v3 v4 : Value} {m : SmyV} {b : Int} {q : Bool} (hq : isBenchB m b = q) (h : Smy w v0 v1 v2 v3 v4 m) :
    Calls Tryz.prog 44 #[.agg #[v0, v1, v2, v3, v4, .int .i64 m.now], .int .i64 b] w fun e w' => e = .returned (.bool q) ∧ Below w.heap.size w w' := by
  have hq2 : inB b 0 ((m.desks.length : Int) - 1) = q := hq
  clear hq
  obtain ⟨a0, p0, rfl, _, _⟩ := IsRooms.shape h.rooms
  obtain ⟨a1, p1, rfl, _, _⟩ := IsRec.shape h.guilds
  obtain ⟨a2, p2, rfl, _, _⟩ := IsRec.shape h.smiths
  obtain ⟨a3, p3, rfl, hc3, hm3⟩ := IsRec.shape h.desks
  obtain ⟨a4, p4, rfl, _, _⟩ := IsRec.shape h.paces
  clear h
  go_enter Tryz.func44, Tryz.ntmps44
  go_wp2_with (go_at_call 52; refine (l1In_any _ _ _ _).mono ?_; rw [hq2]; rintro e w' ⟨rfl, h9⟩; subst w')
  go_ret
  exact ⟨rfl, (Below.refl _ _).alloc (Nat.le_refl _) _⟩

end Go.Proofs.YtnponpamjddpjabGreat

/- Is there such a room: as plain lists, and the model's l13Room. Condition: the smithy can be read. -/
namespace Go.Proofs.YtnponpamjddpjabGreat
open Go.ChangeShapes Go.WideShapes Go.ChangeAt Go.RowKit Go.Sort
set_option linter.unusedVariables false

def isRoomB (m : SmyV) (r : Int) : Bool := inB r 0 ((m.rooms.length : Int) - 1)
theorem room_of {m : SmyV} {b : Int} (h : isRoomB m b = true) : ∃ k : Nat, b = (k : Int) ∧ k < m.rooms.length := by
  have := inB_of (show inB b 0 ((m.rooms.length : Int) - 1) = true from h)
  exact ⟨b.toNat, by omega, by omega⟩

set_option maxHeartbeats 1000000 in
theorem l13Room_q {w : World} {v0 v1 v2 v3 v4 : Value} {m : SmyV} {b : Int} {q : Bool} (hq : isRoomB m b = q) (h : Smy w v0 v1 v2 v3 v4 m) :
    Calls Tryz.prog 24 #[.agg #[v0, v1, v2, v3, v4, .int .i64 m.now], .int .i64 b] w fun e w' => e = .returned (.bool q) ∧ Below w.heap.size w w' := by
  have hq2 : inB b 0 ((m.rooms.length : Int) - 1) = q := hq
  clear hq
  obtain ⟨a0, p0, rfl, hc3, hm3⟩ := IsRooms.shape h.rooms
  obtain ⟨a1, p1, rfl, _, _⟩ := IsRec.shape h.guilds
  obtain ⟨a2, p2, rfl, _, _⟩ := IsRec.shape h.smiths
  obtain ⟨a3, p3, rfl, _, _⟩ := IsRec.shape h.desks
  obtain ⟨a4, p4, rfl, _, _⟩ := IsRec.shape h.paces
  clear h
  go_enter Tryz.func24, Tryz.ntmps24
  go_wp2_with (go_at_call 52; refine (l1In_any _ _ _ _).mono ?_; rw [hq2]; rintro e w' ⟨rfl, h9⟩; subst w')
  go_ret
  exact ⟨rfl, (Below.refl _ _).alloc (Nat.le_refl _) _⟩

end Go.Proofs.YtnponpamjddpjabGreat

/- What the program asks for coal, as plain lists, and that it is what the model asks: sums over those at a bench, over the benches of a room. Lists and numbers alone; no condition but those that a theorem names. -/
namespace Go.Proofs.YtnponpamjddpjabGreat
open Go.ChangeShapes Go.WideShapes Go.ChangeAt Go.RowKit Go.Sort
set_option linter.unusedVariables false

/-! ### What is used at a bench, in whatever order -/
def sumP (m : SmyV) : List PaceV → Int
  | [] => 0
  | e :: q => wantV m e.2 + sumP m q
def sumW (m : SmyV) : List Int → Int
  | [] => 0
  | x :: q => wantV m x + sumW m q
theorem sumP_app (m : SmyV) (a b : List PaceV) : sumP m (a ++ b) = sumP m a + sumP m b := by
  induction a with
  | nil => show sumP m b = 0 + sumP m b; omega
  | cons e a ih => show wantV m e.2 + sumP m (a ++ b) = wantV m e.2 + sumP m a + sumP m b; omega
theorem sumW_app (m : SmyV) (a b : List Int) : sumW m (a ++ b) = sumW m a + sumW m b := by
  induction a with
  | nil => show sumW m b = 0 + sumW m b; omega
  | cons e a ih => show wantV m e + sumW m (a ++ b) = wantV m e + sumW m a + sumW m b; omega
theorem sumW_snoc (m : SmyV) (a : List Int) (x : Int) : sumW m (a ++ [x]) = sumW m a + wantV m x := by rw [sumW_app]; show _ + (wantV m x + 0) = _; omega
theorem sumW_bd (m : SmyV) : ∀ a : List Int, 0 ≤ sumW m a ∧ sumW m a ≤ 1024 * a.length
  | [] => by simp [sumW]
  | x :: a => by
    have ih := sumW_bd m a
    have hw := wantV_bd m x
    show 0 ≤ wantV m x + sumW m a ∧ wantV m x + sumW m a ≤ 1024 * ((a.length + 1 : Nat) : Int)
    omega
theorem sumP_put (m : SmyV) (q : List PaceV) (e : PaceV) : sumP m (putV q e) = sumP m q + wantV m e.2 := by
  have h := sumP_app m (q.take (lessN e q)) (q.drop (lessN e q))
  rw [List.take_append_drop] at h
  unfold putV
  rw [sumP_app, h]
  show _ + (wantV m e.2 + _) = _
  omega
theorem usedF_sum (m : SmyV) (but : Int) : ∀ (q : List PaceV) (n : Int), (∀ e ∈ q, e.2 ≠ but) → q.foldl (fun n e => if e.2 = but then n else n + wantV m e.2) n = n + sumP m q
  | [], n, _ => by show n = n + 0; omega
  | e :: q, n, h => by
    have h0 := h e (by simp)
    have ih := usedF_sum m but q (if e.2 = but then n else n + wantV m e.2) (fun x hx => h x (by simp [hx]))
    rw [List.foldl_cons, ih, if_neg h0]
    show _ = n + (wantV m e.2 + sumP m q)
    omega
theorem usedV_sum (m : SmyV) (b : Int) : usedV m b (-1) = sumP m (atV m.smiths b m.smiths.length) := by
  have := usedF_sum m (-1) (atV m.smiths b m.smiths.length) 0 (fun e he => by
    obtain ⟨i, _, _, _, rfl⟩ := (atV_mem m.smiths b e m.smiths.length).1 he
    show (i : Int) ≠ -1
    omega)
  unfold usedV usedL
  omega
theorem at_is (b : Int) (s : SmithV) : atB b s = decide (s.2.1 = b ∧ presS s = true) := by
  unfold atB presS
  rw [Bool.eq_iff_iff]
  simp only [Bool.and_eq_true, decide_eq_true_eq, beq_iff_eq]
  exact ⟨fun h => ⟨h.2, h.1⟩, fun h => ⟨h.2, h.1⟩⟩
theorem where_sum (m : SmyV) (ss : List SmithV) (b : Int) : ∀ k, sumW m (whereTo (atB b) ss k) = sumP m (atV ss b k)
  | 0 => rfl
  | k + 1 => by
    have ih := where_sum m ss b k
    by_cases hat : (recAt ss k).2.1 = b ∧ presS (recAt ss k) = true
    · rw [whereTo_yes (by rw [at_is]; exact decide_eq_true hat), sumW_snoc, atV_yes hat.1 hat.2, sumP_put, ih]
    · rw [whereTo_no (by rw [at_is]; exact decide_eq_false hat), atV_no hat, ih]
theorem used_where (m : SmyV) (b : Int) : sumW m (whereTo (atB b) m.smiths m.smiths.length) = usedV m b (-1) := by rw [where_sum, usedV_sum]
theorem sumW_step (m : SmyV) {ws : List Int} {k : Nat} (h : k < ws.length) : sumW m (ws.take (k + 1)) = sumW m (ws.take k) + wantV m (recAt ws k) := by rw [take_snoc_at h, sumW_snoc]

/-! ### What one wants can be told -/
/-- What wantOf asks: guilds that are right, and of each that is not gone a guild and bounds. -/
structure Wants (m : SmyV) : Prop where
  guilds : guildsB m.guilds = true
  each : ∀ i, i < m.smiths.length → (recAt m.smiths i).1 ≠ 0 → isB m.guilds (recAt m.smiths i).2.2.2.2.1 = true ∧ pairB (recAt m.smiths i).2.2.2.2.2.1 (recAt m.smiths i).2.2.2.2.2.2.1 = true
theorem Loose.wants {m : SmyV} (h : Loose m) : Wants m := by
  have hd := h.head
  unfold headB at hd
  simp only [Bool.and_eq_true, decide_eq_true_eq] at hd
  refine ⟨hd.2.1, fun i hi hs => ?_⟩
  obtain ⟨hp, hg, _⟩ := h.limits hi hs
  have hgs := hd.2.1
  generalize recAt m.smiths i = s at *
  obtain ⟨st, be, rk, my, gu, lo, hi, hd, ca, ut, wk⟩ := s
  obtain ⟨_, _, _, _, ⟨g0, g5⟩, hpair, _⟩ := presB_of hp
  simp only at hg
  exact ⟨by unfold isB; rw [hgs, inB_t g0 (by omega)]; rfl, hpair⟩
theorem withM_at (m : SmyV) {k : Nat} (hk : k < m.smiths.length) (b : Int) (i : Nat) : recAt (withM m (k : Int) b).smiths i = if i = k then atBench (recAt m.smiths k) b else recAt m.smiths i := by
  unfold withM
  simp only [Int.toNat_natCast]
  exact recAt_set hk i
theorem Wants.with {m : SmyV} (h : Wants m) {k : Nat} (hk : k < m.smiths.length) (hs : (recAt m.smiths k).1 ≠ 0) (b : Int) : Wants (withM m (k : Int) b) := by
  refine ⟨h.guilds, fun i hi hne => ?_⟩
  have hi' : i < m.smiths.length := by unfold withM at hi; simpa using hi
  rw [withM_at m hk] at hne ⊢
  by_cases e : i = k
  · rw [if_pos e]; exact h.each k hk hs
  · rw [if_neg e] at hne ⊢; exact h.each i hi' hne

/-! ### The benches of a room -/
def openB (m : SmyV) (b : Int) : Bool := hasB m.desks.length b && (recAt m.desks b.toNat).1
def needL (m : SmyV) (bs : List Int) : Int := bs.foldl (fun n b => if openB m b then max n (usedV m b (-1)) else n) 0
def workL (m : SmyV) (bs : List Int) : Int := bs.foldl (fun n b => n + usedV m b (-1)) 0
theorem needL_snoc (m : SmyV) (bs : List Int) (b : Int) : needL m (bs ++ [b]) = if openB m b then max (needL m bs) (usedV m b (-1)) else needL m bs := by unfold needL; rw [List.foldl_append]; rfl
theorem workL_snoc (m : SmyV) (bs : List Int) (b : Int) : workL m (bs ++ [b]) = workL m bs + usedV m b (-1) := by unfold workL; rw [List.foldl_append]; rfl
theorem needF_bd (m : SmyV) (hl : m.smiths.length ≤ 12) : ∀ (bs : List Int) (n : Int), 0 ≤ n → n ≤ 12288 → 0 ≤ bs.foldl (fun n b => if openB m b then max n (usedV m b (-1)) else n) n ∧ bs.foldl (fun n b => if openB m b then max n (usedV m b (-1)) else n) n ≤ 12288
  | [], n, h0, h1 => ⟨h0, h1⟩
  | b :: bs, n, h0, h1 => by
    have hu := usedV_bd m b (-1)
    refine needF_bd m hl bs (if openB m b then max n (usedV m b (-1)) else n) ?_ ?_ <;> split <;> omega
theorem needL_bd (m : SmyV) (hl : m.smiths.length ≤ 12) (bs : List Int) : 0 ≤ needL m bs ∧ needL m bs ≤ 12288 := needF_bd m hl bs 0 (by omega) (by omega)
theorem workF_bd (m : SmyV) (hl : m.smiths.length ≤ 12) : ∀ (bs : List Int) (n : Int), 0 ≤ n → 0 ≤ bs.foldl (fun n b => n + usedV m b (-1)) n ∧ bs.foldl (fun n b => n + usedV m b (-1)) n ≤ n + 12288 * bs.length
  | [], n, h0 => ⟨h0, by simp⟩
  | b :: bs, n, h0 => by
    have hu := usedV_bd m b (-1)
    have ih := workF_bd m hl bs (n + usedV m b (-1)) (by omega)
    refine ⟨ih.1, Int.le_trans ih.2 ?_⟩
    simp only [List.length_cons, Int.natCast_add, Int.natCast_one]
    omega
theorem workL_bd (m : SmyV) (hl : m.smiths.length ≤ 12) (bs : List Int) : 0 ≤ workL m bs ∧ workL m bs ≤ 12288 * bs.length := by
  have := workF_bd m hl bs 0 (by omega)
  unfold workL; omega
theorem room_set {m : SmyV} (h : Sane m) {r : Nat} (hr : r < m.rooms.length) {b : Nat} (hb : b < 8) : memB (setV m.rooms (r : Int)) (b : Int) = true ↔ b < m.desks.length ∧ (roomN m.rooms b : Int) = (r : Int) := by
  have hR : isRoom m.rooms (r : Int) = true := by unfold isRoom; rw [h.hall, inB_t (by omega) (by omega)]; rfl
  have ha := (hallB_of h.hall).2.2.1
  have h0 := benches_hall h.hall r (by omega)
  have h1 := benches_hall h.hall (r + 1) (by omega)
  have hm := benchSum_mono ha (i := r) 1 (by omega)
  have hm0 := benchSum_mono ha (i := r + 1) (m.rooms.length - (r + 1)) (by omega)
  rw [show r + 1 + (m.rooms.length - (r + 1)) = m.rooms.length by omega, List.take_length] at hm0
  have h8 := h.eight
  have hd := h.desks
  rw [setV_t hR, Int.toNat_natCast, bits_mem h0.1 hm (by omega) (by omega) (by omega), decide_eq_true_iff]
  constructor
  · intro hx
    have hbd : b < m.desks.length := by omega
    exact ⟨hbd, by rw [(room_is (h.bench hbd) hr).2 hx]⟩
  · rintro ⟨hbd, e⟩
    exact (room_is (h.bench hbd) hr).1 (by omega)
theorem room_upto {m : SmyV} (h : Sane m) {r : Nat} (hr : r < m.rooms.length) : ∀ k : Nat, k ≤ m.desks.length → needL m (upto (setV m.rooms (r : Int)) k) = (usedIn m r k).1 ∧ workL m (upto (setV m.rooms (r : Int)) k) = (usedIn m r k).2
  | 0, _ => ⟨rfl, rfl⟩
  | k + 1, hk => by
    have ih := room_upto h hr k (by omega)
    have h8 := h.eight
    have hs := room_set h hr (b := k) (by omega)
    by_cases e : (roomN m.rooms k : Int) = (r : Int)
    · rw [upto_hit (hs.2 ⟨by omega, e⟩), needL_snoc, workL_snoc, ih.1, ih.2]
      have ho : openB m (k : Int) = (recAt m.desks k).1 := by
        unfold openB hasB
        rw [Int.toNat_natCast, decide_eq_true (show (0 : Int) ≤ (k : Int) by omega), decide_eq_true (show (k : Int) < (m.desks.length : Int) by omega)]
        simp
      rw [ho]
      show _ = (if _ then _ else _ : Int × Int).1 ∧ _ = (if _ then _ else _ : Int × Int).2
      rw [if_pos e]
      exact ⟨rfl, rfl⟩
    · have hn : memB (setV m.rooms (r : Int)) (k : Int) = false := by
        cases hc : memB (setV m.rooms (r : Int)) (k : Int)
        · rfl
        · exact absurd (hs.1 hc).2 e
      rw [upto_miss hn]
      show _ = (if _ then _ else _ : Int × Int).1 ∧ _ = (if _ then _ else _ : Int × Int).2
      rw [if_neg e]
      exact ih
theorem room_mems {m : SmyV} (h : Sane m) {r : Nat} (hr : r < m.rooms.length) : needL m (mems (setV m.rooms (r : Int))) = (usedIn m r m.desks.length).1 ∧ workL m (mems (setV m.rooms (r : Int))) = (usedIn m r m.desks.length).2 := by
  have key : ∀ d k : Nat, m.desks.length + d = k → k ≤ 8 → upto (setV m.rooms (r : Int)) k = upto (setV m.rooms (r : Int)) m.desks.length := by
    intro d
    induction d with
    | zero => intro k hk _; rw [← hk]; rfl
    | succ d ih =>
      intro k hk h8
      obtain ⟨j, rfl⟩ : ∃ j, k = j + 1 := ⟨k - 1, by omega⟩
      have hn : memB (setV m.rooms (r : Int)) (j : Int) = false := by
        cases hc : memB (setV m.rooms (r : Int)) (j : Int)
        · rfl
        · have := ((room_set h hr (b := j) (by omega)).1 hc).1; omega
      rw [upto_miss hn]
      exact ih j (by omega) (by omega)
  have h8 := h.eight
  have e := key (8 - m.desks.length) 8 (by omega) (by omega)
  unfold mems
  rw [e]
  exact room_upto h hr m.desks.length (Nat.le_refl _)

/-! ### Chapter 13's answers -/
def needInV (m : SmyV) (r : Int) : Int := if smyB m && isRoomB m r then (usedIn m r m.desks.length).1 else -1
def coalInV (m : SmyV) (r : Int) : Int := if smyB m && isRoomB m r then coalIn m r.toNat else -1
def coalOfV (m : SmyV) : Int := if smyB m then coalAll m else -1
def coalWithOfV (m : SmyV) (who b : Int) : Int := if smyB m && (whoB m who && openB m b) then coalWithV m who b else -1

end Go.Proofs.YtnponpamjddpjabGreat

/- A smithy that a call holds in a box of its own: what is known of it, said once. Condition: the smithy can be read. -/
namespace Go.Proofs.YtnponpamjddpjabGreat
open Go.ChangeShapes Go.WideShapes Go.ChangeAt Go.RowKit Go.Sort
set_option linter.unusedVariables false

/-- The box R holds the smithy's five slices and its clock, they read as m, and nothing that was there ahead of the call has changed. -/
structure Bx (w W : World) (R : Nat) (a0 : Option Addr) (p0 : Nat) (a1 : Option Addr) (p1 : Nat) (a2 : Option Addr) (p2 : Nat) (a3 : Option Addr) (p3 : Nat) (a4 : Option Addr) (p4 : Nat) (m : SmyV) : Prop where
  smy : Smy W (.slice a0 m.rooms.length p0) (.slice a1 m.guilds.length p1) (.slice a2 m.smiths.length p2) (.slice a3 m.desks.length p3) (.slice a4 m.paces.length p4) m
  blk : Blk W R 40 #[.slice a0 m.rooms.length p0, .slice a1 m.guilds.length p1, .slice a2 m.smiths.length p2, .slice a3 m.desks.length p3, .slice a4 m.paces.length p4, .int .i64 m.now]
  bb : Below w.heap.size w W
section
variable {w W X : World} {R : Nat} {a0 a1 a2 a3 a4 : Option Addr} {p0 p1 p2 p3 p4 : Nat} {m : SmyV}
theorem Bx.next (h : Bx w W R a0 p0 a1 p1 a2 p2 a3 p3 a4 p4 m) (hb : Below W.heap.size W X) : Bx w X R a0 p0 a1 p1 a2 p2 a3 p3 a4 p4 m := ⟨h.smy.below hb, h.blk.below hb h.blk.lt, h.bb.trans (hb.mono h.bb.size)⟩
theorem Bx.alloc (h : Bx w W R a0 p0 a1 p1 a2 p2 a3 p3 a4 p4 m) (o : Obj) : Bx w (W.alloc o) R a0 p0 a1 p1 a2 p2 a3 p3 a4 p4 m := h.next ((Below.refl _ _).alloc (Nat.le_refl _) _)
theorem Bx.drew (h : Bx w W R a0 p0 a1 p1 a2 p2 a3 p3 a4 p4 m) : Bx w W.drew R a0 p0 a1 p1 a2 p2 a3 p3 a4 p4 m := h.next (Below.refl _ _).drew
theorem Bx.cells (h : Bx w W R a0 p0 a1 p1 a2 p2 a3 p3 a4 p4 m) : W.cell? ⟨R, 0, none⟩ = some (.slice a0 m.rooms.length p0) ∧ W.cell? ⟨R, 1, none⟩ = some (.slice a1 m.guilds.length p1) ∧ W.cell? ⟨R, 2, none⟩ = some (.slice a2 m.smiths.length p2) ∧ W.cell? ⟨R, 3, none⟩ = some (.slice a3 m.desks.length p3) ∧ W.cell? ⟨R, 4, none⟩ = some (.slice a4 m.paces.length p4) ∧ W.cell? ⟨R, 5, none⟩ = some (.int .i64 m.now) := h.blk.c6
end
theorem Bx.new {w : World} {v0 v1 v2 v3 v4 : Value} {m : SmyV} (h : Smy w v0 v1 v2 v3 v4 m) : ∃ a0 p0 a1 p1 a2 p2 a3 p3 a4 p4, v0 = .slice a0 m.rooms.length p0 ∧ v1 = .slice a1 m.guilds.length p1 ∧ v2 = .slice a2 m.smiths.length p2 ∧ v3 = .slice a3 m.desks.length p3 ∧ v4 = .slice a4 m.paces.length p4 ∧ Bx w (w.alloc (.cells #[.slice a0 m.rooms.length p0, .slice a1 m.guilds.length p1, .slice a2 m.smiths.length p2, .slice a3 m.desks.length p3, .slice a4 m.paces.length p4, .int .i64 m.now] 40)) w.heap.size a0 p0 a1 p1 a2 p2 a3 p3 a4 p4 m := by
  obtain ⟨a0, p0, a1, p1, a2, p2, a3, p3, a4, p4, rfl, rfl, rfl, rfl, rfl, _⟩ := h.five
  exact ⟨a0, p0, a1, p1, a2, p2, a3, p3, a4, p4, rfl, rfl, rfl, rfl, rfl, h.alloc _, Blk.new _ _ _, (Below.refl _ _).alloc (Nat.le_refl _) _⟩
end Go.Proofs.YtnponpamjddpjabGreat

