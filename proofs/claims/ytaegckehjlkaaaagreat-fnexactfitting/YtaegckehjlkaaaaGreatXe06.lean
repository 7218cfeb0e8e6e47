/- What the proof rests on, part 6: lists and numbers, how they lie in memory, and contracts of the calls. No condition but those that a theorem names. -/
import Derived.Test.YtaegckehjlkaaaaGreatXe01
import Derived.Test.YtaegckehjlkaaaaGreatXe02
import Derived.Test.YtaegckehjlkaaaaGreatXe03
import Derived.Test.YtaegckehjlkaaaaGreatXe04
import Derived.Test.YtaegckehjlkaaaaGreatXe05
import Derived.WalkMore
import Derived.Below
import Derived.WalkKit
import Derived.ProofKit
import Derived.OpenShut
import Derived.Outline
import Derived.Deep.RegionHeld3
import Derived.Deep.DrawnRows
import Derived.BigRegion
import Derived.Deep.RegionLawGrows
import Derived.Lib.QuietBelow
import Derived.Deep.RegionWith
import Derived.Deep.QuietTactic
import Derived.BigQuiet
import Derived.Laws.OwnMore
import Derived.OwnWalk
import Derived.Maps.AppendAt
import Derived.Lib.SmallJoins
import Derived.Deep.Fields
import Derived.Deep.Slices
import Derived.Laws.StructEq
/- Contracts of the model's l6Put: the entry stands where it belongs, in memory of the call's own. Condition: the slice can be read. -/
namespace Go.Proofs.YtaegckehjlkaaaaGreat
open Go.ChangeShapes Go.WideShapes Go.ChangeAt Go.RowKit Go.Sort
set_option linter.unusedVariables false

theorem slice_to (a : Option Addr) (n cap k : Nat) (hk : k ≤ cap) (W : World) : (Instr.slice 35 (.slice a n cap) none (some (.int .i64 k)) none).run Tryz.prog W = .ok (.slice a k cap) W := by
  obtain ⟨i0, hi, hz0, hz1, hz2⟩ := info_parts infoEntry
  have hs : ∀ W, (sizeOf 45).run Tryz.prog W = .ok 2 W := fun W => by simp [sizeOf, typeInfo, hi, hz1]
  have hb : ∀ W, (Instr.sliceBounds true n cap none (some (.int .i64 k)) none).run Tryz.prog W = .ok (0, k, cap) W := fun W => by
    simp [Instr.sliceBounds, Instr.sliceBound, asIntOf]
    intro h; omega
  simp only [Instr.slice, Sem.run_bind, run_underlying Tryz.underlying35, Result.andThen, hb, hs, Sem.run_pure]
  simp
  cases a <;> simp [Addr.add]
def fromV (a : Option Addr) (n cap k : Nat) : Value := .slice (if cap = k then a else a.map (·.add (k * 2))) (n - k) (cap - k)
theorem slice_from (a : Option Addr) (n cap k : Nat) (hk : k ≤ n) (W : World) : (Instr.slice 35 (.slice a n cap) (some (.int .i64 k)) none none).run Tryz.prog W = .ok (fromV a n cap k) W := by
  obtain ⟨i0, hi, hz0, hz1, hz2⟩ := info_parts infoEntry
  have hs : ∀ W, (sizeOf 45).run Tryz.prog W = .ok 2 W := fun W => by simp [sizeOf, typeInfo, hi, hz1]
  have hb : ∀ W, (Instr.sliceBounds true n cap (some (.int .i64 k)) none none).run Tryz.prog W = .ok (k, n, cap) W := fun W => by
    simp [Instr.sliceBounds, Instr.sliceBound, asIntOf]
    intro h; omega
  simp only [Instr.slice, Sem.run_bind, run_underlying Tryz.underlying35, Result.andThen, hb, hs, Sem.run_pure]
  rfl
theorem paceAt_drop (ps : List PaceV) (n k : Nat) : paceAt (ps.drop n) k = paceAt ps (n + k) := by unfold paceAt; simp [List.getD]
theorem IsPaces.from {w : World} {a : Option Addr} {n cap : Nat} {ps : List PaceV} (h : IsPaces w (.slice a n cap) ps) {k : Nat} (hk : k ≤ ps.length) : IsPaces w (fromV a n cap k) (ps.drop k) := by
  obtain ⟨a', cap', he, hc, hm, hr⟩ := h
  cases he
  refine ⟨_, cap - k, by unfold fromV; rw [List.length_drop], by rw [List.length_drop]; omega, by omega, ?_⟩
  rcases hr with hr | ⟨b, off, rfl, hlt, hcl⟩
  · exact .inl (by rw [hr]; simp)
  · by_cases hz : ps.length = k
    · exact .inl (by rw [List.drop_eq_nil_iff]; omega)
    · rw [if_neg (by omega)]
      refine .inr ⟨b, off + k * 2, by simp [addr_at], hlt, fun j hj => ?_⟩
      rw [List.length_drop] at hj
      rw [paceAt_drop]
      have := hcl (k + j) (by omega)
      rw [show off + (k + j) * 2 = off + k * 2 + j * 2 by omega] at this
      exact this
theorem fromV_shape (a : Option Addr) (n cap k : Nat) : ∃ a', fromV a n cap k = .slice a' (n - k) (cap - k) := ⟨_, rfl⟩

set_option maxRecDepth 100000 in
set_option maxHeartbeats 4000000 in
theorem l6Put_any {w : World} {v : Value} {ps : List PaceV} (f z : Int) (h : IsPaces w v ps) (hl : ps.length ≤ 900) :
    Calls Tryz.prog 124 #[v, .agg #[.int .i64 f, .int .i64 z]] w fun e w' => ∃ v', e = .returned v' ∧ EntsAt w.heap.size w' v' (putV ps (f, z)) ∧ Below w.heap.size w w' := by
  have Hv := hide h
  obtain ⟨a, cap, rfl, hc, hm, hr⟩ := h
  have Hr := hide hr
  clear hr
  go_enter Tryz.func124, Tryz.ntmps124
  go_wp2_with fail
  generalize hW : w.alloc (.cells #[.int .i64 f, .int .i64 z] 45) = W0
  have hs0 : W0.heap.size = w.heap.size + 1 := by rw [← hW]; simp
  have d0 : W0.cell? ⟨w.heap.size, 0, none⟩ = some (.int .i64 f) := by rw [← hW]; simp
  have d1 : W0.cell? ⟨w.heap.size, 1, none⟩ = some (.int .i64 z) := by rw [← hW]; simp
  have HB0 : Hid (Below w.heap.size w W0) := hide (by rw [← hW]; exact (Below.refl _ _).alloc (Nat.le_refl _) _)
  have D0 := hide d0
  have D1 := hide d1
  clear hW d0 d1
  go_loopw [5] (fun i wr => ∃ k : Nat, k ≤ ps.length ∧ i = .int .i64 k ∧ (∀ j, j < k → ltB (paceAt ps j) (f, z) = true) ∧ Below W0.heap.size W0 wr) (fun i _ => ps.length - (intOf i).toNat)
  case atStart => exact ⟨0, Nat.zero_le _, rfl, fun j hj => by omega, Below.refl _ _⟩
  case round =>
    obtain ⟨k, hk, rfl, hst, hb⟩ := hrel
    have Hst := hide hst
    have Hb := hide hb
    have hszr := hb.size
    have hlt0 : w.heap.size < W0.heap.size := by omega
    have g0 := (hb.cell (p := ⟨w.heap.size, 0, none⟩) hlt0).trans (unhide D0)
    have g1 := (hb.cell (p := ⟨w.heap.size, 1, none⟩) hlt0).trans (unhide D1)
    have k0 := cell_regrown g0
    have k1 := cell_regrown g1
    clear hst
    by_cases hgo : k < ps.length ∧ ltB (paceAt ps k) (f, z) = true
    · obtain ⟨hlt, hab⟩ := hgo
      rcases unhide Hr with h0 | ⟨b, off, rfl, hbw, hcl⟩
      · rw [h0] at hlt; simp at hlt
      obtain ⟨c0, c1⟩ := hcl k hlt
      have hbB := (unhide HB0).trans (hb.mono (by omega))
      rw [← hbB.cell (p := ⟨b, off + k * 2, none⟩) hbw] at c0
      rw [← hbB.cell (p := ⟨b, off + k * 2 + 1, none⟩) hbw] at c1
      generalize hp : paceAt ps k = p at *
      obtain ⟨f', z'⟩ := p
      simp only at c0 c1
      have Hp := hide hp
      have m0 := cell_regrown c0
      have m1 := cell_regrown c1
      have hd : decide (k < ps.length) = true := decide_eq_true hlt
      clear hp hcl hb hbB g0 g1 c0 c1
      go_wp2_with fail
      refine wp_region_quiet_below (by kernel_rfl) (by kernel_rfl) ?_
      repeat (go_big_quiet_step (exact Calls.regrown_of (specLess_any _ _ _ _ _)))
      refine wpQuiet_nil ?_
      intro _ hw'
      obtain ⟨⟨dq, osq⟩, hw''⟩ := hw'
      subst hw''
      go_wp2_with fail
      go_roundw
      case rel => exact ⟨k + 1, by omega, by go_num, next_all (unhide Hst) (by rw [unhide Hp]; exact hab), (unhide Hb).trans ((below_regrown _ _ _).mono (unhide Hb).size)⟩
      case measure => simp [intOf]; omega
    · have HK : Hid (lessN (f, z) ps = k) := hide (lessN_eq hk (unhide Hst) (by
        by_cases e : k = ps.length
        · exact .inl e
        · right
          cases hq : ltB (paceAt ps k) (f, z)
          · rfl
          · exact absurd ⟨by omega, hq⟩ hgo))
      have HQ : Hid (ps.take k ++ [(f, z)] ++ ps.drop k = putV ps (f, z)) := hide (by unfold putV; rw [unhide HK]; simp)
      have hto := slice_to a ps.length cap k (by omega)
      have hfr := slice_from a ps.length cap k hk
      obtain ⟨ra, hra⟩ := fromV_shape a ps.length cap k
      rw [hra] at hfr
      have Hfrom : Hid (IsPaces w (.slice ra (ps.length - k) (cap - k)) (ps.drop k)) := hide (by rw [← hra]; exact (unhide Hv).from hk)
      have Hcut : Hid (IsPaces w (.slice a k cap) (ps.take k)) := hide ((unhide Hv).cut hk)
      clear hra
      by_cases hlt : k < ps.length
      · have hab : ltB (paceAt ps k) (f, z) = false := by
          cases hq : ltB (paceAt ps k) (f, z)
          · rfl
          · exact absurd ⟨hlt, hq⟩ hgo
        rcases unhide Hr with h0 | ⟨b, off, rfl, hbw, hcl⟩
        · rw [h0] at hlt; simp at hlt
        obtain ⟨c0, c1⟩ := hcl k hlt
        have hbB := (unhide HB0).trans (hb.mono (by omega))
        rw [← hbB.cell (p := ⟨b, off + k * 2, none⟩) hbw] at c0
        rw [← hbB.cell (p := ⟨b, off + k * 2 + 1, none⟩) hbw] at c1
        generalize hp : paceAt ps k = p at *
        obtain ⟨f', z'⟩ := p
        simp only at c0 c1
        have m0 := cell_regrown c0
        have m1 := cell_regrown c1
        have hd : decide (k < ps.length) = true := decide_eq_true hlt
        clear hp hcl hb hbB g0 g1 c0 c1 hgo
        go_wp2_with fail
        refine wp_region_quiet_below (by kernel_rfl) (by kernel_rfl) ?_
        repeat (go_big_quiet_step (exact Calls.regrown_of (specLess_any _ _ _ _ _)))
        refine wpQuiet_nil ?_
        intro w1 hw'
        have Hb1 : Hid (Below W0.heap.size W0 w1) := hide (by obtain ⟨q, rfl⟩ := hw'; exact (unhide Hb).trans ((below_regrown _ _ _).mono (unhide Hb).size))
        clear hw' k0 k1 m0 m1
        go_wp2_with fail
        have B1 : Hid (Below w.heap.size w w1) := hide ((unhide HB0).trans ((unhide Hb1).mono (by omega)))
        refine (l6Copy_any ((unhide Hfrom).below (unhide B1)) (by simp; omega)).mono ?_
        rintro e w2 ⟨v2, rfl, hi2, hb2⟩
        obtain ⟨a2, cap2, hv2⟩ := hi2.shape
        rw [List.length_drop] at hv2
        subst hv2
        have hz1 := (unhide Hb1).size
        have hz2 := hb2.size
        have Hb2 : Hid (Below W0.heap.size W0 w2) := hide ((unhide Hb1).trans (hb2.mono hz1))
        have e0 := ((unhide Hb2).cell (p := ⟨w.heap.size, 0, none⟩) hlt0).trans (unhide D0)
        have e1 := ((unhide Hb2).cell (p := ⟨w.heap.size, 1, none⟩) hlt0).trans (unhide D1)
        have B2 : Hid (Below w.heap.size w w2) := hide ((unhide HB0).trans ((unhide Hb2).mono (by omega)))
        have Hi2 := hide hi2
        have HC := hide ((unhide Hcut).below (unhide B2))
        clear hi2 hb2
        have hlt2 : w.heap.size < w2.heap.size := by omega
        have hkl : (ps.take k).length = k := by simp; omega
        go_wp2_with fail
        go_region_law (first
          | (refine step_append_ents rfl (.tmp 28) (.tmp 30) 35 Tryz.underlying35 rfl w2.heap.size _ _ (ps.take k) [(f, z)] rfl rfl (E3.later ((Below.refl _ _).alloc (Nat.le_refl _) _)) (ents_one rfl (Nat.le_refl _) (by omega)) (by simp; omega) (by simp; omega) ?_; intro v4 w4 hown4 hg4 hat4; have X4 : Below w2.heap.size w2 w4 := (X3.alloc X3.size _).trans ((Below.refl _ _).grown hg4 (by simp; omega) (fun i e => (E3.lt e).1)))
          | (refine step_append_ents rfl (.tmp 28) (.tmp 30) 35 Tryz.underlying35 rfl w2.heap.size _ _ (ps.take k) [(f, z)] rfl rfl E3 ((ents_one (w := w2) rfl (Nat.le_refl _) (by omega)).below (((Below.refl _ _).drew).trans hb3)) (by simp; omega) (by omega) ?_; intro v4 w4 hown4 hg4 hat4; have X4 : Below w2.heap.size w2 w4 := X3.trans ((Below.refl _ _).grown hg4 (by omega) (fun i e => (E3.lt e).1)))
          | (refine step_append_ents rfl (.tmp 31) (.tmp 32) 35 Tryz.underlying35 rfl w2.heap.size _ _ (ps.take k ++ [(f, z)]) (ps.drop k) rfl rfl hown4 ((unhide Hi2).paces.below X4) (by simp; omega) (by have := X4.size; omega) ?_; intro v5 w5 hown5 hg5 hat5)
          | (go_simp; go_at_call 177; refine (l6Copy_any (ps := ps.take k) ?_ (by simp; omega)).mono ?_; (exact (unhide HC).below (by first | exact (Below.refl _ _).drew | exact ((Below.refl _ _).alloc (Nat.le_refl _) _).drew)); rintro e w3 ⟨v3, rfl, hi3, hb3⟩; obtain ⟨a3, cap3, hv3⟩ := hi3.shape; rw [hkl] at hv3; subst hv3; have E3 := hi3.mono (n₁ := w2.heap.size) (by simp); have X3 : Below w2.heap.size w2 w3 := (by first | exact ((Below.refl _ _).drew).trans (hb3.mono (by simp)) | exact (((Below.refl _ _).alloc (Nat.le_refl _) _).drew).trans (hb3.mono (by simp))); have hz3 := X3.size; have q0 := (X3.cell (p := ⟨w.heap.size, 0, none⟩) hlt2).trans e0; have q1 := (X3.cell (p := ⟨w.heap.size, 1, none⟩) hlt2).trans e1))
        all_goals
          have X5 : Below w2.heap.size w2 w5 := X4.trans ((Below.refl _ _).grown hg5 X4.size (fun i e => (hown4.lt e).1))
          rw [unhide HQ] at hown5
          have HX5 := hide X5
          have HO5 := hide hown5
          clear hown5 hg5 hat5 X4 X5 hown4 hg4 hat4 X3 E3 hi3 hb3 q0 q1
          go_wp2_with fail
          go_ret
          exact ⟨_, rfl, (unhide HO5).mono (unhide B2).size, (unhide B2).trans ((unhide HX5).mono (unhide B2).size)⟩
      · have hd : decide (k < ps.length) = false := decide_eq_false hlt
        clear hb g0 g1 hgo
        go_wp2_with fail
        refine wp_region_quiet_below (by kernel_rfl) (by kernel_rfl) ?_
        repeat (go_big_quiet_step (exact Calls.regrown_of (specLess_any _ _ _ _ _)))
        refine wpQuiet_nil ?_
        intro w1 hw'
        have Hb1 : Hid (Below W0.heap.size W0 w1) := hide (by obtain ⟨q, rfl⟩ := hw'; exact (unhide Hb).trans ((below_regrown _ _ _).mono (unhide Hb).size))
        clear hw' k0 k1
        go_wp2_with fail
        have B1 : Hid (Below w.heap.size w w1) := hide ((unhide HB0).trans ((unhide Hb1).mono (by omega)))
        refine (l6Copy_any ((unhide Hfrom).below (unhide B1)) (by simp; omega)).mono ?_
        rintro e w2 ⟨v2, rfl, hi2, hb2⟩
        obtain ⟨a2, cap2, hv2⟩ := hi2.shape
        rw [List.length_drop] at hv2
        subst hv2
        have hz1 := (unhide Hb1).size
        have hz2 := hb2.size
        have Hb2 : Hid (Below W0.heap.size W0 w2) := hide ((unhide Hb1).trans (hb2.mono hz1))
        have e0 := ((unhide Hb2).cell (p := ⟨w.heap.size, 0, none⟩) hlt0).trans (unhide D0)
        have e1 := ((unhide Hb2).cell (p := ⟨w.heap.size, 1, none⟩) hlt0).trans (unhide D1)
        have B2 : Hid (Below w.heap.size w w2) := hide ((unhide HB0).trans ((unhide Hb2).mono (by omega)))
        have Hi2 := hide hi2
        have HC := hide ((unhide Hcut).below (unhide B2))
        clear hi2 hb2
        have hlt2 : w.heap.size < w2.heap.size := by omega
        have hkl : (ps.take k).length = k := by simp; omega
        go_wp2_with fail
        go_region_law (first
          | (refine step_append_ents rfl (.tmp 28) (.tmp 30) 35 Tryz.underlying35 rfl w2.heap.size _ _ (ps.take k) [(f, z)] rfl rfl (E3.later ((Below.refl _ _).alloc (Nat.le_refl _) _)) (ents_one rfl (Nat.le_refl _) (by omega)) (by simp; omega) (by simp; omega) ?_; intro v4 w4 hown4 hg4 hat4; have X4 : Below w2.heap.size w2 w4 := (X3.alloc X3.size _).trans ((Below.refl _ _).grown hg4 (by simp; omega) (fun i e => (E3.lt e).1)))
          | (refine step_append_ents rfl (.tmp 28) (.tmp 30) 35 Tryz.underlying35 rfl w2.heap.size _ _ (ps.take k) [(f, z)] rfl rfl E3 ((ents_one (w := w2) rfl (Nat.le_refl _) (by omega)).below (((Below.refl _ _).drew).trans hb3)) (by simp; omega) (by omega) ?_; intro v4 w4 hown4 hg4 hat4; have X4 : Below w2.heap.size w2 w4 := X3.trans ((Below.refl _ _).grown hg4 (by omega) (fun i e => (E3.lt e).1)))
          | (refine step_append_ents rfl (.tmp 31) (.tmp 32) 35 Tryz.underlying35 rfl w2.heap.size _ _ (ps.take k ++ [(f, z)]) (ps.drop k) rfl rfl hown4 ((unhide Hi2).paces.below X4) (by simp; omega) (by have := X4.size; omega) ?_; intro v5 w5 hown5 hg5 hat5)
          | (go_simp; go_at_call 177; refine (l6Copy_any (ps := ps.take k) ?_ (by simp; omega)).mono ?_; (exact (unhide HC).below (by first | exact (Below.refl _ _).drew | exact ((Below.refl _ _).alloc (Nat.le_refl _) _).drew)); rintro e w3 ⟨v3, rfl, hi3, hb3⟩; obtain ⟨a3, cap3, hv3⟩ := hi3.shape; rw [hkl] at hv3; subst hv3; have E3 := hi3.mono (n₁ := w2.heap.size) (by simp); have X3 : Below w2.heap.size w2 w3 := (by first | exact ((Below.refl _ _).drew).trans (hb3.mono (by simp)) | exact (((Below.refl _ _).alloc (Nat.le_refl _) _).drew).trans (hb3.mono (by simp))); have hz3 := X3.size; have q0 := (X3.cell (p := ⟨w.heap.size, 0, none⟩) hlt2).trans e0; have q1 := (X3.cell (p := ⟨w.heap.size, 1, none⟩) hlt2).trans e1))
        all_goals
          have X5 : Below w2.heap.size w2 w5 := X4.trans ((Below.refl _ _).grown hg5 X4.size (fun i e => (hown4.lt e).1))
          rw [unhide HQ] at hown5
          have HX5 := hide X5
          have HO5 := hide hown5
          clear hown5 hg5 hat5 X4 X5 hown4 hg4 hat4 X3 E3 hi3 hb3 q0 q1
          go_wp2_with fail
          go_ret
          exact ⟨_, rfl, (unhide HO5).mono (unhide B2).size, (unhide B2).trans ((unhide HX5).mono (unhide B2).size)⟩

end Go.Proofs.YtaegckehjlkaaaaGreat

/- Who is at a bench: the model's l11At and At. Conditions: the smithy can be read; what each theorem names. -/
namespace Go.Proofs.YtaegckehjlkaaaaGreat
open Go.ChangeShapes Go.WideShapes Go.ChangeAt Go.RowKit Go.Sort
set_option linter.unusedVariables false

set_option maxRecDepth 100000 in
set_option maxHeartbeats 8000000 in
theorem l11At_any {w : World} {v0 v1 v2 v3 v4 : Value} {m : SmyV} (b : Int) (h : Smy w v0 v1 v2 v3 v4 m) (hl : m.smiths.length ≤ 800) :
    Calls Tryz.prog 65 #[.agg #[v0, v1, v2, v3, v4, .int .i64 m.now], .int .i64 b] w fun e w' => ∃ v', e = .returned v' ∧ EntsAt w.heap.size w' v' (atV m.smiths b m.smiths.length) ∧ Below w.heap.size w w' := by
  obtain ⟨h0, h1, h2, h3, h4⟩ := h
  obtain ⟨a0, p0, rfl, hc0, hm0, _⟩ := h0
  obtain ⟨a1, p1, rfl, hc1, hm1, _⟩ := h1
  obtain ⟨a2, p2, rfl, hc2, hm2, r2⟩ := h2
  obtain ⟨a3, p3, rfl, hc3, hm3, _⟩ := h3
  obtain ⟨a4, p4, rfl, hc4, hm4, _⟩ := h4
  have R2 := hide r2
  clear r2
  have kb0 : Hid (Blk ((w.alloc (.cells #[.slice a0 m.rooms.length p0, .slice a1 m.guilds.length p1, .slice a2 m.smiths.length p2, .slice a3 m.desks.length p3, .slice a4 m.paces.length p4, .int .i64 m.now] 32)).alloc (.cells #[] 45)) w.heap.size 32 #[.slice a0 m.rooms.length p0, .slice a1 m.guilds.length p1, .slice a2 m.smiths.length p2, .slice a3 m.desks.length p3, .slice a4 m.paces.length p4, .int .i64 m.now]) := hide ((Blk.new w _ _).alloc _)
  have BB0 : Hid (Below w.heap.size w ((w.alloc (.cells #[.slice a0 m.rooms.length p0, .slice a1 m.guilds.length p1, .slice a2 m.smiths.length p2, .slice a3 m.desks.length p3, .slice a4 m.paces.length p4, .int .i64 m.now] 32)).alloc (.cells #[] 45))) := hide (((Below.refl _ _).alloc (Nat.le_refl _) _).alloc (by simp) _)
  have E0 : Hid (EntsAt w.heap.size ((w.alloc (.cells #[.slice a0 m.rooms.length p0, .slice a1 m.guilds.length p1, .slice a2 m.smiths.length p2, .slice a3 m.desks.length p3, .slice a4 m.paces.length p4, .int .i64 m.now] 32)).alloc (.cells #[] 45)) (.slice (some ⟨w.heap.size + 1, 0, none⟩) 0 0) []) := hide (ents_empty (by simp) (by omega))
  go_enter Tryz.func65, Tryz.ntmps65
  go_wp2_with fail
  go_loopw [5, 6] (fun q i wr => ∃ k : Nat, k ≤ m.smiths.length ∧ i = .int .i64 k ∧ EntsAt w.heap.size wr q (atV m.smiths b k) ∧ Blk wr w.heap.size 32 #[.slice a0 m.rooms.length p0, .slice a1 m.guilds.length p1, .slice a2 m.smiths.length p2, .slice a3 m.desks.length p3, .slice a4 m.paces.length p4, .int .i64 m.now] ∧ Below w.heap.size w wr) (fun _ i _ => m.smiths.length - (intOf i).toNat)
  case atStart => exact ⟨0, Nat.zero_le _, rfl, unhide E0, unhide kb0, unhide BB0⟩
  case round =>
    obtain ⟨k, hk, rfl, he, kb1, hb1⟩ := hrel
    obtain ⟨qa, qcap, rfl⟩ := EntsAt.shape he
    have kb := hide kb1
    have BB := hide hb1
    have He := hide he
    clear kb1 hb1 he kb0 BB0 E0
    have hal := atV_len m.smiths b k
    have c2 := (unhide kb).cell (i := 2) (v := .slice a2 m.smiths.length p2) rfl
    by_cases hls : k < m.smiths.length
    · rcases unhide R2 with e0 | ⟨sb, off, rfl, hbw, hcl⟩
      · rw [e0] at hls; simp at hls
      obtain ⟨d0, d1, d2, d3, d4, d5, d6, d7, d8, d9, d10⟩ := smith_cells hcl hls
      rw [← (unhide BB).cell (p := ⟨sb, off + k * 11, none⟩) hbw] at d0
      rw [← (unhide BB).cell (p := ⟨sb, off + k * 11 + 1, none⟩) hbw] at d1
      rw [← (unhide BB).cell (p := ⟨sb, off + k * 11 + 2, none⟩) hbw] at d2
      rw [← (unhide BB).cell (p := ⟨sb, off + k * 11 + 3, none⟩) hbw] at d3
      rw [← (unhide BB).cell (p := ⟨sb, off + k * 11 + 4, none⟩) hbw] at d4
      rw [← (unhide BB).cell (p := ⟨sb, off + k * 11 + 5, none⟩) hbw] at d5
      rw [← (unhide BB).cell (p := ⟨sb, off + k * 11 + 6, none⟩) hbw] at d6
      rw [← (unhide BB).cell (p := ⟨sb, off + k * 11 + 7, none⟩) hbw] at d7
      rw [← (unhide BB).cell (p := ⟨sb, off + k * 11 + 8, none⟩) hbw] at d8
      rw [← (unhide BB).cell (p := ⟨sb, off + k * 11 + 9, none⟩) hbw] at d9
      rw [← (unhide BB).cell (p := ⟨sb, off + k * 11 + 10, none⟩) hbw] at d10
      clear hcl
      have S1 := hide (fun hs => atV_no (ss := m.smiths) (b := b) (k := k) hs)
      have S2 := hide (fun h1 h2 => atV_yes (ss := m.smiths) (b := b) (k := k) h1 h2)
      generalize recAt m.smiths k = ss at *
      obtain ⟨st, be, rk, my, gu, lo, hi, hd, ca, ut, wk⟩ := ss
      simp only at d0 d1 d2 d3 d4 d5 d6 d7 d8 d9 d10
      have hl0 : w.heap.size < wr.heap.size := (unhide kb).lt
      by_cases hbe : be = b
      rotate_left
      · have hbn : (be == b) = false := by simpa using hbe
        go_wp2_with fail
        go_roundw
        case rel => exact ⟨k + 1, by omega, by go_num, by rw [unhide S1 (fun h9 => hbe h9.1)]; exact EntsAt.later (unhide He) ((Below.refl _ _).alloc (Nat.le_refl _) _), (unhide kb).alloc _, (unhide BB).alloc (unhide BB).size _⟩
        case measure => simp [intOf]; omega
      subst hbe
      have hbn : (be == be) = true := by simp
      obtain ⟨ps, hps⟩ : ∃ q, presS (st, be, rk, my, gu, lo, hi, hd, ca, ut, wk) = q := ⟨_, rfl⟩
      have Hps := hide hps
      clear hps
      go_wp2_with fail
      clear c2 d0 d1 d2 d3 d4 d5 d6 d7 d8 d9 d10
      refine (l11Present_q (unhide Hps) _).mono ?_
      rintro e w2 ⟨rfl, hb⟩
      have ks : Hid (Blk w2 wr.heap.size 41 #[.int .i64 st, .int .i64 be, .int .i64 rk, .int .i64 my, .int .i64 gu, .int .i64 lo, .int .i64 hi, .int .i64 hd, .int .i64 ca, .int .i64 ut, .int .i64 wk]) := hide ((Blk.new wr _ _).below hb (by simp))
      replace kb := hide (((unhide kb).alloc (.cells #[.int .i64 st, .int .i64 be, .int .i64 rk, .int .i64 my, .int .i64 gu, .int .i64 lo, .int .i64 hi, .int .i64 hd, .int .i64 ca, .int .i64 ut, .int .i64 wk] 41)).below hb (by simp; omega))
      have hba := ((Below.refl wr.heap.size wr).alloc (Nat.le_refl _) (.cells #[.int .i64 st, .int .i64 be, .int .i64 rk, .int .i64 my, .int .i64 gu, .int .i64 lo, .int .i64 hi, .int .i64 hd, .int .i64 ca, .int .i64 ut, .int .i64 wk] 41)).trans (hb.mono (by simp))
      replace He := hide (EntsAt.later (unhide He) hba)
      replace BB := hide ((unhide BB).trans (hba.mono (unhide BB).size))
      clear hb hl0 hba
      have d7 := (unhide ks).cell (i := 7) (v := .int .i64 hd) rfl
      cases ps
      · go_wp2_with fail
        go_roundw
        case rel => exact ⟨k + 1, by omega, by go_num, by rw [unhide S1 (fun h9 => by have h8 := h9.2; rw [unhide Hps] at h8; cases h8)]; exact unhide He, unhide kb, unhide BB⟩
        case measure => simp [intOf]; omega
      go_wp2_with fail
      refine (l6Put_any hd (k : Int) (EntsAt.paces (unhide He)) (by omega)).mono ?_
      rintro e w3 ⟨v3, rfl, he3, hb⟩
      have hsz := (unhide BB).size
      have he4 := EntsAt.mono he3 hsz
      replace kb := hide ((unhide kb).below hb (unhide kb).lt)
      replace BB := hide ((unhide BB).trans (hb.mono hsz))
      obtain ⟨qa3, qcap3, rfl⟩ := EntsAt.shape he4
      have He4 := hide he4
      clear hb he3 he4 d7
      go_wp2_with fail
      go_roundw
      case rel => exact ⟨k + 1, by omega, by go_num, by rw [unhide S2 (by first | rfl | trivial) (unhide Hps)]; exact unhide He4, unhide kb, unhide BB⟩
      case measure => simp [intOf]; omega
    · obtain rfl : k = m.smiths.length := by omega
      go_wp2_with fail
      go_ret
      exact ⟨_, rfl, unhide He, unhide BB⟩

end Go.Proofs.YtaegckehjlkaaaaGreat

/- Hads and marks as plain numbers: the band, what is placed, moved and marked. Numbers alone; no condition but those that a theorem names. -/
namespace Go.Proofs.YtaegckehjlkaaaaGreat
set_option linter.unusedVariables false

def hadB (x : Int) : Bool := inB x (-1000000000000) 1000000000000
def inBandB (h m : Int) : Bool := (hadB h && hadB m) && inB (h - m) (-20000) 63000
theorem had_of {x : Int} (h : hadB x = true) : -1000000000000 ≤ x ∧ x ≤ 1000000000000 := inB_of h
theorem hads2 (x y : Int) : ([x, y].all fun z => inB z (-1000000000000) 1000000000000) = (hadB x && hadB y) := by simp [hadB]
theorem band_at (h m : Int) : ([h].all fun z => inB z (m - 20000) (m + 63000)) = inB (h - m) (-20000) 63000 := by
  simp only [List.all_cons, List.all_nil, Bool.and_true]
  unfold inB
  congr 1
  exact propext ⟨fun h => by omega, fun h => by omega⟩

end Go.Proofs.YtaegckehjlkaaaaGreat

/- A smithy that is turned, as plain lists: the first one at each bench works, all others there wait; and turned it is right, where it was right but for who works. Lists and numbers alone; no condition but those that a theorem names. -/
namespace Go.Proofs.YtaegckehjlkaaaaGreat
open Go.ChangeShapes Go.WideShapes Go.ChangeAt Go.RowKit Go.Sort
set_option linter.unusedVariables false

structure Loose (m : SmyV) : Prop where
  head : headB m = true
  desk : ∀ j, j < m.desks.length → deskB (recAt m.desks j) = true
  pace : ∀ j, j < m.paces.length → paceInB m j = true
  here : ∀ i, i < m.smiths.length → hereB m (recAt m.smiths i) = true
  seat : ∀ i, i < m.smiths.length → seatB m (recAt m.smiths i) = true
  openD : ∃ j, j < m.desks.length ∧ (recAt m.desks j).1 = true
theorem loose_of {m : SmyV} (h : looseB m = true) : Loose m := by
  unfold looseB upDesks upPaces upSmiths upOpen at h
  simp only [Bool.and_eq_true] at h
  obtain ⟨h1, h2, h3, h4, h5⟩ := h
  have h4' := fun i hi => all_at h4 (k := i) hi
  simp only [Bool.and_eq_true] at h4'
  obtain ⟨j, hj, ho⟩ := List.any_eq_true.1 h5
  exact ⟨h1, fun j hj => all_at h2 hj, fun j hj => all_at h3 hj, fun i hi => (h4' i hi).1, fun i hi => (h4' i hi).2, j, List.mem_range.1 hj, ho⟩
end Go.Proofs.YtaegckehjlkaaaaGreat

/- Contracts of RoomOf and ForceOf, the program's and the model's, at whatever hall can be read and whatever bench. No other condition. -/
namespace Go.Proofs.YtaegckehjlkaaaaGreat
open Go.ChangeShapes Go.WideShapes Go.ChangeAt Go.RowKit Go.Sort
set_option linter.unusedVariables false

/-- The first room up to whose last bench there are more than n. -/
def roomN (rs : List RoomV) (n : Int) : Nat := ((List.range rs.length).find? fun r => decide (n < benchSum (rs.take (r + 1)))).getD 0
def isBench (rs : List RoomV) (n : Int) : Bool := hallB rs && inB n 0 (benchSum rs - 1)
def roomV (rs : List RoomV) (n : Int) : Int := if isBench rs n = true then (roomN rs n : Int) else -1
def lastForce (ps : List PaceV) : Int := (paceAt ps (ps.length - 1)).1
def forceV (rs : List RoomV) (n : Int) : Int := if isBench rs n = true then lastForce (roomAt rs (roomN rs n)).2 else -1
theorem roomN_eq {rs : List RoomV} {n : Int} {r : Nat} (hr : r < rs.length) (h : n < benchSum (rs.take (r + 1))) (hl : ∀ j, j < r → benchSum (rs.take (j + 1)) ≤ n) : roomN rs n = r := by
  unfold roomN
  have : (List.range rs.length).find? (fun r => decide (n < benchSum (rs.take (r + 1)))) = some r := by
    rw [List.find?_range_eq_some]
    refine ⟨by simpa using h, by simpa using hr, fun j hj => ?_⟩
    have := hl j hj
    simp; omega
  rw [this]; rfl
theorem isBench_of {rs : List RoomV} {n : Int} (h : isBench rs n = true) : hallB rs = true ∧ 0 ≤ n ∧ n < benchSum rs := by
  unfold isBench at h; simp only [Bool.and_eq_true] at h
  have := inB_of h.2
  exact ⟨h.1, by omega, by omega⟩
theorem isBench_t {rs : List RoomV} {n : Int} (h : hallB rs = true) (h0 : 0 ≤ n) (h1 : n < benchSum rs) : isBench rs n = true := by
  unfold isBench; rw [h, inB_t (by omega) (by omega)]; rfl
theorem isBench_f1 {rs : List RoomV} {n : Int} (h : hallB rs = false) : isBench rs n = false := by unfold isBench; rw [h]; rfl
theorem isBench_f2 {rs : List RoomV} {n : Int} (h : n < 0 ∨ benchSum rs ≤ n) : isBench rs n = false := by unfold isBench; rw [inB_f (by omega)]; simp
theorem roomV_t {rs : List RoomV} {n : Int} (h : isBench rs n = true) : roomV rs n = roomN rs n := by unfold roomV; rw [if_pos h]
theorem roomV_f {rs : List RoomV} {n : Int} (h : isBench rs n = false) : roomV rs n = -1 := by unfold roomV; rw [h]; rfl
theorem forceV_t {rs : List RoomV} {n : Int} (h : isBench rs n = true) : forceV rs n = lastForce (roomAt rs (roomN rs n)).2 := by unfold forceV; rw [if_pos h]
theorem forceV_f {rs : List RoomV} {n : Int} (h : isBench rs n = false) : forceV rs n = -1 := by unfold forceV; rw [h]; rfl
/-- While no room is found there is one more. -/
theorem room_more {rs : List RoomV} {n : Int} (h : isBench rs n = true) {r : Nat} (hr : r ≤ rs.length) (hl : ∀ j, j < r → benchSum (rs.take (j + 1)) ≤ n) : r < rs.length := by
  rcases Nat.lt_or_ge r rs.length with h1 | h1
  · exact h1
  · obtain rfl : r = rs.length := by omega
    have hb := isBench_of h
    have h3 := hallB_of hb.1
    have := hl (rs.length - 1) (by omega)
    rw [show rs.length - 1 + 1 = rs.length by omega, benchSum_all] at this
    omega
theorem benches_hall {rs : List RoomV} (h : hallB rs = true) (k : Nat) (hk : k ≤ rs.length) : 0 ≤ benchSum (rs.take k) ∧ benchSum (rs.take k) ≤ 12 := by
  have h3 := hallB_of h
  have := benchSum_bd h3.2.2.1 k hk
  omega
theorem room_found {rs : List RoomV} {n : Int} (h : isBench rs n = true) : roomN rs n < rs.length := by
  have key : ∀ d r : Nat, r + d = rs.length → (∀ j, j < r → benchSum (rs.take (j + 1)) ≤ n) → roomN rs n < rs.length := by
    intro d
    induction d with
    | zero => intro r hr hl; have := room_more h (by omega) hl; omega
    | succ d ih =>
      intro r hr hl
      have hlt := room_more h (r := r) (by omega) hl
      by_cases hc : n < benchSum (rs.take (r + 1))
      · rw [roomN_eq hlt hc hl]; exact hlt
      · exact ih (r + 1) (by omega) (next_all hl (by omega))
  exact key rs.length 0 (by omega) (fun j hj => by omega)

set_option maxHeartbeats 1000000 in
theorem implRoomOf_any {w : World} {v : Value} {rs : List RoomV} (n : Int) (h : IsRooms w v rs) :
    Calls Tryz.prog 237 #[.agg #[v], .int .i64 n] w fun e w' => e = .returned (.int .i64 (roomV rs n)) ∧ Below w.heap.size w w' := by
  have Hv := hide h
  obtain ⟨a, cap, rfl, hc, hm, hr⟩ := h
  clear hr
  by_cases h0 : n < 0
  · have H1 := hide (roomV_f (isBench_f2 (rs := rs) (.inl h0)))
    go_enter Tryz.func237, Tryz.ntmps237
    go_wp2_with fail
    go_ret
    exact ⟨ret_int (unhide H1).symm, (Below.refl _ _).alloc (Nat.le_refl _) _⟩
  by_cases h1 : benchesV rs ≤ n
  · have H1 : Hid (roomV rs n = -1) := hide (roomV_f (by
      cases hh : hallB rs
      · exact isBench_f1 hh
      · rw [benchesV_t hh] at h1; exact isBench_f2 (.inr h1)))
    go_enter Tryz.func237, Tryz.ntmps237
    go_wp2_with fail
    refine (implBenchesIn_any ((unhide Hv).alloc _)).mono ?_
    rintro e w1 ⟨rfl, hb⟩
    have Hb := hide hb
    clear hb
    generalize benchesV rs = m at *
    go_wp2_with fail
    go_ret
    exact ⟨ret_int (unhide H1).symm, ((Below.refl _ _).alloc (Nat.le_refl _) _).trans ((unhide Hb).mono (by simp))⟩
  have hh : hallB rs = true := by
    cases hh : hallB rs
    · rw [benchesV_f hh] at h1; omega
    · rfl
  have H : Hid (isBench rs n = true) := hide (isBench_t hh (by omega) (by rw [benchesV_t hh] at h1; omega))
  have Hh := hide hh
  clear hh
  go_enter Tryz.func237, Tryz.ntmps237
  go_wp2_with fail
  refine (implBenchesIn_any ((unhide Hv).alloc _)).mono ?_
  rintro e w1 ⟨rfl, hb⟩
  have hsz : w.heap.size + 1 ≤ w1.heap.size := by have := hb.size; simpa using this
  have hbox : w1.cell? ⟨w.heap.size, 0, none⟩ = some (.slice a rs.length cap) := by rw [hb.cell (p := ⟨w.heap.size, 0, none⟩) (by simp)]; simp
  have B1 : Hid (Below w.heap.size w w1) := hide (((Below.refl _ _).alloc (Nat.le_refl _) _).trans (hb.mono (by simp)))
  clear hb
  generalize benchesV rs = m at *
  go_wp2_with fail
  go_loopw [5] (fun i wr => ∃ r : Nat, r ≤ rs.length ∧ i = .int .i64 r ∧ (∀ j, j < r → benchSum (rs.take (j + 1)) ≤ n) ∧ Below w1.heap.size w1 wr) (fun i _ => rs.length - (intOf i).toNat)
  case atStart => exact ⟨0, Nat.zero_le _, rfl, fun j hj => by omega, Below.refl _ _⟩
  case round =>
    obtain ⟨r, hr, rfl, hl, hb⟩ := hrel
    have hlt := room_more (unhide H) hr hl
    have hbox2 : wr.cell? ⟨w.heap.size, 0, none⟩ = some (.slice a rs.length cap) := by rw [hb.cell (p := ⟨w.heap.size, 0, none⟩) (by show w.heap.size < w1.heap.size; omega)]; exact hbox
    have hz := hb.size
    have hl3 : rs.length ≤ 3 := (hallB_of (unhide Hh)).2.1
    have Hl := hide hl
    have Hb := hide hb
    have Hw : Hid (IsRooms wr (.slice a (r + 1) cap) (rs.take (r + 1))) := hide ((((unhide Hv).below (unhide B1)).below hb).taken (by omega))
    clear hl hb hbox
    go_wp2_with fail
    refine (benchesOf_any (unhide Hw) ((adds_hall (unhide Hh)).taken _)).mono ?_
    rintro e w2 ⟨rfl, hb2⟩
    have hbd := benches_hall (unhide Hh) (r + 1) (by omega)
    have Hb2 := hide hb2
    clear hb2
    by_cases hc2 : n < benchSum (rs.take (r + 1))
    · have HN := hide (roomN_eq hlt hc2 (unhide Hl))
      generalize benchSum (rs.take (r + 1)) = s at *
      go_wp2_with fail
      go_ret
      exact ⟨ret_int (by rw [roomV_t (unhide H), unhide HN]), (unhide B1).trans (((unhide Hb).trans ((unhide Hb2).mono hz)).mono (by omega))⟩
    · have hle : benchSum (rs.take (r + 1)) ≤ n := by omega
      have Hle := hide (next_all (unhide Hl) hle)
      generalize benchSum (rs.take (r + 1)) = s at *
      go_wp2_with fail
      go_roundw
      case rel => exact ⟨r + 1, by omega, by go_num, unhide Hle, (unhide Hb).trans ((unhide Hb2).mono hz)⟩
      case measure => simp [intOf]; omega

end Go.Proofs.YtaegckehjlkaaaaGreat

/- Contracts of chapter 1's exported functions and of their models: each returns the plain number that is defined here, at every argument of type int64; nothing that was in memory is changed. -/
namespace Go.Proofs.YtaegckehjlkaaaaGreat
open Go.ChangeShapes Go.WideShapes Go.ChangeAt Go.RowKit
set_option linter.unusedVariables false

def mulDivV (a b c : Int) : Int := if inB a 0 1000000000 && inB b 0 1000000000 && inB c 1 1000000000 then a * b / c else -1
theorem mul_bd {a b : Int} (a0 : 0 ≤ a) (a1 : a ≤ 1000000000) (b0 : 0 ≤ b) (b1 : b ≤ 1000000000) : 0 ≤ a * b ∧ a * b ≤ 1000000000000000000 := by
  refine ⟨Int.mul_nonneg a0 b0, ?_⟩
  have h := Int.mul_le_mul a1 b1 b0 (by omega)
  omega

/-- The ways through the tests: each is decided. -/
theorem ways3 {P : Prop} (a b c lo hi l1 h1 l2 h2 : Int)
    (k1 : inB a lo hi = false → P) (k2 : inB a lo hi = true → inB b l1 h1 = false → P) (k3 : inB a lo hi = true → inB b l1 h1 = true → inB c l2 h2 = false → P)
    (k4 : inB a lo hi = true → inB b l1 h1 = true → inB c l2 h2 = true → P) : P := by
  cases ha : inB a lo hi
  · exact k1 ha
  · cases hb : inB b l1 h1
    · exact k2 ha hb
    · cases hc : inB c l2 h2
      · exact k3 ha hb hc
      · exact k4 ha hb hc

set_option maxHeartbeats 400000 in
theorem specMulDiv_any (a b c : Int) (w : World) : Calls Tryz.prog 296 #[.int .i64 a, .int .i64 b, .int .i64 c] w fun e w' => e = .returned (.int .i64 (mulDivV a b c)) ∧ w' = w := by
  refine ways3 a b c 0 1000000000 0 1000000000 1 1000000000 ?_ ?_ ?_ ?_
  · intro ha
    have hv : mulDivV a b c = -1 := by simp [mulDivV, ha]
    rw [hv]; clear hv
    go_enter Tryz.func296, Tryz.ntmps296
    go_wp2_with (first | (go_at_call 309; refine (l1Big_any _ _).mono ?_; rintro e w' ⟨rfl, rfl⟩) | (go_at_call 123; refine (l1In_any _ _ _ _).mono ?_; rintro e w' ⟨rfl, rfl⟩))
    go_ret
    exact ⟨rfl, rfl⟩
  · intro ha hb
    have hv : mulDivV a b c = -1 := by simp [mulDivV, hb]
    rw [hv]; clear hv
    go_enter Tryz.func296, Tryz.ntmps296
    go_wp2_with (first | (go_at_call 309; refine (l1Big_any _ _).mono ?_; rintro e w' ⟨rfl, rfl⟩) | (go_at_call 123; refine (l1In_any _ _ _ _).mono ?_; rintro e w' ⟨rfl, rfl⟩))
    go_ret
    exact ⟨rfl, rfl⟩
  · intro ha hb hc
    have hv : mulDivV a b c = -1 := by simp [mulDivV, hc]
    rw [hv]; clear hv
    go_enter Tryz.func296, Tryz.ntmps296
    go_wp2_with (first | (go_at_call 309; refine (l1Big_any _ _).mono ?_; rintro e w' ⟨rfl, rfl⟩) | (go_at_call 123; refine (l1In_any _ _ _ _).mono ?_; rintro e w' ⟨rfl, rfl⟩))
    go_ret
    exact ⟨rfl, rfl⟩
  · intro ha hb hc
    have hv : mulDivV a b c = a * b / c := by simp [mulDivV, ha, hb, hc]
    rw [hv]; clear hv
    obtain ⟨a0, a1⟩ := inB_of ha
    obtain ⟨b0, b1⟩ := inB_of hb
    obtain ⟨c0, c1⟩ := inB_of hc
    obtain ⟨m0, m1⟩ := mul_bd a0 a1 b0 b1
    go_enter Tryz.func296, Tryz.ntmps296
    go_wp2_with (first | (go_at_call 309; refine (l1Big_any _ _).mono ?_; rintro e w' ⟨rfl, rfl⟩) | (go_at_call 123; refine (l1In_any _ _ _ _).mono ?_; rintro e w' ⟨rfl, rfl⟩))
    go_ret
    exact ⟨rfl, rfl⟩

theorem all2 {p : Int → Bool} (a b : Int) : [a, b].all p = (p a && p b) := by simp
theorem all1 {p : Int → Bool} (a : Int) : [a].all p = p a := by simp
theorem cells2 (W : World) (a b : Int) (bk : Nat) (hb : bk = W.heap.size) : ∀ k, k < [a, b].length → (W.alloc (.cells #[.int .i64 a, .int .i64 b] 2)).cell? ⟨bk, k, none⟩ = some (.int .i64 ([a, b].getD k 0)) := by
  intro k hk
  rw [World.cell?_alloc_at _ _ _ _ hb]
  match k, hk with
  | 0, _ => rfl
  | 1, _ => rfl
theorem cells1 (W : World) (a : Int) (bk : Nat) (hb : bk = W.heap.size) : ∀ k, k < [a].length → (W.alloc (.cells #[.int .i64 a] 2)).cell? ⟨bk, k, none⟩ = some (.int .i64 ([a].getD k 0)) := by
  intro k hk
  rw [World.cell?_alloc_at _ _ _ _ hb]
  match k, hk with
  | 0, _ => rfl
theorem two_isFactor (a b : Int) (W : World) (bk : Nat) (hb : bk = W.heap.size) : Calls Tryz.prog 305 #[.func (Fn.func 306) #[] #[], .slice (some ⟨bk, 0, none⟩) 2 2] (W.alloc (.cells #[.int .i64 a, .int .i64 b] 2))
    fun e w' => e = .returned (.bool (inB a 0 1000000000 && inB b 0 1000000000)) ∧ w' = W.alloc (.cells #[.int .i64 a, .int .i64 b] 2) := by
  have h := allAre_isFactor bk 2 [a, b] (W.alloc (.cells #[.int .i64 a, .int .i64 b] 2)) (by simp) (cells2 W a b bk hb)
  rw [all2] at h
  exact h
theorem one_isDivisor (a : Int) (W : World) (bk : Nat) (hb : bk = W.heap.size) : Calls Tryz.prog 305 #[.func (Fn.func 307) #[] #[], .slice (some ⟨bk, 0, none⟩) 1 1] (W.alloc (.cells #[.int .i64 a] 2))
    fun e w' => e = .returned (.bool (inB a 1 1000000000)) ∧ w' = W.alloc (.cells #[.int .i64 a] 2) := by
  have h := allAre_isDivisor bk 1 [a] (W.alloc (.cells #[.int .i64 a] 2)) (by simp) (cells1 W a bk hb)
  rw [all1] at h
  exact h

set_option maxHeartbeats 400000 in
theorem implMulDiv_any (a b c : Int) (w : World) : Calls Tryz.prog 293 #[.int .i64 a, .int .i64 b, .int .i64 c] w fun e w' => e = .returned (.int .i64 (mulDivV a b c)) ∧ Below w.heap.size w w' := by
  refine ways3 a b c 0 1000000000 0 1000000000 1 1000000000 ?_ ?_ ?_ ?_
  · intro ha
    have hv : mulDivV a b c = -1 := by simp [mulDivV, ha]
    rw [hv]; clear hv
    go_enter Tryz.func293, Tryz.ntmps293
    go_wp2_with fail
    refine (two_isFactor a b _ _ rfl).mono ?_
    rintro e w' ⟨rfl, rfl⟩
    go_wp2_with fail
    go_ret
    exact ⟨rfl, (Below.refl _ _).alloc (Nat.le_refl _) _⟩
  · intro ha hb
    have hv : mulDivV a b c = -1 := by simp [mulDivV, hb]
    rw [hv]; clear hv
    go_enter Tryz.func293, Tryz.ntmps293
    go_wp2_with fail
    refine (two_isFactor a b _ _ rfl).mono ?_
    rintro e w' ⟨rfl, rfl⟩
    go_wp2_with fail
    go_ret
    exact ⟨rfl, (Below.refl _ _).alloc (Nat.le_refl _) _⟩
  · intro ha hb hc
    have hv : mulDivV a b c = -1 := by simp [mulDivV, hc]
    rw [hv]; clear hv
    go_enter Tryz.func293, Tryz.ntmps293
    go_wp2_with fail
    refine (two_isFactor a b _ _ rfl).mono ?_
    rintro e w' ⟨rfl, rfl⟩
    go_wp2_with fail
    refine (one_isDivisor c _ _ (by simp)).mono ?_
    rintro e w' ⟨rfl, rfl⟩
    go_wp2_with fail
    go_ret
    exact ⟨rfl, ((Below.refl _ _).alloc (Nat.le_refl _) _).alloc (by simp) _⟩
  · intro ha hb hc
    have hv : mulDivV a b c = a * b / c := by simp [mulDivV, ha, hb, hc]
    rw [hv]; clear hv
    obtain ⟨a0, a1⟩ := inB_of ha
    obtain ⟨b0, b1⟩ := inB_of hb
    obtain ⟨c0, c1⟩ := inB_of hc
    obtain ⟨m0, m1⟩ := mul_bd a0 a1 b0 b1
    go_enter Tryz.func293, Tryz.ntmps293
    go_wp2_with fail
    refine (two_isFactor a b _ _ rfl).mono ?_
    rintro e w' ⟨rfl, rfl⟩
    go_wp2_with fail
    refine (one_isDivisor c _ _ (by simp)).mono ?_
    rintro e w' ⟨rfl, rfl⟩
    go_wp2_with fail
    go_ret
    exact ⟨rfl, ((Below.refl _ _).alloc (Nat.le_refl _) _).alloc (by simp) _⟩
end Go.Proofs.YtaegckehjlkaaaaGreat

/- The paces that are enough, as lists: which place is told, and what is known of it. No program, no condition. -/
namespace Go.Proofs.YtaegckehjlkaaaaGreat
open Go.ChangeShapes Go.WideShapes Go.ChangeAt Go.RowKit
set_option linter.unusedVariables false

def enoughB (need : Int) (p : PaceV) : Bool := decide (5 * need ≤ 4 * p.1)
def paceN (need : Int) : List PaceV → Nat
  | [] => 0
  | [_] => 0
  | p :: q :: ps => if enoughB need p then 0 else paceN need (q :: ps) + 1
def paceForV (r : RoomV) (need : Int) : Int := if roomB r && inB need 0 1000000 then paceN need r.2 else -1
def coalForV (r : RoomV) (pace work : Int) : Int := if roomB r && (inB work 0 1000000 && inB pace 0 (r.2.length - 1)) then mulDivV (paceAt r.2 pace.toNat).2 work (paceAt r.2 pace.toNat).1 else -1
def leastV (r : RoomV) (need work : Int) : Int := coalForV r (paceForV r need) work

theorem paceAt_0 (p : PaceV) (ps : List PaceV) : paceAt (p :: ps) 0 = p := rfl
theorem paceAt_s (p : PaceV) (ps : List PaceV) (k : Nat) : paceAt (p :: ps) (k + 1) = paceAt ps k := by unfold paceAt; simp [List.getD]
theorem enough_t {need : Int} {p : PaceV} (h : 5 * need ≤ 4 * p.1) : enoughB need p = true := decide_eq_true h
theorem enough_f {need : Int} {p : PaceV} (h : 4 * p.1 < 5 * need) : enoughB need p = false := decide_eq_false (by omega)
theorem paceN_eq (need : Int) : ∀ (ps : List PaceV) (k : Nat), k + 1 ≤ ps.length → (∀ j, j < k → enoughB need (paceAt ps j) = false) → (k + 1 = ps.length ∨ enoughB need (paceAt ps k) = true) → paceN need ps = k
  | [], k, hk, _, _ => by simp at hk
  | [p], k, hk, _, _ => by simp at hk; subst hk; rfl
  | p :: q :: ps, 0, _, _, he => by
    rcases he with he | he
    · simp at he
    · rw [paceAt_0] at he; simp [paceN, he]
  | p :: q :: ps, k + 1, hk, hlo, he => by
    have h0 := hlo 0 (by omega)
    rw [paceAt_0] at h0
    have ih := paceN_eq need (q :: ps) k (by simp at hk ⊢; omega) (fun j hj => by have := hlo (j + 1) (by omega); rwa [paceAt_s] at this) (by
      rcases he with he | he
      · left; simp at he ⊢; omega
      · right; rwa [paceAt_s] at he)
    simp [paceN, h0, ih]
theorem room_pace {r : RoomV} (h : roomB r = true) {k : Nat} (hk : k < r.2.length) : 1 ≤ (paceAt r.2 k).1 ∧ (paceAt r.2 k).1 ≤ 1024 ∧ 1 ≤ (paceAt r.2 k).2 ∧ (paceAt r.2 k).2 ≤ 1024 := by
  unfold roomB at h; simp only [Bool.and_eq_true] at h
  have h1 := pacesB_of h.2.2 hk
  unfold stepB paceB at h1; simp only [Bool.and_eq_true] at h1
  have a := inB_of h1.1.1; have b := inB_of h1.1.2
  omega
theorem paceForV_f1 {r : RoomV} {need : Int} (h : roomB r = false) : paceForV r need = -1 := by unfold paceForV; simp [h]
theorem paceForV_f2 {r : RoomV} {need : Int} (h : inB need 0 1000000 = false) : paceForV r need = -1 := by unfold paceForV; simp [h]
theorem paceForV_t {r : RoomV} {need : Int} (h : roomB r = true) (h2 : inB need 0 1000000 = true) : paceForV r need = paceN need r.2 := by unfold paceForV; simp [h, h2]
theorem coalForV_f1 {r : RoomV} {pace work : Int} (h : roomB r = false) : coalForV r pace work = -1 := by unfold coalForV; simp [h]
theorem coalForV_f2 {r : RoomV} {pace work : Int} (h : inB work 0 1000000 = false) : coalForV r pace work = -1 := by unfold coalForV; simp [h]
theorem coalForV_f3 {r : RoomV} {pace work : Int} (h : inB pace 0 (r.2.length - 1) = false) : coalForV r pace work = -1 := by unfold coalForV; simp [h]
theorem coalForV_t {r : RoomV} {pace work : Int} (h : roomB r = true) (h2 : inB work 0 1000000 = true) (h3 : inB pace 0 (r.2.length - 1) = true) : coalForV r pace work = mulDivV (paceAt r.2 pace.toNat).2 work (paceAt r.2 pace.toNat).1 := by unfold coalForV; simp [h, h2, h3]
theorem mulDivV_t {a b c : Int} (a0 : 0 ≤ a) (a1 : a ≤ 1000000000) (b0 : 0 ≤ b) (b1 : b ≤ 1000000000) (c0 : 1 ≤ c) (c1 : c ≤ 1000000000) : mulDivV a b c = a * b / c := by
  unfold mulDivV; rw [inB_t a0 a1, inB_t b0 b1, inB_t c0 c1]; rfl
theorem coalForV_bd (r : RoomV) (pace work : Int) : -1 ≤ coalForV r pace work ∧ coalForV r pace work ≤ 1024000000 := by
  cases h : roomB r
  · rw [coalForV_f1 h]; omega
  cases h2 : inB work 0 1000000
  · rw [coalForV_f2 h2]; omega
  cases h3 : inB pace 0 (r.2.length - 1)
  · rw [coalForV_f3 h3]; omega
  rw [coalForV_t h h2 h3]
  have hb := inB_of h2; have hp := inB_of h3
  have hr := room_pace h (k := pace.toNat) (by omega)
  generalize paceAt r.2 pace.toNat = p at *
  rw [mulDivV_t (by omega) (by omega) (by omega) (by omega) (by omega) (by omega)]
  have m0 : 0 ≤ p.2 * work := Int.mul_nonneg (by omega) (by omega)
  have m1 : p.2 * work ≤ 1024 * 1000000 := Int.mul_le_mul (by omega) (by omega) (by omega) (by omega)
  have d0 := Int.ediv_nonneg m0 (show 0 ≤ p.1 by omega)
  have d1 := Int.ediv_le_self p.1 m0
  omega
end Go.Proofs.YtaegckehjlkaaaaGreat

/- Contracts of chapter 7's functions and of their models: what each call returns; and a rule for a scope whose run jumps to several labels. No condition but those that a theorem names. -/
namespace Go.Proofs.YtaegckehjlkaaaaGreat
open Go.ChangeShapes Go.WideShapes Go.ChangeAt Go.RowKit
set_option linter.unusedVariables false

/-- As Q; by a goto to label l: J l. -/
def jumps (J : Nat → Act → World → Prop) (Q : Exit → Act → World → Prop) : Exit → Act → World → Prop
  | .goto l, a, w => J l a w
  | e, a, w => Q e a w
theorem jumps_ret {J : Nat → Act → World → Prop} {Q : Exit → Act → World → Prop} {a : Act} {w : World} : jumps J Q .ret a w = Q .ret a w := rfl

/-- A scope in which the run jumps from label to label: what holds at each label's jumps, and a measure that every pass lowers. -/
theorem wp_scope_all {P : Program} {a : Act} {w : World} {Q : Exit → Act → World → Prop} {c : Code} (J : Nat → Act → World → Prop) (μ : Nat → Act → World → Nat)
    (first : c.wp P (jumps J Q) a w)
    (pass : ∀ l a w, J l a w → ∃ rest, findLabel c l = some rest ∧ rest.wp P (jumps (fun l' a' w' => J l' a' w' ∧ μ l' a' w' < μ l a w) Q) a w) : (Code.scope c).wp P Q a w := by
  intro b k cs
  have key : ∀ n l a w, μ l a w = n → J l a w → ∃ rest, findLabel c l = some rest ∧ ∃ e a' w', Q e a' w' ∧ Arrives P (lone (b.at a (.code rest :: .inScope c :: k)) cs w) b k cs e a' w' := by
    intro n
    induction n using Nat.strongRecOn with
    | _ n ih =>
      intro l a w hn hJ
      obtain ⟨rest, hf, hp⟩ := pass l a w hJ
      refine ⟨rest, hf, ?_⟩
      obtain ⟨e, a₁, w₁, hq, harr⟩ := hp b (.inScope c :: k) cs
      cases e with
      | normal => exact ⟨.normal, a₁, w₁, hq, Steps.trans harr (.one step_inScope)⟩
      | exit id => exact ⟨.exit id, a₁, w₁, hq, fun k' hk => harr k' (by simp [exitTo, hk])⟩
      | goto l' =>
        obtain ⟨hJ', hlt⟩ := hq
        obtain ⟨rest', hf', e₂, a₂, w₂, hq₂, harr₂⟩ := ih _ (by omega) l' a₁ w₁ rfl hJ'
        exact ⟨e₂, a₂, w₂, hq₂, .of_steps (harr _ (by simp [gotoIn, hf'])) harr₂⟩
      | ret => exact ⟨_, a₁, w₁, hq, harr⟩
      | panic ch => exact ⟨_, a₁, w₁, hq, harr⟩
      | outgrown => exact ⟨_, a₁, w₁, hq, harr⟩
  obtain ⟨e, a₁, w₁, hq, harr⟩ := first b (.inScope c :: k) cs
  cases e with
  | normal => exact ⟨.normal, a₁, w₁, hq, .head step_scope (Steps.trans harr (.one step_inScope))⟩
  | exit id => exact ⟨.exit id, a₁, w₁, hq, fun k' hk => .head step_scope (harr k' (by simp [exitTo, hk]))⟩
  | goto l' =>
    obtain ⟨rest', hf', e₂, a₂, w₂, hq₂, harr₂⟩ := key _ l' a₁ w₁ rfl hq
    exact ⟨e₂, a₂, w₂, hq₂, .of_steps (.head step_scope (harr _ (by simp [gotoIn, hf']))) harr₂⟩
  | ret => exact ⟨_, a₁, w₁, hq, .of_steps (.one step_scope) harr⟩
  | panic ch => exact ⟨_, a₁, w₁, hq, .of_steps (.one step_scope) harr⟩
  | outgrown => exact ⟨_, a₁, w₁, hq, .of_steps (.one step_scope) harr⟩

theorem amtIn_any (lo n hi : Int) (w : World) : Calls Tryz.prog 184 #[.int .i64 lo, .int .i64 n, .int .i64 hi] w fun e w' => e = .returned (.bool (inB n lo hi)) ∧ w' = w := by
  by_cases h1 : lo ≤ n
  · by_cases h2 : n ≤ hi
    all_goals
      go_enter Tryz.func184, Tryz.ntmps184
      go_wp2
      go_ret
      exact ⟨ret_bool (by unfold inB; simp [h1, h2]), rfl⟩
  · go_enter Tryz.func184, Tryz.ntmps184
    go_wp2
    go_ret
    exact ⟨ret_bool (inB_f (by omega)).symm, rfl⟩

theorem isEnough_any (f need : Int) (w : World) (f0 : 0 ≤ f) (f1 : f ≤ 1000000) (n0 : 0 ≤ need) (n1 : need ≤ 2000000) :
    Calls Tryz.prog 308 #[.int .i64 f, .int .i64 need] w fun e w' => e = .returned (.bool (decide (5 * need ≤ 4 * f))) ∧ w' = w := by
  go_enter Tryz.func308, Tryz.ntmps308
  go_wp2_with fail
  go_ret
  exact ⟨ret_bool rfl, rfl⟩

theorem amtWork_any (x : Int) (w : World) : Calls Tryz.prog 83 #[.int .i64 x] w fun e w' => e = .returned (.bool (inB x 0 1000000)) ∧ w' = w := by
  go_enter Tryz.func83, Tryz.ntmps83
  go_wp2_with (go_at_call 123; refine (l1In_any _ _ _ _).mono ?_; rintro e w' ⟨rfl, rfl⟩)
  go_ret
  exact ⟨rfl, rfl⟩

set_option maxHeartbeats 400000 in
theorem areAmounts_any (b cap : Nat) (zs : List Int) (w : World) (hl : zs.length ≤ 1000) (hc : ∀ k, k < zs.length → w.cell? ⟨b, k, none⟩ = some (.int .i64 (zs.getD k 0))) :
    Calls Tryz.prog 347 #[.slice (some ⟨b, 0, none⟩) zs.length cap] w fun e w' => e = .returned (.bool (zs.all fun z => inB z 0 1000000)) ∧ w' = w := by
  have Hc := hide hc
  clear hc
  go_enter Tryz.func347, Tryz.ntmps347
  go_wp2_with fail
  refine wp_scope_all (fun l a' w' => w' = w ∧ ∃ (r : Bool) (k : Nat) (u4 u5 u6 u7 u8 u9 u10 u11 u12 u13 u14 u15 : Value), k ≤ zs.length ∧ a' = { tmps := #[.slice (some ⟨b, 0, none⟩) zs.length cap, undef, .bool r, .int .i64 k, u4, u5, u6, u7, u8, u9, u10, u11, u12, u13, u14, u15], defers := [] } ∧
      ((l = 0 ∧ (zs.all fun z => inB z 0 1000000) = true) ∨ (l = 1 ∧ ((zs.take k).all fun z => inB z 0 1000000) = true) ∨ (l = 2 ∧ (zs.all fun z => inB z 0 1000000) = false))) (fun l a' _ => if l = 1 then zs.length + 1 - (intOf (a'.tmps.getD 3 undef)).toNat else 0) ?_ ?_
  · by_cases hlt : 0 < zs.length
    · have hcell := unhide Hc 0 hlt
      generalize hz : zs.getD 0 0 = z at hcell
      have Hz := hide hz
      clear hz
      cases hp : inB z 0 1000000
      · go_wp2_with fail
        go_step3
        go_wp2_with (go_at_call 184; refine (amtIn_any _ _ _ _).mono ?_; rintro e w' ⟨rfl, rfl⟩)
        go_step3
        exact ⟨rfl, false, 0, _, _, _, _, _, _, _, _, _, _, _, _, Nat.zero_le _, rfl, .inr (.inr ⟨rfl, all_snoc_f hlt (unhide Hz) hp⟩)⟩
      · go_wp2_with fail
        go_step3
        go_wp2_with (go_at_call 184; refine (amtIn_any _ _ _ _).mono ?_; rintro e w' ⟨rfl, rfl⟩)
        go_step3
        exact ⟨rfl, false, 1, _, _, _, _, _, _, _, _, _, _, _, _, hlt, rfl, .inr (.inl ⟨rfl, all_snoc (k := 0) hlt (unhide Hz) (by simp) hp⟩)⟩
    · obtain rfl : zs = [] := List.eq_nil_of_length_eq_zero (by omega)
      go_wp2_with fail
      go_step3
      go_wp2_with fail
      go_step3
      exact ⟨rfl, false, 0, _, _, _, _, _, _, _, _, _, _, _, _, Nat.zero_le _, rfl, .inl ⟨rfl, rfl⟩⟩
  · rintro l a' w' ⟨rfl, r, k, u4, u5, u6, u7, u8, u9, u10, u11, u12, u13, u14, u15, hk, rfl, ⟨rfl, ha⟩ | ⟨rfl, ha⟩ | ⟨rfl, ha⟩⟩
    · refine ⟨_, rfl, ?_⟩
      go_wp2_with fail
      rw [jumps_ret]
      go_ret
      exact ⟨ret_bool ha.symm, rfl⟩
    · refine ⟨_, rfl, ?_⟩
      have Ha := hide ha
      clear ha
      by_cases hlt : k < zs.length
      · have hcell := unhide Hc k hlt
        have hne : ((k : Int) == (zs.length : Int)) = false := by simp; omega
        generalize hz : zs.getD k 0 = z at hcell
        have Hz := hide hz
        clear hz
        cases hp : inB z 0 1000000
        · go_wp2_with (go_at_call 184; refine (amtIn_any _ _ _ _).mono ?_; rintro e w' ⟨rfl, rfl⟩)
          go_step3
          refine ⟨⟨rfl, r, k, _, _, _, _, _, _, _, _, _, _, _, _, hk, rfl, .inr (.inr ⟨rfl, all_snoc_f hlt (unhide Hz) hp⟩)⟩, ?_⟩
          simp [intOf]; omega
        · go_wp2_with (go_at_call 184; refine (amtIn_any _ _ _ _).mono ?_; rintro e w' ⟨rfl, rfl⟩)
          go_step3
          refine ⟨⟨rfl, r, k + 1, _, _, _, _, _, _, _, _, _, _, _, _, hlt, by go_num, .inr (.inl ⟨rfl, all_snoc hlt (unhide Hz) (unhide Ha) hp⟩)⟩, ?_⟩
          simp [intOf]; omega
      · obtain rfl : k = zs.length := by omega
        go_wp2_with fail
        go_step3
        refine ⟨⟨rfl, r, zs.length, _, _, _, _, _, _, _, _, _, _, _, _, hk, rfl, .inl ⟨rfl, ?_⟩⟩, ?_⟩
        · rw [← unhide Ha, List.take_of_length_le (by omega)]
        · simp [intOf]
    · refine ⟨_, rfl, ?_⟩
      go_wp2_with fail
      rw [jumps_ret]
      go_ret
      exact ⟨ret_bool ha.symm, rfl⟩

def amt (x : Int) : Bool := inB x 0 1000000
def fitsB (w u f : Int) : Bool := (amt w && (amt u && amt f)) && decide (5 * (w + u) ≤ 4 * f)
def muchB (u f : Int) : Bool := (amt u && amt f) && !decide (5 * u ≤ 4 * f)
def spareV (u f : Int) : Int := if amt u && amt f then f - u else -1000001

theorem much_dec (u f : Int) : decide (4 * f < 5 * u) = !decide (5 * u ≤ 4 * f) := by
  by_cases h : 5 * u ≤ 4 * f
  · rw [decide_eq_true h, decide_eq_false (by omega)]; rfl
  · rw [decide_eq_false h, decide_eq_true (by omega)]; rfl
theorem amt_of {x : Int} (h : amt x = true) : 0 ≤ x ∧ x ≤ 1000000 := inB_of h
theorem amts2 (x y : Int) : ([x, y].all fun z => inB z 0 1000000) = (amt x && amt y) := by simp [amt]
theorem amts3 (x y z : Int) : ([x, y, z].all fun z => inB z 0 1000000) = (amt x && (amt y && amt z)) := by simp [amt]

theorem implSpareOf_any (u f : Int) (w : World) : Calls Tryz.prog 345 #[.int .i64 u, .int .i64 f] w fun e w' => e = .returned (.int .i64 (spareV u f)) ∧ Below w.heap.size w w' := by
  cases h : amt u && amt f
  · have hs : spareV u f = -1000001 := by unfold spareV; rw [h]; rfl
    have Hs := hide hs
    go_enter Tryz.func345, Tryz.ntmps345
    go_wp2_with fail
    refine (areAmounts_any _ _ [u, f] _ (by simp) ?_).mono ?_
    · intro k hk
      simp at hk
      match k, hk with
      | 0, _ => simp
      | 1, _ => simp
    rintro e w' ⟨rfl, rfl⟩
    rw [amts2, h]
    go_wp2_with fail
    go_ret
    exact ⟨ret_int (unhide Hs).symm, (Below.refl _ _).alloc (Nat.le_refl _) _⟩
  · have hs : spareV u f = f - u := by unfold spareV; rw [h]; rfl
    have Hs := hide hs
    have h' := h
    simp only [Bool.and_eq_true] at h'
    obtain ⟨u0, u1⟩ := amt_of h'.1
    obtain ⟨f0, f1⟩ := amt_of h'.2
    go_enter Tryz.func345, Tryz.ntmps345
    go_wp2_with fail
    refine (areAmounts_any _ _ [u, f] _ (by simp) ?_).mono ?_
    · intro k hk
      simp at hk
      match k, hk with
      | 0, _ => simp
      | 1, _ => simp
    rintro e w' ⟨rfl, rfl⟩
    rw [amts2, h]
    go_wp2_with fail
    go_ret
    exact ⟨ret_int (unhide Hs).symm, (Below.refl _ _).alloc (Nat.le_refl _) _⟩

theorem implTooMuch_any (u f : Int) (w : World) : Calls Tryz.prog 344 #[.int .i64 u, .int .i64 f] w fun e w' => e = .returned (.bool (muchB u f)) ∧ Below w.heap.size w w' := by
  cases h : amt u && amt f
  · have hs : muchB u f = false := by unfold muchB; rw [h]; rfl
    have Hs := hide hs
    go_enter Tryz.func344, Tryz.ntmps344
    go_wp2_with fail
    refine (areAmounts_any _ _ [u, f] _ (by simp) ?_).mono ?_
    · intro k hk
      simp at hk
      match k, hk with
      | 0, _ => simp
      | 1, _ => simp
    rintro e w' ⟨rfl, rfl⟩
    rw [amts2, h]
    go_wp2_with fail
    go_ret
    exact ⟨ret_bool (unhide Hs).symm, (Below.refl _ _).alloc (Nat.le_refl _) _⟩
  · have hs : muchB u f = !decide (5 * u ≤ 4 * f) := by unfold muchB; rw [h]; rfl
    have Hs := hide hs
    have h' := h
    simp only [Bool.and_eq_true] at h'
    obtain ⟨u0, u1⟩ := amt_of h'.1
    obtain ⟨f0, f1⟩ := amt_of h'.2
    go_enter Tryz.func344, Tryz.ntmps344
    go_wp2_with fail
    refine (areAmounts_any _ _ [u, f] _ (by simp) ?_).mono ?_
    · intro k hk
      simp at hk
      match k, hk with
      | 0, _ => simp
      | 1, _ => simp
    rintro e w' ⟨rfl, rfl⟩
    rw [amts2, h]
    go_wp2_with (go_at_call 308; refine (isEnough_any f u _ f0 f1 u0 (by omega)).mono ?_; rintro e w' ⟨rfl, rfl⟩)
    go_ret
    exact ⟨ret_bool (unhide Hs).symm, (Below.refl _ _).alloc (Nat.le_refl _) _⟩

theorem implFitsIn_any (x u f : Int) (w : World) : Calls Tryz.prog 346 #[.int .i64 x, .int .i64 u, .int .i64 f] w fun e w' => e = .returned (.bool (fitsB x u f)) ∧ Below w.heap.size w w' := by
  cases h : amt x && (amt u && amt f)
  · have hs : fitsB x u f = false := by unfold fitsB; rw [h]; rfl
    have Hs := hide hs
    go_enter Tryz.func346, Tryz.ntmps346
    go_wp2_with fail
    refine (areAmounts_any _ _ [x, u, f] _ (by simp) ?_).mono ?_
    · intro k hk
      simp at hk
      match k, hk with
      | 0, _ => simp
      | 1, _ => simp
      | 2, _ => simp
    rintro e w' ⟨rfl, rfl⟩
    rw [amts3, h]
    go_wp2_with fail
    go_ret
    exact ⟨ret_bool (unhide Hs).symm, (Below.refl _ _).alloc (Nat.le_refl _) _⟩
  · have hs : fitsB x u f = decide (5 * (x + u) ≤ 4 * f) := by unfold fitsB; rw [h]; rfl
    have Hs := hide hs
    have h' := h
    simp only [Bool.and_eq_true] at h'
    obtain ⟨x0, x1⟩ := amt_of h'.1
    obtain ⟨u0, u1⟩ := amt_of h'.2.1
    obtain ⟨f0, f1⟩ := amt_of h'.2.2
    go_enter Tryz.func346, Tryz.ntmps346
    go_wp2_with fail
    refine (areAmounts_any _ _ [x, u, f] _ (by simp) ?_).mono ?_
    · intro k hk
      simp at hk
      match k, hk with
      | 0, _ => simp
      | 1, _ => simp
      | 2, _ => simp
    rintro e w' ⟨rfl, rfl⟩
    rw [amts3, h]
    go_wp2_with (go_at_call 308; refine (isEnough_any f (x + u) _ f0 f1 (by omega) (by omega)).mono ?_; rintro e w' ⟨rfl, rfl⟩)
    go_ret
    exact ⟨ret_bool (unhide Hs).symm, (Below.refl _ _).alloc (Nat.le_refl _) _⟩

set_option maxHeartbeats 1000000 in
theorem specFitsIn_any (x u f : Int) (w : World) : Calls Tryz.prog 34 #[.int .i64 x, .int .i64 u, .int .i64 f] w fun e w' => e = .returned (.bool (fitsB x u f)) ∧ w' = w := by
  cases hx : inB x 0 1000000
  · go_enter Tryz.func34, Tryz.ntmps34
    go_wp2_with (go_at_call 83; refine (amtWork_any _ _).mono ?_; rintro e w' ⟨rfl, rfl⟩)
    go_ret
    exact ⟨ret_bool (by simp [fitsB, amt, hx]), rfl⟩
  · cases hu : inB u 0 1000000
    · go_enter Tryz.func34, Tryz.ntmps34
      go_wp2_with (go_at_call 83; refine (amtWork_any _ _).mono ?_; rintro e w' ⟨rfl, rfl⟩)
      go_ret
      exact ⟨ret_bool (by simp [fitsB, amt, hx, hu]), rfl⟩
    · cases hf : inB f 0 1000000
      · go_enter Tryz.func34, Tryz.ntmps34
        go_wp2_with (go_at_call 83; refine (amtWork_any _ _).mono ?_; rintro e w' ⟨rfl, rfl⟩)
        go_ret
        exact ⟨ret_bool (by simp [fitsB, amt, hx, hu, hf]), rfl⟩
      · obtain ⟨x0, x1⟩ := inB_of hx
        obtain ⟨u0, u1⟩ := inB_of hu
        obtain ⟨f0, f1⟩ := inB_of hf
        go_enter Tryz.func34, Tryz.ntmps34
        go_wp2_with (go_at_call 83; refine (amtWork_any _ _).mono ?_; rintro e w' ⟨rfl, rfl⟩)
        go_ret
        exact ⟨ret_bool (by simp [fitsB, amt, hx, hu, hf]), rfl⟩

set_option maxHeartbeats 1000000 in
theorem specTooMuch_any (u f : Int) (w : World) : Calls Tryz.prog 42 #[.int .i64 u, .int .i64 f] w fun e w' => e = .returned (.bool (muchB u f)) ∧ w' = w := by
  cases hu : inB u 0 1000000
  · go_enter Tryz.func42, Tryz.ntmps42
    go_wp2_with (go_at_call 83; refine (amtWork_any _ _).mono ?_; rintro e w' ⟨rfl, rfl⟩)
    go_ret
    exact ⟨ret_bool (by simp [muchB, amt, hu]), rfl⟩
  · cases hf : inB f 0 1000000
    · go_enter Tryz.func42, Tryz.ntmps42
      go_wp2_with (go_at_call 83; refine (amtWork_any _ _).mono ?_; rintro e w' ⟨rfl, rfl⟩)
      go_ret
      exact ⟨ret_bool (by simp [muchB, amt, hu, hf]), rfl⟩
    · obtain ⟨u0, u1⟩ := inB_of hu
      obtain ⟨f0, f1⟩ := inB_of hf
      go_enter Tryz.func42, Tryz.ntmps42
      go_wp2_with (go_at_call 83; refine (amtWork_any _ _).mono ?_; rintro e w' ⟨rfl, rfl⟩)
      go_ret
      exact ⟨ret_bool (by simp [muchB, amt, hu, hf, much_dec]), rfl⟩

set_option maxHeartbeats 1000000 in
theorem specSpareOf_any (u f : Int) (w : World) : Calls Tryz.prog 93 #[.int .i64 u, .int .i64 f] w fun e w' => e = .returned (.int .i64 (spareV u f)) ∧ w' = w := by
  cases hu : inB u 0 1000000
  · go_enter Tryz.func93, Tryz.ntmps93
    go_wp2_with (go_at_call 83; refine (amtWork_any _ _).mono ?_; rintro e w' ⟨rfl, rfl⟩)
    go_ret
    exact ⟨ret_int (by simp [spareV, amt, hu]), rfl⟩
  · cases hf : inB f 0 1000000
    · go_enter Tryz.func93, Tryz.ntmps93
      go_wp2_with (go_at_call 83; refine (amtWork_any _ _).mono ?_; rintro e w' ⟨rfl, rfl⟩)
      go_ret
      exact ⟨ret_int (by simp [spareV, amt, hu, hf]), rfl⟩
    · obtain ⟨u0, u1⟩ := inB_of hu
      obtain ⟨f0, f1⟩ := inB_of hf
      go_enter Tryz.func93, Tryz.ntmps93
      go_wp2_with (go_at_call 83; refine (amtWork_any _ _).mono ?_; rintro e w' ⟨rfl, rfl⟩)
      go_ret
      exact ⟨ret_int (by simp [spareV, amt, hu, hf]), rfl⟩

end Go.Proofs.YtaegckehjlkaaaaGreat

/- What one wants, what is used, which bench is chosen, what all of it costs: as plain lists and numbers. No condition but those that a theorem names. -/
namespace Go.Proofs.YtaegckehjlkaaaaGreat
open Go.ChangeShapes Go.WideShapes Go.ChangeAt Go.RowKit Go.Sort
set_option linter.unusedVariables false

/-- Util within the bounds. -/
def wantS (gs : List GuildV) (s : SmithV) : Int := min (max s.2.2.2.2.2.2.2.2.2.1 (narV (bnd gs s.2.2.2.2.1) s.2.2.2.2.2.1 s.2.2.2.2.2.2.1).1) (narV (bnd gs s.2.2.2.2.1) s.2.2.2.2.2.1 s.2.2.2.2.2.2.1).2
def wantV (m : SmyV) (who : Int) : Int := wantS m.guilds (recAt m.smiths who.toNat)
theorem wantS_bd (gs : List GuildV) (s : SmithV) : 0 ≤ wantS gs s ∧ wantS gs s ≤ 1024 := by
  obtain ⟨b0, b1, b2⟩ := bnd_bd gs s.2.2.2.2.1
  obtain ⟨n0, n1, n2⟩ := narV_bd (lo := s.2.2.2.2.2.1) (hi := s.2.2.2.2.2.2.1) b0 b1 b2
  unfold wantS
  omega
theorem wantV_bd (m : SmyV) (who : Int) : 0 ≤ wantV m who ∧ wantV m who ≤ 1024 := wantS_bd _ _
/-- What all of a queue want, but one. -/
def usedL (m : SmyV) (but : Int) (q : List PaceV) : Int := q.foldl (fun n e => if e.2 = but then n else n + wantV m e.2) 0
theorem usedL_snoc (m : SmyV) (but : Int) (q : List PaceV) (e : PaceV) : usedL m but (q ++ [e]) = if e.2 = but then usedL m but q else usedL m but q + wantV m e.2 := by
  unfold usedL; rw [List.foldl_append]; rfl
theorem usedF_bd (m : SmyV) (but : Int) : ∀ (q : List PaceV) (n : Int), 0 ≤ n → 0 ≤ q.foldl (fun n e => if e.2 = but then n else n + wantV m e.2) n ∧ q.foldl (fun n e => if e.2 = but then n else n + wantV m e.2) n ≤ n + 1024 * q.length
  | [], n, h => ⟨h, by simp⟩
  | e :: q, n, h => by
    have hw := wantV_bd m e.2
    have ih := usedF_bd m but q (if e.2 = but then n else n + wantV m e.2) (by split <;> omega)
    refine ⟨ih.1, Int.le_trans ih.2 ?_⟩
    simp only [List.length_cons, Int.natCast_add, Int.natCast_one]
    split <;> omega
theorem usedL_bd (m : SmyV) (but : Int) (q : List PaceV) : 0 ≤ usedL m but q ∧ usedL m but q ≤ 1024 * q.length := by
  have := usedF_bd m but q 0 (by omega)
  unfold usedL; omega
def usedV (m : SmyV) (b but : Int) : Int := usedL m but (atV m.smiths b m.smiths.length)
theorem usedV_bd (m : SmyV) (b but : Int) : 0 ≤ usedV m b but ∧ usedV m b but ≤ 1024 * m.smiths.length := by
  have h := usedL_bd m but (atV m.smiths b m.smiths.length)
  have hl := atV_len m.smiths b m.smiths.length
  unfold usedV
  refine ⟨h.1, Int.le_trans h.2 ?_⟩
  omega

/-! ### Chapter 13 -/
/-- Of the first k benches those of a room: the greatest that is used at an open one, and all that is used. -/
def usedIn (m : SmyV) (room : Int) : Nat → Int × Int
  | 0 => (0, 0)
  | k + 1 => if (roomN m.rooms k : Int) = room then ((if (recAt m.desks k).1 then max (usedIn m room k).1 (usedV m k (-1)) else (usedIn m room k).1), (usedIn m room k).2 + usedV m k (-1)) else usedIn m room k
theorem usedIn_bd (m : SmyV) (room : Int) (hl : m.smiths.length ≤ 12) : ∀ k : Nat, (0 ≤ (usedIn m room k).1 ∧ (usedIn m room k).1 ≤ 12288) ∧ 0 ≤ (usedIn m room k).2 ∧ (usedIn m room k).2 ≤ 12288 * k
  | 0 => by simp [usedIn]
  | k + 1 => by
    have ih := usedIn_bd m room hl k
    have hu := usedV_bd m k (-1)
    unfold usedIn
    split
    · simp only
      constructor
      · split <;> omega
      · push_cast; omega
    · push_cast; omega
def coalIn (m : SmyV) (room : Nat) : Int := leastV (roomAt m.rooms room) (usedIn m room m.desks.length).1 (usedIn m room m.desks.length).2
def coalTo (m : SmyV) : Nat → Int
  | 0 => 0
  | k + 1 => coalTo m k + coalIn m k
def coalAll (m : SmyV) : Int := coalTo m m.rooms.length
theorem coalTo_bd (m : SmyV) : ∀ k : Nat, -(k : Int) ≤ coalTo m k ∧ coalTo m k ≤ 1024000000 * k
  | 0 => by simp [coalTo]
  | k + 1 => by
    have ih := coalTo_bd m k
    have hc := coalForV_bd (roomAt m.rooms k) (paceForV (roomAt m.rooms k) (usedIn m k m.desks.length).1) (usedIn m k m.desks.length).2
    unfold coalTo coalIn leastV
    push_cast
    omega
/-- With one at a bench. -/
def atBench (s : SmithV) (b : Int) : SmithV := (2, b, s.2.2)
def withM (m : SmyV) (who b : Int) : SmyV := { m with smiths := m.smiths.set who.toNat (atBench (recAt m.smiths who.toNat) b) }
def coalWithV (m : SmyV) (who b : Int) : Int := coalAll (withM m who b)

/-! ### Chapter 14 -/
def mayAt (m : SmyV) (who : Int) (b : Nat) : Bool := (recAt m.desks b).1 && bitB (recAt m.smiths who.toNat).2.2.2.1 b
def fitAt (m : SmyV) (who : Int) (b : Nat) : Bool := mayAt m who b && fitsB (wantV m who) (usedV m b who) (forceV m.rooms b)
def fitTo (m : SmyV) (who : Int) : Nat → List Int
  | 0 => []
  | k + 1 => if fitAt m who k then fitTo m who k ++ [(k : Int)] else fitTo m who k
def fittingL (m : SmyV) (who : Int) : List Int := fitTo m who m.desks.length
theorem fitTo_len (m : SmyV) (who : Int) : ∀ k, (fitTo m who k).length ≤ k
  | 0 => Nat.le_refl _
  | k + 1 => by
    have := fitTo_len m who k
    unfold fitTo
    split
    · simp; omega
    · omega
theorem fitTo_mem (m : SmyV) (who : Int) (x : Int) : ∀ k, x ∈ fitTo m who k ↔ ∃ b : Nat, b < k ∧ x = (b : Int) ∧ fitAt m who b = true
  | 0 => by simp [fitTo]
  | k + 1 => by
    have ih := fitTo_mem m who x k
    unfold fitTo
    split
    · rename_i hf
      rw [List.mem_append, ih]
      constructor
      · rintro (⟨b, hb, e, h⟩ | h)
        · exact ⟨b, by omega, e, h⟩
        · exact ⟨k, by omega, by simpa using h, hf⟩
      · rintro ⟨b, hb, e, h⟩
        by_cases hbk : b = k
        · subst hbk; right; simp [e]
        · left; exact ⟨b, by omega, e, h⟩
    · rename_i hf
      rw [ih]
      constructor
      · rintro ⟨b, hb, e, h⟩
        exact ⟨b, by omega, e, h⟩
      · rintro ⟨b, hb, e, h⟩
        by_cases hbk : b = k
        · subst hbk; exact absurd h hf
        · exact ⟨b, by omega, e, h⟩
def crowdAt (m : SmyV) (b : Nat) : Bool := (recAt m.desks b).1 && muchB (usedV m b (-1)) (forceV m.rooms b)
def crowdB (m : SmyV) : Bool := (List.range m.desks.length).any (crowdAt m)
/-- The cheapest of the fitting ones so far, and what it costs. -/
def stepBest (m : SmyV) (who : Int) (a : Int × Int) (b : Int) : Int × Int := if coalWithV m who b < a.2 ∨ (coalWithV m who b = a.2 ∧ b = (recAt m.smiths who.toNat).2.1) then (b, coalWithV m who b) else a
def bestTo (m : SmyV) (who : Int) (f : List Int) (k : Nat) : Int × Int := ((f.take k).drop 1).foldl (stepBest m who) (recAt f 0, coalWithV m who (recAt f 0))
/-- The one with most to spare so far. -/
def mostTo (m : SmyV) (who : Int) : Nat → Int × Int
  | 0 => (-1, 0)
  | k + 1 => if mayAt m who k && (decide ((mostTo m who k).1 < 0) || decide ((mostTo m who k).2 < spareV (usedV m k who) (forceV m.rooms k))) then ((k : Int), spareV (usedV m k who) (forceV m.rooms k)) else mostTo m who k
def chosenV (m : SmyV) (who : Int) : Int := if !crowdB m && decide (0 < (fittingL m who).length) then (bestTo m who (fittingL m who) (fittingL m who).length).1 else (mostTo m who m.desks.length).1
theorem most_or (m : SmyV) (who : Int) : ∀ k : Nat, ((mostTo m who k).1 = -1 ∧ ∀ b, b < k → mayAt m who b = false) ∨ ∃ b : Nat, b < k ∧ (mostTo m who k).1 = (b : Int) ∧ mayAt m who b = true
  | 0 => .inl ⟨rfl, fun b hb => by omega⟩
  | k + 1 => by
    have ih := most_or m who k
    unfold mostTo
    split
    · rename_i h
      simp only [Bool.and_eq_true] at h
      exact .inr ⟨k, by omega, rfl, h.1⟩
    · rename_i h
      rcases ih with ⟨e, hn⟩ | ⟨b, hb, e, hm⟩
      · refine .inl ⟨e, fun b hb => ?_⟩
        by_cases hbk : b = k
        · subst hbk
          cases hm : mayAt m who b
          · rfl
          · exfalso
            apply h
            rw [hm, e]
            rfl
        · exact hn b (by omega)
      · exact .inr ⟨b, by omega, e, hm⟩
end Go.Proofs.YtaegckehjlkaaaaGreat

