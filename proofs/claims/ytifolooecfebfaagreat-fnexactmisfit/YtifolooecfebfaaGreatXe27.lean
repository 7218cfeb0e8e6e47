/- What the proof rests on, part 27: lists and numbers, how they lie in memory, and contracts of the calls. No condition but those that a theorem names. -/
import Derived.Test.YtifolooecfebfaaGreatXe01
import Derived.Test.YtifolooecfebfaaGreatXe02
import Derived.Test.YtifolooecfebfaaGreatXe03
import Derived.Test.YtifolooecfebfaaGreatXe04
import Derived.Test.YtifolooecfebfaaGreatXe05
import Derived.Test.YtifolooecfebfaaGreatXe06
import Derived.Test.YtifolooecfebfaaGreatXe07
import Derived.Test.YtifolooecfebfaaGreatXe08
import Derived.Test.YtifolooecfebfaaGreatXe09
import Derived.Test.YtifolooecfebfaaGreatXe10
import Derived.Test.YtifolooecfebfaaGreatXe12
import Derived.Test.YtifolooecfebfaaGreatXe13
import Derived.Test.YtifolooecfebfaaGreatXe14
import Derived.Test.YtifolooecfebfaaGreatXe16
import Derived.Test.YtifolooecfebfaaGreatXe17
import Derived.Test.YtifolooecfebfaaGreatXe20
import Derived.Test.YtifolooecfebfaaGreatXe21
import Derived.Test.YtifolooecfebfaaGreatXe22
import Derived.Test.YtifolooecfebfaaGreatXe23
import Derived.Deep.LoopGhost
import Derived.WalkMore
import Derived.Below
import Derived.ChangeKeysEq
import Derived.Laws.StructEq
import GoSem.Claim
import GoSem.ClaimJoined
import GoSem.ClaimMapViews
import Derived.JoinedTies
import Derived.KernelRfl
import Derived.RowKit
import Derived.WalkKit
import Derived.ProofKit
import Derived.OpenShut
import Derived.Outline
import Derived.Lib.QuietBelow
import Derived.Deep.RegionHeld3
import Derived.Deep.DrawnRows
import Derived.BigRegion
import Derived.Deep.RegionLawGrows
import Derived.Deep.RegionWith
import Derived.Deep.QuietTactic
import Derived.BigQuiet
import Derived.Laws.OwnMore
import Derived.OwnWalk
import Derived.Maps.AppendAt
import Derived.RangeFuncNested
import Derived.RangeFuncBound
import Derived.RangeFuncCalls
import Derived.RangeFuncLeaves
import Derived.RangeFuncBox
import Derived.Shelf.Abstract
import Derived.Shelf.RegionOpen
import Derived.OwnWalkIn
import Derived.TacticsInMore
import Derived.LoopNIn
import Derived.LoopIn
import Derived.Lib.SmallJoins
import Derived.Deep.Fields
import Derived.Deep.Slices
import Derived.OrdersHeld
import Derived.Deep.RegionHeldLaw
import Derived.Deep.DeepCutAuto
/- What pace is wanted (l17Wanted), whether a bench is idle (l12Idle): the model's. Conditions: the smithy can be read; what each theorem names. -/
namespace Go.Proofs.YtifolooecfebfaaGreat
open Go.ChangeShapes Go.WideShapes Go.ChangeAt Go.RowKit Go.Sort
set_option linter.unusedVariables false
set_option maxRecDepth 100000

set_option maxHeartbeats 4000000 in
theorem l12Idle_any {w : World} {v0 v1 v2 v3 v4 : Value} {m : SmyV} {b : Nat} (h : Smy w v0 v1 v2 v3 v4 m) (hb0 : b < m.desks.length) (hl : m.smiths.length ≤ 800) :
    Calls Tryz.prog 51 #[.agg #[v0, v1, v2, v3, v4, .int .i64 m.now], .int .i64 (b : Int)] w fun e w' => e = .returned (.bool (idleB m b)) ∧ Below w.heap.size w w' := by
  have Hv := hide (h.alloc (.cells #[v0, v1, v2, v3, v4, .int .i64 m.now] 32))
  obtain ⟨a0, p0, rfl, _, _⟩ := IsRooms.shape h.rooms
  obtain ⟨a1, p1, rfl, _, _⟩ := IsRec.shape h.guilds
  obtain ⟨a2, p2, rfl, _, _⟩ := IsRec.shape h.smiths
  obtain ⟨a3, p3, rfl, _, _⟩ := IsRec.shape h.desks
  obtain ⟨a4, p4, rfl, _, _⟩ := IsRec.shape h.paces
  clear h
  have kb : Hid (Blk (w.alloc (.cells #[.slice a0 m.rooms.length p0, .slice a1 m.guilds.length p1, .slice a2 m.smiths.length p2, .slice a3 m.desks.length p3, .slice a4 m.paces.length p4, .int .i64 m.now] 32)) w.heap.size 32 #[.slice a0 m.rooms.length p0, .slice a1 m.guilds.length p1, .slice a2 m.smiths.length p2, .slice a3 m.desks.length p3, .slice a4 m.paces.length p4, .int .i64 m.now]) := hide (Blk.new w _ _)
  have BB : Hid (Below w.heap.size w (w.alloc (.cells #[.slice a0 m.rooms.length p0, .slice a1 m.guilds.length p1, .slice a2 m.smiths.length p2, .slice a3 m.desks.length p3, .slice a4 m.paces.length p4, .int .i64 m.now] 32))) := hide ((Below.refl _ _).alloc (Nat.le_refl _) _)
  have hb1 : (b : Int) < (m.desks.length : Int) := by omega
  obtain ⟨qs, hqs⟩ : ∃ q, atV m.smiths (b : Int) m.smiths.length = q := ⟨_, rfl⟩
  obtain ⟨op, hop⟩ : ∃ q, (recAt m.desks b).1 = q := ⟨_, rfl⟩
  have hI : idleB m b = (op && decide (qs.length = 0)) := by unfold idleB; rw [hqs, hop]
  rw [hI]
  have Hqs := hide hqs
  have Hop := hide hop
  clear hI hqs hop
  go_enter Tryz.func51, Tryz.ntmps51
  go_upto_region 1 with fail
  generalize w.alloc (.cells #[.slice a0 m.rooms.length p0, .slice a1 m.guilds.length p1, .slice a2 m.smiths.length p2, .slice a3 m.desks.length p3, .slice a4 m.paces.length p4, .int .i64 m.now] 32) = W at *
  obtain ⟨_, _, hde, _, _, r3⟩ := (unhide Hv).desks
  cases hde
  rcases r3 with e0 | ⟨db, off, rfl, hbw, hcl⟩
  · rw [e0] at hb0; simp at hb0
  obtain ⟨d0, _, _⟩ := desk_cells hcl hb0
  rw [unhide Hop] at d0
  clear hcl Hop
  have c0 := (unhide kb).cell (i := 0) (v := .slice a0 m.rooms.length p0) rfl
  have c1 := (unhide kb).cell (i := 1) (v := .slice a1 m.guilds.length p1) rfl
  have c2 := (unhide kb).cell (i := 2) (v := .slice a2 m.smiths.length p2) rfl
  have c3 := (unhide kb).cell (i := 3) (v := .slice (some ⟨db, off, none⟩) m.desks.length p3) rfl
  have c4 := (unhide kb).cell (i := 4) (v := .slice a4 m.paces.length p4) rfl
  have c5 := (unhide kb).cell (i := 5) (v := .int .i64 m.now) rfl
  cases op
  · go_wp2_with fail
    go_ret
    exact ⟨rfl, unhide BB⟩
  go_wp2_with fail
  refine (l11At_any (b : Int) (unhide Hv) (by omega)).mono ?_
  rw [unhide Hqs]
  rintro e w2 ⟨v', rfl, he, hb⟩
  obtain ⟨ua, uc, rfl⟩ := EntsAt.shape he
  replace BB := hide ((unhide BB).trans (hb.mono (unhide BB).size))
  clear hb he c0 c1 c2 c3 c4 c5
  go_wp2_with fail
  go_ret
  exact ⟨ret_bool (by rw [Bool.true_and, Bool.eq_iff_iff]; simp only [beq_iff_eq, decide_eq_true_eq]; omega), unhide BB⟩

end Go.Proofs.YtifolooecfebfaaGreat

/- Who is at a bench too weak while a strong one is idle: the model's. Condition: the smithy can be read. -/
namespace Go.Proofs.YtifolooecfebfaaGreat
open Go.ChangeShapes Go.WideShapes Go.ChangeAt Go.RowKit Go.Sort
set_option linter.unusedVariables false
set_option maxRecDepth 100000

set_option maxHeartbeats 8000000 in
theorem specMisfit_any {w : World} {v0 v1 v2 v3 v4 : Value} {m : SmyV} (h : Smy w v0 v1 v2 v3 v4 m) :
    Calls Tryz.prog 17 #[.agg #[v0, v1, v2, v3, v4, .int .i64 m.now]] w fun e w' => e = .returned (triV (misfitV m)) ∧ Below w.heap.size w w' := by
  have Hv0 := hide (h.alloc (.cells #[v0, v1, v2, v3, v4, .int .i64 m.now] 32))
  obtain ⟨a0, p0, rfl, _, _⟩ := IsRooms.shape h.rooms
  obtain ⟨a1, p1, rfl, _, _⟩ := IsRec.shape h.guilds
  obtain ⟨a2, p2, rfl, _, _⟩ := IsRec.shape h.smiths
  obtain ⟨a3, p3, rfl, _, _⟩ := IsRec.shape h.desks
  obtain ⟨a4, p4, rfl, _, _⟩ := IsRec.shape h.paces
  clear h
  have kb0 : Hid (Blk (w.alloc (.cells #[.slice a0 m.rooms.length p0, .slice a1 m.guilds.length p1, .slice a2 m.smiths.length p2, .slice a3 m.desks.length p3, .slice a4 m.paces.length p4, .int .i64 m.now] 32)) w.heap.size 32 #[.slice a0 m.rooms.length p0, .slice a1 m.guilds.length p1, .slice a2 m.smiths.length p2, .slice a3 m.desks.length p3, .slice a4 m.paces.length p4, .int .i64 m.now]) := hide (Blk.new w _ _)
  have BB0 : Hid (Below w.heap.size w (w.alloc (.cells #[.slice a0 m.rooms.length p0, .slice a1 m.guilds.length p1, .slice a2 m.smiths.length p2, .slice a3 m.desks.length p3, .slice a4 m.paces.length p4, .int .i64 m.now] 32))) := hide ((Below.refl _ _).alloc (Nat.le_refl _) _)
  obtain ⟨tv, htv⟩ : ∃ t, triV (misfitV m) = t := ⟨_, rfl⟩
  rw [htv]
  obtain ⟨ok, hok⟩ : ∃ q, smyB m = q := ⟨_, rfl⟩
  have Hok := hide hok
  have HT := hide htv
  clear hok htv
  cases ok
  · obtain rfl : tv = .tuple #[.int .i64 0, .int .i64 0, .bool false] := by rw [← unhide HT]; unfold misfitV; rw [unhide Hok]; rfl
    go_enter Tryz.func17, Tryz.ntmps17
    go_wp2_with fail
    go_loopw [5] (fun i wr => i = .int .i64 0 ∧ Blk wr w.heap.size 32 #[.slice a0 m.rooms.length p0, .slice a1 m.guilds.length p1, .slice a2 m.smiths.length p2, .slice a3 m.desks.length p3, .slice a4 m.paces.length p4, .int .i64 m.now] ∧ Smy wr (.slice a0 m.rooms.length p0) (.slice a1 m.guilds.length p1) (.slice a2 m.smiths.length p2) (.slice a3 m.desks.length p3) (.slice a4 m.paces.length p4) m ∧ Below w.heap.size w wr) (fun _ _ => 1)
    case atStart => exact ⟨rfl, unhide kb0, unhide Hv0, unhide BB0⟩
    case round =>
      obtain ⟨rfl, hkb, hv, hb0⟩ := hrel
      have kb := hide hkb
      have Hv := hide hv
      have BB := hide hb0
      clear hkb hv hb0 kb0 Hv0 BB0
      have c0 := (unhide kb).cell (i := 0) (v := .slice a0 m.rooms.length p0) rfl
      have c1 := (unhide kb).cell (i := 1) (v := .slice a1 m.guilds.length p1) rfl
      have c2 := (unhide kb).cell (i := 2) (v := .slice a2 m.smiths.length p2) rfl
      have c3 := (unhide kb).cell (i := 3) (v := .slice a3 m.desks.length p3) rfl
      have c4 := (unhide kb).cell (i := 4) (v := .slice a4 m.paces.length p4) rfl
      have c5 := (unhide kb).cell (i := 5) (v := .int .i64 m.now) rfl
      by_cases hlt : 0 < m.smiths.length
      · have hlt1 : (0 : Int) < (m.smiths.length : Int) := by omega
        go_wp2_with fail
        refine (spec_q (unhide Hok) (unhide Hv)).mono ?_
        rintro e w1 ⟨rfl, hb⟩
        replace BB := hide ((unhide BB).trans (hb.mono (unhide BB).size))
        clear hb
        go_wp2_with fail
        refine bodyPost_ret (v := .tuple #[.int .i64 0, .int .i64 0, .bool false]) (by simp [results, Tryz.results17, go_sem]) rfl ⟨rfl, unhide BB⟩
      · have hlt1 : ¬ ((0 : Int) < (m.smiths.length : Int)) := by omega
        go_wp2_with fail
        refine bodyPost_ret (v := .tuple #[.int .i64 0, .int .i64 0, .bool false]) (by simp [results, Tryz.results17, go_sem]) rfl ⟨rfl, unhide BB⟩
  have hlo := smy_loose (unhide Hok)
  have HLo := hide hlo
  have HSa := hide hlo.sane
  have h12 := smy_twelve hlo
  have h8 := bench_few hlo
  clear hlo
  have HW : Hid (tv = triV (misTo m m.smiths.length)) := hide (by rw [← unhide HT]; unfold misfitV; rw [unhide Hok]; rfl)
  clear HT
  go_enter Tryz.func17, Tryz.ntmps17
  go_wp2_with fail
  go_loopw [5] (fun i wr => ∃ k : Nat, k ≤ m.smiths.length ∧ i = .int .i64 k ∧ misTo m k = none ∧ Blk wr w.heap.size 32 #[.slice a0 m.rooms.length p0, .slice a1 m.guilds.length p1, .slice a2 m.smiths.length p2, .slice a3 m.desks.length p3, .slice a4 m.paces.length p4, .int .i64 m.now] ∧ Smy wr (.slice a0 m.rooms.length p0) (.slice a1 m.guilds.length p1) (.slice a2 m.smiths.length p2) (.slice a3 m.desks.length p3) (.slice a4 m.paces.length p4) m ∧ Below w.heap.size w wr) (fun i _ => m.smiths.length - (intOf i).toNat)
  case atStart => exact ⟨0, Nat.zero_le _, rfl, rfl, unhide kb0, unhide Hv0, unhide BB0⟩
  case round =>
    obtain ⟨k, hk, rfl, hno, hkb, hv, hb0⟩ := hrel
    have Hno := hide hno
    clear hno
    have kb := hide hkb
    have Hv := hide hv
    have BB := hide hb0
    clear hkb hv hb0
    clear kb0 Hv0 BB0
    have c0 := (unhide kb).cell (i := 0) (v := .slice a0 m.rooms.length p0) rfl
    have c1 := (unhide kb).cell (i := 1) (v := .slice a1 m.guilds.length p1) rfl
    have c2 := (unhide kb).cell (i := 2) (v := .slice a2 m.smiths.length p2) rfl
    have c3 := (unhide kb).cell (i := 3) (v := .slice a3 m.desks.length p3) rfl
    have c4 := (unhide kb).cell (i := 4) (v := .slice a4 m.paces.length p4) rfl
    have c5 := (unhide kb).cell (i := 5) (v := .int .i64 m.now) rfl
    by_cases hlt : k < m.smiths.length
    rotate_left
    · have hlt1 : ¬ ((k : Int) < (m.smiths.length : Int)) := by omega
      obtain rfl : k = m.smiths.length := by omega
      obtain rfl : tv = .tuple #[.int .i64 0, .int .i64 0, .bool false] := by rw [unhide HW, unhide Hno]; rfl
      go_wp2_with fail
      refine bodyPost_ret (v := .tuple #[.int .i64 0, .int .i64 0, .bool false]) (by simp [results, Tryz.results17, go_sem]) rfl ⟨rfl, unhide BB⟩
    have hlt1 : (k : Int) < (m.smiths.length : Int) := by omega
    go_wp2_with fail
    refine (spec_q (unhide Hok) (unhide Hv)).mono ?_
    rintro e w1 ⟨rfl, hb⟩
    replace Hv := hide ((unhide Hv).below hb)
    replace kb := hide ((unhide kb).below hb (unhide kb).lt)
    replace BB := hide ((unhide BB).trans (hb.mono (unhide BB).size))
    clear hb c0 c1 c2 c3 c4 c5
    have HN : Hid (∀ w9, misAt m k = w9 → misTo m (k + 1) = w9.map fun x => (k, x)) := hide (fun w9 e => by unfold misTo; rw [unhide Hno, e])
    have HMB : Hid (misB m k = (presS (recAt m.smiths k) && !fitsB (wantV m (k : Int)) 0 (forceV m.rooms (recAt m.smiths k).2.1))) := hide rfl
    obtain ⟨_, _, hse, _, _, r2⟩ := (unhide Hv).smiths
    cases hse
    rcases r2 with e0 | ⟨sb, off, rfl, hbw, hcl⟩
    · rw [e0] at hlt; simp at hlt
    obtain ⟨d0, d1, d2, d3, d4, d5, d6, d7, d8, d9, d10⟩ := smith_cells hcl hlt
    clear hcl
    obtain ⟨ps, hps⟩ : ∃ q, presS (recAt m.smiths k) = q := ⟨_, rfl⟩
    obtain ⟨fi, hfi⟩ : ∃ q, fitsB (wantV m (k : Int)) 0 (forceV m.rooms (recAt m.smiths k).2.1) = q := ⟨_, rfl⟩
    have HM2 : Hid (misB m k = (ps && !fi)) := hide (by rw [unhide HMB, hps, hfi])
    have HP0 := hide hps
    have HA1 : Hid (ps = true → 0 ≤ (recAt m.smiths k).2.1 ∧ (recAt m.smiths k).2.1 < m.desks.length ∧ -1 ≤ (recAt m.smiths k).2.2.2.2.1 ∧ (recAt m.smiths k).2.2.2.2.1 < m.guilds.length ∧ 0 ≤ (recAt m.smiths k).2.2.2.1 ∧ (recAt m.smiths k).2.2.2.1 ≤ 255) := hide (fun e => by
      have hp := (unhide HP0).trans e
      have h1 := (unhide HLo).at hlt hp
      have h2 := (unhide HLo).limits hlt (pres_ne hp)
      have h3 := h2.1
      have h4 := h2.2.1
      have a0 := h1.1
      have a1 := h1.2.1
      generalize recAt m.smiths k = s at *
      obtain ⟨st, be, rk, my, gu, lo', hi', hd, ca, ut, wk⟩ := s
      have h5 := presB_of h3
      exact ⟨a0, a1, h5.2.2.2.2.1.1, h4, by show 0 ≤ my; omega, h5.2.2.2.1.2⟩)
    have HG := hide (unhide HSa).guilded.guilds
    have Hwa := hide (fun (e : ps = true) (X : World) (hX : Smy X (.slice a0 m.rooms.length p0) (.slice a1 m.guilds.length p1) (.slice (some ⟨sb, off, none⟩) m.smiths.length p2) (.slice a3 m.desks.length p3) (.slice a4 m.paces.length p4) m) => l11Want_any hX (unhide HG) hlt (unhide HA1 e).2.2.1 (unhide HA1 e).2.2.2.1)
    have Hfo := hide (fun (e : ps = true) (X : World) (hX : Smy X (.slice a0 m.rooms.length p0) (.slice a1 m.guilds.length p1) (.slice (some ⟨sb, off, none⟩) m.smiths.length p2) (.slice a3 m.desks.length p3) (.slice a4 m.paces.length p4) m) => l4Force_any (recAt m.smiths k).2.1 hX.rooms (by
      have h9 := unhide HA1 e
      obtain ⟨j9, e9⟩ : ∃ j : Nat, (recAt m.smiths k).2.1 = (j : Int) := ⟨(recAt m.smiths k).2.1.toNat, by omega⟩
      rw [e9]
      exact (unhide HSa).bench (by omega)))
    have HFv : Hid (ps = true → lastForce (roomAt m.rooms (roomN m.rooms (recAt m.smiths k).2.1)).2 = forceV m.rooms (recAt m.smiths k).2.1) := hide (fun e => (forceV_t (by
      have h9 := unhide HA1 e
      obtain ⟨j9, e9⟩ : ∃ j : Nat, (recAt m.smiths k).2.1 = (j : Int) := ⟨(recAt m.smiths k).2.1.toNat, by omega⟩
      rw [e9]
      exact (unhide HSa).bench (by omega))).symm)
    have Hmy := hide (fun (e : ps = true) => (unhide HA1 e).2.2.2.2)
    obtain ⟨⟨st, be, rk, my, gu, lo, hi, hd, ca, ut, wk⟩, hrk⟩ : ∃ d, recAt m.smiths k = d := ⟨_, rfl⟩
    rw [hrk] at d0 d1 d2 d3 d4 d5 d6 d7 d8 d9 d10 hps hfi Hfo HFv
    simp only at d0 d1 d2 d3 d4 d5 d6 d7 d8 d9 d10 hfi Hfo HFv
    have Hps := hide hps
    have Hfi := hide hfi
    have Hrk := hide hrk
    clear hps hfi hrk HMB HP0
    have hsbw : sb < w1.heap.size := hbw
    have c0 := (unhide kb).cell (i := 0) (v := .slice a0 m.rooms.length p0) rfl
    have c1 := (unhide kb).cell (i := 1) (v := .slice a1 m.guilds.length p1) rfl
    have c2 := (unhide kb).cell (i := 2) (v := .slice (some ⟨sb, off, none⟩) m.smiths.length p2) rfl
    have c3 := (unhide kb).cell (i := 3) (v := .slice a3 m.desks.length p3) rfl
    have c4 := (unhide kb).cell (i := 4) (v := .slice a4 m.paces.length p4) rfl
    have c5 := (unhide kb).cell (i := 5) (v := .int .i64 m.now) rfl
    go_upto_region 5 with fail
    clear d0 d1 d2 d3 d4 d5 d6 d7 d8 d9 d10 c0 c1 c2 c3 c4 c5
    have hba : Below w1.heap.size w1 (w1.alloc (.cells #[.int .i64 st, .int .i64 be, .int .i64 rk, .int .i64 my, .int .i64 gu, .int .i64 lo, .int .i64 hi, .int .i64 hd, .int .i64 ca, .int .i64 ut, .int .i64 wk] 42)) := (Below.refl _ _).alloc (Nat.le_refl _) _
    have ks : Hid (Blk (w1.alloc (.cells #[.int .i64 st, .int .i64 be, .int .i64 rk, .int .i64 my, .int .i64 gu, .int .i64 lo, .int .i64 hi, .int .i64 hd, .int .i64 ca, .int .i64 ut, .int .i64 wk] 42)) w1.heap.size 42 #[.int .i64 st, .int .i64 be, .int .i64 rk, .int .i64 my, .int .i64 gu, .int .i64 lo, .int .i64 hi, .int .i64 hd, .int .i64 ca, .int .i64 ut, .int .i64 wk]) := hide (Blk.new _ _ _)
    replace Hv := hide ((unhide Hv).below hba)
    replace kb := hide ((unhide kb).below hba (unhide kb).lt)
    replace BB := hide ((unhide BB).trans (hba.mono (unhide BB).size))
    clear hba hsbw hbw
    generalize w1.alloc (.cells #[.int .i64 st, .int .i64 be, .int .i64 rk, .int .i64 my, .int .i64 gu, .int .i64 lo, .int .i64 hi, .int .i64 hd, .int .i64 ca, .int .i64 ut, .int .i64 wk] 42) = WQ at *
    generalize w1.heap.size = sx at *
    have c0 := (unhide kb).cell (i := 0) (v := .slice a0 m.rooms.length p0) rfl
    have c1 := (unhide kb).cell (i := 1) (v := .slice a1 m.guilds.length p1) rfl
    have c2 := (unhide kb).cell (i := 2) (v := .slice (some ⟨sb, off, none⟩) m.smiths.length p2) rfl
    have c3 := (unhide kb).cell (i := 3) (v := .slice a3 m.desks.length p3) rfl
    have c4 := (unhide kb).cell (i := 4) (v := .slice a4 m.paces.length p4) rfl
    have c5 := (unhide kb).cell (i := 5) (v := .int .i64 m.now) rfl
    have y0 := cell_regrown c0
    have y1 := cell_regrown c1
    have y2 := cell_regrown c2
    have y3 := cell_regrown c3
    have y4 := cell_regrown c4
    have y5 := cell_regrown c5
    have s0 := cell_regrown ((unhide ks).cell (i := 0) (v := .int .i64 st) rfl)
    have s1 := cell_regrown ((unhide ks).cell (i := 1) (v := .int .i64 be) rfl)
    have s2 := cell_regrown ((unhide ks).cell (i := 2) (v := .int .i64 rk) rfl)
    have s3 := cell_regrown ((unhide ks).cell (i := 3) (v := .int .i64 my) rfl)
    have s4 := cell_regrown ((unhide ks).cell (i := 4) (v := .int .i64 gu) rfl)
    have s5 := cell_regrown ((unhide ks).cell (i := 5) (v := .int .i64 lo) rfl)
    have s6 := cell_regrown ((unhide ks).cell (i := 6) (v := .int .i64 hi) rfl)
    have s7 := cell_regrown ((unhide ks).cell (i := 7) (v := .int .i64 hd) rfl)
    have s8 := cell_regrown ((unhide ks).cell (i := 8) (v := .int .i64 ca) rfl)
    have s9 := cell_regrown ((unhide ks).cell (i := 9) (v := .int .i64 ut) rfl)
    have s10 := cell_regrown ((unhide ks).cell (i := 10) (v := .int .i64 wk) rfl)
    have H1 := hide (fun (X : World) => l11Present_q (unhide Hps) X)
    cases ps
    · have hm0 : misAt m k = none := by unfold misAt; rw [unhide HM2]; rfl
      have Hm0 := hide hm0
      clear hm0
      go_wp2_with fail
      refine wp_region_quiet_below (by kernel_rfl) (by kernel_rfl) ?_
      repeat (go_big_quiet_step (first | exact Calls.regrown_of (unhide H1 _)))
      refine wpQuiet_nil ?_
      intro W9 hw'
      have hb : Below WQ.heap.size WQ W9 := by
        obtain ⟨⟨dq, osq⟩, hw''⟩ := hw'
        subst hw''
        exact below_regrown _ _ _
      clear hw'
      replace Hv := hide ((unhide Hv).below hb)
      replace kb := hide ((unhide kb).below hb (unhide kb).lt)
      replace BB := hide ((unhide BB).trans (hb.mono (unhide BB).size))
      clear hb
      go_wp2_with fail
      go_roundw
      case rel => exact ⟨k + 1, by omega, by go_num, by rw [unhide HN none (unhide Hm0)]; rfl, unhide kb, unhide Hv, unhide BB⟩
      case measure => simp [intOf]; omega
    have H2 := hide (fun (X : World) (hX : Below WQ.heap.size WQ X) => unhide Hwa rfl X ((unhide Hv).below hX))
    have H3 := hide (fun (X : World) (hX : Below WQ.heap.size WQ X) => unhide Hfo rfl X ((unhide Hv).below hX))
    rw [unhide HFv rfl] at H3
    have H4 := hide (fun (X : World) => Calls.bool_of (Calls.same_below (specFitsIn_any (wantV m (k : Int)) 0 (forceV m.rooms be) X)) (unhide Hfi))
    have Hmy2 := hide (unhide Hmy rfl)
    obtain ⟨wa, hwa⟩ : ∃ q, wantV m (k : Int) = q := ⟨_, rfl⟩
    obtain ⟨fo, hfo⟩ : ∃ q, forceV m.rooms be = q := ⟨_, rfl⟩
    have HWb := hide (fun (X : World) (hX : Smy X (.slice a0 m.rooms.length p0) (.slice a1 m.guilds.length p1) (.slice (some ⟨sb, off, none⟩) m.smiths.length p2) (.slice a3 m.desks.length p3) (.slice a4 m.paces.length p4) m) => unhide Hwa rfl X hX)
    rw [hwa] at H2 H4 HWb
    rw [hfo] at H3 H4
    have HWa := hide hwa
    clear hwa hfo Hwa Hfo HFv Hmy
    cases fi
    rotate_left
    · have hm0 : misAt m k = none := by unfold misAt; rw [unhide HM2]; rfl
      have Hm0 := hide hm0
      clear hm0
      go_wp2_with fail
      refine wp_region_quiet_below (by kernel_rfl) (by kernel_rfl) ?_
      repeat (go_big_quiet_step (first | exact Calls.regrown_of (unhide H1 _) | exact Calls.regrown_of (unhide H2 _ (below_regrown _ _ _)) | exact Calls.regrown_of (unhide H3 _ (below_regrown _ _ _)) | exact Calls.regrown_of (unhide H4 _)))
      refine wpQuiet_nil ?_
      intro W9 hw'
      have hb : Below WQ.heap.size WQ W9 := by
        obtain ⟨⟨dq, osq⟩, hw''⟩ := hw'
        subst hw''
        exact below_regrown _ _ _
      clear hw'
      replace Hv := hide ((unhide Hv).below hb)
      replace kb := hide ((unhide kb).below hb (unhide kb).lt)
      replace BB := hide ((unhide BB).trans (hb.mono (unhide BB).size))
      clear hb
      go_wp2_with fail
      go_roundw
      case rel => exact ⟨k + 1, by omega, by go_num, by rw [unhide HN none (unhide Hm0)]; rfl, unhide kb, unhide Hv, unhide BB⟩
      case measure => simp [intOf]; omega
    have HMA : Hid (misAt m k = goodTo m k m.desks.length) := hide (by unfold misAt; rw [unhide HM2]; rfl)
    go_wp2_with fail
    refine wp_region_quiet_below (by kernel_rfl) (by kernel_rfl) ?_
    repeat (go_big_quiet_step (first | exact Calls.regrown_of (unhide H1 _) | exact Calls.regrown_of (unhide H2 _ (below_regrown _ _ _)) | exact Calls.regrown_of (unhide H3 _ (below_regrown _ _ _)) | exact Calls.regrown_of (unhide H4 _)))
    refine wpQuiet_nil ?_
    intro W9 hw'
    have hb : Below WQ.heap.size WQ W9 := by
      obtain ⟨⟨dq, osq⟩, hw''⟩ := hw'
      subst hw''
      exact below_regrown _ _ _
    clear hw'
    replace Hv := hide ((unhide Hv).below hb)
    replace kb := hide ((unhide kb).below hb (unhide kb).lt)
    replace BB := hide ((unhide BB).trans (hb.mono (unhide BB).size))
    clear hb c0 c1 c2 c3 c4 c5 s0 s1 s2 s3 s4 s5 s6 s7 s8 s9 s10 y0 y1 y2 y3 y4 y5 H1 H2 H3 H4 ks
    go_wp2_with fail
    go_loopw [7] (fun i wr => ∃ j : Nat, j ≤ m.desks.length ∧ i = .int .i64 j ∧ goodTo m k j = none ∧ Blk wr w.heap.size 32 #[.slice a0 m.rooms.length p0, .slice a1 m.guilds.length p1, .slice (some ⟨sb, off, none⟩) m.smiths.length p2, .slice a3 m.desks.length p3, .slice a4 m.paces.length p4, .int .i64 m.now] ∧ Smy wr (.slice a0 m.rooms.length p0) (.slice a1 m.guilds.length p1) (.slice (some ⟨sb, off, none⟩) m.smiths.length p2) (.slice a3 m.desks.length p3) (.slice a4 m.paces.length p4) m ∧ Below w.heap.size w wr) (fun i _ => m.desks.length - (intOf i).toNat)
    case atStart => exact ⟨0, Nat.zero_le _, rfl, rfl, unhide kb, unhide Hv, unhide BB⟩
    case round =>
      obtain ⟨j, hj, rfl, hno2, hkb, hv, hb0⟩ := hrel
      have Hno2 := hide hno2
      obtain ⟨WQ, rfl⟩ : ∃ x, x = wr := ⟨wr, rfl⟩
      clear hno2 kb Hv BB
      have kb := hide hkb
      have Hv := hide hv
      have BB := hide hb0
      clear hkb hv hb0
      have c0 := (unhide kb).cell (i := 0) (v := .slice a0 m.rooms.length p0) rfl
      have c1 := (unhide kb).cell (i := 1) (v := .slice a1 m.guilds.length p1) rfl
      have c2 := (unhide kb).cell (i := 2) (v := .slice (some ⟨sb, off, none⟩) m.smiths.length p2) rfl
      have c3 := (unhide kb).cell (i := 3) (v := .slice a3 m.desks.length p3) rfl
      have c4 := (unhide kb).cell (i := 4) (v := .slice a4 m.paces.length p4) rfl
      have c5 := (unhide kb).cell (i := 5) (v := .int .i64 m.now) rfl
      by_cases hlj : j < m.desks.length
      rotate_left
      · have hlj1 : ¬ ((j : Int) < (m.desks.length : Int)) := by omega
        obtain rfl : j = m.desks.length := by omega
        go_wp2_with fail
        go_roundw
        case rel => exact ⟨k + 1, by omega, by go_num, by rw [unhide HN none (by rw [unhide HMA]; exact unhide Hno2)]; rfl, unhide kb, unhide Hv, unhide BB⟩
        case measure => simp [intOf]; omega
      have hlj1 : (j : Int) < (m.desks.length : Int) := by omega
      have HS : Hid (∀ q, goodB m k j = q → goodTo m k (j + 1) = if q then some j else none) := hide (fun q e => by unfold goodTo; rw [unhide Hno2, e])
      obtain ⟨qi, hqi⟩ : ∃ q, idleB m j = q := ⟨_, rfl⟩
      obtain ⟨qm, hqm⟩ : ∃ q, mayAt m (k : Int) j = q := ⟨_, rfl⟩
      obtain ⟨qf, hqf⟩ : ∃ q, fitsB wa 0 (forceV m.rooms (j : Int)) = q := ⟨_, rfl⟩
      have HB2 : Hid (goodB m k j = (qi && (qm && qf))) := hide (by unfold goodB; rw [hqi, hqm, unhide HWa, hqf])
      have hfov := forceV_t ((unhide HSa).bench hlj)
      have H1 := hide (fun (X : World) (hX : Below WQ.heap.size WQ X) => Calls.bool_of (l12Idle_any ((unhide Hv).below hX) hlj (by omega)) hqi)
      have H2 := hide (fun (X : World) (hX : Below WQ.heap.size WQ X) => Calls.bool_of (l14May_any ((unhide Hv).below hX) hlt hlj (by omega) (unhide Hmy2).1 (unhide Hmy2).2) hqm)
      have H3 := hide (fun (X : World) (hX : Below WQ.heap.size WQ X) => unhide HWb X ((unhide Hv).below hX))
      have H4 := hide (fun (X : World) (hX : Below WQ.heap.size WQ X) => l4Force_any (j : Int) ((unhide Hv).below hX).rooms ((unhide HSa).bench hlj))
      rw [← hfov] at H4
      have H5 := hide (fun (X : World) => Calls.bool_of (Calls.same_below (specFitsIn_any wa 0 (forceV m.rooms (j : Int)) X)) hqf)
      clear hqi hqm hqf hfov
      generalize forceV m.rooms (j : Int) = fj at *
      have y0 := cell_regrown c0
      have y1 := cell_regrown c1
      have y2 := cell_regrown c2
      have y3 := cell_regrown c3
      have y4 := cell_regrown c4
      have y5 := cell_regrown c5
      cases qi
      · go_wp2_with fail
        refine wp_region_quiet_below (by kernel_rfl) (by kernel_rfl) ?_
        repeat (go_big_quiet_step (first | exact Calls.regrown_of (unhide H1 _ (below_regrown _ _ _)) | exact Calls.regrown_of (unhide H2 _ (below_regrown _ _ _)) | exact Calls.regrown_of (unhide H3 _ (below_regrown _ _ _)) | exact Calls.regrown_of (unhide H4 _ (below_regrown _ _ _)) | exact Calls.regrown_of (unhide H5 _)))
        refine wpQuiet_nil ?_
        intro W9 hw'
        have hb : Below WQ.heap.size WQ W9 := by
          obtain ⟨⟨dq, osq⟩, hw''⟩ := hw'
          subst hw''
          exact below_regrown _ _ _
        clear hw'
        replace Hv := hide ((unhide Hv).below hb)
        replace kb := hide ((unhide kb).below hb (unhide kb).lt)
        replace BB := hide ((unhide BB).trans (hb.mono (unhide BB).size))
        clear hb
        go_wp2_with fail
        go_roundw
        case rel => exact ⟨j + 1, by omega, by go_num, by rw [unhide HS _ (unhide HB2)]; rfl, unhide kb, unhide Hv, unhide BB⟩
        case measure => simp [intOf]; omega
      cases qm
      · go_wp2_with fail
        refine wp_region_quiet_below (by kernel_rfl) (by kernel_rfl) ?_
        repeat (go_big_quiet_step (first | exact Calls.regrown_of (unhide H1 _ (below_regrown _ _ _)) | exact Calls.regrown_of (unhide H2 _ (below_regrown _ _ _)) | exact Calls.regrown_of (unhide H3 _ (below_regrown _ _ _)) | exact Calls.regrown_of (unhide H4 _ (below_regrown _ _ _)) | exact Calls.regrown_of (unhide H5 _)))
        refine wpQuiet_nil ?_
        intro W9 hw'
        have hb : Below WQ.heap.size WQ W9 := by
          obtain ⟨⟨dq, osq⟩, hw''⟩ := hw'
          subst hw''
          exact below_regrown _ _ _
        clear hw'
        replace Hv := hide ((unhide Hv).below hb)
        replace kb := hide ((unhide kb).below hb (unhide kb).lt)
        replace BB := hide ((unhide BB).trans (hb.mono (unhide BB).size))
        clear hb
        go_wp2_with fail
        go_roundw
        case rel => exact ⟨j + 1, by omega, by go_num, by rw [unhide HS _ (unhide HB2)]; rfl, unhide kb, unhide Hv, unhide BB⟩
        case measure => simp [intOf]; omega
      cases qf
      · go_wp2_with fail
        refine wp_region_quiet_below (by kernel_rfl) (by kernel_rfl) ?_
        repeat (go_big_quiet_step (first | exact Calls.regrown_of (unhide H1 _ (below_regrown _ _ _)) | exact Calls.regrown_of (unhide H2 _ (below_regrown _ _ _)) | exact Calls.regrown_of (unhide H3 _ (below_regrown _ _ _)) | exact Calls.regrown_of (unhide H4 _ (below_regrown _ _ _)) | exact Calls.regrown_of (unhide H5 _)))
        refine wpQuiet_nil ?_
        intro W9 hw'
        have hb : Below WQ.heap.size WQ W9 := by
          obtain ⟨⟨dq, osq⟩, hw''⟩ := hw'
          subst hw''
          exact below_regrown _ _ _
        clear hw'
        replace Hv := hide ((unhide Hv).below hb)
        replace kb := hide ((unhide kb).below hb (unhide kb).lt)
        replace BB := hide ((unhide BB).trans (hb.mono (unhide BB).size))
        clear hb
        go_wp2_with fail
        go_roundw
        case rel => exact ⟨j + 1, by omega, by go_num, by rw [unhide HS _ (unhide HB2)]; rfl, unhide kb, unhide Hv, unhide BB⟩
        case measure => simp [intOf]; omega
      go_wp2_with fail
      refine wp_region_quiet_below (by kernel_rfl) (by kernel_rfl) ?_
      repeat (go_big_quiet_step (first | exact Calls.regrown_of (unhide H1 _ (below_regrown _ _ _)) | exact Calls.regrown_of (unhide H2 _ (below_regrown _ _ _)) | exact Calls.regrown_of (unhide H3 _ (below_regrown _ _ _)) | exact Calls.regrown_of (unhide H4 _ (below_regrown _ _ _)) | exact Calls.regrown_of (unhide H5 _)))
      refine wpQuiet_nil ?_
      intro W9 hw'
      have hb : Below WQ.heap.size WQ W9 := by
        obtain ⟨⟨dq, osq⟩, hw''⟩ := hw'
        subst hw''
        exact below_regrown _ _ _
      clear hw'
      replace Hv := hide ((unhide Hv).below hb)
      replace kb := hide ((unhide kb).below hb (unhide kb).lt)
      replace BB := hide ((unhide BB).trans (hb.mono (unhide BB).size))
      clear hb
      have HR : Hid (tv = .tuple #[.int .i64 (k : Int), .int .i64 (j : Int), .bool true]) := hide (by
        rw [unhide HW, mis_stay (k := k + 1) (w := k) (b := j) (by rw [unhide HN (some j) (by rw [unhide HMA]; exact good_stay (k := j + 1) (by rw [unhide HS _ (unhide HB2)]; rfl) (by omega))]; rfl) (by omega)]
        rfl)
      obtain rfl := unhide HR
      go_wp2_with fail
      refine bodyPost_ret (v := .tuple #[.int .i64 (k : Int), .int .i64 (j : Int), .bool true]) (by simp [results, Tryz.results17, go_sem]) rfl ⟨rfl, unhide BB⟩

end Go.Proofs.YtifolooecfebfaaGreat

/- Who waits where a bench is idle: the model's. Condition: the smithy can be read. -/
namespace Go.Proofs.YtifolooecfebfaaGreat
open Go.ChangeShapes Go.WideShapes Go.ChangeAt Go.RowKit Go.Sort
set_option linter.unusedVariables false
set_option maxRecDepth 100000

set_option maxHeartbeats 8000000 in
theorem specWaiting_any {w : World} {v0 v1 v2 v3 v4 : Value} {m : SmyV} (h : Smy w v0 v1 v2 v3 v4 m) :
    Calls Tryz.prog 18 #[.agg #[v0, v1, v2, v3, v4, .int .i64 m.now]] w fun e w' => e = .returned (triV (waitingV m)) ∧ Below w.heap.size w w' := by
  have Hv0 := hide (h.alloc (.cells #[v0, v1, v2, v3, v4, .int .i64 m.now] 32))
  obtain ⟨a0, p0, rfl, _, _⟩ := IsRooms.shape h.rooms
  obtain ⟨a1, p1, rfl, _, _⟩ := IsRec.shape h.guilds
  obtain ⟨a2, p2, rfl, _, _⟩ := IsRec.shape h.smiths
  obtain ⟨a3, p3, rfl, _, _⟩ := IsRec.shape h.desks
  obtain ⟨a4, p4, rfl, _, _⟩ := IsRec.shape h.paces
  clear h
  have kb0 : Hid (Blk (w.alloc (.cells #[.slice a0 m.rooms.length p0, .slice a1 m.guilds.length p1, .slice a2 m.smiths.length p2, .slice a3 m.desks.length p3, .slice a4 m.paces.length p4, .int .i64 m.now] 32)) w.heap.size 32 #[.slice a0 m.rooms.length p0, .slice a1 m.guilds.length p1, .slice a2 m.smiths.length p2, .slice a3 m.desks.length p3, .slice a4 m.paces.length p4, .int .i64 m.now]) := hide (Blk.new w _ _)
  have BB0 : Hid (Below w.heap.size w (w.alloc (.cells #[.slice a0 m.rooms.length p0, .slice a1 m.guilds.length p1, .slice a2 m.smiths.length p2, .slice a3 m.desks.length p3, .slice a4 m.paces.length p4, .int .i64 m.now] 32))) := hide ((Below.refl _ _).alloc (Nat.le_refl _) _)
  obtain ⟨tv, htv⟩ : ∃ t, triV (waitingV m) = t := ⟨_, rfl⟩
  rw [htv]
  obtain ⟨ok, hok⟩ : ∃ q, smyB m = q := ⟨_, rfl⟩
  have Hok := hide hok
  have HT := hide htv
  clear hok htv
  cases ok
  · obtain rfl : tv = .tuple #[.int .i64 0, .int .i64 0, .bool false] := by rw [← unhide HT]; unfold waitingV; rw [unhide Hok]; rfl
    go_enter Tryz.func18, Tryz.ntmps18
    go_wp2_with fail
    go_loopw [5] (fun i wr => i = .int .i64 0 ∧ Blk wr w.heap.size 32 #[.slice a0 m.rooms.length p0, .slice a1 m.guilds.length p1, .slice a2 m.smiths.length p2, .slice a3 m.desks.length p3, .slice a4 m.paces.length p4, .int .i64 m.now] ∧ Smy wr (.slice a0 m.rooms.length p0) (.slice a1 m.guilds.length p1) (.slice a2 m.smiths.length p2) (.slice a3 m.desks.length p3) (.slice a4 m.paces.length p4) m ∧ Below w.heap.size w wr) (fun _ _ => 1)
    case atStart => exact ⟨rfl, unhide kb0, unhide Hv0, unhide BB0⟩
    case round =>
      obtain ⟨rfl, hkb, hv, hb0⟩ := hrel
      have kb := hide hkb
      have Hv := hide hv
      have BB := hide hb0
      clear hkb hv hb0 kb0 Hv0 BB0
      have c0 := (unhide kb).cell (i := 0) (v := .slice a0 m.rooms.length p0) rfl
      have c1 := (unhide kb).cell (i := 1) (v := .slice a1 m.guilds.length p1) rfl
      have c2 := (unhide kb).cell (i := 2) (v := .slice a2 m.smiths.length p2) rfl
      have c3 := (unhide kb).cell (i := 3) (v := .slice a3 m.desks.length p3) rfl
      have c4 := (unhide kb).cell (i := 4) (v := .slice a4 m.paces.length p4) rfl
      have c5 := (unhide kb).cell (i := 5) (v := .int .i64 m.now) rfl
      by_cases hlt : 0 < m.desks.length
      · have hlt1 : (0 : Int) < (m.desks.length : Int) := by omega
        go_wp2_with fail
        refine (spec_q (unhide Hok) (unhide Hv)).mono ?_
        rintro e w1 ⟨rfl, hb⟩
        replace BB := hide ((unhide BB).trans (hb.mono (unhide BB).size))
        clear hb
        go_wp2_with fail
        refine bodyPost_ret (v := .tuple #[.int .i64 0, .int .i64 0, .bool false]) (by simp [results, Tryz.results18, go_sem]) rfl ⟨rfl, unhide BB⟩
      · have hlt1 : ¬ ((0 : Int) < (m.desks.length : Int)) := by omega
        go_wp2_with fail
        refine bodyPost_ret (v := .tuple #[.int .i64 0, .int .i64 0, .bool false]) (by simp [results, Tryz.results18, go_sem]) rfl ⟨rfl, unhide BB⟩
  have hlo := smy_loose (unhide Hok)
  have HLo := hide hlo
  have h12 := smy_twelve hlo
  have h8 := bench_few hlo
  clear hlo
  have HW : Hid (tv = triV (waitsTo m m.desks.length)) := hide (by rw [← unhide HT]; unfold waitingV; rw [unhide Hok]; rfl)
  clear HT
  go_enter Tryz.func18, Tryz.ntmps18
  go_wp2_with fail
  go_loopw [5] (fun i wr => ∃ k : Nat, k ≤ m.desks.length ∧ i = .int .i64 k ∧ waitsTo m k = none ∧ Blk wr w.heap.size 32 #[.slice a0 m.rooms.length p0, .slice a1 m.guilds.length p1, .slice a2 m.smiths.length p2, .slice a3 m.desks.length p3, .slice a4 m.paces.length p4, .int .i64 m.now] ∧ Smy wr (.slice a0 m.rooms.length p0) (.slice a1 m.guilds.length p1) (.slice a2 m.smiths.length p2) (.slice a3 m.desks.length p3) (.slice a4 m.paces.length p4) m ∧ Below w.heap.size w wr) (fun i _ => m.desks.length - (intOf i).toNat)
  case atStart => exact ⟨0, Nat.zero_le _, rfl, rfl, unhide kb0, unhide Hv0, unhide BB0⟩
  case round =>
    obtain ⟨k, hk, rfl, hno, hkb, hv, hb0⟩ := hrel
    have Hno := hide hno
    clear hno
    have kb := hide hkb
    have Hv := hide hv
    have BB := hide hb0
    clear hkb hv hb0
    clear kb0 Hv0 BB0
    have c0 := (unhide kb).cell (i := 0) (v := .slice a0 m.rooms.length p0) rfl
    have c1 := (unhide kb).cell (i := 1) (v := .slice a1 m.guilds.length p1) rfl
    have c2 := (unhide kb).cell (i := 2) (v := .slice a2 m.smiths.length p2) rfl
    have c3 := (unhide kb).cell (i := 3) (v := .slice a3 m.desks.length p3) rfl
    have c4 := (unhide kb).cell (i := 4) (v := .slice a4 m.paces.length p4) rfl
    have c5 := (unhide kb).cell (i := 5) (v := .int .i64 m.now) rfl
    by_cases hlt : k < m.desks.length
    rotate_left
    · have hlt1 : ¬ ((k : Int) < (m.desks.length : Int)) := by omega
      obtain rfl : k = m.desks.length := by omega
      obtain rfl : tv = .tuple #[.int .i64 0, .int .i64 0, .bool false] := by rw [unhide HW, unhide Hno]; rfl
      go_wp2_with fail
      refine bodyPost_ret (v := .tuple #[.int .i64 0, .int .i64 0, .bool false]) (by simp [results, Tryz.results18, go_sem]) rfl ⟨rfl, unhide BB⟩
    have hlt1 : (k : Int) < (m.desks.length : Int) := by omega
    go_wp2_with fail
    refine (spec_q (unhide Hok) (unhide Hv)).mono ?_
    rintro e w1 ⟨rfl, hb⟩
    replace Hv := hide ((unhide Hv).below hb)
    replace kb := hide ((unhide kb).below hb (unhide kb).lt)
    replace BB := hide ((unhide BB).trans (hb.mono (unhide BB).size))
    clear hb c0 c1 c2 c3 c4 c5
    obtain ⟨qi, hqi⟩ : ∃ q, idleB m k = q := ⟨_, rfl⟩
    have Hqi := hide hqi
    clear hqi
    have HN : Hid (∀ w9, waitAt m k = w9 → waitsTo m (k + 1) = w9.map fun x => (x, k)) := hide (fun w9 e => by unfold waitsTo; rw [unhide Hno, e])
    have c0 := (unhide kb).cell (i := 0) (v := .slice a0 m.rooms.length p0) rfl
    have c1 := (unhide kb).cell (i := 1) (v := .slice a1 m.guilds.length p1) rfl
    have c2 := (unhide kb).cell (i := 2) (v := .slice a2 m.smiths.length p2) rfl
    have c3 := (unhide kb).cell (i := 3) (v := .slice a3 m.desks.length p3) rfl
    have c4 := (unhide kb).cell (i := 4) (v := .slice a4 m.paces.length p4) rfl
    have c5 := (unhide kb).cell (i := 5) (v := .int .i64 m.now) rfl
    go_wp2_with fail
    refine (l12Idle_any (unhide Hv) hlt (by omega)).mono ?_
    rw [unhide Hqi]
    rintro e w2 ⟨rfl, hb⟩
    replace Hv := hide ((unhide Hv).below hb)
    replace kb := hide ((unhide kb).below hb (unhide kb).lt)
    replace BB := hide ((unhide BB).trans (hb.mono (unhide BB).size))
    clear hb c0 c1 c2 c3 c4 c5
    cases qi
    · go_wp2_with fail
      go_roundw
      case rel => exact ⟨k + 1, by omega, by go_num, by rw [unhide HN none (by unfold waitAt; rw [unhide Hqi]; rfl)]; rfl, unhide kb, unhide Hv, unhide BB⟩
      case measure => simp [intOf]; omega
    go_wp2_with fail
    go_loopw [6] (fun i wr => ∃ j : Nat, j ≤ m.smiths.length ∧ i = .int .i64 j ∧ waitTo m k j = none ∧ Blk wr w.heap.size 32 #[.slice a0 m.rooms.length p0, .slice a1 m.guilds.length p1, .slice a2 m.smiths.length p2, .slice a3 m.desks.length p3, .slice a4 m.paces.length p4, .int .i64 m.now] ∧ Smy wr (.slice a0 m.rooms.length p0) (.slice a1 m.guilds.length p1) (.slice a2 m.smiths.length p2) (.slice a3 m.desks.length p3) (.slice a4 m.paces.length p4) m ∧ Below w.heap.size w wr) (fun i _ => m.smiths.length - (intOf i).toNat)
    case atStart => exact ⟨0, Nat.zero_le _, rfl, rfl, unhide kb, unhide Hv, unhide BB⟩
    case round =>
      obtain ⟨j, hj, rfl, hno2, hkb, hv, hb0⟩ := hrel
      have Hno2 := hide hno2
      clear hno2 kb Hv BB
      have kb := hide hkb
      have Hv := hide hv
      have BB := hide hb0
      clear hkb hv hb0
      have c0 := (unhide kb).cell (i := 0) (v := .slice a0 m.rooms.length p0) rfl
      have c1 := (unhide kb).cell (i := 1) (v := .slice a1 m.guilds.length p1) rfl
      have c2 := (unhide kb).cell (i := 2) (v := .slice a2 m.smiths.length p2) rfl
      have c3 := (unhide kb).cell (i := 3) (v := .slice a3 m.desks.length p3) rfl
      have c4 := (unhide kb).cell (i := 4) (v := .slice a4 m.paces.length p4) rfl
      have c5 := (unhide kb).cell (i := 5) (v := .int .i64 m.now) rfl
      by_cases hlj : j < m.smiths.length
      rotate_left
      · have hlj1 : ¬ ((j : Int) < (m.smiths.length : Int)) := by omega
        obtain rfl : j = m.smiths.length := by omega
        go_wp2_with fail
        go_roundw
        case rel => exact ⟨k + 1, by omega, by go_num, by rw [unhide HN none (by unfold waitAt; rw [unhide Hqi]; exact unhide Hno2)]; rfl, unhide kb, unhide Hv, unhide BB⟩
        case measure => simp [intOf]; omega
      have hlj1 : (j : Int) < (m.smiths.length : Int) := by omega
      have HS : Hid (∀ q, waitB m j k = q → waitTo m k (j + 1) = if q then some j else none) := hide (fun q e => by unfold waitTo; rw [unhide Hno2, e])
      have HB : Hid (waitB m j k = ((recAt m.smiths j).1 == 2 && mayAt m (j : Int) k)) := hide rfl
      obtain ⟨_, _, hse, _, _, r2⟩ := (unhide Hv).smiths
      cases hse
      rcases r2 with e0 | ⟨sb, off, rfl, hbw, hcl⟩
      · rw [e0] at hlj; simp at hlj
      obtain ⟨d0, _⟩ := smith_cells hcl hlj
      clear hcl
      obtain ⟨st, hst⟩ : ∃ q, (recAt m.smiths j).1 = q := ⟨_, rfl⟩
      rw [hst] at d0
      by_cases h2 : st = 2
      rotate_left
      · have hn2 : (st == 2) = false := by simpa using h2
        have HB2 : Hid (waitB m j k = false) := hide (by rw [unhide HB, hst, hn2]; rfl)
        clear hst
        go_wp2_with fail
        go_roundw
        case rel => exact ⟨j + 1, by omega, by go_num, by rw [unhide HS _ (unhide HB2)]; rfl, unhide kb, unhide Hv, unhide BB⟩
        case measure => simp [intOf]; omega
      subst h2
      have hlim := (unhide HLo).limits hlj (by rw [hst]; omega)
      have hmy : 0 ≤ (recAt m.smiths j).2.2.2.1 ∧ (recAt m.smiths j).2.2.2.1 ≤ 255 := by
        have hp := hlim.1
        generalize recAt m.smiths j = s at *
        obtain ⟨st, be, rk, my, gu, lo', hi', hd, ca, ut, wk⟩ := s
        have := (presB_of hp).2.2.2.1
        exact ⟨by show 0 ≤ my; omega, this.2⟩
      obtain ⟨qm, hqm⟩ : ∃ q, mayAt m (j : Int) k = q := ⟨_, rfl⟩
      have Hqm := hide hqm
      have HB2 : Hid (waitB m j k = qm) := hide (by rw [unhide HB, hst, hqm]; rfl)
      have HM := hide (fun (X : World) (hX : Smy X (.slice a0 m.rooms.length p0) (.slice a1 m.guilds.length p1) (.slice (some ⟨sb, off, none⟩) m.smiths.length p2) (.slice a3 m.desks.length p3) (.slice a4 m.paces.length p4) m) => l14May_any hX hlj hlt (by omega) hmy.1 hmy.2)
      clear hst hlim hmy hqm
      go_wp2_with fail
      refine (unhide HM _ (unhide Hv)).mono ?_
      rw [unhide Hqm]
      rintro e w3 ⟨rfl, hb⟩
      replace Hv := hide ((unhide Hv).below hb)
      replace kb := hide ((unhide kb).below hb (unhide kb).lt)
      replace BB := hide ((unhide BB).trans (hb.mono (unhide BB).size))
      clear hb c0 c1 c2 c3 c4 c5 d0 HM
      cases qm
      · go_wp2_with fail
        go_roundw
        case rel => exact ⟨j + 1, by omega, by go_num, by rw [unhide HS _ (unhide HB2)]; rfl, unhide kb, unhide Hv, unhide BB⟩
        case measure => simp [intOf]; omega
      have HR : Hid (tv = .tuple #[.int .i64 (j : Int), .int .i64 (k : Int), .bool true]) := hide (by
        rw [unhide HW, waits_stay (k := k + 1) (w := j) (b := k) (by rw [unhide HN (some j) (by unfold waitAt; rw [unhide Hqi]; exact wait_stay (k := j + 1) (by rw [unhide HS _ (unhide HB2)]; rfl) (by omega))]; rfl) (by omega)]
        rfl)
      obtain rfl := unhide HR
      go_wp2_with fail
      refine bodyPost_ret (v := .tuple #[.int .i64 (j : Int), .int .i64 (k : Int), .bool true]) (by simp [results, Tryz.results18, go_sem]) rfl ⟨rfl, unhide BB⟩

end Go.Proofs.YtifolooecfebfaaGreat

/- Contracts of the model's changes (Levelled): each answers what the plain lists say, in memory of its own. Condition: the smithy can be read. -/
namespace Go.Proofs.YtifolooecfebfaaGreat
open Go.ChangeShapes Go.WideShapes Go.ChangeAt Go.RowKit Go.Sort
set_option linter.unusedVariables false
set_option linter.unusedSimpArgs false

/-- An answer that is a smithy of the call's own. -/
def GotL (n₀ : Nat) (M : SmyV) (e : Ending) (w' : World) : Prop :=
  ∃ u0 u1 u2 u3 u4 qs, e = .returned (.agg #[u0, u1, u2, u3, u4, .int .i64 M.now]) ∧ FullSmy n₀ w' u0 u1 u2 u3 u4 M qs
set_option maxRecDepth 100000 in
set_option maxHeartbeats 8000000 in
theorem specLevelled_any {w : World} {v0 v1 v2 v3 v4 : Value} {m : SmyV} (h : Smy w v0 v1 v2 v3 v4 m) :
    Calls Tryz.prog 16 #[.agg #[v0, v1, v2, v3, v4, .int .i64 m.now]] w fun e w' => GotL w.heap.size (levelledV m) e w' ∧ Below w.heap.size w w' := by
  obtain ⟨X, hX⟩ : ∃ x, levelledV m = x := ⟨_, rfl⟩
  rw [hX]
  have HX := hide hX
  clear hX
  have Hv0 := hide h
  obtain ⟨a0, p0, rfl, _, _⟩ := IsRooms.shape h.rooms
  obtain ⟨a1, p1, rfl, _, _⟩ := IsRec.shape h.guilds
  obtain ⟨a2, p2, rfl, _, _⟩ := IsRec.shape h.smiths
  obtain ⟨a3, p3, rfl, _, _⟩ := IsRec.shape h.desks
  obtain ⟨a4, p4, rfl, _, _⟩ := IsRec.shape h.paces
  clear h
  obtain ⟨ok, hok⟩ : ∃ q, smyB m = q := ⟨_, rfl⟩
  have Hok := hide hok
  clear hok
  go_enter Tryz.func16, Tryz.ntmps16
  go_wp2_with fail
  have kb : Hid (Blk ((w.alloc (.cells #[.slice a0 m.rooms.length p0, .slice a1 m.guilds.length p1, .slice a2 m.smiths.length p2, .slice a3 m.desks.length p3, .slice a4 m.paces.length p4, .int .i64 m.now] 32)).alloc (.cells #[.slice none 0 0, .slice none 0 0, .slice none 0 0, .slice none 0 0, .slice none 0 0, .int .i64 0] 32)) w.heap.size 32 #[.slice a0 m.rooms.length p0, .slice a1 m.guilds.length p1, .slice a2 m.smiths.length p2, .slice a3 m.desks.length p3, .slice a4 m.paces.length p4, .int .i64 m.now]) := hide ((Blk.new w _ _).alloc _)
  have kr : Hid (Blk ((w.alloc (.cells #[.slice a0 m.rooms.length p0, .slice a1 m.guilds.length p1, .slice a2 m.smiths.length p2, .slice a3 m.desks.length p3, .slice a4 m.paces.length p4, .int .i64 m.now] 32)).alloc (.cells #[.slice none 0 0, .slice none 0 0, .slice none 0 0, .slice none 0 0, .slice none 0 0, .int .i64 0] 32)) (w.heap.size + 1) 32 #[.slice none 0 0, .slice none 0 0, .slice none 0 0, .slice none 0 0, .slice none 0 0, .int .i64 0]) := hide (by
    have k := Blk.new (w.alloc (.cells #[.slice a0 m.rooms.length p0, .slice a1 m.guilds.length p1, .slice a2 m.smiths.length p2, .slice a3 m.desks.length p3, .slice a4 m.paces.length p4, .int .i64 m.now] 32)) 32 #[.slice none 0 0, .slice none 0 0, .slice none 0 0, .slice none 0 0, .slice none 0 0, .int .i64 0]
    rw [World.size_alloc] at k
    exact k)
  have BB : Hid (Below w.heap.size w ((w.alloc (.cells #[.slice a0 m.rooms.length p0, .slice a1 m.guilds.length p1, .slice a2 m.smiths.length p2, .slice a3 m.desks.length p3, .slice a4 m.paces.length p4, .int .i64 m.now] 32)).alloc (.cells #[.slice none 0 0, .slice none 0 0, .slice none 0 0, .slice none 0 0, .slice none 0 0, .int .i64 0] 32))) := hide (((Below.refl _ _).alloc (Nat.le_refl _) _).alloc (by simp) _)
  have Hv := hide ((unhide Hv0).below (unhide BB))
  clear Hv0
  generalize (w.alloc (.cells #[.slice a0 m.rooms.length p0, .slice a1 m.guilds.length p1, .slice a2 m.smiths.length p2, .slice a3 m.desks.length p3, .slice a4 m.paces.length p4, .int .i64 m.now] 32)).alloc (.cells #[.slice none 0 0, .slice none 0 0, .slice none 0 0, .slice none 0 0, .slice none 0 0, .int .i64 0] 32) = W at *
  refine (spec_q (unhide Hok) (unhide Hv)).mono ?_
  rintro e w1 ⟨rfl, hb⟩
  replace kb := hide ((unhide kb).below hb (unhide kb).lt)
  replace kr := hide ((unhide kr).below hb (unhide kr).lt)
  replace Hv := hide ((unhide Hv).below hb)
  replace BB := hide ((unhide BB).trans (hb.mono (unhide BB).size))
  clear hb
  cases ok
  · -- it is not right
    have o0 := (unhide kr).cell (i := 0) (v := .slice none 0 0) rfl
    have o1 := (unhide kr).cell (i := 1) (v := .slice none 0 0) rfl
    have o2 := (unhide kr).cell (i := 2) (v := .slice none 0 0) rfl
    have o3 := (unhide kr).cell (i := 3) (v := .slice none 0 0) rfl
    have o4 := (unhide kr).cell (i := 4) (v := .slice none 0 0) rfl
    have o5 := (unhide kr).cell (i := 5) (v := .int .i64 0) rfl
    have f0 := (unhide kr).free 0
    have f1 := (unhide kr).free 1
    have f2 := (unhide kr).free 2
    have f3 := (unhide kr).free 3
    have f4 := (unhide kr).free 4
    have f5 := (unhide kr).free 5
    go_wp2_with fail
    have hX0 : X = zeroM := by rw [← unhide HX]; unfold levelledV; rw [unhide Hok]; rfl
    refine bodyPost_ret (v := .agg #[.slice none 0 0, .slice none 0 0, .slice none 0 0, .slice none 0 0, .slice none 0 0, .int .i64 0]) (by simp [results, Tryz.results16, go_sem, *]) rfl ⟨?_, ?_⟩
    · rw [hX0]; exact ⟨_, _, _, _, _, [], rfl, full_zero _ _⟩
    · iterate 6 (refine Below.setCell ?_ (by show _ ≤ w.heap.size + 1; omega) _)
      exact unhide BB
  have hlo := smy_loose (unhide Hok)
  have HLo := hide hlo
  have HFew := hide (few_of hlo)
  clear hlo
  have c0 := (unhide kb).cell (i := 0) (v := .slice a0 m.rooms.length p0) rfl
  have c1 := (unhide kb).cell (i := 1) (v := .slice a1 m.guilds.length p1) rfl
  have c2 := (unhide kb).cell (i := 2) (v := .slice a2 m.smiths.length p2) rfl
  have c3 := (unhide kb).cell (i := 3) (v := .slice a3 m.desks.length p3) rfl
  have c4 := (unhide kb).cell (i := 4) (v := .slice a4 m.paces.length p4) rfl
  have c5 := (unhide kb).cell (i := 5) (v := .int .i64 m.now) rfl
  go_wp2_with fail
  clear c0 c1 c2 c3 c4 c5
  have hWs : w.heap.size + 2 ≤ w1.heap.size := by have := (unhide kr).lt; omega
  refine (l11Copy_any (unhide Hv) (unhide HFew)).mono ?_
  rintro e w2 ⟨y0, y1, y2, y3, y4, oq, rfl, ho, hb⟩
  have k9 := ho.smy
  obtain ⟨b0, q0, rfl, _, _⟩ := IsRooms.shape k9.rooms
  obtain ⟨b1, q1, rfl, _, _⟩ := IsRec.shape k9.guilds
  obtain ⟨b2, q2, rfl, _, _⟩ := IsRec.shape k9.smiths
  obtain ⟨b3, q3, rfl, _, _⟩ := IsRec.shape k9.desks
  obtain ⟨b4, q4, rfl, _, _⟩ := IsRec.shape k9.paces
  clear k9
  replace kb := hide ((unhide kb).below hb (unhide kb).lt)
  replace kr := hide ((unhide kr).below hb (unhide kr).lt)
  replace Hv := hide ((unhide Hv).below hb)
  replace BB := hide ((unhide BB).trans (hb.mono (unhide BB).size))
  have HO := hide (ho.mono hWs)
  have LO : Hid (∀ k, OwnB (.slice b0 m.rooms.length q0) (.slice b1 m.guilds.length q1) (.slice b2 m.smiths.length q2) (.slice b3 m.desks.length q3) (.slice b4 m.paces.length q4) oq k → w.heap.size + 2 ≤ k ∧ k < w2.heap.size) := hide (fun k e => (unhide HO).own e)
  have hsz9 := hb.size
  clear ho hb
  go_upto_region 4 with fail
  have hba : Below w2.heap.size w2 (w2.alloc (.cells #[.slice b0 m.rooms.length q0, .slice b1 m.guilds.length q1, .slice b2 m.smiths.length q2, .slice b3 m.desks.length q3, .slice b4 m.paces.length q4, .int .i64 m.now] 32)) := (Below.refl _ _).alloc (Nat.le_refl _) _
  replace kb := hide ((unhide kb).below hba (unhide kb).lt)
  replace kr := hide ((unhide kr).below hba (unhide kr).lt)
  replace Hv := hide ((unhide Hv).below hba)
  replace HO := hide ((unhide HO).below hba)
  replace BB := hide ((unhide BB).trans (hba.mono (unhide BB).size))
  have ko : Hid (Blk (w2.alloc (.cells #[.slice b0 m.rooms.length q0, .slice b1 m.guilds.length q1, .slice b2 m.smiths.length q2, .slice b3 m.desks.length q3, .slice b4 m.paces.length q4, .int .i64 m.now] 32)) w2.heap.size 32 #[.slice b0 m.rooms.length q0, .slice b1 m.guilds.length q1, .slice b2 m.smiths.length q2, .slice b3 m.desks.length q3, .slice b4 m.paces.length q4, .int .i64 m.now]) := hide (Blk.new _ _ _)
  have hob : w.heap.size + 2 ≤ w2.heap.size := Nat.le_trans hWs hsz9
  clear hba hsz9 hWs
  generalize w2.alloc (.cells #[.slice b0 m.rooms.length q0, .slice b1 m.guilds.length q1, .slice b2 m.smiths.length q2, .slice b3 m.desks.length q3, .slice b4 m.paces.length q4, .int .i64 m.now] 32) = W2 at *
  generalize w2.heap.size = ob at *
  have HX2 : Hid (levelV m = X) := hide (by rw [← unhide HX]; unfold levelledV; rw [unhide Hok]; rfl)
  have hofR : ∀ k, OwnB (.slice b0 m.rooms.length q0) (.slice b1 m.guilds.length q1) (.slice b2 m.smiths.length q2) (.slice b3 m.desks.length q3) (.slice b4 m.paces.length q4) oq k → k ≠ ob := fun k e => by have := (unhide LO k e).2; omega
  have H2 : Hid ((Value.slice b2 m.smiths.length q2).ownBlock ≠ some ob) := hide (fun e => hofR _ (.inr (.inr (.inr (.inl e)))) rfl)
  have H3 : Hid ((Value.slice b3 m.desks.length q3).ownBlock ≠ some ob) := hide (fun e => hofR _ (.inr (.inr (.inr (.inr (.inl e))))) rfl)
  clear hofR
  go_wp2_with fail
  go_loopg [4] (leftN m + 1) (fun k i wr => ∃ (M : SmyV) (more : Bool), i = .bool more ∧ k = (if more = true then leftN M + 1 else 0) ∧ smyB M = true ∧ M.now = m.now ∧ levelV M = levelV m ∧ (more = false → moveV M = none) ∧ FullSmy (w.heap.size + 2) wr (.slice b0 m.rooms.length q0) (.slice b1 m.guilds.length q1) (.slice b2 m.smiths.length q2) (.slice b3 m.desks.length q3) (.slice b4 m.paces.length q4) M oq ∧ Two (Value.slice b2 m.smiths.length q2).ownBlock (Value.slice b3 m.desks.length q3).ownBlock W2 wr)
  case atStart => exact ⟨m, true, rfl, rfl, unhide Hok, rfl, rfl, (fun e => by cases e), unhide HO, Two.refl _ _ _⟩
  case round =>
    obtain ⟨M, more, rfl, hgk, hsm, hnow, hlv, hno, hf1, htw⟩ := hrel
    have HF1 := hide hf1
    have Tw := hide htw
    have Hsm := hide hsm
    have Hnow := hide hnow
    have Hlv := hide hlv
    have Hno := hide hno
    replace ko := hide ((unhide ko).two htw (unhide H2) (unhide H3))
    clear hf1 htw hsm hnow hlv hno
    cases more
    · -- the end
      clear hgk
      replace kr := hide ((unhide kr).two (unhide Tw) (fun e => by have := (unhide LO _ (.inr (.inr (.inr (.inl e))))).1; omega) (fun e => by have := (unhide LO _ (.inr (.inr (.inr (.inr (.inl e)))))).1; omega))
      replace BB := hide ((unhide BB).trans ((unhide Tw).below (unhide BB).size (fun k e => by have := (unhide LO k (.inr (.inr (.inr (.inl e))))).1; omega) (fun k e => by have := (unhide LO k (.inr (.inr (.inr (.inr (.inl e)))))).1; omega)))
      have x0 := (unhide ko).cell (i := 0) (v := .slice b0 m.rooms.length q0) rfl
      have x1 := (unhide ko).cell (i := 1) (v := .slice b1 m.guilds.length q1) rfl
      have x2 := (unhide ko).cell (i := 2) (v := .slice b2 m.smiths.length q2) rfl
      have x3 := (unhide ko).cell (i := 3) (v := .slice b3 m.desks.length q3) rfl
      have x4 := (unhide ko).cell (i := 4) (v := .slice b4 m.paces.length q4) rfl
      have x5 := (unhide ko).cell (i := 5) (v := .int .i64 m.now) rfl
      have o0 := (unhide kr).cell (i := 0) (v := .slice none 0 0) rfl
      have o1 := (unhide kr).cell (i := 1) (v := .slice none 0 0) rfl
      have o2 := (unhide kr).cell (i := 2) (v := .slice none 0 0) rfl
      have o3 := (unhide kr).cell (i := 3) (v := .slice none 0 0) rfl
      have o4 := (unhide kr).cell (i := 4) (v := .slice none 0 0) rfl
      have o5 := (unhide kr).cell (i := 5) (v := .int .i64 0) rfl
      have f0 := (unhide kr).free 0
      have f1 := (unhide kr).free 1
      have f2 := (unhide kr).free 2
      have f3 := (unhide kr).free 3
      have f4 := (unhide kr).free 4
      have f5 := (unhide kr).free 5
      go_wp2_with fail
      have hX0 : X = M := by rw [← unhide HX2, ← unhide Hlv]; exact levelV_stop (unhide Hno (by trivial))
      refine bodyPost_ret (v := .agg #[.slice b0 m.rooms.length q0, .slice b1 m.guilds.length q1, .slice b2 m.smiths.length q2, .slice b3 m.desks.length q3, .slice b4 m.paces.length q4, .int .i64 m.now]) (by simp [results, Tryz.results16, go_sem, *]) rfl ⟨?_, ?_⟩
      · rw [hX0]; refine ⟨_, _, _, _, _, oq, by rw [unhide Hnow], ?_⟩
        iterate 6 (refine FullSmy.set_off ?_ (fun k e => by have := (unhide LO k e).1; omega) _ _)
        exact (unhide HF1).mono (by omega)
      · iterate 6 (refine Below.setCell ?_ (by show _ ≤ w.heap.size + 1; omega) _)
        exact unhide BB
    simp only [if_true] at hgk
    subst hgk
    clear Hno
    obtain ⟨mi, hmi⟩ : ∃ q, misfitV M = q := ⟨_, rfl⟩
    have hc := specMisfit_any (unhide HF1).smy
    rw [unhide Hnow] at hc
    have Hc := hide hc
    clear hc
    rw [hmi] at Hc
    have Hmi := hide hmi
    clear hmi
    have x0 := (unhide ko).cell (i := 0) (v := .slice b0 m.rooms.length q0) rfl
    have x1 := (unhide ko).cell (i := 1) (v := .slice b1 m.guilds.length q1) rfl
    have x2 := (unhide ko).cell (i := 2) (v := .slice b2 m.smiths.length q2) rfl
    have x3 := (unhide ko).cell (i := 3) (v := .slice b3 m.desks.length q3) rfl
    have x4 := (unhide ko).cell (i := 4) (v := .slice b4 m.paces.length q4) rfl
    have x5 := (unhide ko).cell (i := 5) (v := .int .i64 m.now) rfl
    cases mi with
    | some r =>
      obtain ⟨wh, bb⟩ := r
      have Hc2 : Hid (Calls Tryz.prog 17 #[.agg #[.slice b0 m.rooms.length q0, .slice b1 m.guilds.length q1, .slice b2 m.smiths.length q2, .slice b3 m.desks.length q3, .slice b4 m.paces.length q4, .int .i64 m.now]] wr fun e w' => e = .returned (.tuple #[.int .i64 (wh : Int), .int .i64 (bb : Int), .bool true]) ∧ Below wr.heap.size wr w') := Hc
      clear Hc
      have Hc := Hc2
      clear Hc2
      go_wp2_with fail
      clear x0 x1 x2 x3 x4 x5
      refine (unhide Hc).mono ?_
      rintro e w5 ⟨rfl, hb⟩
      replace HF1 := hide ((unhide HF1).below hb)
      replace ko := hide ((unhide ko).below hb (unhide ko).lt)
      replace Tw := hide ((unhide Tw).trans (Two.of_below hb))
      clear hb Hc
      have hmv : moveV M = some (wh, bb) := by unfold moveV; rw [unhide Hmi]
      have mv := moves_of hmv
      have Hmv := hide hmv
      obtain ⟨a0', a1', _⟩ := (smy_loose (unhide Hsm)).at mv.who mv.pres
      obtain ⟨bn, hbn⟩ : ∃ bn : Nat, (recAt M.smiths wh).2.1 = (bn : Int) := ⟨(recAt M.smiths wh).2.1.toNat, by omega⟩
      have Hbn := hide hbn
      have hbl : bn < M.desks.length := by omega
      have Mv := hide mv
      have Hbl := hide hbl
      clear hmv hbn hbl a0' a1' mv
      have k8 : Hid (Blk w5 ob 32 #[.slice b0 m.rooms.length q0, .slice b1 m.guilds.length q1, .slice b2 m.smiths.length q2, .slice b3 m.desks.length q3, .slice b4 m.paces.length q4, .int .i64 M.now]) := hide (by rw [unhide Hnow]; exact unhide ko)
      go_wp2_with fail
      refine (l16Put_any (m := M) (k := wh) (bn := bn) (b := bb) (unhide k8) (unhide HF1) (unhide H2) (unhide H3) (unhide Mv).who (unhide Hbn) (unhide Hbl) (unhide Mv).bench).mono ?_
      rintro e w7 ⟨rfl, hf7, ht7⟩
      have k7 : Hid (Blk w7 ob 32 #[.slice b0 m.rooms.length q0, .slice b1 m.guilds.length q1, .slice b2 m.smiths.length q2, .slice b3 m.desks.length q3, .slice b4 m.paces.length q4, .int .i64 M.now]) := hide ((unhide k8).two ht7 (unhide H2) (unhide H3))
      have HF7 := hide hf7
      have T7 := hide ((unhide Tw).trans ht7)
      clear hf7 ht7 k8
      have h12 := smy_twelve (smy_loose (unhide Hsm))
      have h8 := (smy_loose (unhide Hsm)).sane.eight
      have hl12 : (putX M wh bb).smiths.length ≤ 800 := by rw [putX_len]; omega
      have hd8 : (putX M wh bb).desks.length ≤ 1000 := by show M.desks.length ≤ 1000; omega
      have Hl12 := hide hl12
      have Hd8 := hide hd8
      clear h12 h8 hl12 hd8
      go_wp2_with fail
      refine (l12Turn_any (m := putX M wh bb) (unhide k7) (unhide HF7) (unhide H2) (unhide H3) (unhide Hl12) (unhide Hd8)).mono ?_
      rintro e w8 ⟨rfl, hf8, ht8⟩
      have HF8 := hide hf8
      have T8 := hide ((unhide T7).trans ht8)
      clear hf8 ht8
      go_wp2_with fail
      go_roundg (leftN (moveX M wh bb) + 1)
      case measure => have := (unhide Mv).falls; omega
      case rel => exact ⟨moveX M wh bb, true, rfl, rfl, (unhide Mv).keeps, ((turnK_same _ _).2.2.2.1).trans (unhide Hnow), (levelV_go (unhide Hmv)).symm.trans (unhide Hlv), (fun e => by cases e), unhide HF8, unhide T8⟩
    | none =>
      have Hc2 : Hid (Calls Tryz.prog 17 #[.agg #[.slice b0 m.rooms.length q0, .slice b1 m.guilds.length q1, .slice b2 m.smiths.length q2, .slice b3 m.desks.length q3, .slice b4 m.paces.length q4, .int .i64 m.now]] wr fun e w' => e = .returned (.tuple #[.int .i64 0, .int .i64 0, .bool false]) ∧ Below wr.heap.size wr w') := Hc
      clear Hc
      have Hc := Hc2
      clear Hc2
      go_wp2_with fail
      clear x0 x1 x2 x3 x4 x5
      refine (unhide Hc).mono ?_
      rintro e w5 ⟨rfl, hb⟩
      replace HF1 := hide ((unhide HF1).below hb)
      replace ko := hide ((unhide ko).below hb (unhide ko).lt)
      replace Tw := hide ((unhide Tw).trans (Two.of_below hb))
      clear hb Hc
      obtain ⟨wi, hwi⟩ : ∃ q, waitingV M = q := ⟨_, rfl⟩
      have hc := specWaiting_any (unhide HF1).smy
      rw [unhide Hnow] at hc
      have Hc := hide hc
      clear hc
      rw [hwi] at Hc
      have hmv : moveV M = wi := by unfold moveV; rw [unhide Hmi]; exact hwi
      clear hwi
      have x0 := (unhide ko).cell (i := 0) (v := .slice b0 m.rooms.length q0) rfl
      have x1 := (unhide ko).cell (i := 1) (v := .slice b1 m.guilds.length q1) rfl
      have x2 := (unhide ko).cell (i := 2) (v := .slice b2 m.smiths.length q2) rfl
      have x3 := (unhide ko).cell (i := 3) (v := .slice b3 m.desks.length q3) rfl
      have x4 := (unhide ko).cell (i := 4) (v := .slice b4 m.paces.length q4) rfl
      have x5 := (unhide ko).cell (i := 5) (v := .int .i64 m.now) rfl
      cases wi with
      | some r =>
        obtain ⟨wh, bb⟩ := r
        have Hc2 : Hid (Calls Tryz.prog 18 #[.agg #[.slice b0 m.rooms.length q0, .slice b1 m.guilds.length q1, .slice b2 m.smiths.length q2, .slice b3 m.desks.length q3, .slice b4 m.paces.length q4, .int .i64 m.now]] w5 fun e w' => e = .returned (.tuple #[.int .i64 (wh : Int), .int .i64 (bb : Int), .bool true]) ∧ Below w5.heap.size w5 w') := Hc
        clear Hc
        have Hc := Hc2
        clear Hc2
        have Hm0 := hide hmv
        clear hmv
        go_wp2_with fail
        clear x0 x1 x2 x3 x4 x5
        refine (unhide Hc).mono ?_
        rintro e w6 ⟨rfl, hb⟩
        replace HF1 := hide ((unhide HF1).below hb)
        replace ko := hide ((unhide ko).below hb (unhide ko).lt)
        replace Tw := hide ((unhide Tw).trans (Two.of_below hb))
        clear hb Hc
        have hmv := unhide Hm0
        clear Hm0
        have mv := moves_of hmv
        have Hmv := hide hmv
        obtain ⟨a0', a1', _⟩ := (smy_loose (unhide Hsm)).at mv.who mv.pres
        obtain ⟨bn, hbn⟩ : ∃ bn : Nat, (recAt M.smiths wh).2.1 = (bn : Int) := ⟨(recAt M.smiths wh).2.1.toNat, by omega⟩
        have Hbn := hide hbn
        have hbl : bn < M.desks.length := by omega
        have Mv := hide mv
        have Hbl := hide hbl
        clear hmv hbn hbl a0' a1' mv
        have k8 : Hid (Blk w6 ob 32 #[.slice b0 m.rooms.length q0, .slice b1 m.guilds.length q1, .slice b2 m.smiths.length q2, .slice b3 m.desks.length q3, .slice b4 m.paces.length q4, .int .i64 M.now]) := hide (by rw [unhide Hnow]; exact unhide ko)
        go_wp2_with fail
        refine (l16Put_any (m := M) (k := wh) (bn := bn) (b := bb) (unhide k8) (unhide HF1) (unhide H2) (unhide H3) (unhide Mv).who (unhide Hbn) (unhide Hbl) (unhide Mv).bench).mono ?_
        rintro e w7 ⟨rfl, hf7, ht7⟩
        have k7 : Hid (Blk w7 ob 32 #[.slice b0 m.rooms.length q0, .slice b1 m.guilds.length q1, .slice b2 m.smiths.length q2, .slice b3 m.desks.length q3, .slice b4 m.paces.length q4, .int .i64 M.now]) := hide ((unhide k8).two ht7 (unhide H2) (unhide H3))
        have HF7 := hide hf7
        have T7 := hide ((unhide Tw).trans ht7)
        clear hf7 ht7 k8
        have h12 := smy_twelve (smy_loose (unhide Hsm))
        have h8 := (smy_loose (unhide Hsm)).sane.eight
        have hl12 : (putX M wh bb).smiths.length ≤ 800 := by rw [putX_len]; omega
        have hd8 : (putX M wh bb).desks.length ≤ 1000 := by show M.desks.length ≤ 1000; omega
        have Hl12 := hide hl12
        have Hd8 := hide hd8
        clear h12 h8 hl12 hd8
        go_wp2_with fail
        refine (l12Turn_any (m := putX M wh bb) (unhide k7) (unhide HF7) (unhide H2) (unhide H3) (unhide Hl12) (unhide Hd8)).mono ?_
        rintro e w8 ⟨rfl, hf8, ht8⟩
        have HF8 := hide hf8
        have T8 := hide ((unhide T7).trans ht8)
        clear hf8 ht8
        go_wp2_with fail
        go_roundg (leftN (moveX M wh bb) + 1)
        case measure => have := (unhide Mv).falls; omega
        case rel => exact ⟨moveX M wh bb, true, rfl, rfl, (unhide Mv).keeps, ((turnK_same _ _).2.2.2.1).trans (unhide Hnow), (levelV_go (unhide Hmv)).symm.trans (unhide Hlv), (fun e => by cases e), unhide HF8, unhide T8⟩
      | none =>
        have Hc2 : Hid (Calls Tryz.prog 18 #[.agg #[.slice b0 m.rooms.length q0, .slice b1 m.guilds.length q1, .slice b2 m.smiths.length q2, .slice b3 m.desks.length q3, .slice b4 m.paces.length q4, .int .i64 m.now]] w5 fun e w' => e = .returned (.tuple #[.int .i64 0, .int .i64 0, .bool false]) ∧ Below w5.heap.size w5 w') := Hc
        clear Hc
        have Hc := Hc2
        clear Hc2
        have Hm0 := hide hmv
        clear hmv
        go_wp2_with fail
        clear x0 x1 x2 x3 x4 x5
        refine (unhide Hc).mono ?_
        rintro e w6 ⟨rfl, hb⟩
        replace HF1 := hide ((unhide HF1).below hb)
        replace ko := hide ((unhide ko).below hb (unhide ko).lt)
        replace Tw := hide ((unhide Tw).trans (Two.of_below hb))
        clear hb Hc
        go_wp2_with fail
        go_roundg 0
        case measure => omega
        case rel => exact ⟨M, false, rfl, rfl, unhide Hsm, unhide Hnow, unhide Hlv, (fun _ => unhide Hm0), unhide HF1, unhide Tw⟩

end Go.Proofs.YtifolooecfebfaaGreat

/- The model's Turned, IsIdle, Working. Condition: the smithy can be read. -/
namespace Go.Proofs.YtifolooecfebfaaGreat
open Go.ChangeShapes Go.WideShapes Go.ChangeAt Go.RowKit Go.Sort
set_option linter.unusedVariables false
set_option linter.unusedSimpArgs false
set_option maxRecDepth 100000

set_option maxHeartbeats 8000000 in
theorem specIsIdle_any {w : World} {v0 v1 v2 v3 v4 : Value} {m : SmyV} {b : Int} {q : Bool} (hq : isIdleV m b = q) (h : Smy w v0 v1 v2 v3 v4 m) :
    Calls Tryz.prog 19 #[.agg #[v0, v1, v2, v3, v4, .int .i64 m.now], .int .i64 b] w fun e w' => e = .returned (.bool q) ∧ Below w.heap.size w w' := by
  have Hq := hide hq
  clear hq
  have Hv := hide (h.alloc (.cells #[v0, v1, v2, v3, v4, .int .i64 m.now] 32))
  obtain ⟨a0, p0, rfl, _, _⟩ := IsRooms.shape h.rooms
  obtain ⟨a1, p1, rfl, _, _⟩ := IsRec.shape h.guilds
  obtain ⟨a2, p2, rfl, _, _⟩ := IsRec.shape h.smiths
  obtain ⟨a3, p3, rfl, _, _⟩ := IsRec.shape h.desks
  obtain ⟨a4, p4, rfl, _, _⟩ := IsRec.shape h.paces
  clear h
  have kb : Hid (Blk (w.alloc (.cells #[.slice a0 m.rooms.length p0, .slice a1 m.guilds.length p1, .slice a2 m.smiths.length p2, .slice a3 m.desks.length p3, .slice a4 m.paces.length p4, .int .i64 m.now] 32)) w.heap.size 32 #[.slice a0 m.rooms.length p0, .slice a1 m.guilds.length p1, .slice a2 m.smiths.length p2, .slice a3 m.desks.length p3, .slice a4 m.paces.length p4, .int .i64 m.now]) := hide (Blk.new w _ _)
  have BB : Hid (Below w.heap.size w (w.alloc (.cells #[.slice a0 m.rooms.length p0, .slice a1 m.guilds.length p1, .slice a2 m.smiths.length p2, .slice a3 m.desks.length p3, .slice a4 m.paces.length p4, .int .i64 m.now] 32))) := hide ((Below.refl _ _).alloc (Nat.le_refl _) _)
  obtain ⟨ok, hok⟩ : ∃ q, smyB m = q := ⟨_, rfl⟩
  have Hok := hide hok
  clear hok
  go_enter Tryz.func19, Tryz.ntmps19
  go_wp2_with fail
  generalize w.alloc (.cells #[.slice a0 m.rooms.length p0, .slice a1 m.guilds.length p1, .slice a2 m.smiths.length p2, .slice a3 m.desks.length p3, .slice a4 m.paces.length p4, .int .i64 m.now] 32) = W at *
  refine (spec_q (unhide Hok) (unhide Hv)).mono ?_
  rintro e w1 ⟨rfl, hb⟩
  replace Hv := hide ((unhide Hv).below hb)
  replace kb := hide ((unhide kb).below hb (unhide kb).lt)
  replace BB := hide ((unhide BB).trans (hb.mono (unhide BB).size))
  clear hb
  cases ok
  · obtain rfl : q = false := by rw [← unhide Hq]; unfold isIdleV; rw [unhide Hok]; rfl
    go_wp2_with fail
    go_ret
    exact ⟨rfl, unhide BB⟩
  obtain ⟨qb, hqb⟩ : ∃ q, isBenchB m b = q := ⟨_, rfl⟩
  have Hqb := hide hqb
  clear hqb
  have c0 := (unhide kb).cell (i := 0) (v := .slice a0 m.rooms.length p0) rfl
  have c1 := (unhide kb).cell (i := 1) (v := .slice a1 m.guilds.length p1) rfl
  have c2 := (unhide kb).cell (i := 2) (v := .slice a2 m.smiths.length p2) rfl
  have c3 := (unhide kb).cell (i := 3) (v := .slice a3 m.desks.length p3) rfl
  have c4 := (unhide kb).cell (i := 4) (v := .slice a4 m.paces.length p4) rfl
  have c5 := (unhide kb).cell (i := 5) (v := .int .i64 m.now) rfl
  go_wp2_with fail
  clear c0 c1 c2 c3 c4 c5
  refine (l11Bench_q (unhide Hqb) (unhide Hv)).mono ?_
  rintro e w2 ⟨rfl, hb⟩
  replace Hv := hide ((unhide Hv).below hb)
  replace kb := hide ((unhide kb).below hb (unhide kb).lt)
  replace BB := hide ((unhide BB).trans (hb.mono (unhide BB).size))
  clear hb
  cases qb
  · obtain rfl : q = false := by rw [← unhide Hq]; unfold isIdleV; rw [unhide Hqb]; simp
    go_wp2_with fail
    go_ret
    exact ⟨rfl, unhide BB⟩
  obtain ⟨bn, hbn, rfl⟩ : ∃ k : Nat, k < m.desks.length ∧ b = (k : Int) := by
    have := inB_of (unhide Hqb)
    exact ⟨b.toNat, by omega, by omega⟩
  have h12 := smy_twelve (smy_loose (unhide Hok))
  have HI : Hid (isIdleV m (bn : Int) = idleB m bn) := hide (by unfold isIdleV; rw [unhide Hok, unhide Hqb]; rfl)
  have c0 := (unhide kb).cell (i := 0) (v := .slice a0 m.rooms.length p0) rfl
  have c1 := (unhide kb).cell (i := 1) (v := .slice a1 m.guilds.length p1) rfl
  have c2 := (unhide kb).cell (i := 2) (v := .slice a2 m.smiths.length p2) rfl
  have c3 := (unhide kb).cell (i := 3) (v := .slice a3 m.desks.length p3) rfl
  have c4 := (unhide kb).cell (i := 4) (v := .slice a4 m.paces.length p4) rfl
  have c5 := (unhide kb).cell (i := 5) (v := .int .i64 m.now) rfl
  go_wp2_with fail
  clear c0 c1 c2 c3 c4 c5
  refine (l12Idle_any (unhide Hv) hbn (by omega)).mono ?_
  rw [← unhide HI, unhide Hq]
  rintro e w3 ⟨rfl, hb⟩
  replace Hv := hide ((unhide Hv).below hb)
  replace kb := hide ((unhide kb).below hb (unhide kb).lt)
  replace BB := hide ((unhide BB).trans (hb.mono (unhide BB).size))
  clear hb
  go_wp2_with fail
  go_ret
  exact ⟨rfl, unhide BB⟩

end Go.Proofs.YtifolooecfebfaaGreat

