/- What the proof rests on, part 29: lists and numbers, how they lie in memory, and contracts of the calls. No condition but those that a theorem names. -/
import Derived.Test.YtmhagllddhjgmabGreatXu01
import Derived.Test.YtmhagllddhjgmabGreatXu02
import Derived.Test.YtmhagllddhjgmabGreatXu03
import Derived.Test.YtmhagllddhjgmabGreatXu04
import Derived.Test.YtmhagllddhjgmabGreatXu05
import Derived.Test.YtmhagllddhjgmabGreatXu06
import Derived.Test.YtmhagllddhjgmabGreatXu07
import Derived.Test.YtmhagllddhjgmabGreatXu08
import Derived.Test.YtmhagllddhjgmabGreatXu09
import Derived.Test.YtmhagllddhjgmabGreatXu10
import Derived.Test.YtmhagllddhjgmabGreatXu11
import Derived.Test.YtmhagllddhjgmabGreatXu12
import Derived.Test.YtmhagllddhjgmabGreatXu21
import Derived.Test.YtmhagllddhjgmabGreatXu22
import Derived.Test.YtmhagllddhjgmabGreatXu23
import Derived.Test.YtmhagllddhjgmabGreatXu24
import Derived.Test.YtmhagllddhjgmabGreatXu25
import Derived.Test.YtmhagllddhjgmabGreatXu26
import Derived.Test.YtmhagllddhjgmabGreatXu27
import Derived.Test.YtmhagllddhjgmabGreatXu28
import Derived.BigQuiet
import Derived.Lib.QuietBelow
import Derived.WalkMore
import Derived.Below
import Derived.WalkKit
import Derived.ProofKit
import Derived.OpenShut
import Derived.Outline
import Derived.Deep.RegionHeld3
import Derived.Deep.DrawnRows
import Derived.BigRegion
import Derived.Deep.RegionLawGrows
import Derived.Deep.RegionWith
import Derived.Deep.QuietTactic
import Derived.Laws.OwnMore
import Derived.OwnWalk
import Derived.Maps.AppendAt
import Derived.Lib.SmallJoins
import Derived.Deep.Fields
import Derived.Deep.Slices
import Derived.Laws.StructEq
/- What one wants, and what is used at a bench: the model's l11Want, l11Who, l11Used. Conditions: the smithy can be read; what each theorem names. -/
namespace Go.Proofs.YtmhagllddhjgmabGreat
open Go.ChangeShapes Go.WideShapes Go.ChangeAt Go.RowKit Go.Sort
set_option linter.unusedVariables false

/-- Right guilds, and each smith's is there who is not gone. -/
structure Guilded (m : SmyV) : Prop where
  guilds : guildsB m.guilds = true
  lo : ∀ i, i < m.smiths.length → (recAt m.smiths i).1 ≠ 0 → -1 ≤ (recAt m.smiths i).2.2.2.2.1
  hi : ∀ i, i < m.smiths.length → (recAt m.smiths i).1 ≠ 0 → (recAt m.smiths i).2.2.2.2.1 < m.guilds.length
theorem pres_ne {s : SmithV} (h : presS s = true) : s.1 ≠ 0 := fun e => by unfold presS at h; rw [e] at h; cases h

set_option maxHeartbeats 2000000 in
theorem l11Want_any {w : World} {v0 v1 v2 v3 v4 : Value} {m : SmyV} {k : Nat} (h : Smy w v0 v1 v2 v3 v4 m) (hg : guildsB m.guilds = true) (hk : k < m.smiths.length) (g0 : -1 ≤ (recAt m.smiths k).2.2.2.2.1) (g1 : (recAt m.smiths k).2.2.2.2.1 < m.guilds.length) :
    Calls Tryz.prog 37 #[.agg #[v0, v1, v2, v3, v4, .int .i64 m.now], .int .i64 (k : Int)] w fun e w' => e = .returned (.int .i64 (wantV m (k : Int))) ∧ Below w.heap.size w w' := by
  have hw : wantV m (k : Int) = wantS m.guilds (recAt m.smiths k) := rfl
  rw [hw]
  clear hw
  have Hv := hide h
  obtain ⟨h0, h1, h2, h3, h4⟩ := h
  obtain ⟨a0, p0, rfl, hc0, hm0⟩ := IsRooms.shape h0
  obtain ⟨a1, p1, rfl, hc1, hm1⟩ := IsRec.shape h1
  obtain ⟨a2, p2, rfl, hc2, hm2, r2⟩ := h2
  obtain ⟨a3, p3, rfl, hc3, hm3⟩ := IsRec.shape h3
  obtain ⟨a4, p4, rfl, hc4, hm4⟩ := IsRec.shape h4
  clear h0 h1 h3 h4
  rcases r2 with e0 | ⟨sb, off, rfl, hbw, hcl⟩
  · rw [e0] at hk; simp at hk
  obtain ⟨d0, d1, d2, d3, d4, d5, d6, d7, d8, d9, d10⟩ := smith_cells hcl hk
  clear hcl
  generalize recAt m.smiths k = ss at *
  obtain ⟨st, be, rk, my, gu, lo, hi, hd, ca, ut, wk⟩ := ss
  simp only at d0 d1 d2 d3 d4 d5 d6 d7 d8 d9 d10 g0 g1
  have Hg := hide hg
  clear hg
  go_enter Tryz.func37, Tryz.ntmps37
  go_wp2_with fail
  have BB : Hid (Below w.heap.size w ((w.alloc (.cells #[.slice a0 m.rooms.length p0, .slice a1 m.guilds.length p1, .slice (some ⟨sb, off, none⟩) m.smiths.length p2, .slice a3 m.desks.length p3, .slice a4 m.paces.length p4, .int .i64 m.now] 40)).alloc (.cells #[.int .i64 st, .int .i64 be, .int .i64 rk, .int .i64 my, .int .i64 gu, .int .i64 lo, .int .i64 hi, .int .i64 hd, .int .i64 ca, .int .i64 ut, .int .i64 wk] 73))) := hide (((Below.refl _ _).alloc (Nat.le_refl _) _).alloc (by simp) _)
  have Hv2 := hide ((unhide Hv).below (unhide BB)).guilds
  have ks := hide (Blk.new (w.alloc (.cells #[.slice a0 m.rooms.length p0, .slice a1 m.guilds.length p1, .slice (some ⟨sb, off, none⟩) m.smiths.length p2, .slice a3 m.desks.length p3, .slice a4 m.paces.length p4, .int .i64 m.now] 40)) 73 #[.int .i64 st, .int .i64 be, .int .i64 rk, .int .i64 my, .int .i64 gu, .int .i64 lo, .int .i64 hi, .int .i64 hd, .int .i64 ca, .int .i64 ut, .int .i64 wk])
  simp only [World.size_alloc] at ks
  generalize (w.alloc (.cells #[.slice a0 m.rooms.length p0, .slice a1 m.guilds.length p1, .slice (some ⟨sb, off, none⟩) m.smiths.length p2, .slice a3 m.desks.length p3, .slice a4 m.paces.length p4, .int .i64 m.now] 40)).alloc (.cells #[.int .i64 st, .int .i64 be, .int .i64 rk, .int .i64 my, .int .i64 gu, .int .i64 lo, .int .i64 hi, .int .i64 hd, .int .i64 ca, .int .i64 ut, .int .i64 wk] 73) = W at *
  refine (l8Within_of gu lo hi (unhide Hv2) (l8Bounds_any (unhide Hg) m.guilds.length gu (unhide Hv2) g0 g1 g1)).mono ?_
  rintro e w1 ⟨rfl, hb⟩
  replace ks := hide ((unhide ks).below hb (unhide ks).lt)
  replace BB := hide ((unhide BB).trans (hb.mono (unhide BB).size))
  have x9 := (unhide ks).cell (i := 9) (v := .int .i64 ut) rfl
  clear hb d0 d1 d2 d3 d4 d5 d6 d7 d8 d9 d10
  go_wp2_with (go_at_call 61; refine (specClamped_any _ _ _ _).mono ?_; rintro e w' ⟨rfl, h9⟩; subst w')
  go_ret
  exact ⟨rfl, unhide BB⟩

theorem usedL_step (m : SmyV) (but : Int) {q : List PaceV} {k : Nat} (hk : k < q.length) : usedL m but (q.take (k + 1)) = if (paceAt q k).2 = but then usedL m but (q.take k) else usedL m but (q.take k) + wantV m (paceAt q k).2 := by
  have : q.take (k + 1) = q.take k ++ [paceAt q k] := by
    rw [List.take_succ_eq_append_getElem hk]; unfold paceAt; simp [List.getD, hk]
  rw [this, usedL_snoc]

set_option maxRecDepth 100000 in
set_option maxHeartbeats 4000000 in
theorem l11Used_any {w : World} {v0 v1 v2 v3 v4 : Value} {m : SmyV} (b but : Int) (h : Smy w v0 v1 v2 v3 v4 m) (hG : Guilded m) (hl : m.smiths.length ≤ 800) :
    Calls Tryz.prog 16 #[.agg #[v0, v1, v2, v3, v4, .int .i64 m.now], .int .i64 b, .int .i64 but] w fun e w' => e = .returned (.int .i64 (usedV m b but)) ∧ Below w.heap.size w w' := by
  have Hv := hide (h.alloc (.cells #[v0, v1, v2, v3, v4, .int .i64 m.now] 40))
  obtain ⟨a0, p0, rfl, _, _⟩ := IsRooms.shape h.rooms
  obtain ⟨a1, p1, rfl, _, _⟩ := IsRec.shape h.guilds
  obtain ⟨a2, p2, rfl, _, _⟩ := IsRec.shape h.smiths
  obtain ⟨a3, p3, rfl, _, _⟩ := IsRec.shape h.desks
  obtain ⟨a4, p4, rfl, _, _⟩ := IsRec.shape h.paces
  clear h
  have HG := hide hG
  clear hG
  go_enter Tryz.func16, Tryz.ntmps16
  go_wp2_with fail
  refine (l11At_any b (unhide Hv) hl).mono ?_
  rintro e w1 ⟨v', rfl, he, hb⟩
  have kb : Hid (Blk w1 w.heap.size 40 #[.slice a0 m.rooms.length p0, .slice a1 m.guilds.length p1, .slice a2 m.smiths.length p2, .slice a3 m.desks.length p3, .slice a4 m.paces.length p4, .int .i64 m.now]) := hide ((Blk.new w _ _).below hb (by simp))
  have BB : Hid (Below w.heap.size w w1) := hide (((Below.refl _ _).alloc (Nat.le_refl _) _).trans (hb.mono (by simp)))
  replace Hv := hide ((unhide Hv).below hb)
  have hq := atV_len m.smiths b m.smiths.length
  have hmem := atV_mem m.smiths b
  have Hu : Hid (usedV m b but = usedL m but (atV m.smiths b m.smiths.length)) := hide rfl
  have hmq : ∀ x ∈ atV m.smiths b m.smiths.length, ∃ j : Nat, j < m.smiths.length ∧ presS (recAt m.smiths j) = true ∧ x.2 = (j : Int) := fun x hx => by
    obtain ⟨j, hj, _, hp, rfl⟩ := (hmem x m.smiths.length).1 hx
    exact ⟨j, hj, hp, rfl⟩
  have Hm := hide hmq
  clear hmem hmq hb
  have hp := EntsAt.paces he
  clear he
  generalize atV m.smiths b m.smiths.length = q at *
  obtain ⟨qa, qc, rfl, hqc, hqm, hr⟩ := hp
  have Hr := hide hr
  clear hr
  go_wp2_with fail
  go_loopw [7, 9] (fun n i wr => ∃ k : Nat, k ≤ q.length ∧ i = .int .i64 k ∧ n = .int .i64 (usedL m but (q.take k)) ∧ Below w1.heap.size w1 wr) (fun _ i _ => q.length - (intOf i).toNat)
  case atStart => exact ⟨0, Nat.zero_le _, rfl, rfl, Below.refl _ _⟩
  case round =>
    obtain ⟨k, hk, rfl, rfl, hbr⟩ := hrel
    have hub := usedL_bd m but (q.take k)
    have htl : (q.take k).length ≤ k := by rw [List.length_take]; omega
    by_cases hlt : k < q.length
    · rcases unhide Hr with e0 | ⟨eb, eo, rfl, hbw, hcl⟩
      · rw [e0] at hlt; simp at hlt
      obtain ⟨c0, c1⟩ := hcl k hlt
      rw [← hbr.cell (p := ⟨eb, eo + k * 2, none⟩) hbw] at c0
      rw [← hbr.cell (p := ⟨eb, eo + k * 2 + 1, none⟩) hbw] at c1
      obtain ⟨j, hj, hjp, hje⟩ := unhide Hm _ (paceAt_mem hlt)
      have Hjp := hide (pres_ne hjp)
      clear hjp
      have hst := usedL_step m but hlt
      have hwb := wantV_bd m (j : Int)
      rw [hje] at c1 hst
      clear hje hcl
      generalize (paceAt q k).1 = hd at *
      have Hst := hide hst
      clear hst
      generalize usedL m but (q.take k) = u at *
      have u1 : u ≤ 1024 * 800 := by omega
      have kb1 := (unhide kb).below hbr (unhide kb).lt
      have Hv1 := hide ((unhide Hv).below hbr)
      have Kb1 := hide kb1
      have Hbr := hide hbr
      clear hbr kb1
      have x0 := (unhide Kb1).cell (i := 0) (v := .slice a0 m.rooms.length p0) rfl
      have x1 := (unhide Kb1).cell (i := 1) (v := .slice a1 m.guilds.length p1) rfl
      have x2 := (unhide Kb1).cell (i := 2) (v := .slice a2 m.smiths.length p2) rfl
      have x3 := (unhide Kb1).cell (i := 3) (v := .slice a3 m.desks.length p3) rfl
      have x4 := (unhide Kb1).cell (i := 4) (v := .slice a4 m.paces.length p4) rfl
      have x5 := (unhide Kb1).cell (i := 5) (v := .int .i64 m.now) rfl
      by_cases hbut : (j : Int) = but
      · have hbn : ((j : Int) == but) = true := by simpa using hbut
        go_wp2_with fail
        go_roundw
        case rel => exact ⟨k + 1, by omega, by go_num, by rw [unhide Hst, if_pos hbut], unhide Hbr⟩
        case measure => simp [intOf]; omega
      · have hbn : ((j : Int) == but) = false := by simpa using hbut
        have Hw := hide (fun (W : World) (hW : Below wr.heap.size wr W) => l11Want_any ((unhide Hv1).below hW) (unhide HG).guilds hj ((unhide HG).lo j hj (unhide Hjp)) ((unhide HG).hi j hj (unhide Hjp)))
        generalize wantV m (j : Int) = wa at *
        have y0 := cell_regrown x0
        have y1 := cell_regrown x1
        have y2 := cell_regrown x2
        have y3 := cell_regrown x3
        have y4 := cell_regrown x4
        have y5 := cell_regrown x5
        have z0 := cell_regrown c0
        have z1 := cell_regrown c1
        go_wp2_with fail
        refine wp_region_quiet_below (by kernel_rfl) (by kernel_rfl) ?_
        repeat (go_big_quiet_step (exact Calls.regrown_of (unhide Hw _ (below_regrown _ _ _))))
        refine wpQuiet_nil ?_
        intro _ hw'
        obtain ⟨⟨dq, osq⟩, hw''⟩ := hw'
        subst hw''
        go_wp2_with fail
        go_roundw
        case rel => exact ⟨k + 1, by omega, by go_num, by rw [unhide Hst, if_neg hbut], (unhide Hbr).trans ((below_regrown _ _ _).mono (unhide Hbr).size)⟩
        case measure => simp [intOf]; omega
    · obtain rfl : k = q.length := by omega
      rw [List.take_length]
      go_wp2_with fail
      go_ret
      exact ⟨ret_int (unhide Hu).symm, (unhide BB).trans (hbr.mono (unhide BB).size)⟩

end Go.Proofs.YtmhagllddhjgmabGreat

