/- What the proof rests on, part 22: lists and numbers, how they lie in memory, and contracts of the calls. No condition but those that a theorem names. -/
import Derived.Test.YthbbahagpmdooaaGreatDoorXr01
import Derived.Test.YthbbahagpmdooaaGreatDoorXr02
import Derived.Test.YthbbahagpmdooaaGreatDoorXr03
import Derived.Test.YthbbahagpmdooaaGreatDoorXr04
import Derived.Test.YthbbahagpmdooaaGreatDoorXr05
import Derived.Test.YthbbahagpmdooaaGreatDoorXr06
import Derived.Test.YthbbahagpmdooaaGreatDoorXr07
import Derived.Test.YthbbahagpmdooaaGreatDoorXr08
import Derived.Test.YthbbahagpmdooaaGreatDoorXr09
import Derived.Test.YthbbahagpmdooaaGreatDoorXr10
import Derived.Test.YthbbahagpmdooaaGreatDoorXr11
import Derived.Test.YthbbahagpmdooaaGreatDoorXr12
import Derived.Test.YthbbahagpmdooaaGreatDoorXr13
import Derived.Test.YthbbahagpmdooaaGreatDoorXr14
import Derived.Test.YthbbahagpmdooaaGreatDoorXr15
import Derived.Test.YthbbahagpmdooaaGreatDoorXr16
import Derived.Test.YthbbahagpmdooaaGreatDoorXr17
import Derived.Test.YthbbahagpmdooaaGreatDoorXr18
import Derived.Test.YthbbahagpmdooaaGreatDoorXr19
import Derived.Test.YthbbahagpmdooaaGreatDoorXr20
import Derived.Test.YthbbahagpmdooaaGreatDoorXr21
import Derived.Deep.RegionWith
import Derived.Deep.DeepCutAuto
import Derived.Lib.SmallJoins
import Derived.Deep.SlicePairs
import Derived.WalkMore
import Derived.Below
import Derived.ChangeKeysEq
import Derived.Laws.StructEq
import Derived.WalkKit
import Derived.ProofKit
import Derived.OpenShut
import Derived.Outline
import Derived.Lib.QuietBelow
import Derived.RangeFuncCalls
import Derived.Shelf.RegionOpen
import Derived.Deep.RegionHeld3
import Derived.Deep.DrawnRows
import Derived.BigRegion
import Derived.Deep.RegionLawGrows
import Derived.Deep.LoopGhost
import Derived.LaidEql
import Derived.Stop.Asserts
import Derived.RowKitTokens
import Derived.Deep.QuietTactic
import Derived.BigQuiet
import Derived.Laws.OwnMore
import Derived.OwnWalk
import Derived.Maps.AppendAt
import Derived.RangeFuncNested
import Derived.RangeFuncBound
import Derived.RangeFuncLeaves
import Derived.RangeFuncBox
import Derived.Shelf.Abstract
import Derived.OwnWalkIn
import Derived.TacticsInMore
import Derived.LoopNIn
import Derived.LoopIn
import Derived.Deep.Fields
import Derived.Deep.Slices
import Derived.OrdersHeld
import Derived.Deep.RegionHeldLaw
import Derived.Laws.CopyRow
/- What a right smithy measures: no more than the laws' own bound; and so do the answers of the model's operations. No condition but those that a theorem names. -/
namespace Go.Proofs.YthbbahagpmdooaaGreatDoor
open Go.ChangeShapes Go.WideShapes Go.ChangeAt Go.RowKit Go.Sort
set_option linter.unusedVariables false

theorem right_small {m : SmyV} (h : smyB m = true) : SmySmall m := by
  have hf := few_of (smy_loose h)
  have h1 := hf.rooms
  have h2 := hf.guilds
  have h3 := hf.smiths
  have h4 := hf.desks
  have h5 := hf.nums
  exact ⟨⟨by omega, fun j hj => by have := hf.paces _ (roomAt_mem hj); omega⟩, by omega, by omega, by omega, by omega⟩
theorem zero_small : SmySmall zeroM := ⟨⟨by simp [zeroM], fun j hj => by simp [zeroM] at hj⟩, by simp [zeroM], by simp [zeroM], by simp [zeroM], by simp [zeroM]⟩
theorem rest_small (m : SmyV) (who : Int) : SmySmall (restV m who).1 := by
  cases h : smyB m
  · unfold restV; rw [h]; exact zero_small
  · exact right_small (rest_right h who)
theorem leave_small (m : SmyV) (who : Int) : SmySmall (leaveV m who).1 := by
  cases h : smyB m
  · unfold leaveV; rw [h]; exact zero_small
  · exact right_small (leave_right h who)
end Go.Proofs.YthbbahagpmdooaaGreatDoor

/- Contracts of the model's changes (Rest): each answers what the plain lists say, in memory of its own. Condition: the smithy can be read. -/
namespace Go.Proofs.YthbbahagpmdooaaGreatDoor
open Go.ChangeShapes Go.WideShapes Go.ChangeAt Go.RowKit Go.Sort
set_option linter.unusedVariables false
set_option linter.unusedSimpArgs false

set_option maxRecDepth 100000 in
set_option maxHeartbeats 8000000 in
theorem specRest_any {w : World} {v0 v1 v2 v3 v4 : Value} {m : SmyV} (who : Int) (h : Smy w v0 v1 v2 v3 v4 m) :
    Calls Tryz.prog 27 #[.agg #[v0, v1, v2, v3, v4, .int .i64 m.now], .int .i64 who] w fun e w' => GotM w.heap.size (restV m who).1 (restV m who).2 e w' ∧ Below w.heap.size w w' := by
  obtain ⟨X, hX⟩ : ∃ x, restV m who = x := ⟨_, rfl⟩
  rw [hX]
  have HX := hide hX
  clear hX
  have Hv0 := hide h
  obtain ⟨a0, p0, rfl, _, _⟩ := IsRooms.shape h.rooms
  obtain ⟨a1, p1, rfl, _, _⟩ := IsRec.shape h.guilds
  obtain ⟨a2, p2, rfl, _, _⟩ := IsRec.shape h.smiths
  obtain ⟨a3, p3, rfl, _, _⟩ := IsRec.shape h.desks
  obtain ⟨a4, p4, rfl, _, _⟩ := IsRec.shape h.paces
  clear h
  obtain ⟨ok, hok⟩ : ∃ q, smyB m = q := ⟨_, rfl⟩
  have Hok := hide hok
  clear hok
  go_enter Tryz.func27, Tryz.ntmps27
  go_wp2_with fail
  have kb : Hid (Blk ((w.alloc (.cells #[.slice a0 m.rooms.length p0, .slice a1 m.guilds.length p1, .slice a2 m.smiths.length p2, .slice a3 m.desks.length p3, .slice a4 m.paces.length p4, .int .i64 m.now] 32)).alloc (.cells #[.slice none 0 0, .slice none 0 0, .slice none 0 0, .slice none 0 0, .slice none 0 0, .int .i64 0] 32)) w.heap.size 32 #[.slice a0 m.rooms.length p0, .slice a1 m.guilds.length p1, .slice a2 m.smiths.length p2, .slice a3 m.desks.length p3, .slice a4 m.paces.length p4, .int .i64 m.now]) := hide ((Blk.new w _ _).alloc _)
  have kr : Hid (Blk ((w.alloc (.cells #[.slice a0 m.rooms.length p0, .slice a1 m.guilds.length p1, .slice a2 m.smiths.length p2, .slice a3 m.desks.length p3, .slice a4 m.paces.length p4, .int .i64 m.now] 32)).alloc (.cells #[.slice none 0 0, .slice none 0 0, .slice none 0 0, .slice none 0 0, .slice none 0 0, .int .i64 0] 32)) (w.heap.size + 1) 32 #[.slice none 0 0, .slice none 0 0, .slice none 0 0, .slice none 0 0, .slice none 0 0, .int .i64 0]) := hide (by
    have k := Blk.new (w.alloc (.cells #[.slice a0 m.rooms.length p0, .slice a1 m.guilds.length p1, .slice a2 m.smiths.length p2, .slice a3 m.desks.length p3, .slice a4 m.paces.length p4, .int .i64 m.now] 32)) 32 #[.slice none 0 0, .slice none 0 0, .slice none 0 0, .slice none 0 0, .slice none 0 0, .int .i64 0]
    rw [World.size_alloc] at k
    exact k)
  have BB : Hid (Below w.heap.size w ((w.alloc (.cells #[.slice a0 m.rooms.length p0, .slice a1 m.guilds.length p1, .slice a2 m.smiths.length p2, .slice a3 m.desks.length p3, .slice a4 m.paces.length p4, .int .i64 m.now] 32)).alloc (.cells #[.slice none 0 0, .slice none 0 0, .slice none 0 0, .slice none 0 0, .slice none 0 0, .int .i64 0] 32))) := hide (((Below.refl _ _).alloc (Nat.le_refl _) _).alloc (by simp) _)
  have Hv := hide ((unhide Hv0).below (unhide BB))
  clear Hv0
  generalize (w.alloc (.cells #[.slice a0 m.rooms.length p0, .slice a1 m.guilds.length p1, .slice a2 m.smiths.length p2, .slice a3 m.desks.length p3, .slice a4 m.paces.length p4, .int .i64 m.now] 32)).alloc (.cells #[.slice none 0 0, .slice none 0 0, .slice none 0 0, .slice none 0 0, .slice none 0 0, .int .i64 0] 32) = W at *
  refine (spec_q (unhide Hok) (unhide Hv)).mono ?_
  rintro e w1 ⟨rfl, hb⟩
  replace kb := hide ((unhide kb).below hb (unhide kb).lt)
  replace kr := hide ((unhide kr).below hb (unhide kr).lt)
  replace Hv := hide ((unhide Hv).below hb)
  replace BB := hide ((unhide BB).trans (hb.mono (unhide BB).size))
  clear hb
  cases ok
  · -- it is not right
    have c0 := (unhide kb).cell (i := 0) (v := .slice a0 m.rooms.length p0) rfl
    have c1 := (unhide kb).cell (i := 1) (v := .slice a1 m.guilds.length p1) rfl
    have c2 := (unhide kb).cell (i := 2) (v := .slice a2 m.smiths.length p2) rfl
    have c3 := (unhide kb).cell (i := 3) (v := .slice a3 m.desks.length p3) rfl
    have c4 := (unhide kb).cell (i := 4) (v := .slice a4 m.paces.length p4) rfl
    have c5 := (unhide kb).cell (i := 5) (v := .int .i64 m.now) rfl
    go_wp2_with fail
    clear c0 c1 c2 c3 c4 c5
    refine (l15Bad_any (unhide Hv)).mono ?_
    rintro e w2 ⟨rfl, hb⟩
    replace kb := hide ((unhide kb).below hb (unhide kb).lt)
    replace kr := hide ((unhide kr).below hb (unhide kr).lt)
    replace Hv := hide ((unhide Hv).below hb)
    replace BB := hide ((unhide BB).trans (hb.mono (unhide BB).size))
    clear hb
    have o0 := (unhide kr).cell (i := 0) (v := .slice none 0 0) rfl
    have o1 := (unhide kr).cell (i := 1) (v := .slice none 0 0) rfl
    have o2 := (unhide kr).cell (i := 2) (v := .slice none 0 0) rfl
    have o3 := (unhide kr).cell (i := 3) (v := .slice none 0 0) rfl
    have o4 := (unhide kr).cell (i := 4) (v := .slice none 0 0) rfl
    have o5 := (unhide kr).cell (i := 5) (v := .int .i64 0) rfl
    have f0 := (unhide kr).free 0
    have f1 := (unhide kr).free 1
    have f2 := (unhide kr).free 2
    have f3 := (unhide kr).free 3
    have f4 := (unhide kr).free 4
    have f5 := (unhide kr).free 5
    go_wp2_with fail
    have hX0 : X = (zeroM, 3) := by rw [← unhide HX]; unfold restV; rw [unhide Hok]; rfl
    refine bodyPost_ret (v := .tuple #[.agg #[.slice none 0 0, .slice none 0 0, .slice none 0 0, .slice none 0 0, .slice none 0 0, .int .i64 0], .int .i64 3]) (by simp [results, Tryz.results27, go_sem, *]) rfl ⟨?_, ?_⟩
    · rw [hX0]; exact ⟨_, _, _, _, _, [], rfl, full_zero _ _⟩
    · iterate 6 (refine Below.setCell ?_ (by show _ ≤ w.heap.size + 1; omega) _)
      exact unhide BB
  have hlo := smy_loose (unhide Hok)
  have HLo := hide hlo
  have HFew := hide (few_of hlo)
  clear hlo
  have c0 := (unhide kb).cell (i := 0) (v := .slice a0 m.rooms.length p0) rfl
  have c1 := (unhide kb).cell (i := 1) (v := .slice a1 m.guilds.length p1) rfl
  have c2 := (unhide kb).cell (i := 2) (v := .slice a2 m.smiths.length p2) rfl
  have c3 := (unhide kb).cell (i := 3) (v := .slice a3 m.desks.length p3) rfl
  have c4 := (unhide kb).cell (i := 4) (v := .slice a4 m.paces.length p4) rfl
  have c5 := (unhide kb).cell (i := 5) (v := .int .i64 m.now) rfl
  go_wp2_with fail
  clear c0 c1 c2 c3 c4 c5
  have hWs : w.heap.size + 2 ≤ w1.heap.size := by have := (unhide kr).lt; omega
  refine (l11Copy_any (unhide Hv) (unhide HFew)).mono ?_
  rintro e w2 ⟨y0, y1, y2, y3, y4, oq, rfl, ho, hb⟩
  have k9 := ho.smy
  obtain ⟨b0, q0, rfl, _, _⟩ := IsRooms.shape k9.rooms
  obtain ⟨b1, q1, rfl, _, _⟩ := IsRec.shape k9.guilds
  obtain ⟨b2, q2, rfl, _, _⟩ := IsRec.shape k9.smiths
  obtain ⟨b3, q3, rfl, _, _⟩ := IsRec.shape k9.desks
  obtain ⟨b4, q4, rfl, _, _⟩ := IsRec.shape k9.paces
  clear k9
  replace kb := hide ((unhide kb).below hb (unhide kb).lt)
  replace kr := hide ((unhide kr).below hb (unhide kr).lt)
  replace Hv := hide ((unhide Hv).below hb)
  replace BB := hide ((unhide BB).trans (hb.mono (unhide BB).size))
  have HO := hide (ho.mono hWs)
  have LO : Hid (∀ k, OwnB (.slice b0 m.rooms.length q0) (.slice b1 m.guilds.length q1) (.slice b2 m.smiths.length q2) (.slice b3 m.desks.length q3) (.slice b4 m.paces.length q4) oq k → w.heap.size + 2 ≤ k ∧ k < w2.heap.size) := hide (fun k e => (unhide HO).own e)
  have hsz9 := hb.size
  clear ho hb
  go_upto_region 4 with fail
  have hba : Below w2.heap.size w2 (w2.alloc (.cells #[.slice b0 m.rooms.length q0, .slice b1 m.guilds.length q1, .slice b2 m.smiths.length q2, .slice b3 m.desks.length q3, .slice b4 m.paces.length q4, .int .i64 m.now] 32)) := (Below.refl _ _).alloc (Nat.le_refl _) _
  replace kb := hide ((unhide kb).below hba (unhide kb).lt)
  replace kr := hide ((unhide kr).below hba (unhide kr).lt)
  replace Hv := hide ((unhide Hv).below hba)
  replace HO := hide ((unhide HO).below hba)
  replace BB := hide ((unhide BB).trans (hba.mono (unhide BB).size))
  have ko : Hid (Blk (w2.alloc (.cells #[.slice b0 m.rooms.length q0, .slice b1 m.guilds.length q1, .slice b2 m.smiths.length q2, .slice b3 m.desks.length q3, .slice b4 m.paces.length q4, .int .i64 m.now] 32)) w2.heap.size 32 #[.slice b0 m.rooms.length q0, .slice b1 m.guilds.length q1, .slice b2 m.smiths.length q2, .slice b3 m.desks.length q3, .slice b4 m.paces.length q4, .int .i64 m.now]) := hide (Blk.new _ _ _)
  have hob : w.heap.size + 2 ≤ w2.heap.size := Nat.le_trans hWs hsz9
  clear hba hsz9 hWs
  generalize w2.alloc (.cells #[.slice b0 m.rooms.length q0, .slice b1 m.guilds.length q1, .slice b2 m.smiths.length q2, .slice b3 m.desks.length q3, .slice b4 m.paces.length q4, .int .i64 m.now] 32) = W2 at *
  generalize w2.heap.size = ob at *
  obtain ⟨qw, hqw⟩ : ∃ q, whoB m who = q := ⟨_, rfl⟩
  have Hqw := hide hqw
  clear hqw
  have c0 := (unhide kb).cell (i := 0) (v := .slice a0 m.rooms.length p0) rfl
  have c1 := (unhide kb).cell (i := 1) (v := .slice a1 m.guilds.length p1) rfl
  have c2 := (unhide kb).cell (i := 2) (v := .slice a2 m.smiths.length p2) rfl
  have c3 := (unhide kb).cell (i := 3) (v := .slice a3 m.desks.length p3) rfl
  have c4 := (unhide kb).cell (i := 4) (v := .slice a4 m.paces.length p4) rfl
  have c5 := (unhide kb).cell (i := 5) (v := .int .i64 m.now) rfl
  go_wp2_with fail
  clear c0 c1 c2 c3 c4 c5
  refine (l11Who_q (unhide Hqw) (unhide Hv)).mono ?_
  rintro e w3 ⟨rfl, hb⟩
  replace kb := hide ((unhide kb).below hb (unhide kb).lt)
  replace kr := hide ((unhide kr).below hb (unhide kr).lt)
  replace Hv := hide ((unhide Hv).below hb)
  replace HO := hide ((unhide HO).below hb)
  replace ko := hide ((unhide ko).below hb (unhide ko).lt)
  replace BB := hide ((unhide BB).trans (hb.mono (unhide BB).size))
  clear hb
  cases qw
  · -- none
    have x0 := (unhide ko).cell (i := 0) (v := .slice b0 m.rooms.length q0) rfl
    have x1 := (unhide ko).cell (i := 1) (v := .slice b1 m.guilds.length q1) rfl
    have x2 := (unhide ko).cell (i := 2) (v := .slice b2 m.smiths.length q2) rfl
    have x3 := (unhide ko).cell (i := 3) (v := .slice b3 m.desks.length q3) rfl
    have x4 := (unhide ko).cell (i := 4) (v := .slice b4 m.paces.length q4) rfl
    have x5 := (unhide ko).cell (i := 5) (v := .int .i64 m.now) rfl
    have o0 := (unhide kr).cell (i := 0) (v := .slice none 0 0) rfl
    have o1 := (unhide kr).cell (i := 1) (v := .slice none 0 0) rfl
    have o2 := (unhide kr).cell (i := 2) (v := .slice none 0 0) rfl
    have o3 := (unhide kr).cell (i := 3) (v := .slice none 0 0) rfl
    have o4 := (unhide kr).cell (i := 4) (v := .slice none 0 0) rfl
    have o5 := (unhide kr).cell (i := 5) (v := .int .i64 0) rfl
    have f0 := (unhide kr).free 0
    have f1 := (unhide kr).free 1
    have f2 := (unhide kr).free 2
    have f3 := (unhide kr).free 3
    have f4 := (unhide kr).free 4
    have f5 := (unhide kr).free 5
    go_wp2_with fail
    have hX0 : X = (m, 1) := by rw [← unhide HX]; unfold restV; rw [unhide Hok, unhide Hqw]; rfl
    refine bodyPost_ret (v := .tuple #[.agg #[.slice b0 m.rooms.length q0, .slice b1 m.guilds.length q1, .slice b2 m.smiths.length q2, .slice b3 m.desks.length q3, .slice b4 m.paces.length q4, .int .i64 m.now], .int .i64 1]) (by simp [results, Tryz.results27, go_sem, *]) rfl ⟨?_, ?_⟩
    · rw [hX0]; refine ⟨_, _, _, _, _, oq, rfl, ?_⟩
      iterate 6 (refine FullSmy.set_off ?_ (fun k e => by have := (unhide LO k e).1; omega) _ _)
      exact (unhide HO).mono (by omega)
    · iterate 6 (refine Below.setCell ?_ (by show _ ≤ w.heap.size + 1; omega) _)
      exact unhide BB
  obtain ⟨k, rfl, hk, hs0⟩ := whoB_of (unhide Hqw)
  have hk1 : (k : Int) < (m.smiths.length : Int) := by omega
  obtain ⟨_, _, hse, _, _, r2⟩ := (unhide Hv).smiths
  cases hse
  rcases r2 with e0 | ⟨sb, off, rfl, hbw, hcl⟩
  · rw [e0] at hk; simp at hk
  obtain ⟨d0, d1, d2, d3, d4, d5, d6, d7, d8, d9, d10⟩ := smith_cells hcl hk
  clear hcl
  obtain ⟨ps, hps⟩ : ∃ q, presS (recAt m.smiths k) = q := ⟨_, rfl⟩
  have Hps := hide hps
  obtain ⟨⟨st, be, rk, my, gu, lo, hi, hd, ca, ut, wk⟩, hrk⟩ : ∃ d, recAt m.smiths k = d := ⟨_, rfl⟩
  rw [hrk] at d0 d1 d2 d3 d4 d5 d6 d7 d8 d9 d10 hps
  simp only at d0 d1 d2 d3 d4 d5 d6 d7 d8 d9 d10
  have c2 := (unhide kb).cell (i := 2) (v := .slice (some ⟨sb, off, none⟩) m.smiths.length p2) rfl
  have Hpt := hide hps
  clear hps
  go_wp2_with fail
  refine (l11Present_q (unhide Hpt) _).mono ?_
  rintro e w4 ⟨rfl, hb⟩
  replace kb := hide ((unhide kb).below hb (unhide kb).lt)
  replace kr := hide ((unhide kr).below hb (unhide kr).lt)
  replace Hv := hide ((unhide Hv).below hb)
  replace HO := hide ((unhide HO).below hb)
  replace ko := hide ((unhide ko).below hb (unhide ko).lt)
  replace BB := hide ((unhide BB).trans (hb.mono (unhide BB).size))
  clear hb d0 d1 d2 d3 d4 d5 d6 d7 d8 d9 d10 c2
  cases ps
  · -- it is away
    have x0 := (unhide ko).cell (i := 0) (v := .slice b0 m.rooms.length q0) rfl
    have x1 := (unhide ko).cell (i := 1) (v := .slice b1 m.guilds.length q1) rfl
    have x2 := (unhide ko).cell (i := 2) (v := .slice b2 m.smiths.length q2) rfl
    have x3 := (unhide ko).cell (i := 3) (v := .slice b3 m.desks.length q3) rfl
    have x4 := (unhide ko).cell (i := 4) (v := .slice b4 m.paces.length q4) rfl
    have x5 := (unhide ko).cell (i := 5) (v := .int .i64 m.now) rfl
    have o0 := (unhide kr).cell (i := 0) (v := .slice none 0 0) rfl
    have o1 := (unhide kr).cell (i := 1) (v := .slice none 0 0) rfl
    have o2 := (unhide kr).cell (i := 2) (v := .slice none 0 0) rfl
    have o3 := (unhide kr).cell (i := 3) (v := .slice none 0 0) rfl
    have o4 := (unhide kr).cell (i := 4) (v := .slice none 0 0) rfl
    have o5 := (unhide kr).cell (i := 5) (v := .int .i64 0) rfl
    have f0 := (unhide kr).free 0
    have f1 := (unhide kr).free 1
    have f2 := (unhide kr).free 2
    have f3 := (unhide kr).free 3
    have f4 := (unhide kr).free 4
    have f5 := (unhide kr).free 5
    go_wp2_with fail
    have hX0 : X = (m, 2) := by rw [← unhide HX]; unfold restV; rw [unhide Hok, unhide Hqw]; simp only [if_true, Int.toNat_natCast]; rw [unhide Hps]; rfl
    refine bodyPost_ret (v := .tuple #[.agg #[.slice b0 m.rooms.length q0, .slice b1 m.guilds.length q1, .slice b2 m.smiths.length q2, .slice b3 m.desks.length q3, .slice b4 m.paces.length q4, .int .i64 m.now], .int .i64 2]) (by simp [results, Tryz.results27, go_sem, *]) rfl ⟨?_, ?_⟩
    · rw [hX0]; refine ⟨_, _, _, _, _, oq, rfl, ?_⟩
      iterate 6 (refine FullSmy.set_off ?_ (fun k e => by have := (unhide LO k e).1; omega) _ _)
      exact (unhide HO).mono (by omega)
    · iterate 6 (refine Below.setCell ?_ (by show _ ≤ w.heap.size + 1; omega) _)
      exact unhide BB
  obtain ⟨g2, hga, _, _, hc2, hz2⟩ := RecAt.view encSmith_len (by omega) (unhide HO).smiths rfl (by omega)
  cases hga
  have s0 := hc2 k hk 0 _ rfl
  have f0 := hz2 (k * 11)
  have x2 := (unhide ko).cell (i := 2) (v := .slice (some ⟨g2, 0, none⟩) m.smiths.length q2) rfl
  have hput := (unhide HO).putS rfl (j := k) (i := 0) hk (by omega) (.int .i64 1) (stS (recAt m.smiths k) 1) rfl
  simp only [Nat.add_zero] at s0 hput
  have hg2o := (unhide LO g2 (.inr (.inr (.inr (.inl rfl)))))
  clear hc2 hz2
  go_upto_region 9 with fail
  clear s0 f0 x2
  have HP := hide hput
  clear hput HO
  replace ko : Hid (Blk (w4.setCell ⟨g2, k * 11, none⟩ (.int .i64 1)) ob 32 #[.slice b0 m.rooms.length q0, .slice b1 m.guilds.length q1, .slice (some ⟨g2, 0, none⟩) m.smiths.length q2, .slice b3 m.desks.length q3, .slice b4 m.paces.length q4, .int .i64 m.now]) := hide ((unhide ko).other (a := ⟨g2, k * 11, none⟩) (by show ob ≠ g2; omega) _)
  replace kr : Hid (Blk (w4.setCell ⟨g2, k * 11, none⟩ (.int .i64 1)) (w.heap.size + 1) 32 #[.slice none 0 0, .slice none 0 0, .slice none 0 0, .slice none 0 0, .slice none 0 0, .int .i64 0]) := hide ((unhide kr).other (a := ⟨g2, k * 11, none⟩) (by show w.heap.size + 1 ≠ g2; omega) _)
  replace BB : Hid (Below w.heap.size w (w4.setCell ⟨g2, k * 11, none⟩ (.int .i64 1))) := hide ((unhide BB).setCell (p := ⟨g2, k * 11, none⟩) (by show w.heap.size ≤ g2; omega) _)
  clear kb Hv
  generalize w4.setCell ⟨g2, k * 11, none⟩ (.int .i64 1) = W3 at *
  have hfw := unhide HFew
  go_wp2_with fail
  have hofR : ∀ k, OwnB (.slice b0 m.rooms.length q0) (.slice b1 m.guilds.length q1) (.slice (some ⟨g2, 0, none⟩) m.smiths.length q2) (.slice b3 m.desks.length q3) (.slice b4 m.paces.length q4) oq k → k ≠ ob := fun k e => by have := (unhide LO k e).2; omega
  refine (l15Done_any (m := setS m k (stS (recAt m.smiths k) 1)) (unhide ko) (unhide HP) (fun e => hofR _ (.inr (.inr (.inr (.inl e)))) rfl) (fun e => hofR _ (.inr (.inr (.inr (.inr (.inl e))))) rfl) (by show (m.smiths.set k _).length ≤ 800; have := hfw.smiths; simp; omega) hfw.desks).mono ?_
  rintro e w5 ⟨rfl, hf9, ht9⟩
  replace kr := hide ((unhide kr).two ht9 (fun e => by have := (unhide LO _ (.inr (.inr (.inr (.inl e))))).1; omega) (fun e => by have := (unhide LO _ (.inr (.inr (.inr (.inr (.inl e)))))).1; omega))
  replace BB := hide ((unhide BB).trans (ht9.below (unhide BB).size (fun k e => by have := (unhide LO k (.inr (.inr (.inr (.inl e))))).1; omega) (fun k e => by have := (unhide LO k (.inr (.inr (.inr (.inr (.inl e)))))).1; omega)))
  have HF9 := hide hf9
  clear hf9 ht9 hofR
  have o0 := (unhide kr).cell (i := 0) (v := .slice none 0 0) rfl
  have o1 := (unhide kr).cell (i := 1) (v := .slice none 0 0) rfl
  have o2 := (unhide kr).cell (i := 2) (v := .slice none 0 0) rfl
  have o3 := (unhide kr).cell (i := 3) (v := .slice none 0 0) rfl
  have o4 := (unhide kr).cell (i := 4) (v := .slice none 0 0) rfl
  have o5 := (unhide kr).cell (i := 5) (v := .int .i64 0) rfl
  have f0 := (unhide kr).free 0
  have f1 := (unhide kr).free 1
  have f2 := (unhide kr).free 2
  have f3 := (unhide kr).free 3
  have f4 := (unhide kr).free 4
  have f5 := (unhide kr).free 5
  go_wp2_with fail
  have hX0 : X = (turnV (setS m k (stS (recAt m.smiths k) 1)), 0) := by rw [← unhide HX]; unfold restV; rw [unhide Hok, unhide Hqw]; simp only [if_true, Int.toNat_natCast]; rw [unhide Hps]; rfl
  have hnow : (turnV (setS m k (stS (recAt m.smiths k) 1))).now = m.now := (turnK_same _ _).2.2.2.1
  refine bodyPost_ret (v := .tuple #[.agg #[.slice b0 m.rooms.length q0, .slice b1 m.guilds.length q1, .slice (some ⟨g2, 0, none⟩) m.smiths.length q2, .slice b3 m.desks.length q3, .slice b4 m.paces.length q4, .int .i64 m.now], .int .i64 0]) (by simp [results, Tryz.results27, go_sem, setS, *]) rfl ⟨?_, ?_⟩
  · rw [hX0]; refine ⟨_, _, _, _, _, oq, by rw [hnow], ?_⟩
    iterate 6 (refine FullSmy.set_off ?_ (fun k e => by have := (unhide LO k e).1; omega) _ _)
    exact (unhide HF9).mono (by omega)
  · iterate 6 (refine Below.setCell ?_ (by show _ ≤ w.heap.size + 1; omega) _)
    exact unhide BB

end Go.Proofs.YthbbahagpmdooaaGreatDoor

/- The walk of the exact law on Rest: the program answers as the model does, twice, in memory of its own, and leaves its argument alone. Conditions: the smithy can be read; the sentinels lie in their variables. -/
namespace Go.Proofs.YthbbahagpmdooaaGreatDoor
open Go.ChangeShapes Go.WideShapes Go.ChangeAt Go.RowKit Go.Sort
set_option linter.unusedVariables false

set_option maxRecDepth 100000 in
set_option maxHeartbeats 16000000 in
theorem walkFnExactRest_of {q : Int → Addr} (hS : (∀ (w : World) (v0 v1 v2 v3 v4 : Value) (m : SmyV) (who : Int), Smy w v0 v1 v2 v3 v4 m → Calls Tryz.prog 27 #[.agg #[v0, v1, v2, v3, v4, .int .i64 m.now], .int .i64 who] w fun e w' => GotM w.heap.size (restV m who).1 (restV m who).2 e w' ∧ Below w.heap.size w w')) (hI : (∀ (w : World) (v0 v1 v2 v3 v4 : Value) (m : SmyV) (who : Int), Errs w q → Smy w v0 v1 v2 v3 v4 m → Calls Tryz.prog 24 #[.agg #[v0, v1, v2, v3, v4, .int .i64 m.now], .int .i64 who] w fun e w' => GotM w.heap.size (restV m who).1 (restV m who).2 e w' ∧ Below w.heap.size w w')) (hlen : ∀ (m : SmyV) (who : Int), SmySmall (restV m who).1) (v0 v1 v2 v3 v4 : Value) (m : SmyV) (who : Int) (w : World) (her : Errs w q) (h : Smy w v0 v1 v2 v3 v4 m) :
    Calls Tryz.prog 7 #[.agg #[v0, v1, v2, v3, v4, .int .i64 m.now], .int .i64 who] w fun e w' => e = .returned (.bool true) ∧ Below w.heap.size w w' := by
  have HEr := hide her
  clear her
  have HS := hide hS
  have HI := hide hI
  clear hS hI
  have Hv := hide h
  obtain ⟨a0, p0, rfl, _, _⟩ := IsRooms.shape h.rooms
  obtain ⟨a1, p1, rfl, _, _⟩ := IsRec.shape h.guilds
  obtain ⟨a2, p2, rfl, _, _⟩ := IsRec.shape h.smiths
  obtain ⟨a3, p3, rfl, _, _⟩ := IsRec.shape h.desks
  obtain ⟨a4, p4, rfl, _, _⟩ := IsRec.shape h.paces
  clear h
  have hLs := hide (hlen m who)
  have HS1 := hide (fun W u0 u1 u2 u3 u4 => unhide HS W u0 u1 u2 u3 u4 m who)
  have HI1 := hide (fun W u0 u1 u2 u3 u4 => unhide HI W u0 u1 u2 u3 u4 m who)
  clear HS HI hlen
  obtain ⟨⟨M, cd⟩, hM⟩ : ∃ x, restV m who = x := ⟨_, rfl⟩
  rw [hM] at hLs HS1 HI1
  simp only at hLs HS1 HI1
  clear hM
  go_enter Tryz.func7, Tryz.ntmps7
  go_wp2_with fail
  refine (szSmithy_any ((unhide Hv).alloc _)).mono ?_
  rintro e w1 ⟨x, rfl, hx, hb⟩
  have ka : Hid (Blk w1 w.heap.size 55 #[.slice a0 m.rooms.length p0, .slice a1 m.guilds.length p1, .slice a2 m.smiths.length p2, .slice a3 m.desks.length p3, .slice a4 m.paces.length p4, .int .i64 m.now]) := hide ((Blk.new w _ _).below hb (by simp))
  have BB : Hid (Below w.heap.size w w1) := hide (((Below.refl _ _).alloc (Nat.le_refl _) _).trans (hb.mono (by simp)))
  have Hx := hide hx
  clear hx hb
  by_cases hx0 : x < 0
  · go_wp2_with fail
    go_ret
    exact ⟨rfl, unhide BB⟩
  have Hs := hide (unhide Hx (by omega))
  have HsM := hLs
  clear Hx hLs
  have c0 := (unhide ka).cell (i := 0) (v := .slice a0 m.rooms.length p0) rfl
  have c1 := (unhide ka).cell (i := 1) (v := .slice a1 m.guilds.length p1) rfl
  have c2 := (unhide ka).cell (i := 2) (v := .slice a2 m.smiths.length p2) rfl
  have c3 := (unhide ka).cell (i := 3) (v := .slice a3 m.desks.length p3) rfl
  have c4 := (unhide ka).cell (i := 4) (v := .slice a4 m.paces.length p4) rfl
  have c5 := (unhide ka).cell (i := 5) (v := .int .i64 m.now) rfl
  go_wp2_with fail
  refine (toSmithy_any ((unhide Hv).below (unhide BB)) (unhide Hs)).mono ?_
  rintro e w2 ⟨u0, u1, u2, u3, u4, rfl, ho, hb⟩
  clear c0 c1 c2 c3 c4 c5
  have k2 := ho.smy
  obtain ⟨b0, q0, rfl, _, _⟩ := IsRooms.shape k2.rooms
  obtain ⟨b1, q1, rfl, _, _⟩ := IsRec.shape k2.guilds
  obtain ⟨b2, q2, rfl, _, _⟩ := IsRec.shape k2.smiths
  obtain ⟨b3, q3, rfl, _, _⟩ := IsRec.shape k2.desks
  obtain ⟨b4, q4, rfl, _, _⟩ := IsRec.shape k2.paces
  have K2 := hide k2
  clear k2 ho
  replace ka := hide ((unhide ka).below hb (unhide ka).lt)
  replace BB := hide ((unhide BB).trans (hb.mono (unhide BB).size))
  have hw2 : w.heap.size < w2.heap.size := (unhide ka).lt
  clear hb
  go_wp2_with fail
  refine (unhide HS1 _ _ _ _ _ _ (unhide K2)).mono ?_
  rintro e w3 ⟨⟨y0, y1, y2, y3, y4, uq, rfl, ho⟩, hb⟩
  have k9 := ho.smy
  obtain ⟨ua0, uc0, rfl, _, _⟩ := IsRooms.shape k9.rooms
  obtain ⟨ua1, uc1, rfl, _, _⟩ := IsRec.shape k9.guilds
  obtain ⟨ua2, uc2, rfl, _, _⟩ := IsRec.shape k9.smiths
  obtain ⟨ua3, uc3, rfl, _, _⟩ := IsRec.shape k9.desks
  obtain ⟨ua4, uc4, rfl, _, _⟩ := IsRec.shape k9.paces
  clear k9 K2
  replace ka := hide ((unhide ka).below hb (unhide ka).lt)
  replace BB := hide ((unhide BB).trans (hb.mono (unhide BB).size))
  have HU := hide ho
  have LU : Hid (∀ k, OwnB (.slice ua0 M.rooms.length uc0) (.slice ua1 M.guilds.length uc1) (.slice ua2 M.smiths.length uc2) (.slice ua3 M.desks.length uc3) (.slice ua4 M.paces.length uc4) uq k → w2.heap.size ≤ k ∧ k < w3.heap.size) := hide (fun k e => ho.own e)
  have hw3 : w.heap.size < w3.heap.size := (unhide ka).lt
  clear ho hb
  go_upto_region 6 with fail
  have hba : Below w3.heap.size w3 (w3.alloc (.cells #[.slice ua0 M.rooms.length uc0, .slice ua1 M.guilds.length uc1, .slice ua2 M.smiths.length uc2, .slice ua3 M.desks.length uc3, .slice ua4 M.paces.length uc4, .int .i64 M.now] 32)) := (Below.refl _ _).alloc (Nat.le_refl _) _
  replace ka := hide ((unhide ka).below hba (unhide ka).lt)
  replace HU := hide ((unhide HU).below hba)
  replace BB := hide ((unhide BB).trans (hba.mono (unhide BB).size))
  have ku : Hid (Blk (w3.alloc (.cells #[.slice ua0 M.rooms.length uc0, .slice ua1 M.guilds.length uc1, .slice ua2 M.smiths.length uc2, .slice ua3 M.desks.length uc3, .slice ua4 M.paces.length uc4, .int .i64 M.now] 32)) w3.heap.size 32 #[.slice ua0 M.rooms.length uc0, .slice ua1 M.guilds.length uc1, .slice ua2 M.smiths.length uc2, .slice ua3 M.desks.length uc3, .slice ua4 M.paces.length uc4, .int .i64 M.now]) := hide (Blk.new _ _ _)
  have hsz_W3 : w3.heap.size + 1 ≤ (w3.alloc (.cells #[.slice ua0 M.rooms.length uc0, .slice ua1 M.guilds.length uc1, .slice ua2 M.smiths.length uc2, .slice ua3 M.desks.length uc3, .slice ua4 M.paces.length uc4, .int .i64 M.now] 32)).heap.size := by simp
  clear hba
  generalize w3.alloc (.cells #[.slice ua0 M.rooms.length uc0, .slice ua1 M.guilds.length uc1, .slice ua2 M.smiths.length uc2, .slice ua3 M.desks.length uc3, .slice ua4 M.paces.length uc4, .int .i64 M.now] 32) = W3 at *
  generalize w3.heap.size = ub at *
  have c0 := (unhide ka).cell (i := 0) (v := .slice a0 m.rooms.length p0) rfl
  have c1 := (unhide ka).cell (i := 1) (v := .slice a1 m.guilds.length p1) rfl
  have c2 := (unhide ka).cell (i := 2) (v := .slice a2 m.smiths.length p2) rfl
  have c3 := (unhide ka).cell (i := 3) (v := .slice a3 m.desks.length p3) rfl
  have c4 := (unhide ka).cell (i := 4) (v := .slice a4 m.paces.length p4) rfl
  have c5 := (unhide ka).cell (i := 5) (v := .int .i64 m.now) rfl
  go_wp2_with fail
  clear c0 c1 c2 c3 c4 c5
  refine (toSmithy_full ((unhide Hv).below (unhide BB)) (unhide Hs)).mono ?_
  rintro e w4 ⟨z0, z1, z2, z3, z4, xq, rfl, ho, hb⟩
  have k4 := ho.smy
  obtain ⟨d0, r0, rfl, _, _⟩ := IsRooms.shape k4.rooms
  obtain ⟨d1, r1, rfl, _, _⟩ := IsRec.shape k4.guilds
  obtain ⟨d2, r2, rfl, _, _⟩ := IsRec.shape k4.smiths
  obtain ⟨d3, r3, rfl, _, _⟩ := IsRec.shape k4.desks
  obtain ⟨d4, r4, rfl, _, _⟩ := IsRec.shape k4.paces
  clear k4
  replace ka := hide ((unhide ka).below hb (unhide ka).lt)
  replace HU := hide ((unhide HU).below hb)
  replace ku := hide ((unhide ku).below hb (unhide ku).lt)
  replace BB := hide ((unhide BB).trans (hb.mono (unhide BB).size))
  have HX := hide ho
  have LX : Hid (∀ k, OwnB (.slice d0 m.rooms.length r0) (.slice d1 m.guilds.length r1) (.slice d2 m.smiths.length r2) (.slice d3 m.desks.length r3) (.slice d4 m.paces.length r4) xq k → ub < k ∧ k < w4.heap.size) := hide (fun k e => ⟨Nat.lt_of_lt_of_le (Nat.lt_of_succ_le hsz_W3) (ho.own e).1, (ho.own e).2⟩)
  have hw4 : ub + 1 ≤ w4.heap.size := Nat.le_trans hsz_W3 hb.size
  clear ho hb hsz_W3
  go_upto_region 7 with fail
  have hba : Below w4.heap.size w4 (w4.alloc (.cells #[.slice d0 m.rooms.length r0, .slice d1 m.guilds.length r1, .slice d2 m.smiths.length r2, .slice d3 m.desks.length r3, .slice d4 m.paces.length r4, .int .i64 m.now] 32)) := (Below.refl _ _).alloc (Nat.le_refl _) _
  replace ka := hide ((unhide ka).below hba (unhide ka).lt)
  replace HU := hide ((unhide HU).below hba)
  replace ku := hide ((unhide ku).below hba (unhide ku).lt)
  replace HX := hide ((unhide HX).below hba)
  replace BB := hide ((unhide BB).trans (hba.mono (unhide BB).size))
  have kx : Hid (Blk (w4.alloc (.cells #[.slice d0 m.rooms.length r0, .slice d1 m.guilds.length r1, .slice d2 m.smiths.length r2, .slice d3 m.desks.length r3, .slice d4 m.paces.length r4, .int .i64 m.now] 32)) w4.heap.size 32 #[.slice d0 m.rooms.length r0, .slice d1 m.guilds.length r1, .slice d2 m.smiths.length r2, .slice d3 m.desks.length r3, .slice d4 m.paces.length r4, .int .i64 m.now]) := hide (Blk.new _ _ _)
  have hsz_W4 : w4.heap.size + 1 ≤ (w4.alloc (.cells #[.slice d0 m.rooms.length r0, .slice d1 m.guilds.length r1, .slice d2 m.smiths.length r2, .slice d3 m.desks.length r3, .slice d4 m.paces.length r4, .int .i64 m.now] 32)).heap.size := by simp
  clear hba
  generalize w4.alloc (.cells #[.slice d0 m.rooms.length r0, .slice d1 m.guilds.length r1, .slice d2 m.smiths.length r2, .slice d3 m.desks.length r3, .slice d4 m.paces.length r4, .int .i64 m.now] 32) = W4 at *
  generalize w4.heap.size = xb at *
  have x0 := (unhide kx).cell (i := 0) (v := .slice d0 m.rooms.length r0) rfl
  have x1 := (unhide kx).cell (i := 1) (v := .slice d1 m.guilds.length r1) rfl
  have x2 := (unhide kx).cell (i := 2) (v := .slice d2 m.smiths.length r2) rfl
  have x3 := (unhide kx).cell (i := 3) (v := .slice d3 m.desks.length r3) rfl
  have x4 := (unhide kx).cell (i := 4) (v := .slice d4 m.paces.length r4) rfl
  have x5 := (unhide kx).cell (i := 5) (v := .int .i64 m.now) rfl
  go_wp2_with fail
  clear x0 x1 x2 x3 x4 x5
  refine (unhide HI1 _ _ _ _ _ _ ((unhide HEr).below (unhide BB)) (unhide HX).smy).mono ?_
  rintro e w5 ⟨⟨y0, y1, y2, y3, y4, gq, rfl, ho⟩, hb⟩
  have k9 := ho.smy
  obtain ⟨ga0, gc0, rfl, _, _⟩ := IsRooms.shape k9.rooms
  obtain ⟨ga1, gc1, rfl, _, _⟩ := IsRec.shape k9.guilds
  obtain ⟨ga2, gc2, rfl, _, _⟩ := IsRec.shape k9.smiths
  obtain ⟨ga3, gc3, rfl, _, _⟩ := IsRec.shape k9.desks
  obtain ⟨ga4, gc4, rfl, _, _⟩ := IsRec.shape k9.paces
  clear k9
  replace ka := hide ((unhide ka).below hb (unhide ka).lt)
  replace HU := hide ((unhide HU).below hb)
  replace ku := hide ((unhide ku).below hb (unhide ku).lt)
  replace HX := hide ((unhide HX).below hb)
  replace kx := hide ((unhide kx).below hb (unhide kx).lt)
  replace BB := hide ((unhide BB).trans (hb.mono (unhide BB).size))
  have HG := hide ho
  have LG : Hid (∀ k, OwnB (.slice ga0 M.rooms.length gc0) (.slice ga1 M.guilds.length gc1) (.slice ga2 M.smiths.length gc2) (.slice ga3 M.desks.length gc3) (.slice ga4 M.paces.length gc4) gq k → xb < k ∧ k < w5.heap.size) := hide (fun k e => ⟨Nat.lt_of_lt_of_le (Nat.lt_of_succ_le hsz_W4) (ho.own e).1, (ho.own e).2⟩)
  have hw5 : xb + 1 ≤ w5.heap.size := Nat.le_trans hsz_W4 hb.size
  clear ho hb hsz_W4
  have x0 := (unhide ku).cell (i := 0) (v := .slice ua0 M.rooms.length uc0) rfl
  have x1 := (unhide ku).cell (i := 1) (v := .slice ua1 M.guilds.length uc1) rfl
  have x2 := (unhide ku).cell (i := 2) (v := .slice ua2 M.smiths.length uc2) rfl
  have x3 := (unhide ku).cell (i := 3) (v := .slice ua3 M.desks.length uc3) rfl
  have x4 := (unhide ku).cell (i := 4) (v := .slice ua4 M.paces.length uc4) rfl
  have x5 := (unhide ku).cell (i := 5) (v := .int .i64 M.now) rfl
  go_upto_region 8 with fail
  clear x0 x1 x2 x3 x4 x5
  have hba : Below w5.heap.size w5 (w5.alloc (.cells #[.slice ga0 M.rooms.length gc0, .slice ga1 M.guilds.length gc1, .slice ga2 M.smiths.length gc2, .slice ga3 M.desks.length gc3, .slice ga4 M.paces.length gc4, .int .i64 M.now] 32)) := (Below.refl _ _).alloc (Nat.le_refl _) _
  replace ka := hide ((unhide ka).below hba (unhide ka).lt)
  replace HU := hide ((unhide HU).below hba)
  replace ku := hide ((unhide ku).below hba (unhide ku).lt)
  replace HX := hide ((unhide HX).below hba)
  replace kx := hide ((unhide kx).below hba (unhide kx).lt)
  replace HG := hide ((unhide HG).below hba)
  replace BB := hide ((unhide BB).trans (hba.mono (unhide BB).size))
  have kg : Hid (Blk (w5.alloc (.cells #[.slice ga0 M.rooms.length gc0, .slice ga1 M.guilds.length gc1, .slice ga2 M.smiths.length gc2, .slice ga3 M.desks.length gc3, .slice ga4 M.paces.length gc4, .int .i64 M.now] 32)) w5.heap.size 32 #[.slice ga0 M.rooms.length gc0, .slice ga1 M.guilds.length gc1, .slice ga2 M.smiths.length gc2, .slice ga3 M.desks.length gc3, .slice ga4 M.paces.length gc4, .int .i64 M.now]) := hide (Blk.new _ _ _)
  have hsz_W5 : w5.heap.size + 1 ≤ (w5.alloc (.cells #[.slice ga0 M.rooms.length gc0, .slice ga1 M.guilds.length gc1, .slice ga2 M.smiths.length gc2, .slice ga3 M.desks.length gc3, .slice ga4 M.paces.length gc4, .int .i64 M.now] 32)).heap.size := by simp
  clear hba
  generalize w5.alloc (.cells #[.slice ga0 M.rooms.length gc0, .slice ga1 M.guilds.length gc1, .slice ga2 M.smiths.length gc2, .slice ga3 M.desks.length gc3, .slice ga4 M.paces.length gc4, .int .i64 M.now] 32) = W5 at *
  generalize w5.heap.size = gb at *
  clear hsz_W5
  have x0 := (unhide ku).cell (i := 0) (v := .slice ua0 M.rooms.length uc0) rfl
  have x1 := (unhide ku).cell (i := 1) (v := .slice ua1 M.guilds.length uc1) rfl
  have x2 := (unhide ku).cell (i := 2) (v := .slice ua2 M.smiths.length uc2) rfl
  have x3 := (unhide ku).cell (i := 3) (v := .slice ua3 M.desks.length uc3) rfl
  have x4 := (unhide ku).cell (i := 4) (v := .slice ua4 M.paces.length uc4) rfl
  have x5 := (unhide ku).cell (i := 5) (v := .int .i64 M.now) rfl
  have y0 := (unhide kg).cell (i := 0) (v := .slice ga0 M.rooms.length gc0) rfl
  have y1 := (unhide kg).cell (i := 1) (v := .slice ga1 M.guilds.length gc1) rfl
  have y2 := (unhide kg).cell (i := 2) (v := .slice ga2 M.smiths.length gc2) rfl
  have y3 := (unhide kg).cell (i := 3) (v := .slice ga3 M.desks.length gc3) rfl
  have y4 := (unhide kg).cell (i := 4) (v := .slice ga4 M.paces.length gc4) rfl
  have y5 := (unhide kg).cell (i := 5) (v := .int .i64 M.now) rfl
  go_wp2_with fail
  clear x0 x1 x2 x3 x4 x5 y0 y1 y2 y3 y4 y5
  refine (eqSmithy_yes (unhide HG).smy (unhide HU).smy).mono ?_
  rintro e w6 ⟨rfl, hb⟩
  replace ka := hide ((unhide ka).below hb (unhide ka).lt)
  replace HU := hide ((unhide HU).below hb)
  replace ku := hide ((unhide ku).below hb (unhide ku).lt)
  replace HX := hide ((unhide HX).below hb)
  replace kx := hide ((unhide kx).below hb (unhide kx).lt)
  replace HG := hide ((unhide HG).below hb)
  replace kg := hide ((unhide kg).below hb (unhide kg).lt)
  replace BB := hide ((unhide BB).trans (hb.mono (unhide BB).size))
  clear hb
  have c0 := (unhide ka).cell (i := 0) (v := .slice a0 m.rooms.length p0) rfl
  have c1 := (unhide ka).cell (i := 1) (v := .slice a1 m.guilds.length p1) rfl
  have c2 := (unhide ka).cell (i := 2) (v := .slice a2 m.smiths.length p2) rfl
  have c3 := (unhide ka).cell (i := 3) (v := .slice a3 m.desks.length p3) rfl
  have c4 := (unhide ka).cell (i := 4) (v := .slice a4 m.paces.length p4) rfl
  have c5 := (unhide ka).cell (i := 5) (v := .int .i64 m.now) rfl
  have x0 := (unhide kx).cell (i := 0) (v := .slice d0 m.rooms.length r0) rfl
  have x1 := (unhide kx).cell (i := 1) (v := .slice d1 m.guilds.length r1) rfl
  have x2 := (unhide kx).cell (i := 2) (v := .slice d2 m.smiths.length r2) rfl
  have x3 := (unhide kx).cell (i := 3) (v := .slice d3 m.desks.length r3) rfl
  have x4 := (unhide kx).cell (i := 4) (v := .slice d4 m.paces.length r4) rfl
  have x5 := (unhide kx).cell (i := 5) (v := .int .i64 m.now) rfl
  have V6 := hide ((unhide Hv).below (unhide BB))
  go_upto_region 10 with fail
  go_cut [49] (fun s wc => s = .bool false ∧ Below w6.heap.size w6 wc)
  case first =>
    go_region_with (first
      | (go_at_call 30; refine (toSmithy_any (m := m) ?_ (unhide Hs)).mono ?_; exact (unhide V6).below (Below.refl _ _).drew; rintro e w7 ⟨t0, t1, t2, t3, t4, rfl, ho, hb⟩; have k7 := ho.smy; obtain ⟨f0, j0, rfl, _, _⟩ := IsRooms.shape k7.rooms; obtain ⟨f1, j1, rfl, _, _⟩ := IsRec.shape k7.guilds; obtain ⟨f2, j2, rfl, _, _⟩ := IsRec.shape k7.smiths; obtain ⟨f3, j3, rfl, _, _⟩ := IsRec.shape k7.desks; obtain ⟨f4, j4, rfl, _, _⟩ := IsRec.shape k7.paces; have K7 := hide k7; have Hb7 : Hid (Below w6.heap.size w6 w7) := hide ⟨hb.os, hb.tape, hb.output, hb.size, hb.block⟩; have kx7 := (unhide kx).below (unhide Hb7) (unhide kx).lt; have y0 := kx7.cell (i := 0) (v := .slice d0 m.rooms.length r0) rfl; have y1 := kx7.cell (i := 1) (v := .slice d1 m.guilds.length r1) rfl; have y2 := kx7.cell (i := 2) (v := .slice d2 m.smiths.length r2) rfl; have y3 := kx7.cell (i := 3) (v := .slice d3 m.desks.length r3) rfl; have y4 := kx7.cell (i := 4) (v := .slice d4 m.paces.length r4) rfl; have y5 := kx7.cell (i := 5) (v := .int .i64 m.now) rfl; clear k7 ho hb kx7)
      | (go_at_call 31; refine (eqSmithy_yes (m := m) ?_ ?_).mono ?_; exact ((unhide HX).below (unhide Hb7)).smy; exact unhide K7; rintro e w8 ⟨rfl, hb⟩; have Hb8 := hide hb; clear hb))
    all_goals
      go_wp2_with fail
      go_meet
      exact ⟨rfl, (unhide Hb7).trans ((unhide Hb8).mono (unhide Hb7).size)⟩
  case rest =>
    obtain ⟨rfl, hb⟩ := hcut
    obtain ⟨w8, rfl⟩ : ∃ x, x = wc := ⟨wc, rfl⟩
    clear c0 c1 c2 c3 c4 c5 x0 x1 x2 x3 x4 x5
    replace ka := hide ((unhide ka).below hb (unhide ka).lt)
    replace HU := hide ((unhide HU).below hb)
    replace ku := hide ((unhide ku).below hb (unhide ku).lt)
    replace HX := hide ((unhide HX).below hb)
    replace kx := hide ((unhide kx).below hb (unhide kx).lt)
    replace HG := hide ((unhide HG).below hb)
    replace kg := hide ((unhide kg).below hb (unhide kg).lt)
    replace BB := hide ((unhide BB).trans (hb.mono (unhide BB).size))
    clear hb V6
    have x0 := (unhide kx).cell (i := 0) (v := .slice d0 m.rooms.length r0) rfl
    have x1 := (unhide kx).cell (i := 1) (v := .slice d1 m.guilds.length r1) rfl
    have x2 := (unhide kx).cell (i := 2) (v := .slice d2 m.smiths.length r2) rfl
    have x3 := (unhide kx).cell (i := 3) (v := .slice d3 m.desks.length r3) rfl
    have x4 := (unhide kx).cell (i := 4) (v := .slice d4 m.paces.length r4) rfl
    have x5 := (unhide kx).cell (i := 5) (v := .int .i64 m.now) rfl
    go_wp2_with fail
    clear x0 x1 x2 x3 x4 x5
    refine (markSmithy_any 1 ((unhide HX).mono (n₁ := 0) (Nat.zero_le _)) (unhide Hs) (Nat.zero_le _) (by omega) (by omega)).mono ?_
    rintro e w9 ⟨rfl, _, hon⟩
    have hen := endM_bd (unhide Hs) (unhide HX).rooms
    generalize endM 1 m xq = em at *
    have hwle := (unhide BB).size
    replace HU := hide ((unhide HU).keep fun k e => hon.at ((unhide HU).own e).2 fun e9 => by have h1 := unhide LU k e; have h2 := unhide LX k e9; omega)
    replace HG := hide ((unhide HG).keep fun k e => hon.at ((unhide HG).own e).2 fun e9 => by have h1 := unhide LG k e; have h2 := unhide LX k e9; omega)
    replace ku := hide ((unhide ku).same (hon.at (unhide ku).lt fun e9 => by have h2 := unhide LX _ e9; omega))
    replace kg := hide ((unhide kg).same (hon.at (unhide kg).lt fun e9 => by have h2 := unhide LX _ e9; omega))
    replace ka := hide ((unhide ka).same (hon.at (unhide ka).lt fun e9 => by have h2 := unhide LX _ e9; omega))
    replace BB := hide ((unhide BB).trans (hon.below hwle (fun k e => by have h2 := unhide LX k e; omega)))
    clear hon kx HX hwle
    have hk0 : ¬ em < 0 := by omega
    have x0 := (unhide ku).cell (i := 0) (v := .slice ua0 M.rooms.length uc0) rfl
    have x1 := (unhide ku).cell (i := 1) (v := .slice ua1 M.guilds.length uc1) rfl
    have x2 := (unhide ku).cell (i := 2) (v := .slice ua2 M.smiths.length uc2) rfl
    have x3 := (unhide ku).cell (i := 3) (v := .slice ua3 M.desks.length uc3) rfl
    have x4 := (unhide ku).cell (i := 4) (v := .slice ua4 M.paces.length uc4) rfl
    have x5 := (unhide ku).cell (i := 5) (v := .int .i64 M.now) rfl
    have y0 := (unhide kg).cell (i := 0) (v := .slice ga0 M.rooms.length gc0) rfl
    have y1 := (unhide kg).cell (i := 1) (v := .slice ga1 M.guilds.length gc1) rfl
    have y2 := (unhide kg).cell (i := 2) (v := .slice ga2 M.smiths.length gc2) rfl
    have y3 := (unhide kg).cell (i := 3) (v := .slice ga3 M.desks.length gc3) rfl
    have y4 := (unhide kg).cell (i := 4) (v := .slice ga4 M.paces.length gc4) rfl
    have y5 := (unhide kg).cell (i := 5) (v := .int .i64 M.now) rfl
    go_wp2_with fail
    clear x0 x1 x2 x3 x4 x5 y0 y1 y2 y3 y4 y5
    refine (eqSmithy_yes (unhide HG).smy (unhide HU).smy).mono ?_
    rintro e w10 ⟨rfl, hb⟩
    replace ka := hide ((unhide ka).below hb (unhide ka).lt)
    replace HU := hide ((unhide HU).below hb)
    replace ku := hide ((unhide ku).below hb (unhide ku).lt)
    replace HG := hide ((unhide HG).below hb)
    replace kg := hide ((unhide kg).below hb (unhide kg).lt)
    replace BB := hide ((unhide BB).trans (hb.mono (unhide BB).size))
    clear hb
    have y0 := (unhide kg).cell (i := 0) (v := .slice ga0 M.rooms.length gc0) rfl
    have y1 := (unhide kg).cell (i := 1) (v := .slice ga1 M.guilds.length gc1) rfl
    have y2 := (unhide kg).cell (i := 2) (v := .slice ga2 M.smiths.length gc2) rfl
    have y3 := (unhide kg).cell (i := 3) (v := .slice ga3 M.desks.length gc3) rfl
    have y4 := (unhide kg).cell (i := 4) (v := .slice ga4 M.paces.length gc4) rfl
    have y5 := (unhide kg).cell (i := 5) (v := .int .i64 M.now) rfl
    go_wp2_with fail
    clear y0 y1 y2 y3 y4 y5
    refine (markSmithy_any 1 ((unhide HG).mono (n₁ := 0) (Nat.zero_le _)) (unhide HsM) (Nat.zero_le _) (by omega) (by omega)).mono ?_
    rintro e w11 ⟨rfl, hgm, hon⟩
    have hgr := (unhide HG).rooms
    have hen2 := endM_bd (unhide HsM) hgr
    have hwle := (unhide BB).size
    replace HU := hide ((unhide HU).keep fun k e => hon.at ((unhide HU).own e).2 fun e9 => by have h1 := unhide LU k e; have h2 := unhide LG k e9; omega)
    replace ku := hide ((unhide ku).same (hon.at (unhide ku).lt fun e9 => by have h2 := unhide LG _ e9; omega))
    replace kg := hide ((unhide kg).same (hon.at (unhide kg).lt fun e9 => by have h2 := unhide LG _ e9; omega))
    replace ka := hide ((unhide ka).same (hon.at (unhide ka).lt fun e9 => by have h2 := unhide LG _ e9; omega))
    replace BB := hide ((unhide BB).trans (hon.below hwle (fun k e => by have h2 := unhide LG k e; omega)))
    replace HG := hide hgm
    have Hgr := hide hgr
    clear hgm hon hwle hgr
    have y0 := (unhide kg).cell (i := 0) (v := .slice ga0 M.rooms.length gc0) rfl
    have y1 := (unhide kg).cell (i := 1) (v := .slice ga1 M.guilds.length gc1) rfl
    have y2 := (unhide kg).cell (i := 2) (v := .slice ga2 M.smiths.length gc2) rfl
    have y3 := (unhide kg).cell (i := 3) (v := .slice ga3 M.desks.length gc3) rfl
    have y4 := (unhide kg).cell (i := 4) (v := .slice ga4 M.paces.length gc4) rfl
    have y5 := (unhide kg).cell (i := 5) (v := .int .i64 M.now) rfl
    go_wp2_with fail
    clear y0 y1 y2 y3 y4 y5
    refine (heldSmithy_yes 1 (unhide HG) (unhide HsM).rooms (unhide Hgr) (unhide HsM) (by omega) (by omega)).mono ?_
    rintro e w12 ⟨rfl, hb⟩
    replace ka := hide ((unhide ka).below hb (unhide ka).lt)
    replace HU := hide ((unhide HU).below hb)
    replace ku := hide ((unhide ku).below hb (unhide ku).lt)
    replace HG := hide ((unhide HG).below hb)
    replace kg := hide ((unhide kg).below hb (unhide kg).lt)
    replace BB := hide ((unhide BB).trans (hb.mono (unhide BB).size))
    clear hb
    have Hen2 := hide hen2
    obtain ⟨en, hene⟩ : ∃ x, endM 1 M gq = x := ⟨_, rfl⟩
    have hnn : ¬ en < 0 := by rw [← hene]; omega
    have Hene := hide hene
    rw [hene]
    clear hene hen2
    have c0 := (unhide ka).cell (i := 0) (v := .slice a0 m.rooms.length p0) rfl
    have c1 := (unhide ka).cell (i := 1) (v := .slice a1 m.guilds.length p1) rfl
    have c2 := (unhide ka).cell (i := 2) (v := .slice a2 m.smiths.length p2) rfl
    have c3 := (unhide ka).cell (i := 3) (v := .slice a3 m.desks.length p3) rfl
    have c4 := (unhide ka).cell (i := 4) (v := .slice a4 m.paces.length p4) rfl
    have c5 := (unhide ka).cell (i := 5) (v := .int .i64 m.now) rfl
    go_wp2_with fail
    clear c0 c1 c2 c3 c4 c5
    refine (toSmithy_any ((unhide Hv).below (unhide BB)) (unhide Hs)).mono ?_
    rintro e w13 ⟨s0, s1, s2, s3, s4, rfl, ho, hb⟩
    have k13 := ho.smy
    obtain ⟨f0, j0, rfl, _, _⟩ := IsRooms.shape k13.rooms
    obtain ⟨f1, j1, rfl, _, _⟩ := IsRec.shape k13.guilds
    obtain ⟨f2, j2, rfl, _, _⟩ := IsRec.shape k13.smiths
    obtain ⟨f3, j3, rfl, _, _⟩ := IsRec.shape k13.desks
    obtain ⟨f4, j4, rfl, _, _⟩ := IsRec.shape k13.paces
    have K13 := hide k13
    clear k13 ho
    replace ka := hide ((unhide ka).below hb (unhide ka).lt)
    replace HU := hide ((unhide HU).below hb)
    replace ku := hide ((unhide ku).below hb (unhide ku).lt)
    replace HG := hide ((unhide HG).below hb)
    replace kg := hide ((unhide kg).below hb (unhide kg).lt)
    replace BB := hide ((unhide BB).trans (hb.mono (unhide BB).size))
    clear hb
    go_wp2_with fail
    refine (unhide HI1 _ _ _ _ _ _ ((unhide HEr).below (unhide BB)) (unhide K13)).mono ?_
    rintro e w14 ⟨⟨y0, y1, y2, y3, y4, hq, rfl, ho⟩, hb⟩
    have k9 := ho.smy
    obtain ⟨ha0, hc0, rfl, _, _⟩ := IsRooms.shape k9.rooms
    obtain ⟨ha1, hc1, rfl, _, _⟩ := IsRec.shape k9.guilds
    obtain ⟨ha2, hc2, rfl, _, _⟩ := IsRec.shape k9.smiths
    obtain ⟨ha3, hc3, rfl, _, _⟩ := IsRec.shape k9.desks
    obtain ⟨ha4, hc4, rfl, _, _⟩ := IsRec.shape k9.paces
    clear ho K13
    replace ka := hide ((unhide ka).below hb (unhide ka).lt)
    replace HU := hide ((unhide HU).below hb)
    replace ku := hide ((unhide ku).below hb (unhide ku).lt)
    replace HG := hide ((unhide HG).below hb)
    replace kg := hide ((unhide kg).below hb (unhide kg).lt)
    replace BB := hide ((unhide BB).trans (hb.mono (unhide BB).size))
    have HH := hide k9
    clear k9 hb
    go_upto_region 25 with fail
    have hba : Below w14.heap.size w14 (w14.alloc (.cells #[.slice ha0 M.rooms.length hc0, .slice ha1 M.guilds.length hc1, .slice ha2 M.smiths.length hc2, .slice ha3 M.desks.length hc3, .slice ha4 M.paces.length hc4, .int .i64 M.now] 32)) := (Below.refl _ _).alloc (Nat.le_refl _) _
    replace ka := hide ((unhide ka).below hba (unhide ka).lt)
    replace HU := hide ((unhide HU).below hba)
    replace ku := hide ((unhide ku).below hba (unhide ku).lt)
    replace HG := hide ((unhide HG).below hba)
    replace kg := hide ((unhide kg).below hba (unhide kg).lt)
    replace HH := hide ((unhide HH).below hba)
    replace BB := hide ((unhide BB).trans (hba.mono (unhide BB).size))
    have kh : Hid (Blk (w14.alloc (.cells #[.slice ha0 M.rooms.length hc0, .slice ha1 M.guilds.length hc1, .slice ha2 M.smiths.length hc2, .slice ha3 M.desks.length hc3, .slice ha4 M.paces.length hc4, .int .i64 M.now] 32)) w14.heap.size 32 #[.slice ha0 M.rooms.length hc0, .slice ha1 M.guilds.length hc1, .slice ha2 M.smiths.length hc2, .slice ha3 M.desks.length hc3, .slice ha4 M.paces.length hc4, .int .i64 M.now]) := hide (Blk.new _ _ _)
    have hsz_W14 : w14.heap.size + 1 ≤ (w14.alloc (.cells #[.slice ha0 M.rooms.length hc0, .slice ha1 M.guilds.length hc1, .slice ha2 M.smiths.length hc2, .slice ha3 M.desks.length hc3, .slice ha4 M.paces.length hc4, .int .i64 M.now] 32)).heap.size := by simp
    clear hba
    generalize w14.alloc (.cells #[.slice ha0 M.rooms.length hc0, .slice ha1 M.guilds.length hc1, .slice ha2 M.smiths.length hc2, .slice ha3 M.desks.length hc3, .slice ha4 M.paces.length hc4, .int .i64 M.now] 32) = W14 at *
    generalize w14.heap.size = hb2 at *
    clear hsz_W14
    have x0 := (unhide ku).cell (i := 0) (v := .slice ua0 M.rooms.length uc0) rfl
    have x1 := (unhide ku).cell (i := 1) (v := .slice ua1 M.guilds.length uc1) rfl
    have x2 := (unhide ku).cell (i := 2) (v := .slice ua2 M.smiths.length uc2) rfl
    have x3 := (unhide ku).cell (i := 3) (v := .slice ua3 M.desks.length uc3) rfl
    have x4 := (unhide ku).cell (i := 4) (v := .slice ua4 M.paces.length uc4) rfl
    have x5 := (unhide ku).cell (i := 5) (v := .int .i64 M.now) rfl
    have y0 := (unhide kh).cell (i := 0) (v := .slice ha0 M.rooms.length hc0) rfl
    have y1 := (unhide kh).cell (i := 1) (v := .slice ha1 M.guilds.length hc1) rfl
    have y2 := (unhide kh).cell (i := 2) (v := .slice ha2 M.smiths.length hc2) rfl
    have y3 := (unhide kh).cell (i := 3) (v := .slice ha3 M.desks.length hc3) rfl
    have y4 := (unhide kh).cell (i := 4) (v := .slice ha4 M.paces.length hc4) rfl
    have y5 := (unhide kh).cell (i := 5) (v := .int .i64 M.now) rfl
    go_wp2_with fail
    clear x0 x1 x2 x3 x4 x5 y0 y1 y2 y3 y4 y5
    refine (eqSmithy_yes (unhide HH) (unhide HU).smy).mono ?_
    rintro e w15 ⟨rfl, hb⟩
    replace ka := hide ((unhide ka).below hb (unhide ka).lt)
    replace HU := hide ((unhide HU).below hb)
    replace ku := hide ((unhide ku).below hb (unhide ku).lt)
    replace HG := hide ((unhide HG).below hb)
    replace kg := hide ((unhide kg).below hb (unhide kg).lt)
    replace HH := hide ((unhide HH).below hb)
    replace kh := hide ((unhide kh).below hb (unhide kh).lt)
    replace BB := hide ((unhide BB).trans (hb.mono (unhide BB).size))
    clear hb
    have y0 := (unhide kg).cell (i := 0) (v := .slice ga0 M.rooms.length gc0) rfl
    have y1 := (unhide kg).cell (i := 1) (v := .slice ga1 M.guilds.length gc1) rfl
    have y2 := (unhide kg).cell (i := 2) (v := .slice ga2 M.smiths.length gc2) rfl
    have y3 := (unhide kg).cell (i := 3) (v := .slice ga3 M.desks.length gc3) rfl
    have y4 := (unhide kg).cell (i := 4) (v := .slice ga4 M.paces.length gc4) rfl
    have y5 := (unhide kg).cell (i := 5) (v := .int .i64 M.now) rfl
    go_wp2_with fail
    clear y0 y1 y2 y3 y4 y5
    refine (heldSmithy_yes 1 (unhide HG) (unhide HsM).rooms (unhide Hgr) (unhide HsM) (by omega) (by omega)).mono ?_
    rw [unhide Hene]
    rintro e w16 ⟨rfl, hb⟩
    replace ka := hide ((unhide ka).below hb (unhide ka).lt)
    replace HU := hide ((unhide HU).below hb)
    replace ku := hide ((unhide ku).below hb (unhide ku).lt)
    replace HG := hide ((unhide HG).below hb)
    replace kg := hide ((unhide kg).below hb (unhide kg).lt)
    replace HH := hide ((unhide HH).below hb)
    replace kh := hide ((unhide kh).below hb (unhide kh).lt)
    replace BB := hide ((unhide BB).trans (hb.mono (unhide BB).size))
    clear hb
    go_wp2_with fail
    go_ret
    exact ⟨rfl, unhide BB⟩

theorem walkFnExactRest (v0 v1 v2 v3 v4 : Value) (m : SmyV) (who : Int) (w : World) (h : Smy w v0 v1 v2 v3 v4 m) (her : ∃ q, Errs w q) :
    Calls Tryz.prog 7 #[.agg #[v0, v1, v2, v3, v4, .int .i64 m.now], .int .i64 who] w fun e w' => e = .returned (.bool true) ∧ Below w.heap.size w w' := by
  obtain ⟨q, he⟩ := her
  exact walkFnExactRest_of (fun _ _ _ _ _ _ _ who h => specRest_any who h) (fun _ _ _ _ _ _ _ who he h => implRest_any who he h) (fun m who => rest_small m who) v0 v1 v2 v3 v4 m who w he h

end Go.Proofs.YthbbahagpmdooaaGreatDoor

/- A room or a hall that is handed in, opened: what it reads as. No condition. -/
namespace Go.Proofs.YthbbahagpmdooaaGreatDoor
open Go.ChangeShapes Go.WideShapes Go.ChangeAt Go.RowKit Go.Deep
set_option linter.unusedVariables false

theorem addr_two {w : World} {b off i : Nat} {u u' : Value} (h1 : w.cell? ((⟨b, off, none⟩ : Addr).add (i * 2)) = some u) (h2 : w.cell? ((⟨b, off, none⟩ : Addr).add (i * 2 + 1)) = some u') :
    w.cell? ⟨b, off + i * 2, none⟩ = some u ∧ w.cell? ⟨b, off + i * 2 + 1, none⟩ = some u' := by
  by_cases hi : i = 0
  · subst hi
    simp [Addr.add] at h1 h2 ⊢
    exact ⟨h1, h2⟩
  · have h2i : ¬ i * 2 = 0 := by omega
    simp [Addr.add, h2i] at h1 h2 ⊢
    exact ⟨h1, h2⟩

theorem open_paces {H : Type} {enc : TypeId × Value → H} {W : World} {spare : Nat → Bool} {held : Bool} {n : Nat} {v : Value} {y : DataW H × List MemPlace}
    (h : DataW.trod enc Tryz.prog W 0 spare held n 206 [v] = some y) : ∃ ps, IsPaces W v ps := by
  rcases open_slice_pairs Tryz.underlying206 Tryz.underlying287 (by kernel_rfl) rfl rfl (by kernel_rfl) (by kernel_rfl) h with ⟨hv, _⟩ | ⟨a, len, cap, m, n', V0, V1, D0, D1, P0, P1, hv, _, hl, hm, hmm, _, hx⟩
  · cases hv
    exact ⟨[], none, 0, rfl, Nat.le_refl _, by omega, .inl rfl⟩
  · cases hv
    have hlm : len ≤ m := by rw [hmm]; split <;> omega
    obtain ⟨F, hF⟩ := choose_lt (α := Int × Int) (n := len) (p := fun i q => V0 i = .int .i64 q.1 ∧ V1 i = .int .i64 q.2) (fun i hi => by
      obtain ⟨_, _, t0, t1⟩ := hx i (by omega)
      obtain ⟨q0, e0, _⟩ := DataW.trod_int Tryz.underlying2 t0
      obtain ⟨q1, e1, _⟩ := DataW.trod_int Tryz.underlying2 t1
      exact ⟨(q0, q1), by simpa using e0, by simpa using e1⟩)
    have hlen : ((List.range len).map F).length = len := by simp
    refine ⟨(List.range len).map F, some a, cap, by rw [hlen], by rw [hlen]; exact hl, by unfold maxLen at hm; omega, ?_⟩
    by_cases hz : len = 0
    · exact .inl (by simp [hz])
    · have h0 := hx 0 (by omega)
      have sp := World.cell?_spot h0.1
      have hlt := World.block_lt_of_cell? _ _ h0.1
      obtain ⟨b, off, spot⟩ := a
      have hspot : spot = none := by simpa [Addr.add] using sp
      subst hspot
      refine .inr ⟨b, off, rfl, by simpa [Addr.add] using hlt, fun k hk => ?_⟩
      rw [hlen] at hk
      obtain ⟨c0, c1, _, _⟩ := hx k (by omega)
      obtain ⟨e0, e1⟩ := hF k hk
      have hat : paceAt ((List.range len).map F) k = F k := by unfold paceAt; simp [List.getD, hk]
      rw [hat, ← e0, ← e1]
      exact addr_two c0 c1

theorem open_rooms {H : Type} {enc : TypeId × Value → H} {W : World} {spare : Nat → Bool} {held : Bool} {n : Nat} {v : Value} {y : DataW H × List MemPlace}
    (h : DataW.trod enc Tryz.prog W 0 spare held n 48 [v] = some y) : ∃ rs, IsRooms W v rs := by
  rcases open_slice_pairs Tryz.underlying48 Tryz.underlying208 (by kernel_rfl) rfl rfl (by kernel_rfl) (by kernel_rfl) h with ⟨hv, _⟩ | ⟨a, len, cap, m, n', V0, V1, D0, D1, P0, P1, hv, _, hl, hm, hmm, _, hx⟩
  · cases hv
    exact ⟨[], none, 0, rfl, Nat.le_refl _, by omega, .inl rfl⟩
  · cases hv
    have hlm : len ≤ m := by rw [hmm]; split <;> omega
    obtain ⟨F, hF⟩ := choose_lt (α := RoomV) (n := len) (p := fun i q => V0 i = .int .i64 q.1 ∧ IsPaces W (V1 i) q.2) (fun i hi => by
      obtain ⟨_, _, t0, t1⟩ := hx i (by omega)
      obtain ⟨q0, e0, _⟩ := DataW.trod_int Tryz.underlying2 t0
      obtain ⟨ps, e1⟩ := open_paces t1
      exact ⟨(q0, ps), by simpa using e0, e1⟩)
    have hlen : ((List.range len).map F).length = len := by simp
    refine ⟨(List.range len).map F, some a, cap, by rw [hlen], by rw [hlen]; exact hl, by unfold maxLen at hm; omega, ?_⟩
    by_cases hz : len = 0
    · exact .inl (by simp [hz])
    · have h0 := hx 0 (by omega)
      have sp := World.cell?_spot h0.1
      have hlt := World.block_lt_of_cell? _ _ h0.1
      obtain ⟨b, off, spot⟩ := a
      have hspot : spot = none := by simpa [Addr.add] using sp
      subst hspot
      refine .inr ⟨b, off, rfl, by simpa [Addr.add] using hlt, fun k hk => ?_⟩
      rw [hlen] at hk
      obtain ⟨c0, c1, _, _⟩ := hx k (by omega)
      obtain ⟨e0, e1⟩ := hF k hk
      have hat : roomAt ((List.range len).map F) k = F k := by unfold roomAt; simp [List.getD, hk]
      rw [hat, ← e0]
      exact ⟨(addr_two c0 c1).1, V1 k, (addr_two c0 c1).2, e1⟩

end Go.Proofs.YthbbahagpmdooaaGreatDoor

/- A list of records (Guild), or one, that is handed in, opened: what it reads as. No condition. -/
namespace Go.Proofs.YthbbahagpmdooaaGreatDoor
open Go.ChangeShapes Go.WideShapes Go.ChangeAt Go.RowKit Go.Deep
set_option linter.unusedVariables false

set_option maxRecDepth 100000 in
theorem trod_guilds {H : Type} {enc : TypeId × Value → H} {W : World} {spare : Nat → Bool} {held : Bool} {n : Nat} {v : Value} {y : DataW H × List MemPlace}
    (h : DataW.trod enc Tryz.prog W 0 spare held n 51 [v] = some y) : ∃ ps, IsGuilds W v ps := by
  refine open_recs (k := 3) (enc := encGuild) Tryz.underlying51 Tryz.underlying145 (by kernel_rfl) rfl (by kernel_rfl) (by omega) ?_ h
  intro cs hl hc
  match cs, hl with
  | [c0, c1, c2], _ =>
    obtain ⟨u0, n0, y0, e0, t0⟩ := hc 0 _ rfl
    obtain ⟨u1, n1, y1, e1, t1⟩ := hc 1 _ rfl
    obtain ⟨u2, n2, y2, e2, t2⟩ := hc 2 _ rfl
    obtain ⟨z0, q0, _⟩ := DataW.trod_int Tryz.underlying2 t0
    obtain ⟨z1, q1, _⟩ := DataW.trod_int Tryz.underlying2 t1
    obtain ⟨z2, q2, _⟩ := DataW.trod_int Tryz.underlying2 t2
    cases e0; cases e1; cases e2; cases q0; cases q1; cases q2
    exact ⟨(z0, z1, z2), rfl⟩
end Go.Proofs.YthbbahagpmdooaaGreatDoor

/- A list of records (Smith), or one, that is handed in, opened: what it reads as. No condition. -/
namespace Go.Proofs.YthbbahagpmdooaaGreatDoor
open Go.ChangeShapes Go.WideShapes Go.ChangeAt Go.RowKit Go.Deep
set_option linter.unusedVariables false

set_option maxRecDepth 100000 in
theorem trod_smiths {H : Type} {enc : TypeId × Value → H} {W : World} {spare : Nat → Bool} {held : Bool} {n : Nat} {v : Value} {y : DataW H × List MemPlace}
    (h : DataW.trod enc Tryz.prog W 0 spare held n 52 [v] = some y) : ∃ ps, IsSmiths W v ps := by
  refine open_recs (k := 11) (enc := encSmith) Tryz.underlying52 Tryz.underlying147 (by kernel_rfl) rfl (by kernel_rfl) (by omega) ?_ h
  intro cs hl hc
  match cs, hl with
  | [c0, c1, c2, c3, c4, c5, c6, c7, c8, c9, c10], _ =>
    obtain ⟨u0, n0, y0, e0, t0⟩ := hc 0 _ rfl
    obtain ⟨u1, n1, y1, e1, t1⟩ := hc 1 _ rfl
    obtain ⟨u2, n2, y2, e2, t2⟩ := hc 2 _ rfl
    obtain ⟨u3, n3, y3, e3, t3⟩ := hc 3 _ rfl
    obtain ⟨u4, n4, y4, e4, t4⟩ := hc 4 _ rfl
    obtain ⟨u5, n5, y5, e5, t5⟩ := hc 5 _ rfl
    obtain ⟨u6, n6, y6, e6, t6⟩ := hc 6 _ rfl
    obtain ⟨u7, n7, y7, e7, t7⟩ := hc 7 _ rfl
    obtain ⟨u8, n8, y8, e8, t8⟩ := hc 8 _ rfl
    obtain ⟨u9, n9, y9, e9, t9⟩ := hc 9 _ rfl
    obtain ⟨u10, n10, y10, e10, t10⟩ := hc 10 _ rfl
    obtain ⟨z0, q0, _⟩ := DataW.trod_int Tryz.underlying2 t0
    obtain ⟨z1, q1, _⟩ := DataW.trod_int Tryz.underlying2 t1
    obtain ⟨z2, q2, _⟩ := DataW.trod_int Tryz.underlying2 t2
    obtain ⟨z3, q3, _⟩ := DataW.trod_int Tryz.underlying2 t3
    obtain ⟨z4, q4, _⟩ := DataW.trod_int Tryz.underlying2 t4
    obtain ⟨z5, q5, _⟩ := DataW.trod_int Tryz.underlying2 t5
    obtain ⟨z6, q6, _⟩ := DataW.trod_int Tryz.underlying2 t6
    obtain ⟨z7, q7, _⟩ := DataW.trod_int Tryz.underlying2 t7
    obtain ⟨z8, q8, _⟩ := DataW.trod_int Tryz.underlying2 t8
    obtain ⟨z9, q9, _⟩ := DataW.trod_int Tryz.underlying2 t9
    obtain ⟨z10, q10, _⟩ := DataW.trod_int Tryz.underlying2 t10
    cases e0; cases e1; cases e2; cases e3; cases e4; cases e5; cases e6; cases e7; cases e8; cases e9; cases e10; cases q0; cases q1; cases q2; cases q3; cases q4; cases q5; cases q6; cases q7; cases q8; cases q9; cases q10
    exact ⟨(z0, z1, z2, z3, z4, z5, z6, z7, z8, z9, z10), rfl⟩
end Go.Proofs.YthbbahagpmdooaaGreatDoor

/- A list of records (Desk), or one, that is handed in, opened: what it reads as. No condition. -/
namespace Go.Proofs.YthbbahagpmdooaaGreatDoor
open Go.ChangeShapes Go.WideShapes Go.ChangeAt Go.RowKit Go.Deep
set_option linter.unusedVariables false

set_option maxRecDepth 100000 in
theorem trod_desks {H : Type} {enc : TypeId × Value → H} {W : World} {spare : Nat → Bool} {held : Bool} {n : Nat} {v : Value} {y : DataW H × List MemPlace}
    (h : DataW.trod enc Tryz.prog W 0 spare held n 53 [v] = some y) : ∃ ps, IsDesks W v ps := by
  refine open_recs (k := 3) (enc := encDesk) Tryz.underlying53 Tryz.underlying149 (by kernel_rfl) rfl (by kernel_rfl) (by omega) ?_ h
  intro cs hl hc
  match cs, hl with
  | [c0, c1, c2], _ =>
    obtain ⟨u0, n0, y0, e0, t0⟩ := hc 0 _ rfl
    obtain ⟨u1, n1, y1, e1, t1⟩ := hc 1 _ rfl
    obtain ⟨u2, n2, y2, e2, t2⟩ := hc 2 _ rfl
    obtain ⟨z0, q0, _⟩ := DataW.trod_bool Tryz.underlying4 t0
    obtain ⟨z1, q1, _⟩ := DataW.trod_int Tryz.underlying2 t1
    obtain ⟨z2, q2, _⟩ := DataW.trod_int Tryz.underlying2 t2
    cases e0; cases e1; cases e2; cases q0; cases q1; cases q2
    exact ⟨(z0, z1, z2), rfl⟩
end Go.Proofs.YthbbahagpmdooaaGreatDoor

