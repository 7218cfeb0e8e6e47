/- What the proof rests on, part 13: lists and numbers, how they lie in memory, and contracts of the calls. No condition but those that a theorem names. -/
import Derived.Test.YtnponpamjddpjabGreatXc01
import Derived.Test.YtnponpamjddpjabGreatXc02
import Derived.Test.YtnponpamjddpjabGreatXc03
import Derived.Test.YtnponpamjddpjabGreatXc04
import Derived.Test.YtnponpamjddpjabGreatXc05
import Derived.Test.YtnponpamjddpjabGreatXc06
import Derived.Test.YtnponpamjddpjabGreatXc07
import Derived.Test.YtnponpamjddpjabGreatXc08
import Derived.Test.YtnponpamjddpjabGreatXc09
import Derived.Test.YtnponpamjddpjabGreatXc10
import Derived.Test.YtnponpamjddpjabGreatXc11
import Derived.Test.YtnponpamjddpjabGreatXc12
import Derived.Deep.RegionWith
import Derived.Laws.CopyRow
import Derived.WalkMore
import Derived.Below
import Derived.ChangeKeysEq
import Derived.Laws.StructEq
import Derived.WalkKit
import Derived.ProofKit
import Derived.OpenShut
import Derived.Outline
import Derived.Lib.QuietBelow
import Derived.RangeFuncCalls
import Derived.Shelf.RegionOpen
import Derived.Deep.RegionHeld3
import Derived.Deep.DrawnRows
import Derived.BigRegion
import Derived.Deep.RegionLawGrows
import Derived.Deep.LoopGhost
import Derived.Deep.QuietTactic
import Derived.BigQuiet
import Derived.Laws.OwnMore
import Derived.OwnWalk
import Derived.Maps.AppendAt
import Derived.RangeFuncNested
import Derived.RangeFuncBound
import Derived.RangeFuncLeaves
import Derived.RangeFuncBox
import Derived.Shelf.Abstract
import Derived.OwnWalkIn
import Derived.TacticsInMore
import Derived.LoopNIn
import Derived.LoopIn
import Derived.Lib.SmallJoins
import Derived.Deep.Fields
import Derived.Deep.Slices
import Derived.OrdersHeld
import Derived.Deep.RegionHeldLaw
import Derived.Deep.DeepCutAuto
/- The walk of the exact law on CoalOf. Condition: the smithy can be read. -/
namespace Go.Proofs.YtnponpamjddpjabGreat
open Go.ChangeShapes Go.WideShapes Go.ChangeAt Go.RowKit Go.Sort
set_option linter.unusedVariables false

set_option maxRecDepth 100000 in
set_option maxHeartbeats 8000000 in
theorem walkFnExactCoalOf (v0 v1 v2 v3 v4 : Value) (m : SmyV) (w : World) (h : Smy w v0 v1 v2 v3 v4 m) :
    Calls Tryz.prog 5 #[.agg #[v0, v1, v2, v3, v4, .int .i64 m.now]] w fun e w' => e = .returned (.bool true) ∧ Below w.heap.size w w' := by
  obtain ⟨q, hq⟩ : ∃ q, coalOfV m = q := ⟨_, rfl⟩
  have Hq := hide hq
  clear hq
  have Hv := hide h
  obtain ⟨a0, p0, rfl, _, _⟩ := IsRooms.shape h.rooms
  obtain ⟨a1, p1, rfl, _, _⟩ := IsRec.shape h.guilds
  obtain ⟨a2, p2, rfl, _, _⟩ := IsRec.shape h.smiths
  obtain ⟨a3, p3, rfl, _, _⟩ := IsRec.shape h.desks
  obtain ⟨a4, p4, rfl, _, _⟩ := IsRec.shape h.paces
  clear h
  go_enter Tryz.func5, Tryz.ntmps5
  go_wp2_with fail
  refine (szSmithy_any ((unhide Hv).alloc _)).mono ?_
  rintro e w1 ⟨x, rfl, hx, hb⟩
  have ka : Hid (Blk w1 w.heap.size 30 #[.slice a0 m.rooms.length p0, .slice a1 m.guilds.length p1, .slice a2 m.smiths.length p2, .slice a3 m.desks.length p3, .slice a4 m.paces.length p4, .int .i64 m.now]) := hide ((Blk.new w _ _).below hb (by simp))
  have BB : Hid (Below w.heap.size w w1) := hide (((Below.refl _ _).alloc (Nat.le_refl _) _).trans (hb.mono (by simp)))
  have Hx := hide hx
  clear hx hb
  by_cases hx0 : x < 0
  · go_wp2_with fail
    go_ret
    exact ⟨rfl, unhide BB⟩
  have Hs := hide (unhide Hx (by omega))
  clear Hx
  have c0 := (unhide ka).cell (i := 0) (v := .slice a0 m.rooms.length p0) rfl
  have c1 := (unhide ka).cell (i := 1) (v := .slice a1 m.guilds.length p1) rfl
  have c2 := (unhide ka).cell (i := 2) (v := .slice a2 m.smiths.length p2) rfl
  have c3 := (unhide ka).cell (i := 3) (v := .slice a3 m.desks.length p3) rfl
  have c4 := (unhide ka).cell (i := 4) (v := .slice a4 m.paces.length p4) rfl
  have c5 := (unhide ka).cell (i := 5) (v := .int .i64 m.now) rfl
  go_wp2_with fail
  refine (toSmithy_any ((unhide Hv).below (unhide BB)) (unhide Hs)).mono ?_
  rintro e w2 ⟨u0, u1, u2, u3, u4, rfl, ho, hb⟩
  clear c0 c1 c2 c3 c4 c5
  have k2 := ho.smy
  obtain ⟨b0, q0, rfl, _, _⟩ := IsRooms.shape k2.rooms
  obtain ⟨b1, q1, rfl, _, _⟩ := IsRec.shape k2.guilds
  obtain ⟨b2, q2, rfl, _, _⟩ := IsRec.shape k2.smiths
  obtain ⟨b3, q3, rfl, _, _⟩ := IsRec.shape k2.desks
  obtain ⟨b4, q4, rfl, _, _⟩ := IsRec.shape k2.paces
  have K2 := hide k2
  clear k2 ho
  replace ka := hide ((unhide ka).below hb (unhide ka).lt)
  replace BB := hide ((unhide BB).trans (hb.mono (unhide BB).size))
  clear hb
  go_wp2_with fail
  refine (specCoalOf_any (unhide Hq) (unhide K2)).mono ?_
  rintro e w3 ⟨rfl, hb⟩
  replace ka := hide ((unhide ka).below hb (unhide ka).lt)
  replace BB := hide ((unhide BB).trans (hb.mono (unhide BB).size))
  clear hb K2
  have c0 := (unhide ka).cell (i := 0) (v := .slice a0 m.rooms.length p0) rfl
  have c1 := (unhide ka).cell (i := 1) (v := .slice a1 m.guilds.length p1) rfl
  have c2 := (unhide ka).cell (i := 2) (v := .slice a2 m.smiths.length p2) rfl
  have c3 := (unhide ka).cell (i := 3) (v := .slice a3 m.desks.length p3) rfl
  have c4 := (unhide ka).cell (i := 4) (v := .slice a4 m.paces.length p4) rfl
  have c5 := (unhide ka).cell (i := 5) (v := .int .i64 m.now) rfl
  go_wp2_with fail
  refine (toSmithy_any ((unhide Hv).below (unhide BB)) (unhide Hs)).mono ?_
  rintro e w4 ⟨u0, u1, u2, u3, u4, rfl, ho, hb⟩
  clear c0 c1 c2 c3 c4 c5
  have k4 := ho.smy
  obtain ⟨d0, r0, rfl, _, _⟩ := IsRooms.shape k4.rooms
  obtain ⟨d1, r1, rfl, _, _⟩ := IsRec.shape k4.guilds
  obtain ⟨d2, r2, rfl, _, _⟩ := IsRec.shape k4.smiths
  obtain ⟨d3, r3, rfl, _, _⟩ := IsRec.shape k4.desks
  obtain ⟨d4, r4, rfl, _, _⟩ := IsRec.shape k4.paces
  have K4 := hide (k4.alloc (.cells #[.slice d0 m.rooms.length r0, .slice d1 m.guilds.length r1, .slice d2 m.smiths.length r2, .slice d3 m.desks.length r3, .slice d4 m.paces.length r4, .int .i64 m.now] 40))
  clear k4 ho
  replace ka := hide ((unhide ka).below hb (unhide ka).lt)
  replace BB := hide ((unhide BB).trans (hb.mono (unhide BB).size))
  clear hb
  go_wp2_with fail
  replace ka := hide ((unhide ka).alloc (.cells #[.slice d0 m.rooms.length r0, .slice d1 m.guilds.length r1, .slice d2 m.smiths.length r2, .slice d3 m.desks.length r3, .slice d4 m.paces.length r4, .int .i64 m.now] 40))
  replace BB := hide ((unhide BB).alloc (unhide BB).size (.cells #[.slice d0 m.rooms.length r0, .slice d1 m.guilds.length r1, .slice d2 m.smiths.length r2, .slice d3 m.desks.length r3, .slice d4 m.paces.length r4, .int .i64 m.now] 40))
  have kx : Hid (Blk (w4.alloc (.cells #[.slice d0 m.rooms.length r0, .slice d1 m.guilds.length r1, .slice d2 m.smiths.length r2, .slice d3 m.desks.length r3, .slice d4 m.paces.length r4, .int .i64 m.now] 40)) w4.heap.size 40 #[.slice d0 m.rooms.length r0, .slice d1 m.guilds.length r1, .slice d2 m.smiths.length r2, .slice d3 m.desks.length r3, .slice d4 m.paces.length r4, .int .i64 m.now]) := hide (Blk.new _ _ _)
  generalize w4.alloc (.cells #[.slice d0 m.rooms.length r0, .slice d1 m.guilds.length r1, .slice d2 m.smiths.length r2, .slice d3 m.desks.length r3, .slice d4 m.paces.length r4, .int .i64 m.now] 40) = W at *
  generalize w4.heap.size = xb at *
  refine (implCoalOf_any (unhide Hq) (unhide K4)).mono ?_
  rintro e w5 ⟨rfl, hb⟩
  replace K4 := hide ((unhide K4).below hb)
  replace ka := hide ((unhide ka).below hb (unhide ka).lt)
  replace kx := hide ((unhide kx).below hb (unhide kx).lt)
  replace BB := hide ((unhide BB).trans (hb.mono (unhide BB).size))
  clear hb
  have V5 := hide ((unhide Hv).below (unhide BB))
  have c0 := (unhide ka).cell (i := 0) (v := .slice a0 m.rooms.length p0) rfl
  have c1 := (unhide ka).cell (i := 1) (v := .slice a1 m.guilds.length p1) rfl
  have c2 := (unhide ka).cell (i := 2) (v := .slice a2 m.smiths.length p2) rfl
  have c3 := (unhide ka).cell (i := 3) (v := .slice a3 m.desks.length p3) rfl
  have c4 := (unhide ka).cell (i := 4) (v := .slice a4 m.paces.length p4) rfl
  have c5 := (unhide ka).cell (i := 5) (v := .int .i64 m.now) rfl
  have x0 := (unhide kx).cell (i := 0) (v := .slice d0 m.rooms.length r0) rfl
  have x1 := (unhide kx).cell (i := 1) (v := .slice d1 m.guilds.length r1) rfl
  have x2 := (unhide kx).cell (i := 2) (v := .slice d2 m.smiths.length r2) rfl
  have x3 := (unhide kx).cell (i := 3) (v := .slice d3 m.desks.length r3) rfl
  have x4 := (unhide kx).cell (i := 4) (v := .slice d4 m.paces.length r4) rfl
  have x5 := (unhide kx).cell (i := 5) (v := .int .i64 m.now) rfl
  go_wp2_with fail
  go_region_with (first
    | (go_at_call 9; refine (toSmithy_any (m := m) ?_ (unhide Hs)).mono ?_; exact (unhide V5).below (Below.refl _ _).drew; rintro e w6 ⟨u0, u1, u2, u3, u4, rfl, ho, hb⟩; have k6 := ho.smy; obtain ⟨f0, t0, rfl, _, _⟩ := IsRooms.shape k6.rooms; obtain ⟨f1, t1, rfl, _, _⟩ := IsRec.shape k6.guilds; obtain ⟨f2, t2, rfl, _, _⟩ := IsRec.shape k6.smiths; obtain ⟨f3, t3, rfl, _, _⟩ := IsRec.shape k6.desks; obtain ⟨f4, t4, rfl, _, _⟩ := IsRec.shape k6.paces; have K6 := hide k6; have Hb6 : Hid (Below w5.heap.size w5 w6) := hide ⟨hb.os, hb.tape, hb.output, hb.size, hb.block⟩; have kx6 := (unhide kx).below (unhide Hb6) (unhide kx).lt; have y0 := kx6.cell (i := 0) (v := .slice d0 m.rooms.length r0) rfl; have y1 := kx6.cell (i := 1) (v := .slice d1 m.guilds.length r1) rfl; have y2 := kx6.cell (i := 2) (v := .slice d2 m.smiths.length r2) rfl; have y3 := kx6.cell (i := 3) (v := .slice d3 m.desks.length r3) rfl; have y4 := kx6.cell (i := 4) (v := .slice d4 m.paces.length r4) rfl; have y5 := kx6.cell (i := 5) (v := .int .i64 m.now) rfl; clear k6 ho hb kx6)
    | (go_at_call 11; refine (eqSmithy_yes (m := m) ?_ ?_).mono ?_; exact (unhide K4).below (unhide Hb6); exact unhide K6; rintro e w7 ⟨rfl, hb⟩; have Hb7 := hide hb; clear hb))
  all_goals
    go_wp2_with fail
    go_ret
    exact ⟨rfl, (unhide BB).trans (((unhide Hb6).trans ((unhide Hb7).mono (unhide Hb6).size)).mono (unhide BB).size)⟩

end Go.Proofs.YtnponpamjddpjabGreat

/- Turned as the program does it: on the way it is right but for who works; the first one works, and those behind it wait. Idle benches, and who works. Lists and numbers alone; no condition but those that a theorem names. -/
namespace Go.Proofs.YtnponpamjddpjabGreat
open Go.ChangeShapes Go.WideShapes Go.ChangeAt Go.RowKit Go.Sort
set_option linter.unusedVariables false

/-- Two lists that read alike are alike. -/
theorem recs_ext {α : Type} [Inhabited α] {xs ys : List α} (hl : xs.length = ys.length) (h : ∀ i, i < xs.length → recAt xs i = recAt ys i) : xs = ys := by
  apply List.ext_getElem hl
  intro i h1 h2
  have := h i h1
  unfold recAt at this
  rwa [List.getD_eq_getElem?_getD, List.getD_eq_getElem?_getD, List.getElem?_eq_getElem h1, List.getElem?_eq_getElem h2] at this
end Go.Proofs.YtnponpamjddpjabGreat

/- The program's helpers of chapter 12: those behind the first of a queue, copied; a smithy copied. Conditions: what is handed in can be read; what each theorem names. -/
namespace Go.Proofs.YtnponpamjddpjabGreat
open Go.ChangeShapes Go.WideShapes Go.ChangeAt Go.RowKit Go.Sort
set_option linter.unusedVariables false
set_option linter.unusedSimpArgs false
set_option maxRecDepth 100000

set_option maxHeartbeats 1000000 in
theorem copiedSmith_any {w : World} {v : Value} {ps : List SmithV} (h : IsSmiths w v ps) (hl : ps.length ≤ 1000) : Calls Tryz.prog 82 #[v] w fun e w' => ∃ v', e = .returned v' ∧ SmithsAt w.heap.size w' v' ps ∧ Below w.heap.size w w' := by
  have HR := hide (h.below ((Below.refl _ _).alloc (Nat.le_refl _) (.cells #[] 75)))
  obtain ⟨a, cap, rfl, hc, hm, hr⟩ := h
  clear hr
  go_enter Tryz.func82, Tryz.ntmps82
  go_wp2_with (at_builtin; refine wpList_append_recs tyS rfl (.tmp 3) (.tmp 4) 103 Tryz.underlying103 rfl w.heap.size _ _ [] ps rfl rfl (recs_empty rfl (Nat.le_refl _)) (unhide HR) (by simp; omega) (by simp) ?_; intro u9 w9 hp9 hg9 hat9; rw [List.nil_append] at hp9; have HP9 := hide hp9; have HG9 := hide hg9; clear hp9 hg9 hat9)
  have hb9 : Below w.heap.size w w9 := ((Below.refl _ _).alloc (Nat.le_refl _) _).trans ((Below.refl _ _).grown (unhide HG9) (by simp) (fun i e => by cases e; exact Nat.le_refl _))
  go_wp2_with fail
  go_ret
  exact ⟨_, rfl, unhide HP9, hb9⟩

end Go.Proofs.YtnponpamjddpjabGreat

/- One field of one smith is written, and another one behind it: the row reads as the list with that smith. Conditions: those that each theorem names. -/
namespace Go.Proofs.YtnponpamjddpjabGreat
open Go.ChangeShapes Go.WideShapes Go.ChangeAt Go.RowKit Go.Sort
set_option linter.unusedVariables false

theorem set_same {ss : List SmithV} {k : Nat} (hk : k < ss.length) : ss.set k (recAt ss k) = ss := by
  refine recs_ext (by simp) fun i hi => ?_
  rw [recAt_set hk]
  split
  · rename_i e; rw [e]
  · rfl
theorem SmithsAt.put {B n c g k i : Nat} {W : World} {ss : List SmithV} {x : SmithV} (h : SmithsAt B W (.slice (some ⟨g, 0, none⟩) n c) (ss.set k x)) (hn : n = ss.length) (hk : k < ss.length) (hi : i < 11) (u : Value) (y : SmithV) (hy : encSmith y = (encSmith x).set i u) : SmithsAt B (W.setCell ⟨g, k * 11 + i, none⟩ u) (.slice (some ⟨g, 0, none⟩) n c) (ss.set k y) := by
  have h1 := (RecAt.put1 encSmith_len (by omega) h (by simpa using hn) (j := k) (i := i) (by simpa using hk) hi u y (by rw [recAt_set hk, if_pos rfl]; exact hy)).1
  rwa [List.set_set] at h1
/-- The smithy with another row of smiths that the call made. -/
theorem Smy.other {w W : World} {v0 v1 v2 v3 v4 u : Value} {m : SmyV} {B : Nat} {ss : List SmithV} (h : Smy w v0 v1 v2 v3 v4 m) (hb : Below w.heap.size w W) (hs : SmithsAt B W u ss) : Smy W v0 v1 u v3 v4 { m with smiths := ss } := ⟨h.rooms.below hb, h.guilds.below hb, hs.list, h.desks.below hb, h.paces.below hb⟩
theorem Below.put6 {n : Nat} {w W : World} {R : Nat} (v0 v1 v2 v3 v4 v5 : Value) (h : Below n w W) (hR : n ≤ R) : Below n w ((((((W.setCell ⟨R, 0, none⟩ v0).setCell ⟨R, 1, none⟩ v1).setCell ⟨R, 2, none⟩ v2).setCell ⟨R, 3, none⟩ v3).setCell ⟨R, 4, none⟩ v4).setCell ⟨R, 5, none⟩ v5) := by
  iterate 6 (refine Below.setCell ?_ hR _)
  exact h
theorem RecAt.off6 {α : Type} [Inhabited α] {t k B : Nat} {enc : α → List Value} {W : World} {R : Nat} {v : Value} {xs : List α} (v0 v1 v2 v3 v4 v5 : Value) (h : RecAt t k enc B W v xs) (hR : ∀ i, v.ownBlock = some i → i ≠ R) : RecAt t k enc B ((((((W.setCell ⟨R, 0, none⟩ v0).setCell ⟨R, 1, none⟩ v1).setCell ⟨R, 2, none⟩ v2).setCell ⟨R, 3, none⟩ v3).setCell ⟨R, 4, none⟩ v4).setCell ⟨R, 5, none⟩ v5) v xs :=
  RecAt.same h fun i hi => by rw [heap_setCell_other _ _ _ _ (hR i hi), heap_setCell_other _ _ _ _ (hR i hi), heap_setCell_other _ _ _ _ (hR i hi), heap_setCell_other _ _ _ _ (hR i hi), heap_setCell_other _ _ _ _ (hR i hi), heap_setCell_other _ _ _ _ (hR i hi)]

end Go.Proofs.YtnponpamjddpjabGreat

/- Contracts of the program's withWhoAt (a smithy for its costs alone) and CoalWith. Conditions: the smithy can be read; what each theorem names. -/
namespace Go.Proofs.YtnponpamjddpjabGreat
open Go.ChangeShapes Go.WideShapes Go.ChangeAt Go.RowKit Go.Sort
set_option linter.unusedVariables false
set_option linter.unusedSimpArgs false
set_option maxRecDepth 100000

set_option maxHeartbeats 8000000 in
theorem withWhoAt_any {w : World} {a0 a1 a2 a3 a4 : Option Addr} {p0 p1 p2 p3 p4 : Nat} {m : SmyV} {k : Nat} (b : Int) (h : Smy w (.slice a0 m.rooms.length p0) (.slice a1 m.guilds.length p1) (.slice a2 m.smiths.length p2) (.slice a3 m.desks.length p3) (.slice a4 m.paces.length p4) m) (hl : m.smiths.length ≤ 1000) (hk : k < m.smiths.length) : Calls Tryz.prog 48 #[.agg #[.slice a0 m.rooms.length p0, .slice a1 m.guilds.length p1, .slice a2 m.smiths.length p2, .slice a3 m.desks.length p3, .slice a4 m.paces.length p4, .int .i64 m.now], .int .i64 (k : Int), .int .i64 b] w fun e w' => ∃ g gc, e = .returned (.agg #[.slice a0 m.rooms.length p0, .slice a1 m.guilds.length p1, .slice (some ⟨g, 0, none⟩) m.smiths.length gc, .slice a3 m.desks.length p3, .slice a4 m.paces.length p4, .int .i64 m.now]) ∧ Smy w' (.slice a0 m.rooms.length p0) (.slice a1 m.guilds.length p1) (.slice (some ⟨g, 0, none⟩) m.smiths.length gc) (.slice a3 m.desks.length p3) (.slice a4 m.paces.length p4) (withM m (k : Int) b) ∧ Below w.heap.size w w' := by
  have Hv0 := hide h
  have hk1 : (k : Int) < (m.smiths.length : Int) := by omega
  clear h
  go_enter Tryz.func48, Tryz.ntmps48
  go_upto_region 1 with fail
  obtain ⟨W, hW, kb, kr, BB⟩ := two_boxes w 40 #[.slice a0 m.rooms.length p0, .slice a1 m.guilds.length p1, .slice a2 m.smiths.length p2, .slice a3 m.desks.length p3, .slice a4 m.paces.length p4, .int .i64 m.now] 40 #[.slice none 0 0, .slice none 0 0, .slice none 0 0, .slice none 0 0, .slice none 0 0, .int .i64 0]
  have Hv := hide ((unhide Hv0).below (unhide BB))
  rw [hW]
  clear hW
  obtain ⟨c0, c1, c2, c3, c4, c5⟩ := (unhide kb).c6
  go_wp2_with fail
  refine (smithsOf_any _ _ _ _ _ _ _ _ _ _ _ _ _ _ _ _ _).mono ?_
  rintro e w1 ⟨rfl, hb⟩
  replace kb := bl kb hb
  replace kr := bl kr hb
  replace Hv := hide ((unhide Hv).below hb)
  replace BB := bt BB hb
  clear hb c0 c1 c2 c3 c4 c5
  go_wp2_with fail
  refine (copiedSmith_any (unhide Hv).smiths hl).mono ?_
  rintro e w2 ⟨v2, rfl, hs, hb⟩
  have hlb := (unhide kb).lt
  have hlr := (unhide kr).lt
  have hlo := (unhide BB).size
  replace kb := bl kb hb
  replace kr := bl kr hb
  replace BB := bt BB hb
  clear hb Hv
  obtain ⟨ga, gc, rfl⟩ := RecAt.shape hs
  obtain ⟨g, rfl, hg1, hg2, hcl, hfr⟩ := RecAt.view encSmith_len (by omega) hs rfl (by omega)
  have hgb : g ≠ w.heap.size := by omega
  have hgr : g ≠ w.heap.size + 1 := by omega
  have hbg : w.heap.size ≠ g := by omega
  have hrg : w.heap.size + 1 ≠ g := by omega
  have hwg : w.heap.size ≤ g := by omega
  have HS : Hid (SmithsAt (w.heap.size + 1) w2 (.slice (some ⟨g, 0, none⟩) m.smiths.length gc) (m.smiths.set k (recAt m.smiths k))) := hide (by rw [set_same hk]; exact RecAt.mono hs (by omega))
  have s0 := hcl k hk 0 _ rfl
  have s1 := hcl k hk 1 _ rfl
  have f0 := hfr (k * 11)
  have f1 := hfr (k * 11 + 1)
  simp only [Nat.add_zero] at s0
  clear hcl hfr hs hg1
  obtain ⟨c0, c1, c2, c3, c4, c5⟩ := (unhide kb).c6
  obtain ⟨q0, q1, q2, q3, q4, q5⟩ := (unhide kb).f6
  obtain ⟨o0, o1, o2, o3, o4, o5⟩ := (unhide kr).c6
  obtain ⟨t0, t1, t2, t3, t4, t5⟩ := (unhide kr).f6
  go_wp2_with fail
  refine bodyPost_ret (v := .agg #[.slice a0 m.rooms.length p0, .slice a1 m.guilds.length p1, .slice (some ⟨g, 0, none⟩) m.smiths.length gc, .slice a3 m.desks.length p3, .slice a4 m.paces.length p4, .int .i64 m.now]) (by simp [results, Tryz.results48, go_sem, *]) rfl ⟨g, gc, rfl, ?_, ?_⟩
  · have h1 : SmithsAt (w.heap.size + 1) (w2.setCell ⟨w.heap.size, 2, none⟩ (.slice (some ⟨g, 0, none⟩) m.smiths.length gc)) (.slice (some ⟨g, 0, none⟩) m.smiths.length gc) (m.smiths.set k (recAt m.smiths k)) := RecAt.same (unhide HS) (fun i e => by cases e; exact heap_setCell_other _ _ _ _ hgb)
    have h2 := h1.put rfl hk (i := 0) (by omega) (.int .i64 2) (2, (recAt m.smiths k).2) rfl
    have h3 := h2.put rfl hk (i := 1) (by omega) (.int .i64 b) (2, b, (recAt m.smiths k).2.2) rfl
    exact (unhide Hv0).other (Below.put6 _ _ _ _ _ _ ((((unhide BB).setCell (Nat.le_refl _) _).setCell (by show w.heap.size ≤ g; omega) _).setCell (by show w.heap.size ≤ g; omega) _) (Nat.le_succ _)) (RecAt.off6 (.slice a0 m.rooms.length p0) (.slice a1 m.guilds.length p1) (.slice (some ⟨g, 0, none⟩) m.smiths.length gc) (.slice a3 m.desks.length p3) (.slice a4 m.paces.length p4) (.int .i64 m.now) h3 (fun i e => by cases e; exact hgr))
  · exact Below.put6 _ _ _ _ _ _ ((((unhide BB).setCell (Nat.le_refl _) _).setCell (by show w.heap.size ≤ g; omega) _).setCell (by show w.heap.size ≤ g; omega) _) (Nat.le_succ _)
theorem want_neg {m : SmyV} {who q : Int} (h : wantOfV m who = q) : q = -1 ∨ (0 ≤ q ∧ smyB m = true ∧ whoB m who = true) := by
  subst h
  unfold wantOfV
  by_cases hh : (smyB m && whoB m who) = true
  · right
    rw [if_pos hh]
    simp only [Bool.and_eq_true] at hh
    exact ⟨(wantV_bd m who).1, hh.1, hh.2⟩
  · left; rw [if_neg hh]
theorem want_none {m : SmyV} {who b : Int} (h : wantOfV m who = -1) : coalWithOfV m who b = -1 := by
  unfold coalWithOfV
  unfold wantOfV at h
  have hb := (wantV_bd m who).1
  cases h1 : smyB m
  · rfl
  · cases h2 : whoB m who
    · rfl
    · have h9 : wantV m who = -1 := by simpa [h1, h2] using h
      omega
set_option maxHeartbeats 8000000 in
theorem implCoalWith_any {w : World} {v0 v1 v2 v3 v4 : Value} {m : SmyV} {who b q : Int} (hq : coalWithOfV m who b = q) (h : Smy w v0 v1 v2 v3 v4 m) : Calls Tryz.prog 17 #[.agg #[v0, v1, v2, v3, v4, .int .i64 m.now], .int .i64 who, .int .i64 b] w fun e w' => e = .returned (.int .i64 q) ∧ Below w.heap.size w w' := by
  have Hq := hide hq
  clear hq
  obtain ⟨wn, hwn⟩ : ∃ x, wantOfV m who = x := ⟨_, rfl⟩
  have Hwn := hide hwn
  clear hwn
  obtain ⟨a0, p0, a1, p1, a2, p2, a3, p3, a4, p4, rfl, rfl, rfl, rfl, rfl, K⟩ := Bx.new h
  clear h
  go_enter Tryz.func17, Tryz.ntmps17
  go_wp2_with fail
  generalize w.alloc (.cells #[.slice a0 m.rooms.length p0, .slice a1 m.guilds.length p1, .slice a2 m.smiths.length p2, .slice a3 m.desks.length p3, .slice a4 m.paces.length p4, .int .i64 m.now] 40) = W at *
  refine (implWantOf_any (unhide Hwn) K.smy).mono ?_
  rintro e w1 ⟨rfl, hb⟩
  replace K := K.next hb
  clear hb
  rcases want_neg (unhide Hwn) with rfl | ⟨hw0, hok, hwh⟩
  · obtain rfl : q = -1 := (unhide Hq).symm.trans (want_none (unhide Hwn))
    go_wp2_with fail
    go_ret
    exact ⟨rfl, K.bb⟩
  have hwb : (wn == -1) = false := beq_eq_false_iff_ne.mpr (by omega)
  have hwd : ¬ wn = -1 := by omega
  obtain ⟨op, hop⟩ : ∃ x, openB m b = x := ⟨_, rfl⟩
  have Hop := hide hop
  clear hop
  obtain ⟨c0, c1, c2, c3, c4, c5⟩ := K.cells
  go_wp2_with fail
  refine (hasOpen_any (unhide Hop) K.smy).mono ?_
  rintro e w2 ⟨rfl, hb⟩
  replace K := K.next hb
  clear hb c0 c1 c2 c3 c4 c5
  cases op
  · obtain rfl : q = -1 := by rw [← unhide Hq]; unfold coalWithOfV; rw [unhide Hop]; simp
    go_wp2_with fail
    go_ret
    exact ⟨rfl, K.bb⟩
  obtain ⟨k, rfl, hk, hs⟩ := whoB_of hwh
  have hq2 : coalAll (withM m (k : Int) b) = q := by rw [← unhide Hq]; unfold coalWithOfV; rw [hok, hwh, unhide Hop]; rfl
  have HL := hide (smy_loose hok)
  have HS := hide ((unhide HL).sane.with hk hs b)
  have HT := hide ((unhide HL).wants.with hk hs b)
  have hl := smyB_few hok
  have HR : Hid (∀ {X : World} {R : Nat} {c0 : Option Addr} {g gc r0 : Nat} {W : World}, Bx X W R a0 p0 a1 p1 (some ⟨g, 0, none⟩) gc a3 p3 a4 p4 (withM m (k : Int) b) → Calls Tryz.prog 42 #[.slice c0 m.rooms.length r0, .func (Fn.func 71) #[] #[.pointer (some ⟨R, 0, none⟩)]] W fun e w' => e = .returned (.int .i64 q) ∧ Below W.heap.size W w') := hide (fun hK => by rw [← hq2]; exact together_any hK (unhide HS) (unhide HT))
  have HC : Hid (∀ (g gc : Nat) (W : World), Smy W (.slice a0 m.rooms.length p0) (.slice a1 m.guilds.length p1) (.slice (some ⟨g, 0, none⟩) m.smiths.length gc) (.slice a3 m.desks.length p3) (.slice a4 m.paces.length p4) (withM m (k : Int) b) → Calls Tryz.prog 40 #[.agg #[.slice a0 m.rooms.length p0, .slice a1 m.guilds.length p1, .slice (some ⟨g, 0, none⟩) m.smiths.length gc, .slice a3 m.desks.length p3, .slice a4 m.paces.length p4, .int .i64 m.now]] W fun e w' => e = .returned (.func (Fn.func 71) #[] #[.pointer (some ⟨W.heap.size, 0, none⟩)]) ∧ Bx W w' W.heap.size a0 p0 a1 p1 (some ⟨g, 0, none⟩) gc a3 p3 a4 p4 (withM m (k : Int) b)) := hide (fun g gc W hs => by
    have hwl : (withM m (k : Int) b).smiths.length = m.smiths.length := by unfold withM; simp
    have h9 := costsIn_any (w := W) (m := withM m (k : Int) b) (a0 := a0) (a1 := a1) (a2 := some ⟨g, 0, none⟩) (a3 := a3) (a4 := a4) (p0 := p0) (p1 := p1) (p2 := gc) (p3 := p3) (p4 := p4) (by rw [hwl]; exact hs)
    rw [hwl] at h9
    exact h9)
  clear hwh Hq Hwn hok hwb hwd hw0 HS HT hq2
  have KD := K.drew
  obtain ⟨c0, c1, c2, c3, c4, c5⟩ := K.cells
  go_wp2_with fail
  go_region_with (first
    | (go_at_call 48; refine (withWhoAt_any b KD.smy (by omega) hk).mono ?_; rintro e w3 ⟨g, gc, rfl, hsm, hb3⟩; have K3 := KD.next hb3; have z0 := K3.blk.cell (i := 0) (v := .slice a0 m.rooms.length p0) rfl; have HS3 := hide hsm; clear hsm hb3)
    | (go_at_call 40; refine (unhide HC _ _ _ (unhide HS3)).mono ?_; rintro e w4 ⟨rfl, KX⟩; have K4 := K3.next KX.bb; have y0 := K4.blk.cell (i := 0) (v := .slice a0 m.rooms.length p0) rfl)
    | (go_at_call 42; refine (unhide HR KX).mono ?_; rintro e w5 ⟨rfl, hb5⟩; have K5 := K4.next hb5; clear hb5))
  all_goals
    go_wp2_with fail
    go_ret
    exact ⟨rfl, K5.bb⟩

end Go.Proofs.YtnponpamjddpjabGreat

/- The walk of the exact law on CoalWith. Condition: the smithy can be read. -/
namespace Go.Proofs.YtnponpamjddpjabGreat
open Go.ChangeShapes Go.WideShapes Go.ChangeAt Go.RowKit Go.Sort
set_option linter.unusedVariables false

set_option maxRecDepth 100000 in
set_option maxHeartbeats 8000000 in
theorem walkFnExactCoalWith (v0 v1 v2 v3 v4 : Value) (m : SmyV) (who bench : Int) (w : World) (h : Smy w v0 v1 v2 v3 v4 m) :
    Calls Tryz.prog 6 #[.agg #[v0, v1, v2, v3, v4, .int .i64 m.now], .int .i64 who, .int .i64 bench] w fun e w' => e = .returned (.bool true) ∧ Below w.heap.size w w' := by
  obtain ⟨q, hq⟩ : ∃ q, coalWithOfV m who bench = q := ⟨_, rfl⟩
  have Hq := hide hq
  clear hq
  have Hv := hide h
  obtain ⟨a0, p0, rfl, _, _⟩ := IsRooms.shape h.rooms
  obtain ⟨a1, p1, rfl, _, _⟩ := IsRec.shape h.guilds
  obtain ⟨a2, p2, rfl, _, _⟩ := IsRec.shape h.smiths
  obtain ⟨a3, p3, rfl, _, _⟩ := IsRec.shape h.desks
  obtain ⟨a4, p4, rfl, _, _⟩ := IsRec.shape h.paces
  clear h
  go_enter Tryz.func6, Tryz.ntmps6
  go_wp2_with fail
  refine (szSmithy_any ((unhide Hv).alloc _)).mono ?_
  rintro e w1 ⟨x, rfl, hx, hb⟩
  have ka : Hid (Blk w1 w.heap.size 30 #[.slice a0 m.rooms.length p0, .slice a1 m.guilds.length p1, .slice a2 m.smiths.length p2, .slice a3 m.desks.length p3, .slice a4 m.paces.length p4, .int .i64 m.now]) := hide ((Blk.new w _ _).below hb (by simp))
  have BB : Hid (Below w.heap.size w w1) := hide (((Below.refl _ _).alloc (Nat.le_refl _) _).trans (hb.mono (by simp)))
  have Hx := hide hx
  clear hx hb
  by_cases hx0 : x < 0
  · go_wp2_with fail
    go_ret
    exact ⟨rfl, unhide BB⟩
  have Hs := hide (unhide Hx (by omega))
  clear Hx
  have c0 := (unhide ka).cell (i := 0) (v := .slice a0 m.rooms.length p0) rfl
  have c1 := (unhide ka).cell (i := 1) (v := .slice a1 m.guilds.length p1) rfl
  have c2 := (unhide ka).cell (i := 2) (v := .slice a2 m.smiths.length p2) rfl
  have c3 := (unhide ka).cell (i := 3) (v := .slice a3 m.desks.length p3) rfl
  have c4 := (unhide ka).cell (i := 4) (v := .slice a4 m.paces.length p4) rfl
  have c5 := (unhide ka).cell (i := 5) (v := .int .i64 m.now) rfl
  go_wp2_with fail
  refine (toSmithy_any ((unhide Hv).below (unhide BB)) (unhide Hs)).mono ?_
  rintro e w2 ⟨u0, u1, u2, u3, u4, rfl, ho, hb⟩
  clear c0 c1 c2 c3 c4 c5
  have k2 := ho.smy
  obtain ⟨b0, q0, rfl, _, _⟩ := IsRooms.shape k2.rooms
  obtain ⟨b1, q1, rfl, _, _⟩ := IsRec.shape k2.guilds
  obtain ⟨b2, q2, rfl, _, _⟩ := IsRec.shape k2.smiths
  obtain ⟨b3, q3, rfl, _, _⟩ := IsRec.shape k2.desks
  obtain ⟨b4, q4, rfl, _, _⟩ := IsRec.shape k2.paces
  have K2 := hide k2
  clear k2 ho
  replace ka := hide ((unhide ka).below hb (unhide ka).lt)
  replace BB := hide ((unhide BB).trans (hb.mono (unhide BB).size))
  clear hb
  go_wp2_with fail
  refine (specCoalWith_any (unhide Hq) (unhide K2)).mono ?_
  rintro e w3 ⟨rfl, hb⟩
  replace ka := hide ((unhide ka).below hb (unhide ka).lt)
  replace BB := hide ((unhide BB).trans (hb.mono (unhide BB).size))
  clear hb K2
  have c0 := (unhide ka).cell (i := 0) (v := .slice a0 m.rooms.length p0) rfl
  have c1 := (unhide ka).cell (i := 1) (v := .slice a1 m.guilds.length p1) rfl
  have c2 := (unhide ka).cell (i := 2) (v := .slice a2 m.smiths.length p2) rfl
  have c3 := (unhide ka).cell (i := 3) (v := .slice a3 m.desks.length p3) rfl
  have c4 := (unhide ka).cell (i := 4) (v := .slice a4 m.paces.length p4) rfl
  have c5 := (unhide ka).cell (i := 5) (v := .int .i64 m.now) rfl
  go_wp2_with fail
  refine (toSmithy_any ((unhide Hv).below (unhide BB)) (unhide Hs)).mono ?_
  rintro e w4 ⟨u0, u1, u2, u3, u4, rfl, ho, hb⟩
  clear c0 c1 c2 c3 c4 c5
  have k4 := ho.smy
  obtain ⟨d0, r0, rfl, _, _⟩ := IsRooms.shape k4.rooms
  obtain ⟨d1, r1, rfl, _, _⟩ := IsRec.shape k4.guilds
  obtain ⟨d2, r2, rfl, _, _⟩ := IsRec.shape k4.smiths
  obtain ⟨d3, r3, rfl, _, _⟩ := IsRec.shape k4.desks
  obtain ⟨d4, r4, rfl, _, _⟩ := IsRec.shape k4.paces
  have K4 := hide (k4.alloc (.cells #[.slice d0 m.rooms.length r0, .slice d1 m.guilds.length r1, .slice d2 m.smiths.length r2, .slice d3 m.desks.length r3, .slice d4 m.paces.length r4, .int .i64 m.now] 40))
  clear k4 ho
  replace ka := hide ((unhide ka).below hb (unhide ka).lt)
  replace BB := hide ((unhide BB).trans (hb.mono (unhide BB).size))
  clear hb
  go_wp2_with fail
  replace ka := hide ((unhide ka).alloc (.cells #[.slice d0 m.rooms.length r0, .slice d1 m.guilds.length r1, .slice d2 m.smiths.length r2, .slice d3 m.desks.length r3, .slice d4 m.paces.length r4, .int .i64 m.now] 40))
  replace BB := hide ((unhide BB).alloc (unhide BB).size (.cells #[.slice d0 m.rooms.length r0, .slice d1 m.guilds.length r1, .slice d2 m.smiths.length r2, .slice d3 m.desks.length r3, .slice d4 m.paces.length r4, .int .i64 m.now] 40))
  have kx : Hid (Blk (w4.alloc (.cells #[.slice d0 m.rooms.length r0, .slice d1 m.guilds.length r1, .slice d2 m.smiths.length r2, .slice d3 m.desks.length r3, .slice d4 m.paces.length r4, .int .i64 m.now] 40)) w4.heap.size 40 #[.slice d0 m.rooms.length r0, .slice d1 m.guilds.length r1, .slice d2 m.smiths.length r2, .slice d3 m.desks.length r3, .slice d4 m.paces.length r4, .int .i64 m.now]) := hide (Blk.new _ _ _)
  generalize w4.alloc (.cells #[.slice d0 m.rooms.length r0, .slice d1 m.guilds.length r1, .slice d2 m.smiths.length r2, .slice d3 m.desks.length r3, .slice d4 m.paces.length r4, .int .i64 m.now] 40) = W at *
  generalize w4.heap.size = xb at *
  refine (implCoalWith_any (unhide Hq) (unhide K4)).mono ?_
  rintro e w5 ⟨rfl, hb⟩
  replace K4 := hide ((unhide K4).below hb)
  replace ka := hide ((unhide ka).below hb (unhide ka).lt)
  replace kx := hide ((unhide kx).below hb (unhide kx).lt)
  replace BB := hide ((unhide BB).trans (hb.mono (unhide BB).size))
  clear hb
  have V5 := hide ((unhide Hv).below (unhide BB))
  have c0 := (unhide ka).cell (i := 0) (v := .slice a0 m.rooms.length p0) rfl
  have c1 := (unhide ka).cell (i := 1) (v := .slice a1 m.guilds.length p1) rfl
  have c2 := (unhide ka).cell (i := 2) (v := .slice a2 m.smiths.length p2) rfl
  have c3 := (unhide ka).cell (i := 3) (v := .slice a3 m.desks.length p3) rfl
  have c4 := (unhide ka).cell (i := 4) (v := .slice a4 m.paces.length p4) rfl
  have c5 := (unhide ka).cell (i := 5) (v := .int .i64 m.now) rfl
  have x0 := (unhide kx).cell (i := 0) (v := .slice d0 m.rooms.length r0) rfl
  have x1 := (unhide kx).cell (i := 1) (v := .slice d1 m.guilds.length r1) rfl
  have x2 := (unhide kx).cell (i := 2) (v := .slice d2 m.smiths.length r2) rfl
  have x3 := (unhide kx).cell (i := 3) (v := .slice d3 m.desks.length r3) rfl
  have x4 := (unhide kx).cell (i := 4) (v := .slice d4 m.paces.length r4) rfl
  have x5 := (unhide kx).cell (i := 5) (v := .int .i64 m.now) rfl
  go_wp2_with fail
  go_region_with (first
    | (go_at_call 9; refine (toSmithy_any (m := m) ?_ (unhide Hs)).mono ?_; exact (unhide V5).below (Below.refl _ _).drew; rintro e w6 ⟨u0, u1, u2, u3, u4, rfl, ho, hb⟩; have k6 := ho.smy; obtain ⟨f0, t0, rfl, _, _⟩ := IsRooms.shape k6.rooms; obtain ⟨f1, t1, rfl, _, _⟩ := IsRec.shape k6.guilds; obtain ⟨f2, t2, rfl, _, _⟩ := IsRec.shape k6.smiths; obtain ⟨f3, t3, rfl, _, _⟩ := IsRec.shape k6.desks; obtain ⟨f4, t4, rfl, _, _⟩ := IsRec.shape k6.paces; have K6 := hide k6; have Hb6 : Hid (Below w5.heap.size w5 w6) := hide ⟨hb.os, hb.tape, hb.output, hb.size, hb.block⟩; have kx6 := (unhide kx).below (unhide Hb6) (unhide kx).lt; have y0 := kx6.cell (i := 0) (v := .slice d0 m.rooms.length r0) rfl; have y1 := kx6.cell (i := 1) (v := .slice d1 m.guilds.length r1) rfl; have y2 := kx6.cell (i := 2) (v := .slice d2 m.smiths.length r2) rfl; have y3 := kx6.cell (i := 3) (v := .slice d3 m.desks.length r3) rfl; have y4 := kx6.cell (i := 4) (v := .slice d4 m.paces.length r4) rfl; have y5 := kx6.cell (i := 5) (v := .int .i64 m.now) rfl; clear k6 ho hb kx6)
    | (go_at_call 11; refine (eqSmithy_yes (m := m) ?_ ?_).mono ?_; exact (unhide K4).below (unhide Hb6); exact unhide K6; rintro e w7 ⟨rfl, hb⟩; have Hb7 := hide hb; clear hb))
  all_goals
    go_wp2_with fail
    go_ret
    exact ⟨rfl, (unhide BB).trans (((unhide Hb6).trans ((unhide Hb7).mono (unhide Hb6).size)).mono (unhide BB).size)⟩

end Go.Proofs.YtnponpamjddpjabGreat

