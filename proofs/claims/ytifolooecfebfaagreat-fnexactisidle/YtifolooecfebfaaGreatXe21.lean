/- What the proof rests on, part 21: lists and numbers, how they lie in memory, and contracts of the calls. No condition but those that a theorem names. -/
import Derived.Test.YtifolooecfebfaaGreatXe01
import Derived.Test.YtifolooecfebfaaGreatXe02
import Derived.Test.YtifolooecfebfaaGreatXe03
import Derived.Test.YtifolooecfebfaaGreatXe04
import Derived.Test.YtifolooecfebfaaGreatXe05
import Derived.Test.YtifolooecfebfaaGreatXe06
import Derived.Test.YtifolooecfebfaaGreatXe07
import Derived.Test.YtifolooecfebfaaGreatXe08
import Derived.Test.YtifolooecfebfaaGreatXe09
import Derived.Test.YtifolooecfebfaaGreatXe10
import Derived.Test.YtifolooecfebfaaGreatXe12
import Derived.Test.YtifolooecfebfaaGreatXe13
import Derived.Test.YtifolooecfebfaaGreatXe14
import Derived.Test.YtifolooecfebfaaGreatXe16
import Derived.Test.YtifolooecfebfaaGreatXe17
import Derived.BigQuiet
import Derived.Lib.QuietBelow
import Derived.WalkMore
import Derived.Below
import GoSem.Claim
import GoSem.ClaimJoined
import GoSem.ClaimMapViews
import Derived.JoinedTies
import Derived.KernelRfl
import Derived.RowKit
import Derived.WalkKit
import Derived.ProofKit
import Derived.OpenShut
import Derived.Outline
import Derived.Deep.RegionHeld3
import Derived.Deep.DrawnRows
import Derived.BigRegion
import Derived.Deep.RegionLawGrows
import Derived.Deep.RegionWith
import Derived.Deep.QuietTactic
import Derived.Laws.OwnMore
import Derived.OwnWalk
import Derived.Maps.AppendAt
import Derived.Lib.SmallJoins
import Derived.Deep.Fields
import Derived.Deep.Slices
import Derived.OrdersHeld
import Derived.Deep.RegionHeldLaw
import Derived.Laws.StructEq
import Derived.Deep.DeepCutAuto
/- What one wants, and what is used at a bench: the model's l11Want, l11Who, l11Used. Conditions: the smithy can be read; what each theorem names. -/
namespace Go.Proofs.YtifolooecfebfaaGreat
open Go.ChangeShapes Go.WideShapes Go.ChangeAt Go.RowKit Go.Sort
set_option linter.unusedVariables false

/-- Right guilds, and each smith's is there who is not gone. -/
structure Guilded (m : SmyV) : Prop where
  guilds : guildsB m.guilds = true
  lo : ∀ i, i < m.smiths.length → (recAt m.smiths i).1 ≠ 0 → -1 ≤ (recAt m.smiths i).2.2.2.2.1
  hi : ∀ i, i < m.smiths.length → (recAt m.smiths i).1 ≠ 0 → (recAt m.smiths i).2.2.2.2.1 < m.guilds.length
theorem pres_ne {s : SmithV} (h : presS s = true) : s.1 ≠ 0 := fun e => by unfold presS at h; rw [e] at h; cases h

set_option maxHeartbeats 2000000 in
theorem l11Want_any {w : World} {v0 v1 v2 v3 v4 : Value} {m : SmyV} {k : Nat} (h : Smy w v0 v1 v2 v3 v4 m) (hg : guildsB m.guilds = true) (hk : k < m.smiths.length) (g0 : -1 ≤ (recAt m.smiths k).2.2.2.2.1) (g1 : (recAt m.smiths k).2.2.2.2.1 < m.guilds.length) :
    Calls Tryz.prog 49 #[.agg #[v0, v1, v2, v3, v4, .int .i64 m.now], .int .i64 (k : Int)] w fun e w' => e = .returned (.int .i64 (wantV m (k : Int))) ∧ Below w.heap.size w w' := by
  have hw : wantV m (k : Int) = wantS m.guilds (recAt m.smiths k) := rfl
  rw [hw]
  clear hw
  have Hv := hide h
  obtain ⟨h0, h1, h2, h3, h4⟩ := h
  obtain ⟨a0, p0, rfl, hc0, hm0⟩ := IsRooms.shape h0
  obtain ⟨a1, p1, rfl, hc1, hm1⟩ := IsRec.shape h1
  obtain ⟨a2, p2, rfl, hc2, hm2, r2⟩ := h2
  obtain ⟨a3, p3, rfl, hc3, hm3⟩ := IsRec.shape h3
  obtain ⟨a4, p4, rfl, hc4, hm4⟩ := IsRec.shape h4
  clear h0 h1 h3 h4
  rcases r2 with e0 | ⟨sb, off, rfl, hbw, hcl⟩
  · rw [e0] at hk; simp at hk
  obtain ⟨d0, d1, d2, d3, d4, d5, d6, d7, d8, d9, d10⟩ := smith_cells hcl hk
  clear hcl
  generalize recAt m.smiths k = ss at *
  obtain ⟨st, be, rk, my, gu, lo, hi, hd, ca, ut, wk⟩ := ss
  simp only at d0 d1 d2 d3 d4 d5 d6 d7 d8 d9 d10 g0 g1
  have Hg := hide hg
  clear hg
  go_enter Tryz.func49, Tryz.ntmps49
  go_wp2_with fail
  have BB : Hid (Below w.heap.size w ((w.alloc (.cells #[.slice a0 m.rooms.length p0, .slice a1 m.guilds.length p1, .slice (some ⟨sb, off, none⟩) m.smiths.length p2, .slice a3 m.desks.length p3, .slice a4 m.paces.length p4, .int .i64 m.now] 32)).alloc (.cells #[.int .i64 st, .int .i64 be, .int .i64 rk, .int .i64 my, .int .i64 gu, .int .i64 lo, .int .i64 hi, .int .i64 hd, .int .i64 ca, .int .i64 ut, .int .i64 wk] 42))) := hide (((Below.refl _ _).alloc (Nat.le_refl _) _).alloc (by simp) _)
  have Hv2 := hide ((unhide Hv).below (unhide BB)).guilds
  have ks := hide (Blk.new (w.alloc (.cells #[.slice a0 m.rooms.length p0, .slice a1 m.guilds.length p1, .slice (some ⟨sb, off, none⟩) m.smiths.length p2, .slice a3 m.desks.length p3, .slice a4 m.paces.length p4, .int .i64 m.now] 32)) 42 #[.int .i64 st, .int .i64 be, .int .i64 rk, .int .i64 my, .int .i64 gu, .int .i64 lo, .int .i64 hi, .int .i64 hd, .int .i64 ca, .int .i64 ut, .int .i64 wk])
  simp only [World.size_alloc] at ks
  generalize (w.alloc (.cells #[.slice a0 m.rooms.length p0, .slice a1 m.guilds.length p1, .slice (some ⟨sb, off, none⟩) m.smiths.length p2, .slice a3 m.desks.length p3, .slice a4 m.paces.length p4, .int .i64 m.now] 32)).alloc (.cells #[.int .i64 st, .int .i64 be, .int .i64 rk, .int .i64 my, .int .i64 gu, .int .i64 lo, .int .i64 hi, .int .i64 hd, .int .i64 ca, .int .i64 ut, .int .i64 wk] 42) = W at *
  refine (l8Within_of gu lo hi (unhide Hv2) (l8Bounds_any (unhide Hg) m.guilds.length gu (unhide Hv2) g0 g1 g1)).mono ?_
  rintro e w1 ⟨rfl, hb⟩
  replace ks := hide ((unhide ks).below hb (unhide ks).lt)
  replace BB := hide ((unhide BB).trans (hb.mono (unhide BB).size))
  have x9 := (unhide ks).cell (i := 9) (v := .int .i64 ut) rfl
  clear hb d0 d1 d2 d3 d4 d5 d6 d7 d8 d9 d10
  go_wp2_with (go_at_call 110; refine (specClamped_any _ _ _ _).mono ?_; rintro e w' ⟨rfl, h9⟩; subst w')
  go_ret
  exact ⟨rfl, unhide BB⟩

end Go.Proofs.YtifolooecfebfaaGreat

/- What a smithy must be for what it costs and which bench is chosen to be told: lists alone. No condition but those that a theorem names. -/
namespace Go.Proofs.YtifolooecfebfaaGreat
open Go.ChangeShapes Go.WideShapes Go.ChangeAt Go.RowKit Go.Sort
set_option linter.unusedVariables false

structure Sane (m : SmyV) : Prop where
  hall : hallB m.rooms = true
  desks : (m.desks.length : Int) = benchSum m.rooms
  guilded : Guilded m
  few : m.smiths.length ≤ 12
theorem Sane.bench {m : SmyV} (h : Sane m) {b : Nat} (hb : b < m.desks.length) : isBench m.rooms (b : Int) = true := isBench_t h.hall (by omega) (by have := h.desks; omega)
theorem Sane.eight {m : SmyV} (h : Sane m) : m.desks.length ≤ 8 := by have := (hallB_of h.hall).2.2.2; have := h.desks; omega
theorem Loose.sane {m : SmyV} (h : Loose m) : Sane m := by
  have hd := h.head
  unfold headB at hd
  simp only [Bool.and_eq_true, decide_eq_true_eq] at hd
  obtain ⟨h1, h2, h3, h4, _⟩ := hd
  refine ⟨h1, h4, ⟨h2, fun i hi hs => ?_, fun i hi hs => (h.limits hi hs).2.1⟩, h3⟩
  have hp := (h.limits hi hs).1
  generalize recAt m.smiths i = s at *
  obtain ⟨st, be, rk, my, gu, lo', hi', hd, ca, ut, wk⟩ := s
  exact (presB_of hp).2.2.2.2.1.1
end Go.Proofs.YtifolooecfebfaaGreat

/- What the program asks for coal, as plain lists, and that it is what the model asks: sums over those at a bench, over the benches of a room. Lists and numbers alone; no condition but those that a theorem names. -/
namespace Go.Proofs.YtifolooecfebfaaGreat
open Go.ChangeShapes Go.WideShapes Go.ChangeAt Go.RowKit Go.Sort
set_option linter.unusedVariables false

/-! ### What is used at a bench, in whatever order -/
/-- What wantOf asks: guilds that are right, and of each that is not gone a guild and bounds. -/
structure Wants (m : SmyV) : Prop where
  guilds : guildsB m.guilds = true
  each : ∀ i, i < m.smiths.length → (recAt m.smiths i).1 ≠ 0 → isB m.guilds (recAt m.smiths i).2.2.2.2.1 = true ∧ pairB (recAt m.smiths i).2.2.2.2.2.1 (recAt m.smiths i).2.2.2.2.2.2.1 = true
theorem Loose.wants {m : SmyV} (h : Loose m) : Wants m := by
  have hd := h.head
  unfold headB at hd
  simp only [Bool.and_eq_true, decide_eq_true_eq] at hd
  refine ⟨hd.2.1, fun i hi hs => ?_⟩
  obtain ⟨hp, hg, _⟩ := h.limits hi hs
  have hgs := hd.2.1
  generalize recAt m.smiths i = s at *
  obtain ⟨st, be, rk, my, gu, lo, hi, hd, ca, ut, wk⟩ := s
  obtain ⟨_, _, _, _, ⟨g0, g5⟩, hpair, _⟩ := presB_of hp
  simp only at hg
  exact ⟨by unfold isB; rw [hgs, inB_t g0 (by omega)]; rfl, hpair⟩
def openB (m : SmyV) (b : Int) : Bool := hasB m.desks.length b && (recAt m.desks b.toNat).1
end Go.Proofs.YtifolooecfebfaaGreat

/- Which bench, as the program asks it, as plain lists, and that it is what the model asks. Lists and numbers alone; no condition but those that a theorem names. -/
namespace Go.Proofs.YtifolooecfebfaaGreat
open Go.ChangeShapes Go.WideShapes Go.ChangeAt Go.RowKit Go.Sort
set_option linter.unusedVariables false

/-! ### What is used but by one -/
theorem take_snocR {α : Type} [Inhabited α] {l : List α} {k : Nat} (h : k < l.length) : l.take (k + 1) = l.take k ++ [recAt l k] := by
  rw [List.take_succ_eq_append_getElem h, recAt_get h]
theorem may_bd {m : SmyV} (h : Loose m) {k : Nat} (hk : k < m.smiths.length) (hs : (recAt m.smiths k).1 ≠ 0) : 0 ≤ (recAt m.smiths k).2.2.2.1 ∧ (recAt m.smiths k).2.2.2.1 ≤ 255 := by
  obtain ⟨hp, _, _⟩ := h.limits hk hs
  generalize recAt m.smiths k = s at *
  obtain ⟨st, be, rk, my, gu, lo, hi, hd, ca, ut, wk⟩ := s
  obtain ⟨_, _, _, ⟨y0, y1⟩, _⟩ := presB_of hp
  show 0 ≤ my ∧ my ≤ 255
  omega
end Go.Proofs.YtifolooecfebfaaGreat

/- Where one may work, whether it is crowded, which benches are fitting: the model's l14May, l14Crowded, l14Fitting. Conditions: the smithy can be read; what each theorem names. -/
namespace Go.Proofs.YtifolooecfebfaaGreat
open Go.ChangeShapes Go.WideShapes Go.ChangeAt Go.RowKit Go.Sort
set_option linter.unusedVariables false

theorem Calls.same_below {P : Program} {f : FuncId} {args : Array Value} {w : World} {v : Value} (h : Calls P f args w fun e w' => e = .returned v ∧ w' = w) : Calls P f args w fun e w' => e = .returned v ∧ Below w.heap.size w w' :=
  h.mono fun e w' ⟨he, hw⟩ => ⟨he, by rw [hw]; exact Below.refl _ _⟩

set_option maxRecDepth 100000 in
set_option maxHeartbeats 2000000 in
theorem l14May_any {w : World} {v0 v1 v2 v3 v4 : Value} {m : SmyV} {k b : Nat} (h : Smy w v0 v1 v2 v3 v4 m) (hk : k < m.smiths.length) (hb : b < m.desks.length) (h7 : b ≤ 7) (y0 : 0 ≤ (recAt m.smiths k).2.2.2.1) (y1 : (recAt m.smiths k).2.2.2.1 ≤ 255) :
    Calls Tryz.prog 52 #[.agg #[v0, v1, v2, v3, v4, .int .i64 m.now], .int .i64 (k : Int), .int .i64 (b : Int)] w fun e w' => e = .returned (.bool (mayAt m (k : Int) b)) ∧ Below w.heap.size w w' := by
  have hm : mayAt m (k : Int) b = ((recAt m.desks b).1 && bitB (recAt m.smiths k).2.2.2.1 b) := rfl
  rw [hm]
  clear hm
  obtain ⟨a0, p0, rfl, _, _⟩ := IsRooms.shape h.rooms
  obtain ⟨a1, p1, rfl, _, _⟩ := IsRec.shape h.guilds
  obtain ⟨a4, p4, rfl, _, _⟩ := IsRec.shape h.paces
  obtain ⟨a2, p2, rfl, _, _, r2⟩ := h.smiths
  obtain ⟨a3, p3, rfl, _, _, r3⟩ := h.desks
  clear h
  rcases r2 with e0 | ⟨sb, so, rfl, hbs, hcs⟩
  · rw [e0] at hk; simp at hk
  rcases r3 with e0 | ⟨db, dof, rfl, hbd, hcd⟩
  · rw [e0] at hb; simp at hb
  obtain ⟨_, _, _, s3, _⟩ := smith_cells hcs hk
  obtain ⟨d0, _, _⟩ := desk_cells hcd hb
  have hk1 : (k : Int) < (m.smiths.length : Int) := by omega
  have hb1 : (b : Int) < (m.desks.length : Int) := by omega
  clear hcs hcd
  generalize (recAt m.smiths k).2.2.2.1 = my at *
  generalize (recAt m.desks b).1 = op at *
  cases op
  all_goals
    go_enter Tryz.func52, Tryz.ntmps52
    go_wp2_with (go_at_call 112; refine (l2Has_any my (b : Int) _ y0 y1 (by omega) (by omega)).mono ?_; rintro e w' ⟨rfl, h9⟩; subst w')
    go_ret
    exact ⟨rfl, (Below.refl _ _).alloc (Nat.le_refl _) _⟩

end Go.Proofs.YtifolooecfebfaaGreat

