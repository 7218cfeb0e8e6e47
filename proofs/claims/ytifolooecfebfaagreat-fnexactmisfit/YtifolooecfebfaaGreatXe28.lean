/- What the proof rests on, part 28: lists and numbers, how they lie in memory, and contracts of the calls. No condition but those that a theorem names. -/
import Derived.Test.YtifolooecfebfaaGreatXe01
import Derived.Test.YtifolooecfebfaaGreatXe02
import Derived.Test.YtifolooecfebfaaGreatXe03
import Derived.Test.YtifolooecfebfaaGreatXe04
import Derived.Test.YtifolooecfebfaaGreatXe05
import Derived.Test.YtifolooecfebfaaGreatXe06
import Derived.Test.YtifolooecfebfaaGreatXe07
import Derived.Test.YtifolooecfebfaaGreatXe08
import Derived.Test.YtifolooecfebfaaGreatXe09
import Derived.Test.YtifolooecfebfaaGreatXe10
import Derived.Test.YtifolooecfebfaaGreatXe12
import Derived.Test.YtifolooecfebfaaGreatXe13
import Derived.Test.YtifolooecfebfaaGreatXe14
import Derived.Test.YtifolooecfebfaaGreatXe16
import Derived.Test.YtifolooecfebfaaGreatXe17
import Derived.Test.YtifolooecfebfaaGreatXe19
import Derived.Test.YtifolooecfebfaaGreatXe20
import Derived.Test.YtifolooecfebfaaGreatXe21
import Derived.Test.YtifolooecfebfaaGreatXe22
import Derived.Test.YtifolooecfebfaaGreatXe23
import Derived.Lib.QuietBelow
import Derived.Shelf.RegionOpen
import Derived.Deep.RegionWith
import Derived.WalkMore
import Derived.Below
import Derived.ChangeKeysEq
import Derived.Laws.StructEq
import GoSem.Claim
import GoSem.ClaimJoined
import GoSem.ClaimMapViews
import Derived.JoinedTies
import Derived.KernelRfl
import Derived.RowKit
import Derived.WalkKit
import Derived.ProofKit
import Derived.OpenShut
import Derived.Outline
import Derived.Deep.RegionHeld3
import Derived.Deep.DrawnRows
import Derived.BigRegion
import Derived.Deep.RegionLawGrows
import Derived.Deep.QuietTactic
import Derived.BigQuiet
import Derived.Laws.OwnMore
import Derived.OwnWalk
import Derived.Maps.AppendAt
import Derived.RangeFuncNested
import Derived.RangeFuncBound
import Derived.RangeFuncCalls
import Derived.RangeFuncLeaves
import Derived.RangeFuncBox
import Derived.Shelf.Abstract
import Derived.OwnWalkIn
import Derived.TacticsInMore
import Derived.LoopNIn
import Derived.LoopIn
import Derived.Lib.SmallJoins
import Derived.Deep.Fields
import Derived.Deep.Slices
import Derived.OrdersHeld
import Derived.Deep.RegionHeldLaw
import Derived.Deep.DeepCutAuto
/- What the program's Come, Rest, Wake and Leave ask of lists and numbers: a code, and the smithy behind what was done; they come to what the model does. No condition but those that a theorem names. -/
namespace Go.Proofs.YtifolooecfebfaaGreat
open Go.ChangeShapes Go.WideShapes Go.ChangeAt Go.RowKit Go.Sort
set_option linter.unusedVariables false

theorem turned_is {m : SmyV} (h : Loose m) : turnedV m = turnV m := by unfold turnedV; rw [h.mk', if_pos rfl]

end Go.Proofs.YtifolooecfebfaaGreat

/- What the program's Allowed asks of lists and numbers: a code, and the smithy behind what was done; it comes to what the model does. No condition but those that a theorem names. -/
namespace Go.Proofs.YtifolooecfebfaaGreat
open Go.ChangeShapes Go.WideShapes Go.ChangeAt Go.RowKit Go.Sort
set_option linter.unusedVariables false

/-- One is put at another bench as the program does it: it waits there. -/
def putW (m : SmyV) (s : SmithV) (b : Int) : SmithV := sitS s b (movedV (hadS s) (mark m s.2.1) (mark m b))
end Go.Proofs.YtifolooecfebfaaGreat

/- One smith is put at another bench: the program's moveTo and put on a smithy of the call's own; only the smiths' row differs. Conditions: those that each theorem names. -/
namespace Go.Proofs.YtifolooecfebfaaGreat
open Go.ChangeShapes Go.WideShapes Go.ChangeAt Go.RowKit Go.Sort Go.Shelf
set_option linter.unusedVariables false
set_option linter.unusedSimpArgs false
set_option maxRecDepth 100000

theorem setS_twice (m : SmyV) (k : Nat) (s t : SmithV) : setS (setS m k s) k t = setS m k t := by unfold setS; simp
/-- The smithy with one put elsewhere, as the program does it. -/
def moveW (m : SmyV) (w b : Nat) : SmyV := setS m w (putW m (recAt m.smiths w) (b : Int))
theorem move_is {m : SmyV} {k b : Nat} (h : Moves m k b) : turnedV (moveW m k b) = moveX m k b := by
  have hlo := smy_loose h.right
  have hk := h.who
  have hs := pres_ne h.pres
  obtain ⟨p, g1, b1⟩ := hlo.limits hk hs
  obtain ⟨a0, a1, a2, a3, a4⟩ := hlo.at hk h.pres
  have hma := h.may
  unfold mayAt at hma
  simp only [Bool.and_eq_true, Int.toNat_natCast] at hma
  have hatP : ∀ x : SmithV, recAt (setS m k x).smiths k = x := fun x => by unfold setS; rw [recAt_set hk, if_pos rfl]
  have hlP : ∀ x : SmithV, k < (setS m k x).smiths.length := fun x => by unfold setS; simpa using hk
  have hP : Loose (setS m k (putS m (recAt m.smiths k) (b : Int))) := h.loose
  have h9 := hP.at (hlP _) (by rw [hatP]; exact h.pres)
  rw [hatP] at h9
  have hks := keep_sit (m := m) (s := recAt m.smiths k) (b := b) (had := movedV (hadS (recAt m.smiths k)) (mark m (recAt m.smiths k).2.1) (mark m (b : Int))) hlo p g1 h.bench hma.1 hma.2 (by
    have h8 := h9.2.2.2.2
    exact h8)
  have hS : Loose (setS m k (putW m (recAt m.smiths k) (b : Int))) := hlo.setS hk hks.1 hks.2
  unfold moveW moveX putX
  rw [turned_is hS]
  refine turn_like (A := setS m k (putS m (recAt m.smiths k) (b : Int))) (B := setS m k (putW m (recAt m.smiths k) (b : Int))) rfl rfl rfl rfl rfl (by unfold setS; simp) (fun i hi => ?_)
  by_cases hik : i = k
  · right
    subst hik
    rw [hatP, hatP]
    refine ⟨rfl, rfl, h.pres, ?_, ?_⟩
    · show (0 : Int) ≤ (b : Int); omega
    · exact Int.ofNat_lt.2 h.bench
  · left
    unfold setS
    simp only
    rw [recAt_set hk, recAt_set hk, if_neg hik, if_neg hik]
theorem FullSmy.two {n₀ : Nat} {w w' : World} {p q : Option Nat} {v0 v1 v2 v3 v4 : Value} {m : SmyV} {qs : List (RoomV × Value)} (h : FullSmy n₀ w v0 v1 v2 v3 v4 m qs) (ht : Two p q w w') (hp : ∀ k, OwnB v0 v1 v2 v3 v4 qs k → p ≠ some k ∧ q ≠ some k) : FullSmy n₀ w' v0 v1 v2 v3 v4 m qs := h.keep fun k e => ht.block k (h.own e).2 (hp k e).1 (hp k e).2
theorem two_set (w : World) (g o : Nat) (u : Value) : Two (some g) none w (w.setCell ⟨g, o, none⟩ u) := Two.of_set w (.inl rfl) o u
theorem two_set3 (w : World) (g : Nat) (a b c : Value) : Two (some g) none w (((w.setCell ⟨g, 0, none⟩ a).setCell ⟨g, 1, none⟩ b).setCell ⟨g, 2, none⟩ c) := ((two_set _ _ _ _).trans (two_set _ _ _ _)).trans (two_set _ _ _ _)
theorem two_set6 (w : World) (g : Nat) (a b c d e f : Value) : Two (some g) none w ((((((w.setCell ⟨g, 0, none⟩ a).setCell ⟨g, 1, none⟩ b).setCell ⟨g, 2, none⟩ c).setCell ⟨g, 3, none⟩ d).setCell ⟨g, 4, none⟩ e).setCell ⟨g, 5, none⟩ f) := (((((two_set _ _ _ _).trans (two_set _ _ _ _)).trans (two_set _ _ _ _)).trans (two_set _ _ _ _)).trans (two_set _ _ _ _)).trans (two_set _ _ _ _)
/-- What lies above the entry's memory may differ. -/
theorem Two.up {w W X : World} {p : Nat} (h : Below w.heap.size w W) (ht : Two (some p) none W X) (hp : w.heap.size ≤ p) : Below w.heap.size w X := h.trans (ht.below h.size (fun k e => by cases e; exact hp) (fun k e => by cases e))
theorem Blk.put3 {w : World} {R : Nat} {t : TypeId} {u0 u1 u2 : Value} (v0 v1 v2 : Value) (h : Blk w R t #[u0, u1, u2]) : Blk (((w.setCell ⟨R, 0, none⟩ v0).setCell ⟨R, 1, none⟩ v1).setCell ⟨R, 2, none⟩ v2) R t #[v0, v1, v2] := by
  have h0 : Blk _ R t #[v0, u1, u2] := h.set 0 v0
  have h1 : Blk _ R t #[v0, v1, u2] := h0.set 1 v1
  exact h1.set 2 v2
/-- A block that is newer than the entry may differ, too. -/
theorem two_over {w W X : World} {p : Option Nat} {R : Nat} (h : Two p none w W) (ht : Two (some R) none W X) (hR : w.heap.size ≤ R) : Two p none w X :=
  ⟨ht.os.trans h.os, ht.tape.trans h.tape, ht.output.trans h.output, Nat.le_trans h.size ht.size, fun k hk hp hq => (ht.block k (Nat.lt_of_lt_of_le hk h.size) (fun e => by cases e; omega) (fun e => by cases e)).trans (h.block k hk hp hq)⟩
theorem moveTo_t {n₀ : Nat} {W : World} {g n cap : Nat} {v0 v1 v3 v4 : Value} {m : SmyV} {qs : List (RoomV × Value)} (K : FullSmy n₀ W v0 v1 (.slice (some ⟨g, 0, none⟩) n cap) v3 v4 m qs) (hn : n = m.smiths.length) {k : Nat} (hk : k < m.smiths.length) (b had : Int) :
    Calls Tryz.prog 94 #[.pointer (some ⟨g, k * 11, none⟩), .int .i64 b, .int .i64 had] W fun e W' => e = .returned (.tuple #[]) ∧ FullSmy n₀ W' v0 v1 (.slice (some ⟨g, 0, none⟩) n cap) v3 v4 (setS m k (sitS (recAt m.smiths k) b had)) qs ∧ Two (some g) none W W' := by
  obtain ⟨⟨st, be, rk, my, gu, lo, hi, hd, ca, ut, wk⟩, hrk⟩ : ∃ d, recAt m.smiths k = d := ⟨_, rfl⟩
  have hl : ∀ x : SmithV, k < (setS m k x).smiths.length := fun x => by unfold setS; simpa using hk
  have hlen : ∀ x : SmithV, n = (setS m k x).smiths.length := fun x => by unfold setS; simpa using hn
  have hat : ∀ x : SmithV, recAt (setS m k x).smiths k = x := fun x => by unfold setS; rw [recAt_set hk, if_pos rfl]
  obtain ⟨_, hga, _, _, hc, hz⟩ := RecAt.view encSmith_len (by omega) K.smiths hn (by omega)
  cases hga
  have s0 := hc k hk 0 _ rfl
  have f0 := hz (k * 11)
  have K1 : FullSmy n₀ _ v0 v1 _ v3 v4 (setS m k (2, be, rk, my, gu, lo, hi, hd, ca, ut, wk)) qs := K.putS hn hk (i := 0) (by omega) (.int .i64 2) (2, be, rk, my, gu, lo, hi, hd, ca, ut, wk) (by rw [hrk]; rfl)
  obtain ⟨_, hga, _, _, hc1, hz1⟩ := RecAt.view encSmith_len (by omega) K1.smiths (hlen _) (by have := hl (2, be, rk, my, gu, lo, hi, hd, ca, ut, wk); omega)
  cases hga
  have s1 := hc1 k (hl _) 1 _ rfl
  have f1 := hz1 (k * 11 + 1)
  have K2 : FullSmy n₀ _ v0 v1 _ v3 v4 (setS (setS m k (2, be, rk, my, gu, lo, hi, hd, ca, ut, wk)) k (2, b, rk, my, gu, lo, hi, hd, ca, ut, wk)) qs := K1.putS (hlen _) (hl _) (i := 1) (by omega) (.int .i64 b) (2, b, rk, my, gu, lo, hi, hd, ca, ut, wk) (by rw [hat]; rfl)
  rw [setS_twice] at K2
  obtain ⟨_, hga, _, _, hc2, hz2⟩ := RecAt.view encSmith_len (by omega) K2.smiths (hlen _) (by have := hl (2, b, rk, my, gu, lo, hi, hd, ca, ut, wk); omega)
  cases hga
  have s7 := hc2 k (hl _) 7 _ rfl
  have f7 := hz2 (k * 11 + 7)
  have K3 : FullSmy n₀ _ v0 v1 _ v3 v4 (setS (setS m k (2, b, rk, my, gu, lo, hi, hd, ca, ut, wk)) k (2, b, rk, my, gu, lo, hi, had, ca, ut, wk)) qs := K2.putS (hlen _) (hl _) (i := 7) (by omega) (.int .i64 had) (2, b, rk, my, gu, lo, hi, had, ca, ut, wk) (by rw [hat]; rfl)
  rw [setS_twice] at K3
  simp only [Nat.add_zero] at s0 s1 s7 K3
  simp only [Nat.add_zero] at f1 f7
  have HK := hide K3
  have hres : sitS (st, be, rk, my, gu, lo, hi, hd, ca, ut, wk) b had = (2, b, rk, my, gu, lo, hi, had, ca, ut, wk) := rfl
  rw [hrk, hres]
  clear K K1 K2 K3 hc hz hc1 hz1 hc2 hz2 hat hl hlen hres hrk
  go_enter Tryz.func94, Tryz.ntmps94
  go_wp2_with fail
  go_end0
  exact ⟨rfl, unhide HK, ((two_set _ _ _ _).trans (two_set _ _ _ _)).trans (two_set _ _ _ _)⟩
set_option maxHeartbeats 8000000 in
theorem put_t {n₀ : Nat} {W : World} {R g2 p2 : Nat} {v0 v1 v3 v4 : Value} {m : SmyV} {qs : List (RoomV × Value)} (kb : Blk W R 32 #[v0, v1, .slice (some ⟨g2, 0, none⟩) m.smiths.length p2, v3, v4, .int .i64 m.now]) (K : FullSmy n₀ W v0 v1 (.slice (some ⟨g2, 0, none⟩) m.smiths.length p2) v3 v4 m qs) {k b bn : Nat} (hk : k < m.smiths.length) (hb : b < m.desks.length) (hbn : (recAt m.smiths k).2.1 = (bn : Int)) (hbl : bn < m.desks.length) :
    Calls Tryz.prog 36 #[.pointer (some ⟨R, 0, none⟩), .int .i64 (k : Int), .int .i64 (b : Int)] W fun e W' => e = .returned (.tuple #[]) ∧ FullSmy n₀ W' v0 v1 (.slice (some ⟨g2, 0, none⟩) m.smiths.length p2) v3 v4 (moveW m k b) qs ∧ Two (some g2) none W W' := by
  have hk1 : (k : Int) < (m.smiths.length : Int) := by omega
  have hb1 : (b : Int) < (m.desks.length : Int) := by omega
  have hbl1 : (bn : Int) < (m.desks.length : Int) := by omega
  obtain ⟨a3, p3, rfl⟩ := RecAt.shape K.desks
  obtain ⟨g3, hga, _, _, hc3, hz3⟩ := RecAt.view encDesk_len (by omega) K.desks rfl (by omega)
  cases hga
  obtain ⟨_, hga, _, _, hc2, hz2⟩ := RecAt.view encSmith_len (by omega) K.smiths rfl (by omega)
  cases hga
  obtain ⟨mk, hmk⟩ : ∃ x, (recAt m.desks b).2.2 = x := ⟨_, rfl⟩
  obtain ⟨mf, hmf⟩ : ∃ x, (recAt m.desks bn).2.2 = x := ⟨_, rfl⟩
  obtain ⟨hd, hhd⟩ : ∃ x, hadS (recAt m.smiths k) = x := ⟨_, rfl⟩
  have d1 := hc3 b hb 2 (.int .i64 mk) (by rw [← hmk]; rfl)
  have d2 := hc3 bn hbl 2 (.int .i64 mf) (by rw [← hmf]; rfl)
  have s1 := hc2 k hk 1 (.int .i64 (bn : Int)) (by rw [← hbn]; rfl)
  have s7 := hc2 k hk 7 (.int .i64 hd) (by rw [← hhd]; rfl)
  have hpw : putW m (recAt m.smiths k) (b : Int) = sitS (recAt m.smiths k) (b : Int) (movedV hd mf mk) := by
    unfold putW mark
    rw [hhd, hbn, Int.toNat_natCast, Int.toNat_natCast, hmk, hmf]
  obtain ⟨hn, hhn⟩ : ∃ x, movedV hd mf mk = x := ⟨_, rfl⟩
  unfold moveW
  rw [hpw, hhn]
  have Hhn := hide hhn
  obtain ⟨_, _, c2, c3, _, _⟩ := kb.c6
  clear hc2 hz2 hc3 hz3 hmk hmf hhd hpw hhn kb
  go_enter Tryz.func36, Tryz.ntmps36
  go_wp2_with fail
  have k1 := cell_regrown c3
  have k2 := cell_regrown d1
  have k3 := cell_regrown d2
  have k4 := cell_regrown s1
  refine wp_region_quiet_below (by kernel_rfl) (by kernel_rfl) ?_
  repeat (go_big_quiet_step (fail))
  refine wpQuiet_nil ?_
  intro _ hw'
  obtain ⟨⟨dq, osq⟩, hw''⟩ := hw'
  subst hw''
  have hbb : Below W.heap.size W (Go.Sort.grow (Go.redrawn W dq) osq) := below_regrown W dq osq
  generalize Go.Sort.grow (Go.redrawn W dq) osq = wq at *
  replace K := K.below hbb
  have Tw : Hid (Two (some g2) none W wq) := hide (Two.of_below hbb)
  replace s7 := (hbb.cell (World.block_lt_of_cell? _ _ s7)).trans s7
  clear hbb c2 c3 d1 d2 s1 k1 k2 k3 k4
  go_wp2_with fail
  refine (Calls.int_of (implMoved_any hd mf mk _) (unhide Hhn)).mono ?_
  rintro e w1 ⟨rfl, hbb⟩
  replace K := K.below hbb
  replace Tw := hide ((unhide Tw).trans (Two.of_below hbb))
  clear hbb s7
  go_wp2_with fail
  refine (moveTo_t K rfl hk (b : Int) hn).mono ?_
  rintro e w2 ⟨rfl, K2, T2⟩
  have HK := hide K2
  replace Tw := hide ((unhide Tw).trans T2)
  clear K2 T2
  go_wp2_with fail
  go_end0
  exact ⟨rfl, unhide HK, unhide Tw⟩

end Go.Proofs.YtifolooecfebfaaGreat

