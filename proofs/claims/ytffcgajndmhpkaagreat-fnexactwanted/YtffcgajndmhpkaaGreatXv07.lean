/- What the proof rests on, part 7: lists and numbers, how they lie in memory, and contracts of the calls. No condition but those that a theorem names. -/
import Derived.Test.YtffcgajndmhpkaaGreatXv01
import Derived.Test.YtffcgajndmhpkaaGreatXv02
import Derived.Test.YtffcgajndmhpkaaGreatXv03
import Derived.Test.YtffcgajndmhpkaaGreatXv04
import Derived.Test.YtffcgajndmhpkaaGreatXv05
import Derived.Test.YtffcgajndmhpkaaGreatXv06
import Derived.ChangeKeysEq
import Derived.Laws.StructEq
import Derived.WalkMore
import Derived.Below
import GoSem.Claim
import GoSem.ClaimJoined
import GoSem.ClaimMapViews
import Derived.JoinedTies
import Derived.KernelRfl
import Derived.RowKit
import Derived.WalkKit
import Derived.ProofKit
import Derived.OpenShut
import Derived.Outline
import Derived.Lib.QuietBelow
import Derived.Deep.RegionWith
import Derived.Deep.QuietTactic
import Derived.BigQuiet
import Derived.Deep.DrawnRows
import Derived.BigRegion
import Derived.Deep.RegionLawGrows
import Derived.Laws.OwnMore
import Derived.OwnWalk
import Derived.Maps.AppendAt
import Derived.RangeFuncNested
import Derived.RangeFuncBound
import Derived.RangeFuncCalls
import Derived.RangeFuncLeaves
import Derived.RangeFuncBox
import Derived.Shelf.Abstract
import Derived.Shelf.RegionOpen
import Derived.OwnWalkIn
import Derived.TacticsInMore
import Derived.LoopNIn
import Derived.LoopIn
import Derived.Lib.SmallJoins
import Derived.Deep.Fields
import Derived.Deep.Slices
import Derived.OrdersHeld
import Derived.Deep.RegionHeldLaw
import Derived.Deep.DeepCutAuto
/- Contracts of the program's small functions of chapter 11, and of its lists: whether all are so, and where one is so. Condition: the lists can be read. -/
namespace Go.Proofs.YtffcgajndmhpkaaGreat
open Go.ChangeShapes Go.WideShapes Go.ChangeAt Go.RowKit Go.Sort
set_option linter.unusedVariables false
set_option maxRecDepth 100000

/-- Whether it is open. -/
def openD1 (d : DeskV) : Bool := d.1
theorem hasDesk_any (a : Option Addr) (n cap : Nat) (i : Int) (w : World) : Calls Tryz.prog 92 #[.slice a n cap, .int .i64 i] w fun e w' => e = .returned (.bool (hasB n i)) ∧ w' = w := by
  by_cases h0 : 0 ≤ i
  · by_cases h1 : i < (n : Int)
    all_goals
      go_enter Tryz.func92, Tryz.ntmps92
      go_wp2_with fail
      go_ret
      exact ⟨ret_bool (by unfold hasB; simp [h0, h1]), rfl⟩
  · go_enter Tryz.func92, Tryz.ntmps92
    go_wp2_with fail
    go_ret
    exact ⟨ret_bool (by unfold hasB; simp; omega), rfl⟩
theorem hasGuild_any (a : Option Addr) (n cap : Nat) (i : Int) (w : World) : Calls Tryz.prog 143 #[.slice a n cap, .int .i64 i] w fun e w' => e = .returned (.bool (hasB n i)) ∧ w' = w := by
  by_cases h0 : 0 ≤ i
  · by_cases h1 : i < (n : Int)
    all_goals
      go_enter Tryz.func143, Tryz.ntmps143
      go_wp2_with fail
      go_ret
      exact ⟨ret_bool (by unfold hasB; simp [h0, h1]), rfl⟩
  · go_enter Tryz.func143, Tryz.ntmps143
    go_wp2_with fail
    go_ret
    exact ⟨ret_bool (by unfold hasB; simp; omega), rfl⟩
theorem hasPace_any (a : Option Addr) (n cap : Nat) (i : Int) (w : World) : Calls Tryz.prog 132 #[.slice a n cap, .int .i64 i] w fun e w' => e = .returned (.bool (hasB n i)) ∧ w' = w := by
  by_cases h0 : 0 ≤ i
  · by_cases h1 : i < (n : Int)
    all_goals
      go_enter Tryz.func132, Tryz.ntmps132
      go_wp2_with fail
      go_ret
      exact ⟨ret_bool (by unfold hasB; simp [h0, h1]), rfl⟩
  · go_enter Tryz.func132, Tryz.ntmps132
    go_wp2_with fail
    go_ret
    exact ⟨ret_bool (by unfold hasB; simp; omega), rfl⟩
theorem isGone_any (st be rk my gu lo hi hd ca ut wk : Int) (w : World) : Calls Tryz.prog 108 #[.agg #[.int .i64 st, .int .i64 be, .int .i64 rk, .int .i64 my, .int .i64 gu, .int .i64 lo, .int .i64 hi, .int .i64 hd, .int .i64 ca, .int .i64 ut, .int .i64 wk]] w fun e w' => e = .returned (.bool (st == 0)) ∧ Below w.heap.size w w' := by
  go_enter Tryz.func108, Tryz.ntmps108
  go_wp2_with fail
  go_ret
  exact ⟨rfl, (Below.refl _ _).alloc (Nat.le_refl _) _⟩
theorem isAway_any (st be rk my gu lo hi hd ca ut wk : Int) (w : World) : Calls Tryz.prog 109 #[.agg #[.int .i64 st, .int .i64 be, .int .i64 rk, .int .i64 my, .int .i64 gu, .int .i64 lo, .int .i64 hi, .int .i64 hd, .int .i64 ca, .int .i64 ut, .int .i64 wk]] w fun e w' => e = .returned (.bool (st == 1)) ∧ Below w.heap.size w w' := by
  go_enter Tryz.func109, Tryz.ntmps109
  go_wp2_with fail
  go_ret
  exact ⟨rfl, (Below.refl _ _).alloc (Nat.le_refl _) _⟩
theorem isOpen_any (op : Bool) (who mk : Int) (w : World) : Calls Tryz.prog 93 #[.agg #[.bool op, .int .i64 who, .int .i64 mk]] w fun e w' => e = .returned (.bool op) ∧ Below w.heap.size w w' := by
  go_enter Tryz.func93, Tryz.ntmps93
  go_wp2_with fail
  go_ret
  exact ⟨rfl, (Below.refl _ _).alloc (Nat.le_refl _) _⟩
theorem hasMark_any (op : Bool) (who mk : Int) (w : World) : Calls Tryz.prog 130 #[.agg #[.bool op, .int .i64 who, .int .i64 mk]] w fun e w' => e = .returned (.bool (deskB (op, who, mk))) ∧ Below w.heap.size w w' := by
  go_enter Tryz.func130, Tryz.ntmps130
  go_wp2_with fail
  refine (liesFrom_any _ _ _ _).mono ?_
  rintro e w' ⟨rfl, h9⟩
  subst w'
  go_wp2_with fail
  go_ret
  exact ⟨rfl, (Below.refl _ _).alloc (Nat.le_refl _) _⟩
set_option maxHeartbeats 1000000 in
theorem isAt_any (st be rk my gu lo hi hd ca ut wk b : Int) (w : World) : Calls Tryz.prog 117 #[.agg #[.int .i64 st, .int .i64 be, .int .i64 rk, .int .i64 my, .int .i64 gu, .int .i64 lo, .int .i64 hi, .int .i64 hd, .int .i64 ca, .int .i64 ut, .int .i64 wk], .int .i64 b] w fun e w' => e = .returned (.bool (atB b (st, be, rk, my, gu, lo, hi, hd, ca, ut, wk))) ∧ Below w.heap.size w w' := by
  by_cases h2 : st = 2
  · subst h2
    go_enter Tryz.func117, Tryz.ntmps117
    go_wp2_with fail
    go_ret
    exact ⟨ret_bool (by unfold atB; simp), (Below.refl _ _).alloc (Nat.le_refl _) _⟩
  have n2 : (st == 2) = false := by simpa using h2
  by_cases h3 : st = 3
  · subst h3
    go_enter Tryz.func117, Tryz.ntmps117
    go_wp2_with fail
    go_ret
    exact ⟨ret_bool (by unfold atB; simp), (Below.refl _ _).alloc (Nat.le_refl _) _⟩
  have n3 : (st == 3) = false := by simpa using h3
  go_enter Tryz.func117, Tryz.ntmps117
  go_wp2_with fail
  go_ret
  exact ⟨ret_bool (by unfold atB; simp [n2, n3]), (Below.refl _ _).alloc (Nat.le_refl _) _⟩
set_option maxHeartbeats 1000000 in
theorem worksAt_any (st be rk my gu lo hi hd ca ut wk b : Int) (w : World) : Calls Tryz.prog 137 #[.agg #[.int .i64 st, .int .i64 be, .int .i64 rk, .int .i64 my, .int .i64 gu, .int .i64 lo, .int .i64 hi, .int .i64 hd, .int .i64 ca, .int .i64 ut, .int .i64 wk], .int .i64 b] w fun e w' => e = .returned (.bool (worksB b (st, be, rk, my, gu, lo, hi, hd, ca, ut, wk))) ∧ Below w.heap.size w w' := by
  by_cases h3 : st = 3
  · subst h3
    go_enter Tryz.func137, Tryz.ntmps137
    go_wp2_with fail
    go_ret
    exact ⟨ret_bool (by unfold worksB; simp), (Below.refl _ _).alloc (Nat.le_refl _) _⟩
  have n3 : (st == 3) = false := by simpa using h3
  go_enter Tryz.func137, Tryz.ntmps137
  go_wp2_with fail
  go_ret
  exact ⟨ret_bool (by unfold worksB; simp [n3]), (Below.refl _ _).alloc (Nat.le_refl _) _⟩
theorem whoIsAt1_any (st be rk my gu lo hi hd ca ut wk b : Int) (R : Nat) (w : World) (hc : w.cell? ⟨R, 0, none⟩ = some (.int .i64 b)) (hR : R < w.heap.size) : Calls Tryz.prog 116 #[.agg #[.int .i64 st, .int .i64 be, .int .i64 rk, .int .i64 my, .int .i64 gu, .int .i64 lo, .int .i64 hi, .int .i64 hd, .int .i64 ca, .int .i64 ut, .int .i64 wk], .pointer (some ⟨R, 0, none⟩)] w fun e w' => e = .returned (.bool (atB b (st, be, rk, my, gu, lo, hi, hd, ca, ut, wk))) ∧ Below w.heap.size w w' := by
  have hne : R ≠ w.heap.size := Nat.ne_of_lt hR
  go_enter Tryz.func116, Tryz.ntmps116
  go_wp2_with fail
  refine (isAt_any st be rk my gu lo hi hd ca ut wk b _).mono ?_
  rintro e w1 ⟨rfl, hb⟩
  have Hb := hide (((Below.refl w.heap.size w).alloc (Nat.le_refl _) _).trans (hb.mono (by simp)))
  clear hb
  go_wp2_with fail
  go_ret
  exact ⟨rfl, unhide Hb⟩
theorem whoWorksAt1_any (st be rk my gu lo hi hd ca ut wk b : Int) (R : Nat) (w : World) (hc : w.cell? ⟨R, 0, none⟩ = some (.int .i64 b)) (hR : R < w.heap.size) : Calls Tryz.prog 136 #[.agg #[.int .i64 st, .int .i64 be, .int .i64 rk, .int .i64 my, .int .i64 gu, .int .i64 lo, .int .i64 hi, .int .i64 hd, .int .i64 ca, .int .i64 ut, .int .i64 wk], .pointer (some ⟨R, 0, none⟩)] w fun e w' => e = .returned (.bool (worksB b (st, be, rk, my, gu, lo, hi, hd, ca, ut, wk))) ∧ Below w.heap.size w w' := by
  have hne : R ≠ w.heap.size := Nat.ne_of_lt hR
  go_enter Tryz.func136, Tryz.ntmps136
  go_wp2_with fail
  refine (worksAt_any st be rk my gu lo hi hd ca ut wk b _).mono ?_
  rintro e w1 ⟨rfl, hb⟩
  have Hb := hide (((Below.refl w.heap.size w).alloc (Nat.le_refl _) _).trans (hb.mono (by simp)))
  clear hb
  go_wp2_with fail
  go_ret
  exact ⟨rfl, unhide Hb⟩
set_option maxHeartbeats 1000000 in
theorem guildIsThere_any (st be rk my gu lo hi hd ca ut wk : Int) (a : Option Addr) (n cap : Nat) (w : World) : Calls Tryz.prog 128 #[.agg #[.int .i64 st, .int .i64 be, .int .i64 rk, .int .i64 my, .int .i64 gu, .int .i64 lo, .int .i64 hi, .int .i64 hd, .int .i64 ca, .int .i64 ut, .int .i64 wk], .slice a n cap] w fun e w' => e = .returned (.bool (thereB n (st, be, rk, my, gu, lo, hi, hd, ca, ut, wk))) ∧ Below w.heap.size w w' := by
  have hx : ∀ q : Bool, Calls Tryz.prog 128 #[.agg #[.int .i64 st, .int .i64 be, .int .i64 rk, .int .i64 my, .int .i64 gu, .int .i64 lo, .int .i64 hi, .int .i64 hd, .int .i64 ca, .int .i64 ut, .int .i64 wk], .slice a n cap] w (fun e w' => e = .returned (.bool q) ∧ Below w.heap.size w w') → q = thereB n (st, be, rk, my, gu, lo, hi, hd, ca, ut, wk) → Calls Tryz.prog 128 #[.agg #[.int .i64 st, .int .i64 be, .int .i64 rk, .int .i64 my, .int .i64 gu, .int .i64 lo, .int .i64 hi, .int .i64 hd, .int .i64 ca, .int .i64 ut, .int .i64 wk], .slice a n cap] w fun e w' => e = .returned (.bool (thereB n (st, be, rk, my, gu, lo, hi, hd, ca, ut, wk))) ∧ Below w.heap.size w w' := fun q h e => by rw [← e]; exact h
  by_cases h0 : st = 0
  · subst h0
    refine hx true ?_ (by unfold thereB; simp)
    go_enter Tryz.func128, Tryz.ntmps128
    go_wp2_with fail
    refine (isGone_any 0 be rk my gu lo hi hd ca ut wk _).mono ?_
    rintro e w1 ⟨rfl, hb⟩
    have Hb := hide (((Below.refl w.heap.size w).alloc (Nat.le_refl _) _).trans (hb.mono (by simp)))
    clear hb
    go_wp2_with fail
    go_ret
    exact ⟨rfl, unhide Hb⟩
  have n0 : (st == 0) = false := by simpa using h0
  by_cases h1 : gu = -1
  · subst h1
    refine hx true ?_ (by unfold thereB; simp)
    go_enter Tryz.func128, Tryz.ntmps128
    go_wp2_with fail
    refine (isGone_any st be rk my (-1) lo hi hd ca ut wk _).mono ?_
    rw [n0]
    rintro e w1 ⟨rfl, hb⟩
    have c4 : w1.cell? ⟨w.heap.size, 4, none⟩ = some (.int .i64 (-1)) := (hb.cell (p := ⟨w.heap.size, 4, none⟩) (by simp)).trans (cell_new _ rfl)
    have Hb := hide (((Below.refl w.heap.size w).alloc (Nat.le_refl _) _).trans (hb.mono (by simp)))
    clear hb
    go_wp2_with fail
    go_ret
    exact ⟨rfl, unhide Hb⟩
  have n1 : (gu == -1) = false := by simpa using h1
  refine hx (hasB n gu) ?_ (by unfold thereB; simp [n0, n1])
  go_enter Tryz.func128, Tryz.ntmps128
  go_wp2_with fail
  refine (isGone_any st be rk my gu lo hi hd ca ut wk _).mono ?_
  rw [n0]
  rintro e w1 ⟨rfl, hb⟩
  have c4 : w1.cell? ⟨w.heap.size, 4, none⟩ = some (.int .i64 gu) := (hb.cell (p := ⟨w.heap.size, 4, none⟩) (by simp)).trans (cell_new _ rfl)
  have Hb := hide (((Below.refl w.heap.size w).alloc (Nat.le_refl _) _).trans (hb.mono (by simp)))
  clear hb
  go_wp2_with fail
  refine (hasGuild_any a n cap gu _).mono ?_
  rintro e w2 ⟨rfl, h9⟩
  subst w2
  go_wp2_with fail
  go_ret
  exact ⟨rfl, unhide Hb⟩
theorem smithsOk1_any (st be rk my gu lo hi hd ca ut wk : Int) (R : Nat) (a : Option Addr) (n cap : Nat) (w : World) (hc : w.cell? ⟨R, 0, none⟩ = some (.slice a n cap)) (hR : R < w.heap.size) : Calls Tryz.prog 127 #[.agg #[.int .i64 st, .int .i64 be, .int .i64 rk, .int .i64 my, .int .i64 gu, .int .i64 lo, .int .i64 hi, .int .i64 hd, .int .i64 ca, .int .i64 ut, .int .i64 wk], .pointer (some ⟨R, 0, none⟩)] w fun e w' => e = .returned (.bool (thereB n (st, be, rk, my, gu, lo, hi, hd, ca, ut, wk))) ∧ Below w.heap.size w w' := by
  have hne : R ≠ w.heap.size := Nat.ne_of_lt hR
  go_enter Tryz.func127, Tryz.ntmps127
  go_wp2_with fail
  refine (guildIsThere_any st be rk my gu lo hi hd ca ut wk a n cap _).mono ?_
  rintro e w1 ⟨rfl, hb⟩
  have Hb := hide (((Below.refl w.heap.size w).alloc (Nat.le_refl _) _).trans (hb.mono (by simp)))
  clear hb
  go_wp2_with fail
  go_ret
  exact ⟨rfl, unhide Hb⟩
theorem Calls.bool_of {P : Program} {f : FuncId} {args : Array Value} {w : World} {q q' : Bool} (h : Calls P f args w fun e w' => e = .returned (.bool q) ∧ Below w.heap.size w w') (e : q = q') : Calls P f args w fun e w' => e = .returned (.bool q') ∧ Below w.heap.size w w' := by rw [← e]; exact h
set_option maxHeartbeats 4000000 in
theorem isInPlace_any (st be rk my gu lo hi hd ca ut wk : Int) {v : Value} {ds : List DeskV} {w : World} (h : IsDesks w v ds) : Calls Tryz.prog 85 #[.agg #[.int .i64 st, .int .i64 be, .int .i64 rk, .int .i64 my, .int .i64 gu, .int .i64 lo, .int .i64 hi, .int .i64 hd, .int .i64 ca, .int .i64 ut, .int .i64 wk], v] w fun e w' => e = .returned (.bool (placeB ds (st, be, rk, my, gu, lo, hi, hd, ca, ut, wk))) ∧ Below w.heap.size w w' := by
  obtain ⟨a, cap, rfl, hc, hm, hr⟩ := h
  have Hr := hide hr
  clear hr
  by_cases h0 : st = 0
  · subst h0
    refine Calls.bool_of (q := true) ?_ (by unfold placeB; simp)
    go_enter Tryz.func85, Tryz.ntmps85
    go_wp2_with fail
    refine (isGone_any 0 be rk my gu lo hi hd ca ut wk _).mono ?_
    rintro e w1 ⟨rfl, hb⟩
    have Hb := hide (((Below.refl w.heap.size w).alloc (Nat.le_refl _) _).trans (hb.mono (by simp)))
    clear hb
    go_wp2_with fail
    go_ret
    exact ⟨rfl, unhide Hb⟩
  have n0 : (st == 0) = false := by simpa using h0
  cases hh : hasB ds.length be
  · refine Calls.bool_of (q := false) ?_ (by unfold placeB; simp only [n0, hh]; rfl)
    have Hh := hide hh
    clear hh
    go_enter Tryz.func85, Tryz.ntmps85
    go_wp2_with fail
    refine (isGone_any st be rk my gu lo hi hd ca ut wk _).mono ?_
    rw [n0]
    rintro e w1 ⟨rfl, hb⟩
    have c1 : w1.cell? ⟨w.heap.size, 1, none⟩ = some (.int .i64 be) := (hb.cell (p := ⟨w.heap.size, 1, none⟩) (by simp)).trans (cell_new _ rfl)
    have Hb := hide (((Below.refl w.heap.size w).alloc (Nat.le_refl _) _).trans (hb.mono (by simp)))
    clear hb
    go_wp2_with fail
    refine (hasDesk_any a ds.length cap be _).mono ?_
    rw [unhide Hh]
    rintro e w2 ⟨rfl, h9⟩
    subst w2
    go_wp2_with fail
    go_ret
    exact ⟨rfl, unhide Hb⟩
  have hbe : 0 ≤ be ∧ be < (ds.length : Int) := by unfold hasB at hh; simpa using hh
  obtain ⟨j, rfl⟩ : ∃ j : Nat, be = j := ⟨be.toNat, by omega⟩
  have hj : j < ds.length := by omega
  have hj1 : (j : Int) < (ds.length : Int) := by omega
  rcases unhide Hr with e0 | ⟨b, off, rfl, hbw, hcl⟩
  · rw [e0] at hj; simp at hj
  obtain ⟨t0, t1, t2⟩ := desk_cells hcl hj
  have hD : placeB ds (st, (j : Int), rk, my, gu, lo, hi, hd, ca, ut, wk) = (st == 1 || ((recAt ds j).1 && (memB my j && inBandB hd (recAt ds j).2.2))) := by
    unfold placeB
    simp only [n0, hh, Int.toNat_natCast, Bool.false_or, Bool.true_and]
  have HD := hide hD
  have Hh := hide hh
  clear hD hh hcl Hr
  generalize recAt ds j = d at *
  obtain ⟨op, who, mk⟩ := d
  simp only at t0 t1 t2
  obtain ⟨qm, hqm⟩ : ∃ q, memB my j = q := ⟨_, rfl⟩
  have Hm := hide hqm
  obtain ⟨qb, hqb⟩ : ∃ q, inBandB hd mk = q := ⟨_, rfl⟩
  have Hbd := hide hqb
  clear hqm hqb
  refine Calls.bool_of (q := (st == 1 || (op && (qm && qb)))) ?_ (by rw [unhide HD, unhide Hm, unhide Hbd])
  clear HD
  go_enter Tryz.func85, Tryz.ntmps85
  go_wp2_with fail
  refine (isGone_any st (j : Int) rk my gu lo hi hd ca ut wk _).mono ?_
  rw [n0]
  rintro e w1 ⟨rfl, hb⟩
  have SB : Hid (Blk w1 w.heap.size 67 #[.int .i64 st, .int .i64 j, .int .i64 rk, .int .i64 my, .int .i64 gu, .int .i64 lo, .int .i64 hi, .int .i64 hd, .int .i64 ca, .int .i64 ut, .int .i64 wk]) := hide ((Blk.new w _ _).below hb (by simp))
  have Hb := hide (((Below.refl w.heap.size w).alloc (Nat.le_refl _) _).trans (hb.mono (by simp)))
  rw [← (unhide Hb).cell (p := ⟨b, off + j * 3, none⟩) hbw] at t0
  rw [← (unhide Hb).cell (p := ⟨b, off + j * 3 + 1, none⟩) hbw] at t1
  rw [← (unhide Hb).cell (p := ⟨b, off + j * 3 + 2, none⟩) hbw] at t2
  clear hb
  have s1 := (unhide SB).cell (i := 1) (v := .int .i64 j) rfl
  go_wp2_with fail
  refine (hasDesk_any _ ds.length cap (j : Int) _).mono ?_
  rw [unhide Hh]
  rintro e w2 ⟨rfl, h9⟩
  subst w2
  clear s1
  have s1 := (unhide SB).cell (i := 1) (v := .int .i64 j) rfl
  have hbw1 : b < w1.heap.size := Nat.lt_of_lt_of_le hbw (unhide Hb).size
  have hl0 := (unhide SB).lt
  go_upto_region 6 with fail
  clear t0 t1 t2 s1
  replace SB : Hid (Blk (w1.alloc (.cells #[.bool op, .int .i64 who, .int .i64 mk] 70)) w.heap.size 67 #[.int .i64 st, .int .i64 j, .int .i64 rk, .int .i64 my, .int .i64 gu, .int .i64 lo, .int .i64 hi, .int .i64 hd, .int .i64 ca, .int .i64 ut, .int .i64 wk]) := hide ((unhide SB).alloc _)
  have DB : Hid (Blk (w1.alloc (.cells #[.bool op, .int .i64 who, .int .i64 mk] 70)) w1.heap.size 70 #[.bool op, .int .i64 who, .int .i64 mk]) := hide (Blk.new w1 _ _)
  replace Hb : Hid (Below w.heap.size w (w1.alloc (.cells #[.bool op, .int .i64 who, .int .i64 mk] 70))) := hide ((unhide Hb).alloc (unhide Hb).size _)
  generalize w1.alloc (.cells #[.bool op, .int .i64 who, .int .i64 mk] 70) = W at *
  generalize w1.heap.size = db at *
  have s0 := (unhide SB).cell (i := 0) (v := .int .i64 st) rfl
  have s1 := (unhide SB).cell (i := 1) (v := .int .i64 j) rfl
  have s2 := (unhide SB).cell (i := 2) (v := .int .i64 rk) rfl
  have s3 := (unhide SB).cell (i := 3) (v := .int .i64 my) rfl
  have s4 := (unhide SB).cell (i := 4) (v := .int .i64 gu) rfl
  have s5 := (unhide SB).cell (i := 5) (v := .int .i64 lo) rfl
  have s6 := (unhide SB).cell (i := 6) (v := .int .i64 hi) rfl
  have s7 := (unhide SB).cell (i := 7) (v := .int .i64 hd) rfl
  have s8 := (unhide SB).cell (i := 8) (v := .int .i64 ca) rfl
  have s9 := (unhide SB).cell (i := 9) (v := .int .i64 ut) rfl
  have s10 := (unhide SB).cell (i := 10) (v := .int .i64 wk) rfl
  go_wp2_with fail
  refine (isAway_any st (j : Int) rk my gu lo hi hd ca ut wk _).mono ?_
  rintro e w3 ⟨rfl, hb⟩
  replace SB := hide ((unhide SB).below hb (unhide SB).lt)
  replace DB := hide ((unhide DB).below hb (unhide DB).lt)
  replace Hb := hide ((unhide Hb).trans (hb.mono (unhide Hb).size))
  clear hb s0 s1 s2 s3 s4 s5 s6 s7 s8 s9 s10
  by_cases h1 : st = 1
  · subst h1
    go_wp2_with fail
    go_ret
    exact ⟨ret_bool (by simp), unhide Hb⟩
  have n1 : (st == 1) = false := by simpa using h1
  rw [n1]
  have g0 := (unhide DB).cell (i := 0) (v := .bool op) rfl
  have g1 := (unhide DB).cell (i := 1) (v := .int .i64 who) rfl
  have g2 := (unhide DB).cell (i := 2) (v := .int .i64 mk) rfl
  go_wp2_with fail
  refine (isOpen_any op who mk _).mono ?_
  rintro e w4 ⟨rfl, hb⟩
  replace SB := hide ((unhide SB).below hb (unhide SB).lt)
  replace DB := hide ((unhide DB).below hb (unhide DB).lt)
  replace Hb := hide ((unhide Hb).trans (hb.mono (unhide Hb).size))
  clear hb g0 g1 g2
  cases op
  · go_wp2_with fail
    go_ret
    exact ⟨ret_bool (by simp [h1]), unhide Hb⟩
  have s1 := (unhide SB).cell (i := 1) (v := .int .i64 j) rfl
  have s3 := (unhide SB).cell (i := 3) (v := .int .i64 my) rfl
  have s7 := (unhide SB).cell (i := 7) (v := .int .i64 hd) rfl
  have g2 := (unhide DB).cell (i := 2) (v := .int .i64 mk) rfl
  go_wp2_with fail
  refine (implInSet_any my (j : Int) _).mono ?_
  rw [unhide Hm]
  rintro e w5 ⟨rfl, h9⟩
  subst w5
  cases qm
  · go_wp2_with fail
    go_ret
    exact ⟨ret_bool (by simp [h1]), unhide Hb⟩
  go_wp2_with fail
  refine (implInBand_any hd mk _).mono ?_
  rw [unhide Hbd]
  rintro e w6 ⟨rfl, hb⟩
  replace Hb := hide ((unhide Hb).trans (hb.mono (unhide Hb).size))
  clear hb
  go_wp2_with fail
  go_ret
  exact ⟨ret_bool (by simp [h1]), unhide Hb⟩
set_option maxHeartbeats 4000000 in
theorem allOk_any {w : World} {v : Value} {ss : List SmithV} (h : IsSmiths w v ss) : Calls Tryz.prog 83 #[v, .func (Fn.func 126) #[] #[]] w fun e w' => e = .returned (.bool (allTo smithB ss ss.length)) ∧ Below w.heap.size w w' := by
  obtain ⟨a, cap, rfl, hc, hm, hr⟩ := h
  have Hr := hide hr
  clear hr
  go_enter Tryz.func83, Tryz.ntmps83
  go_wp2_with fail
  go_loopw [9] (fun i wr => ∃ k : Nat, k ≤ ss.length ∧ i = .int .i64 k ∧ allTo smithB ss k = true ∧ Below w.heap.size w wr) (fun i _ => ss.length - (intOf i).toNat)
  case atStart => exact ⟨0, Nat.zero_le _, rfl, rfl, Below.refl _ _⟩
  case round =>
    obtain ⟨k, hk, rfl, hst, hb0⟩ := hrel
    have Hst := hide hst
    have BB := hide hb0
    by_cases hlt : k < ss.length
    · have hlt1 : (k : Int) < (ss.length : Int) := by omega
      rcases unhide Hr with e0 | ⟨b, off, rfl, hbw, hcl⟩
      · rw [e0] at hlt; simp at hlt
      obtain ⟨d0, d1, d2, d3, d4, d5, d6, d7, d8, d9, d10⟩ := smith_cells hcl hlt
      rw [← hb0.cell (p := ⟨b, off + k * 11, none⟩) hbw] at d0
      rw [← hb0.cell (p := ⟨b, off + k * 11 + 1, none⟩) hbw] at d1
      rw [← hb0.cell (p := ⟨b, off + k * 11 + 2, none⟩) hbw] at d2
      rw [← hb0.cell (p := ⟨b, off + k * 11 + 3, none⟩) hbw] at d3
      rw [← hb0.cell (p := ⟨b, off + k * 11 + 4, none⟩) hbw] at d4
      rw [← hb0.cell (p := ⟨b, off + k * 11 + 5, none⟩) hbw] at d5
      rw [← hb0.cell (p := ⟨b, off + k * 11 + 6, none⟩) hbw] at d6
      rw [← hb0.cell (p := ⟨b, off + k * 11 + 7, none⟩) hbw] at d7
      rw [← hb0.cell (p := ⟨b, off + k * 11 + 8, none⟩) hbw] at d8
      rw [← hb0.cell (p := ⟨b, off + k * 11 + 9, none⟩) hbw] at d9
      rw [← hb0.cell (p := ⟨b, off + k * 11 + 10, none⟩) hbw] at d10
      have HU := hide (fun hh => allTo_up (p := smithB) (xs := ss) (k := k) hst hh)
      have HN := hide (fun hh => allTo_no (p := smithB) (xs := ss) hlt hh)
      clear hcl hst hb0
      generalize recAt ss k = s at *
      obtain ⟨st, be, rk, my, gu, lo, hi, hd, ca, ut, wk⟩ := s
      simp only at d0 d1 d2 d3 d4 d5 d6 d7 d8 d9 d10
      have hbr : b < wr.heap.size := Nat.lt_of_lt_of_le hbw (unhide BB).size
      go_wp2_with fail
      clear d0 d1 d2 d3 d4 d5 d6 d7 d8 d9 d10
      obtain ⟨q, hq⟩ : ∃ q, smithB (st, be, rk, my, gu, lo, hi, hd, ca, ut, wk) = q := ⟨_, rfl⟩
      have Hq := hide hq
      clear hq
      have hba : Below wr.heap.size wr (wr.alloc (.cells #[.int .i64 st, .int .i64 be, .int .i64 rk, .int .i64 my, .int .i64 gu, .int .i64 lo, .int .i64 hi, .int .i64 hd, .int .i64 ca, .int .i64 ut, .int .i64 wk] 67)) := (Below.refl _ _).alloc (Nat.le_refl _) _
      replace BB := hide ((unhide BB).trans (hba.mono (unhide BB).size))
      clear hba
      refine (implSmithOk_any st be rk my gu lo hi hd ca ut wk _).mono ?_
      rw [unhide Hq]
      rintro e w1 ⟨rfl, hb⟩
      replace BB := hide ((unhide BB).trans (hb.mono (unhide BB).size))
      clear hb
      cases q
      · go_wp2_with fail
        go_ret
        exact ⟨ret_bool (unhide HN (unhide Hq)).symm, unhide BB⟩
      · go_wp2_with fail
        go_roundw
        case rel => exact ⟨k + 1, by omega, by go_num, unhide HU (unhide Hq), unhide BB⟩
        case measure => simp [intOf]; omega
    · obtain rfl : k = ss.length := by omega
      go_wp2_with fail
      go_ret
      exact ⟨ret_bool (unhide Hst).symm, unhide BB⟩
set_option maxHeartbeats 4000000 in
theorem allThere_any {w : World} {v : Value} {ss : List SmithV} {R n gc : Nat} {ga : Option Addr} (h : IsSmiths w v ss) (hc0 : w.cell? ⟨R, 0, none⟩ = some (.slice ga n gc)) (hR : R < w.heap.size) : Calls Tryz.prog 83 #[v, .func (Fn.func 127) #[] #[.pointer (some ⟨R, 0, none⟩)]] w fun e w' => e = .returned (.bool (allTo (thereB n) ss ss.length)) ∧ Below w.heap.size w w' := by
  obtain ⟨a, cap, rfl, hc, hm, hr⟩ := h
  have Hr := hide hr
  clear hr
  have HC := hide hc0
  clear hc0
  go_enter Tryz.func83, Tryz.ntmps83
  go_wp2_with fail
  go_loopw [9] (fun i wr => ∃ k : Nat, k ≤ ss.length ∧ i = .int .i64 k ∧ allTo (thereB n) ss k = true ∧ Below w.heap.size w wr) (fun i _ => ss.length - (intOf i).toNat)
  case atStart => exact ⟨0, Nat.zero_le _, rfl, rfl, Below.refl _ _⟩
  case round =>
    obtain ⟨k, hk, rfl, hst, hb0⟩ := hrel
    have Hst := hide hst
    have BB := hide hb0
    by_cases hlt : k < ss.length
    · have hlt1 : (k : Int) < (ss.length : Int) := by omega
      rcases unhide Hr with e0 | ⟨b, off, rfl, hbw, hcl⟩
      · rw [e0] at hlt; simp at hlt
      obtain ⟨d0, d1, d2, d3, d4, d5, d6, d7, d8, d9, d10⟩ := smith_cells hcl hlt
      rw [← hb0.cell (p := ⟨b, off + k * 11, none⟩) hbw] at d0
      rw [← hb0.cell (p := ⟨b, off + k * 11 + 1, none⟩) hbw] at d1
      rw [← hb0.cell (p := ⟨b, off + k * 11 + 2, none⟩) hbw] at d2
      rw [← hb0.cell (p := ⟨b, off + k * 11 + 3, none⟩) hbw] at d3
      rw [← hb0.cell (p := ⟨b, off + k * 11 + 4, none⟩) hbw] at d4
      rw [← hb0.cell (p := ⟨b, off + k * 11 + 5, none⟩) hbw] at d5
      rw [← hb0.cell (p := ⟨b, off + k * 11 + 6, none⟩) hbw] at d6
      rw [← hb0.cell (p := ⟨b, off + k * 11 + 7, none⟩) hbw] at d7
      rw [← hb0.cell (p := ⟨b, off + k * 11 + 8, none⟩) hbw] at d8
      rw [← hb0.cell (p := ⟨b, off + k * 11 + 9, none⟩) hbw] at d9
      rw [← hb0.cell (p := ⟨b, off + k * 11 + 10, none⟩) hbw] at d10
      have HU := hide (fun hh => allTo_up (p := (thereB n)) (xs := ss) (k := k) hst hh)
      have HN := hide (fun hh => allTo_no (p := (thereB n)) (xs := ss) hlt hh)
      clear hcl hst hb0
      generalize recAt ss k = s at *
      obtain ⟨st, be, rk, my, gu, lo, hi, hd, ca, ut, wk⟩ := s
      simp only at d0 d1 d2 d3 d4 d5 d6 d7 d8 d9 d10
      have hbr : b < wr.heap.size := Nat.lt_of_lt_of_le hbw (unhide BB).size
      go_wp2_with fail
      clear d0 d1 d2 d3 d4 d5 d6 d7 d8 d9 d10
      obtain ⟨q, hq⟩ : ∃ q, (thereB n) (st, be, rk, my, gu, lo, hi, hd, ca, ut, wk) = q := ⟨_, rfl⟩
      have Hq := hide hq
      clear hq
      have hba : Below wr.heap.size wr (wr.alloc (.cells #[.int .i64 st, .int .i64 be, .int .i64 rk, .int .i64 my, .int .i64 gu, .int .i64 lo, .int .i64 hi, .int .i64 hd, .int .i64 ca, .int .i64 ut, .int .i64 wk] 67)) := (Below.refl _ _).alloc (Nat.le_refl _) _
      replace BB := hide ((unhide BB).trans (hba.mono (unhide BB).size))
      clear hba
      refine (smithsOk1_any st be rk my gu lo hi hd ca ut wk R ga n gc _ (((unhide BB).cell (p := ⟨R, 0, none⟩) hR).trans (unhide HC)) (Nat.lt_of_lt_of_le hR (unhide BB).size)).mono ?_
      rw [unhide Hq]
      rintro e w1 ⟨rfl, hb⟩
      replace BB := hide ((unhide BB).trans (hb.mono (unhide BB).size))
      clear hb
      cases q
      · go_wp2_with fail
        go_ret
        exact ⟨ret_bool (unhide HN (unhide Hq)).symm, unhide BB⟩
      · go_wp2_with fail
        go_roundw
        case rel => exact ⟨k + 1, by omega, by go_num, unhide HU (unhide Hq), unhide BB⟩
        case measure => simp [intOf]; omega
    · obtain rfl : k = ss.length := by omega
      go_wp2_with fail
      go_ret
      exact ⟨ret_bool (unhide Hst).symm, unhide BB⟩
set_option maxHeartbeats 4000000 in
theorem allMark_any {w : World} {v : Value} {ss : List DeskV} (h : IsDesks w v ss) : Calls Tryz.prog 129 #[v, .func (Fn.func 130) #[] #[]] w fun e w' => e = .returned (.bool (allTo deskB ss ss.length)) ∧ Below w.heap.size w w' := by
  obtain ⟨a, cap, rfl, hc, hm, hr⟩ := h
  have Hr := hide hr
  clear hr
  go_enter Tryz.func129, Tryz.ntmps129
  go_wp2_with fail
  go_loopw [9] (fun i wr => ∃ k : Nat, k ≤ ss.length ∧ i = .int .i64 k ∧ allTo deskB ss k = true ∧ Below w.heap.size w wr) (fun i _ => ss.length - (intOf i).toNat)
  case atStart => exact ⟨0, Nat.zero_le _, rfl, rfl, Below.refl _ _⟩
  case round =>
    obtain ⟨k, hk, rfl, hst, hb0⟩ := hrel
    have Hst := hide hst
    have BB := hide hb0
    by_cases hlt : k < ss.length
    · have hlt1 : (k : Int) < (ss.length : Int) := by omega
      rcases unhide Hr with e0 | ⟨b, off, rfl, hbw, hcl⟩
      · rw [e0] at hlt; simp at hlt
      obtain ⟨d0, d1, d2⟩ := desk_cells hcl hlt
      rw [← hb0.cell (p := ⟨b, off + k * 3, none⟩) hbw] at d0
      rw [← hb0.cell (p := ⟨b, off + k * 3 + 1, none⟩) hbw] at d1
      rw [← hb0.cell (p := ⟨b, off + k * 3 + 2, none⟩) hbw] at d2
      have HU := hide (fun hh => allTo_up (p := deskB) (xs := ss) (k := k) hst hh)
      have HN := hide (fun hh => allTo_no (p := deskB) (xs := ss) hlt hh)
      clear hcl hst hb0
      generalize recAt ss k = s at *
      obtain ⟨op, who, mk⟩ := s
      simp only at d0 d1 d2
      have hbr : b < wr.heap.size := Nat.lt_of_lt_of_le hbw (unhide BB).size
      go_wp2_with fail
      clear d0 d1 d2
      obtain ⟨q, hq⟩ : ∃ q, deskB (op, who, mk) = q := ⟨_, rfl⟩
      have Hq := hide hq
      clear hq
      have hba : Below wr.heap.size wr (wr.alloc (.cells #[.bool op, .int .i64 who, .int .i64 mk] 70)) := (Below.refl _ _).alloc (Nat.le_refl _) _
      replace BB := hide ((unhide BB).trans (hba.mono (unhide BB).size))
      clear hba
      refine (hasMark_any op who mk _).mono ?_
      rw [unhide Hq]
      rintro e w1 ⟨rfl, hb⟩
      replace BB := hide ((unhide BB).trans (hb.mono (unhide BB).size))
      clear hb
      cases q
      · go_wp2_with fail
        go_ret
        exact ⟨ret_bool (unhide HN (unhide Hq)).symm, unhide BB⟩
      · go_wp2_with fail
        go_roundw
        case rel => exact ⟨k + 1, by omega, by go_num, unhide HU (unhide Hq), unhide BB⟩
        case measure => simp [intOf]; omega
    · obtain rfl : k = ss.length := by omega
      go_wp2_with fail
      go_ret
      exact ⟨ret_bool (unhide Hst).symm, unhide BB⟩
set_option maxHeartbeats 4000000 in
theorem whereAt_any {w : World} {v : Value} {ss : List SmithV} {R : Nat} {bn : Int} (h : IsSmiths w v ss) (hl : ss.length ≤ 1000) (hc0 : w.cell? ⟨R, 0, none⟩ = some (.int .i64 bn)) (hR : R < w.heap.size) : Calls Tryz.prog 115 #[v, .func (Fn.func 116) #[] #[.pointer (some ⟨R, 0, none⟩)]] w fun e w' => ∃ v', e = .returned v' ∧ NumsAt w.heap.size w' v' (whereTo (atB bn) ss ss.length) ∧ Below w.heap.size w w' := by
  obtain ⟨a, cap, rfl, hc, hm, hr⟩ := h
  have Hr := hide hr
  clear hr
  have HC := hide hc0
  clear hc0
  go_enter Tryz.func115, Tryz.ntmps115
  go_wp2_with fail
  go_loopw [5, 11] (fun l i wr => ∃ k : Nat, k ≤ ss.length ∧ i = .int .i64 k ∧ NumsAt w.heap.size wr l (whereTo (atB bn) ss k) ∧ Below w.heap.size w wr) (fun _ i _ => ss.length - (intOf i).toNat)
  case atStart => exact ⟨0, Nat.zero_le _, rfl, recs_empty rfl (Nat.le_refl _), (Below.refl _ _).alloc (Nat.le_refl _) _⟩
  case round =>
    obtain ⟨k, hk, rfl, hln, hb0⟩ := hrel
    obtain ⟨la, lc, rfl⟩ := RecAt.shape hln
    have HL := hide hln
    have BB := hide hb0
    have hfl := whereTo_len (atB bn) ss k
    clear hln
    by_cases hlt : k < ss.length
    · have hlt1 : (k : Int) < (ss.length : Int) := by omega
      rcases unhide Hr with e0 | ⟨b, off, rfl, hbw, hcl⟩
      · rw [e0] at hlt; simp at hlt
      obtain ⟨d0, d1, d2, d3, d4, d5, d6, d7, d8, d9, d10⟩ := smith_cells hcl hlt
      rw [← hb0.cell (p := ⟨b, off + k * 11, none⟩) hbw] at d0
      rw [← hb0.cell (p := ⟨b, off + k * 11 + 1, none⟩) hbw] at d1
      rw [← hb0.cell (p := ⟨b, off + k * 11 + 2, none⟩) hbw] at d2
      rw [← hb0.cell (p := ⟨b, off + k * 11 + 3, none⟩) hbw] at d3
      rw [← hb0.cell (p := ⟨b, off + k * 11 + 4, none⟩) hbw] at d4
      rw [← hb0.cell (p := ⟨b, off + k * 11 + 5, none⟩) hbw] at d5
      rw [← hb0.cell (p := ⟨b, off + k * 11 + 6, none⟩) hbw] at d6
      rw [← hb0.cell (p := ⟨b, off + k * 11 + 7, none⟩) hbw] at d7
      rw [← hb0.cell (p := ⟨b, off + k * 11 + 8, none⟩) hbw] at d8
      rw [← hb0.cell (p := ⟨b, off + k * 11 + 9, none⟩) hbw] at d9
      rw [← hb0.cell (p := ⟨b, off + k * 11 + 10, none⟩) hbw] at d10
      have HY := hide (fun hh => whereTo_yes (p := (atB bn)) (xs := ss) (k := k) hh)
      have HN := hide (fun hh => whereTo_no (p := (atB bn)) (xs := ss) (k := k) hh)
      clear hcl hb0
      generalize recAt ss k = s at *
      obtain ⟨st, be, rk, my, gu, lo, hi, hd, ca, ut, wk⟩ := s
      simp only at d0 d1 d2 d3 d4 d5 d6 d7 d8 d9 d10
      have hbr : b < wr.heap.size := Nat.lt_of_lt_of_le hbw (unhide BB).size
      go_wp2_with fail
      clear d0 d1 d2 d3 d4 d5 d6 d7 d8 d9 d10
      obtain ⟨q, hq⟩ : ∃ q, (atB bn) (st, be, rk, my, gu, lo, hi, hd, ca, ut, wk) = q := ⟨_, rfl⟩
      have Hq := hide hq
      clear hq
      have hba : Below wr.heap.size wr (wr.alloc (.cells #[.int .i64 st, .int .i64 be, .int .i64 rk, .int .i64 my, .int .i64 gu, .int .i64 lo, .int .i64 hi, .int .i64 hd, .int .i64 ca, .int .i64 ut, .int .i64 wk] 67)) := (Below.refl _ _).alloc (Nat.le_refl _) _
      replace BB := hide ((unhide BB).trans (hba.mono (unhide BB).size))
      replace HL := hide (RecAt.later (unhide HL) hba)
      clear hba
      refine (whoIsAt1_any st be rk my gu lo hi hd ca ut wk bn R _ (((unhide BB).cell (p := ⟨R, 0, none⟩) hR).trans (unhide HC)) (Nat.lt_of_lt_of_le hR (unhide BB).size)).mono ?_
      rw [unhide Hq]
      rintro e w1 ⟨rfl, hb⟩
      replace BB := hide ((unhide BB).trans (hb.mono (unhide BB).size))
      replace HL := hide (RecAt.later (unhide HL) hb)
      clear hb
      cases q
      · go_wp2_with fail
        go_roundw
        case rel => exact ⟨k + 1, by omega, by go_num, by rw [unhide HN (unhide Hq)]; exact unhide HL, unhide BB⟩
        case measure => simp [intOf]; omega
      · have hsx := (unhide BB).size
        go_wp2_with (at_builtin; refine wpList_append_recs tyN rfl (.tmp 19) (.tmp 21) 126 Tryz.underlying126 rfl w.heap.size _ _ (whereTo (atB bn) ss k) [(k : Int)] rfl rfl (RecAt.later (unhide HL) ((Below.refl _ _).alloc (Nat.le_refl _) _)) (recs_one (k : Int) rfl (Nat.le_refl _) (by omega)) (by simp; omega) (by simp; omega) ?_; intro u9 w9 hp9 hg9 hat9; have HP9 := hide hp9; have HG9 := hide hg9; clear hp9 hg9 hat9)
        have hgo : ∀ i, (Value.slice la (whereTo (atB bn) ss k).length lc).ownBlock = some i → w.heap.size ≤ i := fun i e => (RecAt.lt (unhide HL) e).1
        have hb9 : Below w.heap.size w1 w9 := ((Below.refl _ _).alloc hsx _).trans ((Below.refl _ _).grown (unhide HG9) (by simp; omega) hgo)
        have hb8 := (unhide BB).trans hb9
        go_wp2_with fail
        go_roundw
        case rel => exact ⟨k + 1, by omega, by go_num, by rw [unhide HY (unhide Hq)]; exact unhide HP9, hb8⟩
        case measure => simp [intOf]; omega
    · obtain rfl : k = ss.length := by omega
      go_wp2_with fail
      go_ret
      exact ⟨_, rfl, unhide HL, unhide BB⟩
set_option maxHeartbeats 4000000 in
theorem whereWorks_any {w : World} {v : Value} {ss : List SmithV} {R : Nat} {bn : Int} (h : IsSmiths w v ss) (hl : ss.length ≤ 1000) (hc0 : w.cell? ⟨R, 0, none⟩ = some (.int .i64 bn)) (hR : R < w.heap.size) : Calls Tryz.prog 115 #[v, .func (Fn.func 136) #[] #[.pointer (some ⟨R, 0, none⟩)]] w fun e w' => ∃ v', e = .returned v' ∧ NumsAt w.heap.size w' v' (whereTo (worksB bn) ss ss.length) ∧ Below w.heap.size w w' := by
  obtain ⟨a, cap, rfl, hc, hm, hr⟩ := h
  have Hr := hide hr
  clear hr
  have HC := hide hc0
  clear hc0
  go_enter Tryz.func115, Tryz.ntmps115
  go_wp2_with fail
  go_loopw [5, 11] (fun l i wr => ∃ k : Nat, k ≤ ss.length ∧ i = .int .i64 k ∧ NumsAt w.heap.size wr l (whereTo (worksB bn) ss k) ∧ Below w.heap.size w wr) (fun _ i _ => ss.length - (intOf i).toNat)
  case atStart => exact ⟨0, Nat.zero_le _, rfl, recs_empty rfl (Nat.le_refl _), (Below.refl _ _).alloc (Nat.le_refl _) _⟩
  case round =>
    obtain ⟨k, hk, rfl, hln, hb0⟩ := hrel
    obtain ⟨la, lc, rfl⟩ := RecAt.shape hln
    have HL := hide hln
    have BB := hide hb0
    have hfl := whereTo_len (worksB bn) ss k
    clear hln
    by_cases hlt : k < ss.length
    · have hlt1 : (k : Int) < (ss.length : Int) := by omega
      rcases unhide Hr with e0 | ⟨b, off, rfl, hbw, hcl⟩
      · rw [e0] at hlt; simp at hlt
      obtain ⟨d0, d1, d2, d3, d4, d5, d6, d7, d8, d9, d10⟩ := smith_cells hcl hlt
      rw [← hb0.cell (p := ⟨b, off + k * 11, none⟩) hbw] at d0
      rw [← hb0.cell (p := ⟨b, off + k * 11 + 1, none⟩) hbw] at d1
      rw [← hb0.cell (p := ⟨b, off + k * 11 + 2, none⟩) hbw] at d2
      rw [← hb0.cell (p := ⟨b, off + k * 11 + 3, none⟩) hbw] at d3
      rw [← hb0.cell (p := ⟨b, off + k * 11 + 4, none⟩) hbw] at d4
      rw [← hb0.cell (p := ⟨b, off + k * 11 + 5, none⟩) hbw] at d5
      rw [← hb0.cell (p := ⟨b, off + k * 11 + 6, none⟩) hbw] at d6
      rw [← hb0.cell (p := ⟨b, off + k * 11 + 7, none⟩) hbw] at d7
      rw [← hb0.cell (p := ⟨b, off + k * 11 + 8, none⟩) hbw] at d8
      rw [← hb0.cell (p := ⟨b, off + k * 11 + 9, none⟩) hbw] at d9
      rw [← hb0.cell (p := ⟨b, off + k * 11 + 10, none⟩) hbw] at d10
      have HY := hide (fun hh => whereTo_yes (p := (worksB bn)) (xs := ss) (k := k) hh)
      have HN := hide (fun hh => whereTo_no (p := (worksB bn)) (xs := ss) (k := k) hh)
      clear hcl hb0
      generalize recAt ss k = s at *
      obtain ⟨st, be, rk, my, gu, lo, hi, hd, ca, ut, wk⟩ := s
      simp only at d0 d1 d2 d3 d4 d5 d6 d7 d8 d9 d10
      have hbr : b < wr.heap.size := Nat.lt_of_lt_of_le hbw (unhide BB).size
      go_wp2_with fail
      clear d0 d1 d2 d3 d4 d5 d6 d7 d8 d9 d10
      obtain ⟨q, hq⟩ : ∃ q, (worksB bn) (st, be, rk, my, gu, lo, hi, hd, ca, ut, wk) = q := ⟨_, rfl⟩
      have Hq := hide hq
      clear hq
      have hba : Below wr.heap.size wr (wr.alloc (.cells #[.int .i64 st, .int .i64 be, .int .i64 rk, .int .i64 my, .int .i64 gu, .int .i64 lo, .int .i64 hi, .int .i64 hd, .int .i64 ca, .int .i64 ut, .int .i64 wk] 67)) := (Below.refl _ _).alloc (Nat.le_refl _) _
      replace BB := hide ((unhide BB).trans (hba.mono (unhide BB).size))
      replace HL := hide (RecAt.later (unhide HL) hba)
      clear hba
      refine (whoWorksAt1_any st be rk my gu lo hi hd ca ut wk bn R _ (((unhide BB).cell (p := ⟨R, 0, none⟩) hR).trans (unhide HC)) (Nat.lt_of_lt_of_le hR (unhide BB).size)).mono ?_
      rw [unhide Hq]
      rintro e w1 ⟨rfl, hb⟩
      replace BB := hide ((unhide BB).trans (hb.mono (unhide BB).size))
      replace HL := hide (RecAt.later (unhide HL) hb)
      clear hb
      cases q
      · go_wp2_with fail
        go_roundw
        case rel => exact ⟨k + 1, by omega, by go_num, by rw [unhide HN (unhide Hq)]; exact unhide HL, unhide BB⟩
        case measure => simp [intOf]; omega
      · have hsx := (unhide BB).size
        go_wp2_with (at_builtin; refine wpList_append_recs tyN rfl (.tmp 19) (.tmp 21) 126 Tryz.underlying126 rfl w.heap.size _ _ (whereTo (worksB bn) ss k) [(k : Int)] rfl rfl (RecAt.later (unhide HL) ((Below.refl _ _).alloc (Nat.le_refl _) _)) (recs_one (k : Int) rfl (Nat.le_refl _) (by omega)) (by simp; omega) (by simp; omega) ?_; intro u9 w9 hp9 hg9 hat9; have HP9 := hide hp9; have HG9 := hide hg9; clear hp9 hg9 hat9)
        have hgo : ∀ i, (Value.slice la (whereTo (worksB bn) ss k).length lc).ownBlock = some i → w.heap.size ≤ i := fun i e => (RecAt.lt (unhide HL) e).1
        have hb9 : Below w.heap.size w1 w9 := ((Below.refl _ _).alloc hsx _).trans ((Below.refl _ _).grown (unhide HG9) (by simp; omega) hgo)
        have hb8 := (unhide BB).trans hb9
        go_wp2_with fail
        go_roundw
        case rel => exact ⟨k + 1, by omega, by go_num, by rw [unhide HY (unhide Hq)]; exact unhide HP9, hb8⟩
        case measure => simp [intOf]; omega
    · obtain rfl : k = ss.length := by omega
      go_wp2_with fail
      go_ret
      exact ⟨_, rfl, unhide HL, unhide BB⟩
set_option maxHeartbeats 4000000 in
theorem whereOpen_any {w : World} {v : Value} {ss : List DeskV} (h : IsDesks w v ss) (hl : ss.length ≤ 1000) : Calls Tryz.prog 131 #[v, .func (Fn.func 93) #[] #[]] w fun e w' => ∃ v', e = .returned v' ∧ NumsAt w.heap.size w' v' (whereTo openD1 ss ss.length) ∧ Below w.heap.size w w' := by
  obtain ⟨a, cap, rfl, hc, hm, hr⟩ := h
  have Hr := hide hr
  clear hr
  go_enter Tryz.func131, Tryz.ntmps131
  go_wp2_with fail
  go_loopw [5, 11] (fun l i wr => ∃ k : Nat, k ≤ ss.length ∧ i = .int .i64 k ∧ NumsAt w.heap.size wr l (whereTo openD1 ss k) ∧ Below w.heap.size w wr) (fun _ i _ => ss.length - (intOf i).toNat)
  case atStart => exact ⟨0, Nat.zero_le _, rfl, recs_empty rfl (Nat.le_refl _), (Below.refl _ _).alloc (Nat.le_refl _) _⟩
  case round =>
    obtain ⟨k, hk, rfl, hln, hb0⟩ := hrel
    obtain ⟨la, lc, rfl⟩ := RecAt.shape hln
    have HL := hide hln
    have BB := hide hb0
    have hfl := whereTo_len openD1 ss k
    clear hln
    by_cases hlt : k < ss.length
    · have hlt1 : (k : Int) < (ss.length : Int) := by omega
      rcases unhide Hr with e0 | ⟨b, off, rfl, hbw, hcl⟩
      · rw [e0] at hlt; simp at hlt
      obtain ⟨d0, d1, d2⟩ := desk_cells hcl hlt
      rw [← hb0.cell (p := ⟨b, off + k * 3, none⟩) hbw] at d0
      rw [← hb0.cell (p := ⟨b, off + k * 3 + 1, none⟩) hbw] at d1
      rw [← hb0.cell (p := ⟨b, off + k * 3 + 2, none⟩) hbw] at d2
      have HY := hide (fun hh => whereTo_yes (p := openD1) (xs := ss) (k := k) hh)
      have HN := hide (fun hh => whereTo_no (p := openD1) (xs := ss) (k := k) hh)
      clear hcl hb0
      generalize recAt ss k = s at *
      obtain ⟨op, who, mk⟩ := s
      simp only at d0 d1 d2
      have hbr : b < wr.heap.size := Nat.lt_of_lt_of_le hbw (unhide BB).size
      go_wp2_with fail
      clear d0 d1 d2
      obtain ⟨q, hq⟩ : ∃ q, openD1 (op, who, mk) = q := ⟨_, rfl⟩
      have Hq := hide hq
      clear hq
      have hba : Below wr.heap.size wr (wr.alloc (.cells #[.bool op, .int .i64 who, .int .i64 mk] 70)) := (Below.refl _ _).alloc (Nat.le_refl _) _
      replace BB := hide ((unhide BB).trans (hba.mono (unhide BB).size))
      replace HL := hide (RecAt.later (unhide HL) hba)
      clear hba
      refine (Calls.bool_of (isOpen_any op who mk _) (unhide Hq)).mono ?_
      rintro e w1 ⟨rfl, hb⟩
      replace BB := hide ((unhide BB).trans (hb.mono (unhide BB).size))
      replace HL := hide (RecAt.later (unhide HL) hb)
      clear hb
      cases q
      · go_wp2_with fail
        go_roundw
        case rel => exact ⟨k + 1, by omega, by go_num, by rw [unhide HN (unhide Hq)]; exact unhide HL, unhide BB⟩
        case measure => simp [intOf]; omega
      · have hsx := (unhide BB).size
        go_wp2_with (at_builtin; refine wpList_append_recs tyN rfl (.tmp 19) (.tmp 21) 126 Tryz.underlying126 rfl w.heap.size _ _ (whereTo openD1 ss k) [(k : Int)] rfl rfl (RecAt.later (unhide HL) ((Below.refl _ _).alloc (Nat.le_refl _) _)) (recs_one (k : Int) rfl (Nat.le_refl _) (by omega)) (by simp; omega) (by simp; omega) ?_; intro u9 w9 hp9 hg9 hat9; have HP9 := hide hp9; have HG9 := hide hg9; clear hp9 hg9 hat9)
        have hgo : ∀ i, (Value.slice la (whereTo openD1 ss k).length lc).ownBlock = some i → w.heap.size ≤ i := fun i e => (RecAt.lt (unhide HL) e).1
        have hb9 : Below w.heap.size w1 w9 := ((Below.refl _ _).alloc hsx _).trans ((Below.refl _ _).grown (unhide HG9) (by simp; omega) hgo)
        have hb8 := (unhide BB).trans hb9
        go_wp2_with fail
        go_roundw
        case rel => exact ⟨k + 1, by omega, by go_num, by rw [unhide HY (unhide Hq)]; exact unhide HP9, hb8⟩
        case measure => simp [intOf]; omega
    · obtain rfl : k = ss.length := by omega
      go_wp2_with fail
      go_ret
      exact ⟨_, rfl, unhide HL, unhide BB⟩

end Go.Proofs.YtffcgajndmhpkaaGreat

