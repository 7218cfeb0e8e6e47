/- What the proof rests on, part 6: lists and numbers, how they lie in memory, and contracts of the calls. No condition but those that a theorem names. -/
import Derived.Test.YtifolooecfebfaaGreatXe01
import Derived.Deep.QuietTactic
import Derived.BigQuiet
import Derived.Laws.OwnMore
import Derived.Maps.AppendAt
import Derived.RangeFuncNested
import Derived.RangeFuncBound
import Derived.RangeFuncCalls
import Derived.RangeFuncLeaves
import Derived.RangeFuncBox
import Derived.Shelf.Abstract
import Derived.Shelf.RegionOpen
import Derived.WalkKit
import Derived.OwnWalkIn
import Derived.TacticsInMore
import Derived.LoopNIn
import Derived.LoopIn
import Derived.ChangeKeysEq
import Derived.Laws.StructEq
import Derived.WalkMore
import Derived.Below
import Derived.Lib.SmallJoins
import Derived.Deep.SlicePairs
import GoSem.Claim
import GoSem.ClaimJoined
import GoSem.ClaimMapViews
import Derived.JoinedTies
import Derived.KernelRfl
import Derived.RowKit
import Derived.ProofKit
import Derived.OpenShut
import Derived.Outline
import Derived.Lib.QuietBelow
import Derived.OwnWalk
/- Lists of records (Smith): what they read as, and contracts of the laws' own helpers over them: how many, copies in memory of their own, that two that read alike are alike. Conditions: the slices can be read; what is copied is no longer than 2^20. -/
namespace Go.Proofs.YtifolooecfebfaaGreat
open Go.ChangeShapes Go.WideShapes Go.ChangeAt Go.RowKit Go.Sort
set_option linter.unusedVariables false

abbrev SmithV := Int × Int × Int × Int × Int × Int × Int × Int × Int × Int × Int
def encSmith (p : SmithV) : List Value := [.int .i64 p.1, .int .i64 p.2.1, .int .i64 p.2.2.1, .int .i64 p.2.2.2.1, .int .i64 p.2.2.2.2.1, .int .i64 p.2.2.2.2.2.1, .int .i64 p.2.2.2.2.2.2.1, .int .i64 p.2.2.2.2.2.2.2.1, .int .i64 p.2.2.2.2.2.2.2.2.1, .int .i64 p.2.2.2.2.2.2.2.2.2.1, .int .i64 p.2.2.2.2.2.2.2.2.2.2]
theorem encSmith_len (p : SmithV) : (encSmith p).length = 11 := rfl
abbrev IsSmiths (w : World) (v : Value) (ps : List SmithV) : Prop := IsRec 11 encSmith w v ps
abbrev SmithsAt (n₀ : Nat) (w : World) (v : Value) (ps : List SmithV) : Prop := RecAt 42 11 encSmith n₀ w v ps
theorem infoSmith : (Tryz.prog.info? 42).map (fun i => (i.zero, i.size, i.bytes)) = some (some (.agg #[.int .i64 0, .int .i64 0, .int .i64 0, .int .i64 0, .int .i64 0, .int .i64 0, .int .i64 0, .int .i64 0, .int .i64 0, .int .i64 0, .int .i64 0]), 11, 88) := by kernel_rfl
theorem SmithsAt.list {n₀ : Nat} {w : World} {v : Value} {ps : List SmithV} (h : SmithsAt n₀ w v ps) : IsSmiths w v ps := RecAt.recs encSmith_len (by omega) h
theorem smith_cells {w : World} {b off : Nat} {ps : List SmithV} (h : ∀ j, j < ps.length → ∀ i u, (encSmith (recAt ps j))[i]? = some u → w.cell? ⟨b, off + j * 11 + i, none⟩ = some u) {j : Nat} (hj : j < ps.length) :
    w.cell? ⟨b, off + j * 11, none⟩ = some (.int .i64 (recAt ps j).1) ∧ w.cell? ⟨b, off + j * 11 + 1, none⟩ = some (.int .i64 (recAt ps j).2.1) ∧ w.cell? ⟨b, off + j * 11 + 2, none⟩ = some (.int .i64 (recAt ps j).2.2.1) ∧ w.cell? ⟨b, off + j * 11 + 3, none⟩ = some (.int .i64 (recAt ps j).2.2.2.1) ∧ w.cell? ⟨b, off + j * 11 + 4, none⟩ = some (.int .i64 (recAt ps j).2.2.2.2.1) ∧ w.cell? ⟨b, off + j * 11 + 5, none⟩ = some (.int .i64 (recAt ps j).2.2.2.2.2.1) ∧ w.cell? ⟨b, off + j * 11 + 6, none⟩ = some (.int .i64 (recAt ps j).2.2.2.2.2.2.1) ∧ w.cell? ⟨b, off + j * 11 + 7, none⟩ = some (.int .i64 (recAt ps j).2.2.2.2.2.2.2.1) ∧ w.cell? ⟨b, off + j * 11 + 8, none⟩ = some (.int .i64 (recAt ps j).2.2.2.2.2.2.2.2.1) ∧ w.cell? ⟨b, off + j * 11 + 9, none⟩ = some (.int .i64 (recAt ps j).2.2.2.2.2.2.2.2.2.1) ∧ w.cell? ⟨b, off + j * 11 + 10, none⟩ = some (.int .i64 (recAt ps j).2.2.2.2.2.2.2.2.2.2) :=
  ⟨h j hj 0 _ rfl, h j hj 1 _ rfl, h j hj 2 _ rfl, h j hj 3 _ rfl, h j hj 4 _ rfl, h j hj 5 _ rfl, h j hj 6 _ rfl, h j hj 7 _ rfl, h j hj 8 _ rfl, h j hj 9 _ rfl, h j hj 10 _ rfl⟩

theorem szSmithS_any (a : Option Addr) (n cap : Nat) (left : Int) (hn : n ≤ 9223372036854775807) (h0 : 0 ≤ left) (h1 : left ≤ 1048576) (w : World) :
    Calls Tryz.prog 63 #[.slice a n cap, .int .i64 left] w fun e w' => e = .returned (.int .i64 (szV n left)) ∧ w' = w := by
  by_cases h : left - n < 0
  all_goals
    go_enter Tryz.func63, Tryz.ntmps63
    go_wp2
    go_ret
    exact ⟨ret_int (by first | exact (szV_f (by omega)).symm | exact (szV_t (by omega)).symm), rfl⟩

set_option maxHeartbeats 2000000 in
theorem eqSmith_yes (x0 : Int) (x1 : Int) (x2 : Int) (x3 : Int) (x4 : Int) (x5 : Int) (x6 : Int) (x7 : Int) (x8 : Int) (x9 : Int) (x10 : Int) (w : World) :
    Calls Tryz.prog 134 #[.agg #[.int .i64 x0, .int .i64 x1, .int .i64 x2, .int .i64 x3, .int .i64 x4, .int .i64 x5, .int .i64 x6, .int .i64 x7, .int .i64 x8, .int .i64 x9, .int .i64 x10], .agg #[.int .i64 x0, .int .i64 x1, .int .i64 x2, .int .i64 x3, .int .i64 x4, .int .i64 x5, .int .i64 x6, .int .i64 x7, .int .i64 x8, .int .i64 x9, .int .i64 x10]] w fun e w' => e = .returned (.bool true) ∧ Below w.heap.size w w' := by
  go_enter Tryz.func134, Tryz.ntmps134
  go_wp2_with fail
  go_ret
  exact ⟨rfl, ((Below.refl _ _).alloc (Nat.le_refl _) _).alloc (by simp) _⟩

set_option maxHeartbeats 4000000 in
theorem eqSmithS_yes {w : World} {v u : Value} {ps : List SmithV} (hv : IsSmiths w v ps) (hu : IsSmiths w u ps) :
    Calls Tryz.prog 74 #[v, u] w fun e w' => e = .returned (.bool true) ∧ Below w.heap.size w w' := by
  obtain ⟨a, cap, rfl, hc, hm, hr⟩ := hv
  obtain ⟨a', cap', rfl, hc', hm', hr'⟩ := hu
  have Hr := hide hr
  have Hr' := hide hr'
  clear hr hr'
  go_enter Tryz.func74, Tryz.ntmps74
  go_wp2_with fail
  go_loopw [5] (fun i wr => ∃ k : Nat, k ≤ ps.length ∧ i = .int .i64 k ∧ Below w.heap.size w wr) (fun i _ => ps.length - (intOf i).toNat)
  case atStart => exact ⟨0, Nat.zero_le _, rfl, Below.refl _ _⟩
  case round =>
    obtain ⟨k, hk, rfl, hb⟩ := hrel
    have Hb := hide hb
    by_cases hlt : k < ps.length
    · rcases unhide Hr with h0 | ⟨b, off, rfl, hbw, hcl⟩
      · rw [h0] at hlt; simp at hlt
      rcases unhide Hr' with h0 | ⟨b', off', rfl, hbw', hcl'⟩
      · rw [h0] at hlt; simp at hlt
      obtain ⟨c0, c1, c2, c3, c4, c5, c6, c7, c8, c9, c10⟩ := smith_cells hcl hlt
      obtain ⟨d0, d1, d2, d3, d4, d5, d6, d7, d8, d9, d10⟩ := smith_cells hcl' hlt
      generalize recAt ps k = p at *
      obtain ⟨x0, x1, x2, x3, x4, x5, x6, x7, x8, x9, x10⟩ := p
      simp only at c0 c1 c2 c3 c4 c5 c6 c7 c8 c9 c10 d0 d1 d2 d3 d4 d5 d6 d7 d8 d9 d10
      have k0 := cell_regrown ((hb.cell (p := ⟨b, off + k * 11, none⟩) hbw).trans c0)
      have m0 := cell_regrown ((hb.cell (p := ⟨b', off' + k * 11, none⟩) hbw').trans d0)
      have k1 := cell_regrown ((hb.cell (p := ⟨b, off + k * 11 + 1, none⟩) hbw).trans c1)
      have m1 := cell_regrown ((hb.cell (p := ⟨b', off' + k * 11 + 1, none⟩) hbw').trans d1)
      have k2 := cell_regrown ((hb.cell (p := ⟨b, off + k * 11 + 2, none⟩) hbw).trans c2)
      have m2 := cell_regrown ((hb.cell (p := ⟨b', off' + k * 11 + 2, none⟩) hbw').trans d2)
      have k3 := cell_regrown ((hb.cell (p := ⟨b, off + k * 11 + 3, none⟩) hbw).trans c3)
      have m3 := cell_regrown ((hb.cell (p := ⟨b', off' + k * 11 + 3, none⟩) hbw').trans d3)
      have k4 := cell_regrown ((hb.cell (p := ⟨b, off + k * 11 + 4, none⟩) hbw).trans c4)
      have m4 := cell_regrown ((hb.cell (p := ⟨b', off' + k * 11 + 4, none⟩) hbw').trans d4)
      have k5 := cell_regrown ((hb.cell (p := ⟨b, off + k * 11 + 5, none⟩) hbw).trans c5)
      have m5 := cell_regrown ((hb.cell (p := ⟨b', off' + k * 11 + 5, none⟩) hbw').trans d5)
      have k6 := cell_regrown ((hb.cell (p := ⟨b, off + k * 11 + 6, none⟩) hbw).trans c6)
      have m6 := cell_regrown ((hb.cell (p := ⟨b', off' + k * 11 + 6, none⟩) hbw').trans d6)
      have k7 := cell_regrown ((hb.cell (p := ⟨b, off + k * 11 + 7, none⟩) hbw).trans c7)
      have m7 := cell_regrown ((hb.cell (p := ⟨b', off' + k * 11 + 7, none⟩) hbw').trans d7)
      have k8 := cell_regrown ((hb.cell (p := ⟨b, off + k * 11 + 8, none⟩) hbw).trans c8)
      have m8 := cell_regrown ((hb.cell (p := ⟨b', off' + k * 11 + 8, none⟩) hbw').trans d8)
      have k9 := cell_regrown ((hb.cell (p := ⟨b, off + k * 11 + 9, none⟩) hbw).trans c9)
      have m9 := cell_regrown ((hb.cell (p := ⟨b', off' + k * 11 + 9, none⟩) hbw').trans d9)
      have k10 := cell_regrown ((hb.cell (p := ⟨b, off + k * 11 + 10, none⟩) hbw).trans c10)
      have m10 := cell_regrown ((hb.cell (p := ⟨b', off' + k * 11 + 10, none⟩) hbw').trans d10)
      clear hcl hcl' hb c0 c1 c2 c3 c4 c5 c6 c7 c8 c9 c10 d0 d1 d2 d3 d4 d5 d6 d7 d8 d9 d10
      go_wp2_with fail
      refine wp_region_quiet_below (by kernel_rfl) (by kernel_rfl) ?_
      repeat (go_big_quiet_step (exact Calls.regrown_of (eqSmith_yes _ _ _ _ _ _ _ _ _ _ _ _)))
      refine wpQuiet_nil ?_
      intro _ hw'
      obtain ⟨⟨dq, osq⟩, hw''⟩ := hw'
      subst hw''
      go_wp2_with fail
      go_roundw
      case rel => exact ⟨k + 1, by omega, by go_num, (unhide Hb).trans ((below_regrown _ _ _).mono (unhide Hb).size)⟩
      case measure => simp [intOf]; omega
    · go_wp2_with fail
      go_ret
      exact ⟨rfl, hb⟩

set_option maxHeartbeats 1000000 in
theorem toSmith_any (x0 : Int) (x1 : Int) (x2 : Int) (x3 : Int) (x4 : Int) (x5 : Int) (x6 : Int) (x7 : Int) (x8 : Int) (x9 : Int) (x10 : Int) (w : World) :
    Calls Tryz.prog 128 #[.agg #[.int .i64 x0, .int .i64 x1, .int .i64 x2, .int .i64 x3, .int .i64 x4, .int .i64 x5, .int .i64 x6, .int .i64 x7, .int .i64 x8, .int .i64 x9, .int .i64 x10]] w fun e w' => e = .returned (.agg #[.int .i64 x0, .int .i64 x1, .int .i64 x2, .int .i64 x3, .int .i64 x4, .int .i64 x5, .int .i64 x6, .int .i64 x7, .int .i64 x8, .int .i64 x9, .int .i64 x10]) ∧ Below w.heap.size w w' := by
  go_enter Tryz.func128, Tryz.ntmps128
  go_wp2_with fail
  exact bodyPost_ret (v := .agg #[.int .i64 x0, .int .i64 x1, .int .i64 x2, .int .i64 x3, .int .i64 x4, .int .i64 x5, .int .i64 x6, .int .i64 x7, .int .i64 x8, .int .i64 x9, .int .i64 x10]) (by simp [results, Tryz.results128, go_sem]) rfl ⟨rfl, (((Below.refl _ _).alloc (Nat.le_refl _) _).alloc (by simp) _).alloc (by simp; omega) _⟩

set_option maxRecDepth 100000 in
set_option maxHeartbeats 4000000 in
theorem toSmithS_any {w : World} {v : Value} {ps : List SmithV} (h : IsSmiths w v ps) (hs : ps.length ≤ 1048576) :
    Calls Tryz.prog 68 #[v] w fun e w' => ∃ v', e = .returned v' ∧ SmithsAt w.heap.size w' v' ps ∧ Below w.heap.size w w' := by
  obtain ⟨a, cap, rfl, hc, hm, hr⟩ := h
  have Hr := hide hr
  clear hr
  obtain ⟨i0, hi, hz0, hz1, hz2⟩ := info_parts infoSmith
  go_enter Tryz.func68, Tryz.ntmps68
  go_wp2_with (at_make; refine wpList_make_full _ rfl _ _ 28 rfl w.heap.size 42 i0 (.agg #[.int .i64 0, .int .i64 0, .int .i64 0, .int .i64 0, .int .i64 0, .int .i64 0, .int .i64 0, .int .i64 0, .int .i64 0, .int .i64 0, .int .i64 0]) 11 Tryz.underlying28 hi hz0 hz1 _ _ _ _ ps.length rfl rfl rfl rfl (by rw [hz2]; omega) (by unfold maxLen; omega) (Nat.le_refl _) ?_; intro w0 hown hgrow)
  have Hown : Hid (SmithsAt w.heap.size w0 (.slice (some ⟨w.heap.size, 0, none⟩) ps.length ps.length) (fillL ps (0, 0, 0, 0, 0, 0, 0, 0, 0, 0, 0) 0)) := hide (by
    rw [made_flat encSmith_len (by omega) (0, 0, 0, 0, 0, 0, 0, 0, 0, 0, 0) (Value.agg #[.int .i64 0, .int .i64 0, .int .i64 0, .int .i64 0, .int .i64 0, .int .i64 0, .int .i64 0, .int .i64 0, .int .i64 0, .int .i64 0, .int .i64 0]).cells rfl ps.length] at hown
    rw [fillL_zero]
    show w0.ownsRow _ _ _ _ (List.replicate ps.length _).length _
    rw [List.length_replicate]
    exact hown)
  have Hgr := hide hgrow
  clear hown hgrow
  go_loopw [4] (fun i wr => ∃ k : Nat, k ≤ ps.length ∧ i = .int .i64 k ∧ SmithsAt w.heap.size wr (.slice (some ⟨w.heap.size, 0, none⟩) ps.length ps.length) (fillL ps (0, 0, 0, 0, 0, 0, 0, 0, 0, 0, 0) k) ∧ Below w.heap.size w wr) (fun i _ => ps.length - (intOf i).toNat)
  case atStart => exact ⟨0, Nat.zero_le _, rfl, unhide Hown, (Below.refl _ _).grown (unhide Hgr) (Nat.le_refl _) (fun k e => by cases e)⟩
  case round =>
    obtain ⟨k, hk, rfl, hown, hb⟩ := hrel
    have Hb := hide hb
    by_cases hlt : k < ps.length
    · rcases unhide Hr with h0 | ⟨b, off, rfl, hbw, hcl⟩
      · rw [h0] at hlt; simp at hlt
      obtain ⟨c0, c1, c2, c3, c4, c5, c6, c7, c8, c9, c10⟩ := smith_cells hcl hlt
      rw [← hb.cell (p := ⟨b, off + k * 11, none⟩) hbw] at c0
      rw [← hb.cell (p := ⟨b, off + k * 11 + 1, none⟩) hbw] at c1
      rw [← hb.cell (p := ⟨b, off + k * 11 + 2, none⟩) hbw] at c2
      rw [← hb.cell (p := ⟨b, off + k * 11 + 3, none⟩) hbw] at c3
      rw [← hb.cell (p := ⟨b, off + k * 11 + 4, none⟩) hbw] at c4
      rw [← hb.cell (p := ⟨b, off + k * 11 + 5, none⟩) hbw] at c5
      rw [← hb.cell (p := ⟨b, off + k * 11 + 6, none⟩) hbw] at c6
      rw [← hb.cell (p := ⟨b, off + k * 11 + 7, none⟩) hbw] at c7
      rw [← hb.cell (p := ⟨b, off + k * 11 + 8, none⟩) hbw] at c8
      rw [← hb.cell (p := ⟨b, off + k * 11 + 9, none⟩) hbw] at c9
      rw [← hb.cell (p := ⟨b, off + k * 11 + 10, none⟩) hbw] at c10
      have Ho := hide hown
      have HS := hide (fillL_set (z := ((0, 0, 0, 0, 0, 0, 0, 0, 0, 0, 0) : SmithV)) hlt)
      generalize hp : recAt ps k = p at *
      obtain ⟨x0, x1, x2, x3, x4, x5, x6, x7, x8, x9, x10⟩ := p
      simp only at c0 c1 c2 c3 c4 c5 c6 c7 c8 c9 c10
      clear hcl hb hown hp
      go_wp2_with fail
      refine (toSmith_any _ _ _ _ _ _ _ _ _ _ _ _).mono ?_
      rintro e w1 ⟨rfl, hb1⟩
      have ho1 := RecAt.later (unhide Ho) hb1
      have hfl := fillL_len (z := ((0, 0, 0, 0, 0, 0, 0, 0, 0, 0, 0) : SmithV)) hk
      obtain ⟨g, hg, _, _, hcells, hfz⟩ := RecAt.view encSmith_len (by omega) ho1 hfl.symm (by omega)
      cases hg
      have hq := fun i u hu => hcells k (by omega) i u hu
      generalize recAt (fillL ps (0, 0, 0, 0, 0, 0, 0, 0, 0, 0, 0) k) k = old at hq
      have o0 := hq 0 _ rfl
      have f0 := hfz (k * 11)
      have o1 := hq 1 _ rfl
      have f1 := hfz (k * 11 + 1)
      have o2 := hq 2 _ rfl
      have f2 := hfz (k * 11 + 2)
      have o3 := hq 3 _ rfl
      have f3 := hfz (k * 11 + 3)
      have o4 := hq 4 _ rfl
      have f4 := hfz (k * 11 + 4)
      have o5 := hq 5 _ rfl
      have f5 := hfz (k * 11 + 5)
      have o6 := hq 6 _ rfl
      have f6 := hfz (k * 11 + 6)
      have o7 := hq 7 _ rfl
      have f7 := hfz (k * 11 + 7)
      have o8 := hq 8 _ rfl
      have f8 := hfz (k * 11 + 8)
      have o9 := hq 9 _ rfl
      have f9 := hfz (k * 11 + 9)
      have o10 := hq 10 _ rfl
      have f10 := hfz (k * 11 + 10)
      simp only [Nat.add_zero] at o0
      have Hp2 := hide (RecAt.put encSmith_len (by omega) ho1 hfl.symm (j := k) (by omega) (x0, x1, x2, x3, x4, x5, x6, x7, x8, x9, x10))
      have Hb1 := hide hb1
      have hsz := hb1.size
      have hsz0 := (unhide Hb).size
      clear ho1 hb1 hcells hq hfz hfl
      go_wp2_with fail
      go_roundw
      case rel => exact ⟨k + 1, by omega, by go_num, by have h9 := (unhide Hp2).1; rw [unhide HS] at h9; exact h9, ((unhide Hb).trans ((unhide Hb1).mono hsz0)).trans (below_grown (unhide Hp2).2 (Nat.le_refl _) (by omega))⟩
      case measure => simp [intOf]; omega
    · obtain rfl : k = ps.length := by omega
      rw [fillL_all] at hown
      go_wp2_with fail
      go_ret
      exact ⟨_, rfl, hown, hb⟩
end Go.Proofs.YtifolooecfebfaaGreat

/- A block of cells that a variable lies in: what it holds, that it stays, and what it holds when one cell is written. No condition but those that a theorem names. -/
namespace Go.Proofs.YtifolooecfebfaaGreat
open Go.ChangeShapes Go.WideShapes Go.ChangeAt Go.RowKit Go.Sort
set_option linter.unusedVariables false

abbrev I11 (a b c d e f g h i j k : Int) : Array Value := #[.int .i64 a, .int .i64 b, .int .i64 c, .int .i64 d, .int .i64 e, .int .i64 f, .int .i64 g, .int .i64 h, .int .i64 i, .int .i64 j, .int .i64 k]
def Blk (w : World) (R : Nat) (t : TypeId) (cs : Array Value) : Prop := w.heap[R]? = some (.cells cs t (0, 0))
section
variable {w w' : World} {R B : Nat} {t : TypeId} {cs : Array Value}
theorem Blk.lt (h : Blk w R t cs) : R < w.heap.size := (Array.getElem?_eq_some_iff.1 h).1
theorem Blk.cell (h : Blk w R t cs) {i : Nat} {v : Value} (hi : cs[i]? = some v) : w.cell? ⟨R, i, none⟩ = some v := by simp [World.cell?, show w.heap[R]? = _ from h, hi]
theorem Blk.free (h : Blk w R t cs) (i : Nat) : w.frozen? ⟨R, i, none⟩ = false := frozen_of_row w R i cs t h
theorem Blk.new (w : World) (t : TypeId) (cs : Array Value) : Blk (w.alloc (.cells cs t)) w.heap.size t cs := by show (w.heap.push _)[w.heap.size]? = _; simp
theorem Blk.same (h : Blk w R t cs) (hs : w'.heap[R]? = w.heap[R]?) : Blk w' R t cs := hs.trans h
theorem Blk.below (h : Blk w R t cs) (hb : Below B w w') (hR : R < B) : Blk w' R t cs := h.same (hb.block R hR)
theorem Blk.alloc (h : Blk w R t cs) (o : Obj) : Blk (w.alloc o) R t cs := h.below ((Below.refl w.heap.size w).alloc (Nat.le_refl _) o) h.lt
theorem Blk.set (h : Blk w R t cs) (i : Nat) (v : Value) : Blk (w.setCell ⟨R, i, none⟩ v) R t (cs.setIfInBounds i v) := heap_setCell_same w R i cs t v h
theorem Blk.other (h : Blk w R t cs) {a : Addr} (ha : R ≠ a.block) (v : Value) : Blk (w.setCell a v) R t cs := h.same (heap_setCell_other w a R v ha)
theorem Blk.drewN (h : Blk w R t cs) (n : Nat) : Blk (w.drewN n) R t cs := h
end
theorem cell_new (w : World) {t : TypeId} {cs : Array Value} {i : Nat} {v : Value} (hi : cs[i]? = some v) : (w.alloc (.cells cs t)).cell? ⟨w.heap.size, i, none⟩ = some v := (Blk.new w t cs).cell hi

theorem Blk.c3 {w : World} {R : Nat} {t : TypeId} {v0 v1 v2 : Value} (h : Blk w R t #[v0, v1, v2]) : w.cell? ⟨R, 0, none⟩ = some v0 ∧ w.cell? ⟨R, 1, none⟩ = some v1 ∧ w.cell? ⟨R, 2, none⟩ = some v2 := ⟨h.cell rfl, h.cell rfl, h.cell rfl⟩
theorem Blk.c6 {w : World} {R : Nat} {t : TypeId} {v0 v1 v2 v3 v4 v5 : Value} (h : Blk w R t #[v0, v1, v2, v3, v4, v5]) : w.cell? ⟨R, 0, none⟩ = some v0 ∧ w.cell? ⟨R, 1, none⟩ = some v1 ∧ w.cell? ⟨R, 2, none⟩ = some v2 ∧ w.cell? ⟨R, 3, none⟩ = some v3 ∧ w.cell? ⟨R, 4, none⟩ = some v4 ∧ w.cell? ⟨R, 5, none⟩ = some v5 := ⟨h.cell rfl, h.cell rfl, h.cell rfl, h.cell rfl, h.cell rfl, h.cell rfl⟩
theorem Blk.c11 {w : World} {R : Nat} {t : TypeId} {v0 v1 v2 v3 v4 v5 v6 v7 v8 v9 v10 : Value} (h : Blk w R t #[v0, v1, v2, v3, v4, v5, v6, v7, v8, v9, v10]) : w.cell? ⟨R, 0, none⟩ = some v0 ∧ w.cell? ⟨R, 1, none⟩ = some v1 ∧ w.cell? ⟨R, 2, none⟩ = some v2 ∧ w.cell? ⟨R, 3, none⟩ = some v3 ∧ w.cell? ⟨R, 4, none⟩ = some v4 ∧ w.cell? ⟨R, 5, none⟩ = some v5 ∧ w.cell? ⟨R, 6, none⟩ = some v6 ∧ w.cell? ⟨R, 7, none⟩ = some v7 ∧ w.cell? ⟨R, 8, none⟩ = some v8 ∧ w.cell? ⟨R, 9, none⟩ = some v9 ∧ w.cell? ⟨R, 10, none⟩ = some v10 := ⟨h.cell rfl, h.cell rfl, h.cell rfl, h.cell rfl, h.cell rfl, h.cell rfl, h.cell rfl, h.cell rfl, h.cell rfl, h.cell rfl, h.cell rfl⟩
theorem bl {w w' : World} {R : Nat} {t : TypeId} {cs : Array Value} (h : Hid (Blk w R t cs)) (hb : Below w.heap.size w w') : Hid (Blk w' R t cs) := hide ((unhide h).below hb (unhide h).lt)
theorem bt {w a b : World} (h : Hid (Below w.heap.size w a)) (hb : Below a.heap.size a b) : Hid (Below w.heap.size w b) := hide ((unhide h).trans (hb.mono (unhide h).size))
theorem Blk.f3 {w : World} {R : Nat} {t : TypeId} {cs : Array Value} (h : Blk w R t cs) : w.frozen? ⟨R, 0, none⟩ = false ∧ w.frozen? ⟨R, 1, none⟩ = false ∧ w.frozen? ⟨R, 2, none⟩ = false := ⟨h.free 0, h.free 1, h.free 2⟩
theorem Blk.f6 {w : World} {R : Nat} {t : TypeId} {cs : Array Value} (h : Blk w R t cs) : w.frozen? ⟨R, 0, none⟩ = false ∧ w.frozen? ⟨R, 1, none⟩ = false ∧ w.frozen? ⟨R, 2, none⟩ = false ∧ w.frozen? ⟨R, 3, none⟩ = false ∧ w.frozen? ⟨R, 4, none⟩ = false ∧ w.frozen? ⟨R, 5, none⟩ = false := ⟨h.free 0, h.free 1, h.free 2, h.free 3, h.free 4, h.free 5⟩
end Go.Proofs.YtifolooecfebfaaGreat

/- Contracts of chapter 2's small functions and of their models: whether a number is a set, and whether a bench is in it. No condition but those that a theorem names. -/
namespace Go.Proofs.YtifolooecfebfaaGreat
open Go.ChangeShapes Go.WideShapes Go.ChangeAt Go.RowKit
set_option linter.unusedVariables false

theorem implSetOk_any (s : Int) (w : World) : Calls Tryz.prog 152 #[.int .i64 s] w fun e w' => e = .returned (.bool (inB s 0 255)) ∧ w' = w := by
  by_cases h1 : 0 ≤ s
  · by_cases h2 : s ≤ 255
    all_goals
      go_enter Tryz.func152, Tryz.ntmps152
      go_wp2
      go_ret
      exact ⟨ret_bool (by first | exact (inB_t h1 h2).symm | exact (inB_f (by omega)).symm), rfl⟩
  · go_enter Tryz.func152, Tryz.ntmps152
    go_wp2
    go_ret
    exact ⟨ret_bool (inB_f (by omega)).symm, rfl⟩

theorem isBench_any (i : Int) (w : World) : Calls Tryz.prog 153 #[.int .i64 i] w fun e w' => e = .returned (.bool (inB i 0 7)) ∧ w' = w := by
  by_cases h1 : 0 ≤ i
  · by_cases h2 : i < 8
    all_goals
      go_enter Tryz.func153, Tryz.ntmps153
      go_wp2
      go_ret
      exact ⟨ret_bool (by first | exact (inB_t h1 (by omega)).symm | exact (inB_f (by omega)).symm), rfl⟩
  · go_enter Tryz.func153, Tryz.ntmps153
    go_wp2
    go_ret
    exact ⟨ret_bool (inB_f (by omega)).symm, rfl⟩

/-- Whether the bit i of s is set. -/
def bitB (s i : Int) : Bool := decide (s / 2 ^ i.toNat % 2 = 1)
/-- Whether the bench i is in the set s. -/
def memB (s i : Int) : Bool := inB s 0 255 && inB i 0 7 && bitB s i

theorem i64_and1 (n : Int) : bits .and .i64 n 1 = n % 2 := by
  have h1 : (BitVec.ofInt 64 1).toNat = 2 ^ 1 - 1 := by decide
  have key : (BitVec.ofInt 64 n &&& BitVec.ofInt 64 1).toNat = (n % ((2 ^ 64 : Nat) : Int)).toNat % 2 ^ 1 := by
    rw [BitVec.toNat_and, BitVec.toNat_ofInt, h1, Nat.and_two_pow_sub_one_eq_mod]
  show IntKind.i64.wrap ((BitVec.ofInt 64 n &&& BitVec.ofInt 64 1).toNat : Nat) = n % 2
  rw [key, IntKind.wrap_i64]
  omega
theorem bit_eq (s i : Int) : (bits .and .i64 (s / 2 ^ i.toNat) 1 == 1) = bitB s i := by rw [i64_and1]; unfold bitB; rfl
theorem memB_f {s i : Int} (h : inB s 0 255 = false ∨ inB i 0 7 = false) : memB s i = false := by unfold memB; rcases h with h | h <;> simp [h]
theorem memB_t {s i : Int} (hs : inB s 0 255 = true) (hi : inB i 0 7 = true) : memB s i = bitB s i := by unfold memB; simp [hs, hi]

theorem l2Has_any (s i : Int) (w : World) (hs : 0 ≤ s) (hs2 : s ≤ 255) (hi : 0 ≤ i) (hi2 : i ≤ 7) : Calls Tryz.prog 112 #[.int .i64 s, .int .i64 i] w fun e w' => e = .returned (.bool (bitB s i)) ∧ w' = w := by
  go_enter Tryz.func112, Tryz.ntmps112
  go_wp2
  go_ret
  exact ⟨ret_bool (bit_eq s i), rfl⟩

theorem implInSet_any (s i : Int) (w : World) : Calls Tryz.prog 104 #[.int .i64 s, .int .i64 i] w fun e w' => e = .returned (.bool (memB s i)) ∧ w' = w := by
  by_cases hb : inB s 0 255 = true
  · obtain ⟨hs, hs2⟩ := inB_of hb
    by_cases hc : inB i 0 7 = true
    · obtain ⟨hi, hi2⟩ := inB_of hc
      go_enter Tryz.func104, Tryz.ntmps104
      go_wp2_with (first | (go_at_call 152; refine (implSetOk_any _ _).mono ?_; rintro e w' ⟨rfl, rfl⟩) | (go_at_call 153; refine (isBench_any _ _).mono ?_; rintro e w' ⟨rfl, rfl⟩))
      go_ret
      exact ⟨ret_bool ((bit_eq s i).trans (memB_t hb hc).symm), rfl⟩
    · have hc' : inB i 0 7 = false := by simpa using hc
      go_enter Tryz.func104, Tryz.ntmps104
      go_wp2_with (first | (go_at_call 152; refine (implSetOk_any _ _).mono ?_; rintro e w' ⟨rfl, rfl⟩) | (go_at_call 153; refine (isBench_any _ _).mono ?_; rintro e w' ⟨rfl, rfl⟩))
      go_ret
      exact ⟨ret_bool (memB_f (.inr hc')).symm, rfl⟩
  · have hb' : inB s 0 255 = false := by simpa using hb
    go_enter Tryz.func104, Tryz.ntmps104
    go_wp2_with (first | (go_at_call 152; refine (implSetOk_any _ _).mono ?_; rintro e w' ⟨rfl, rfl⟩) | (go_at_call 153; refine (isBench_any _ _).mono ?_; rintro e w' ⟨rfl, rfl⟩))
    go_ret
    exact ⟨ret_bool (memB_f (.inl hb')).symm, rfl⟩

end Go.Proofs.YtifolooecfebfaaGreat

/- Lists of records (Desk): what they read as, and contracts of the laws' own helpers over them: how many, copies in memory of their own, that two that read alike are alike. Conditions: the slices can be read; what is copied is no longer than 2^20. -/
namespace Go.Proofs.YtifolooecfebfaaGreat
open Go.ChangeShapes Go.WideShapes Go.ChangeAt Go.RowKit Go.Sort
set_option linter.unusedVariables false

abbrev DeskV := Bool × Int × Int
def encDesk (p : DeskV) : List Value := [.bool p.1, .int .i64 p.2.1, .int .i64 p.2.2]
theorem encDesk_len (p : DeskV) : (encDesk p).length = 3 := rfl
abbrev IsDesks (w : World) (v : Value) (ps : List DeskV) : Prop := IsRec 3 encDesk w v ps
abbrev DesksAt (n₀ : Nat) (w : World) (v : Value) (ps : List DeskV) : Prop := RecAt 78 3 encDesk n₀ w v ps
theorem infoDesk : (Tryz.prog.info? 78).map (fun i => (i.zero, i.size, i.bytes)) = some (some (.agg #[.bool false, .int .i64 0, .int .i64 0]), 3, 24) := by kernel_rfl
theorem DesksAt.list {n₀ : Nat} {w : World} {v : Value} {ps : List DeskV} (h : DesksAt n₀ w v ps) : IsDesks w v ps := RecAt.recs encDesk_len (by omega) h
theorem desk_cells {w : World} {b off : Nat} {ps : List DeskV} (h : ∀ j, j < ps.length → ∀ i u, (encDesk (recAt ps j))[i]? = some u → w.cell? ⟨b, off + j * 3 + i, none⟩ = some u) {j : Nat} (hj : j < ps.length) :
    w.cell? ⟨b, off + j * 3, none⟩ = some (.bool (recAt ps j).1) ∧ w.cell? ⟨b, off + j * 3 + 1, none⟩ = some (.int .i64 (recAt ps j).2.1) ∧ w.cell? ⟨b, off + j * 3 + 2, none⟩ = some (.int .i64 (recAt ps j).2.2) :=
  ⟨h j hj 0 _ rfl, h j hj 1 _ rfl, h j hj 2 _ rfl⟩

theorem szDeskS_any (a : Option Addr) (n cap : Nat) (left : Int) (hn : n ≤ 9223372036854775807) (h0 : 0 ≤ left) (h1 : left ≤ 1048576) (w : World) :
    Calls Tryz.prog 64 #[.slice a n cap, .int .i64 left] w fun e w' => e = .returned (.int .i64 (szV n left)) ∧ w' = w := by
  by_cases h : left - n < 0
  all_goals
    go_enter Tryz.func64, Tryz.ntmps64
    go_wp2
    go_ret
    exact ⟨ret_int (by first | exact (szV_f (by omega)).symm | exact (szV_t (by omega)).symm), rfl⟩

set_option maxHeartbeats 2000000 in
theorem eqDesk_yes (x0 : Bool) (x1 : Int) (x2 : Int) (w : World) :
    Calls Tryz.prog 135 #[.agg #[.bool x0, .int .i64 x1, .int .i64 x2], .agg #[.bool x0, .int .i64 x1, .int .i64 x2]] w fun e w' => e = .returned (.bool true) ∧ Below w.heap.size w w' := by
  go_enter Tryz.func135, Tryz.ntmps135
  go_wp2_with fail
  go_ret
  exact ⟨rfl, ((Below.refl _ _).alloc (Nat.le_refl _) _).alloc (by simp) _⟩

set_option maxHeartbeats 4000000 in
theorem eqDeskS_yes {w : World} {v u : Value} {ps : List DeskV} (hv : IsDesks w v ps) (hu : IsDesks w u ps) :
    Calls Tryz.prog 75 #[v, u] w fun e w' => e = .returned (.bool true) ∧ Below w.heap.size w w' := by
  obtain ⟨a, cap, rfl, hc, hm, hr⟩ := hv
  obtain ⟨a', cap', rfl, hc', hm', hr'⟩ := hu
  have Hr := hide hr
  have Hr' := hide hr'
  clear hr hr'
  go_enter Tryz.func75, Tryz.ntmps75
  go_wp2_with fail
  go_loopw [5] (fun i wr => ∃ k : Nat, k ≤ ps.length ∧ i = .int .i64 k ∧ Below w.heap.size w wr) (fun i _ => ps.length - (intOf i).toNat)
  case atStart => exact ⟨0, Nat.zero_le _, rfl, Below.refl _ _⟩
  case round =>
    obtain ⟨k, hk, rfl, hb⟩ := hrel
    have Hb := hide hb
    by_cases hlt : k < ps.length
    · rcases unhide Hr with h0 | ⟨b, off, rfl, hbw, hcl⟩
      · rw [h0] at hlt; simp at hlt
      rcases unhide Hr' with h0 | ⟨b', off', rfl, hbw', hcl'⟩
      · rw [h0] at hlt; simp at hlt
      obtain ⟨c0, c1, c2⟩ := desk_cells hcl hlt
      obtain ⟨d0, d1, d2⟩ := desk_cells hcl' hlt
      generalize recAt ps k = p at *
      obtain ⟨x0, x1, x2⟩ := p
      simp only at c0 c1 c2 d0 d1 d2
      have k0 := cell_regrown ((hb.cell (p := ⟨b, off + k * 3, none⟩) hbw).trans c0)
      have m0 := cell_regrown ((hb.cell (p := ⟨b', off' + k * 3, none⟩) hbw').trans d0)
      have k1 := cell_regrown ((hb.cell (p := ⟨b, off + k * 3 + 1, none⟩) hbw).trans c1)
      have m1 := cell_regrown ((hb.cell (p := ⟨b', off' + k * 3 + 1, none⟩) hbw').trans d1)
      have k2 := cell_regrown ((hb.cell (p := ⟨b, off + k * 3 + 2, none⟩) hbw).trans c2)
      have m2 := cell_regrown ((hb.cell (p := ⟨b', off' + k * 3 + 2, none⟩) hbw').trans d2)
      clear hcl hcl' hb c0 c1 c2 d0 d1 d2
      go_wp2_with fail
      refine wp_region_quiet_below (by kernel_rfl) (by kernel_rfl) ?_
      repeat (go_big_quiet_step (exact Calls.regrown_of (eqDesk_yes _ _ _ _)))
      refine wpQuiet_nil ?_
      intro _ hw'
      obtain ⟨⟨dq, osq⟩, hw''⟩ := hw'
      subst hw''
      go_wp2_with fail
      go_roundw
      case rel => exact ⟨k + 1, by omega, by go_num, (unhide Hb).trans ((below_regrown _ _ _).mono (unhide Hb).size)⟩
      case measure => simp [intOf]; omega
    · go_wp2_with fail
      go_ret
      exact ⟨rfl, hb⟩

set_option maxHeartbeats 1000000 in
theorem toDesk_any (x0 : Bool) (x1 : Int) (x2 : Int) (w : World) :
    Calls Tryz.prog 129 #[.agg #[.bool x0, .int .i64 x1, .int .i64 x2]] w fun e w' => e = .returned (.agg #[.bool x0, .int .i64 x1, .int .i64 x2]) ∧ Below w.heap.size w w' := by
  go_enter Tryz.func129, Tryz.ntmps129
  go_wp2_with fail
  exact bodyPost_ret (v := .agg #[.bool x0, .int .i64 x1, .int .i64 x2]) (by simp [results, Tryz.results129, go_sem]) rfl ⟨rfl, (((Below.refl _ _).alloc (Nat.le_refl _) _).alloc (by simp) _).alloc (by simp; omega) _⟩

set_option maxRecDepth 100000 in
set_option maxHeartbeats 4000000 in
theorem toDeskS_any {w : World} {v : Value} {ps : List DeskV} (h : IsDesks w v ps) (hs : ps.length ≤ 1048576) :
    Calls Tryz.prog 69 #[v] w fun e w' => ∃ v', e = .returned v' ∧ DesksAt w.heap.size w' v' ps ∧ Below w.heap.size w w' := by
  obtain ⟨a, cap, rfl, hc, hm, hr⟩ := h
  have Hr := hide hr
  clear hr
  obtain ⟨i0, hi, hz0, hz1, hz2⟩ := info_parts infoDesk
  go_enter Tryz.func69, Tryz.ntmps69
  go_wp2_with (at_make; refine wpList_make_full _ rfl _ _ 29 rfl w.heap.size 78 i0 (.agg #[.bool false, .int .i64 0, .int .i64 0]) 3 Tryz.underlying29 hi hz0 hz1 _ _ _ _ ps.length rfl rfl rfl rfl (by rw [hz2]; omega) (by unfold maxLen; omega) (Nat.le_refl _) ?_; intro w0 hown hgrow)
  have Hown : Hid (DesksAt w.heap.size w0 (.slice (some ⟨w.heap.size, 0, none⟩) ps.length ps.length) (fillL ps (false, 0, 0) 0)) := hide (by
    rw [made_flat encDesk_len (by omega) (false, 0, 0) (Value.agg #[.bool false, .int .i64 0, .int .i64 0]).cells rfl ps.length] at hown
    rw [fillL_zero]
    show w0.ownsRow _ _ _ _ (List.replicate ps.length _).length _
    rw [List.length_replicate]
    exact hown)
  have Hgr := hide hgrow
  clear hown hgrow
  go_loopw [4] (fun i wr => ∃ k : Nat, k ≤ ps.length ∧ i = .int .i64 k ∧ DesksAt w.heap.size wr (.slice (some ⟨w.heap.size, 0, none⟩) ps.length ps.length) (fillL ps (false, 0, 0) k) ∧ Below w.heap.size w wr) (fun i _ => ps.length - (intOf i).toNat)
  case atStart => exact ⟨0, Nat.zero_le _, rfl, unhide Hown, (Below.refl _ _).grown (unhide Hgr) (Nat.le_refl _) (fun k e => by cases e)⟩
  case round =>
    obtain ⟨k, hk, rfl, hown, hb⟩ := hrel
    have Hb := hide hb
    by_cases hlt : k < ps.length
    · rcases unhide Hr with h0 | ⟨b, off, rfl, hbw, hcl⟩
      · rw [h0] at hlt; simp at hlt
      obtain ⟨c0, c1, c2⟩ := desk_cells hcl hlt
      rw [← hb.cell (p := ⟨b, off + k * 3, none⟩) hbw] at c0
      rw [← hb.cell (p := ⟨b, off + k * 3 + 1, none⟩) hbw] at c1
      rw [← hb.cell (p := ⟨b, off + k * 3 + 2, none⟩) hbw] at c2
      have Ho := hide hown
      have HS := hide (fillL_set (z := ((false, 0, 0) : DeskV)) hlt)
      generalize hp : recAt ps k = p at *
      obtain ⟨x0, x1, x2⟩ := p
      simp only at c0 c1 c2
      clear hcl hb hown hp
      go_wp2_with fail
      refine (toDesk_any _ _ _ _).mono ?_
      rintro e w1 ⟨rfl, hb1⟩
      have ho1 := RecAt.later (unhide Ho) hb1
      have hfl := fillL_len (z := ((false, 0, 0) : DeskV)) hk
      obtain ⟨g, hg, _, _, hcells, hfz⟩ := RecAt.view encDesk_len (by omega) ho1 hfl.symm (by omega)
      cases hg
      have hq := fun i u hu => hcells k (by omega) i u hu
      generalize recAt (fillL ps (false, 0, 0) k) k = old at hq
      have o0 := hq 0 _ rfl
      have f0 := hfz (k * 3)
      have o1 := hq 1 _ rfl
      have f1 := hfz (k * 3 + 1)
      have o2 := hq 2 _ rfl
      have f2 := hfz (k * 3 + 2)
      simp only [Nat.add_zero] at o0
      have Hp2 := hide (RecAt.put encDesk_len (by omega) ho1 hfl.symm (j := k) (by omega) (x0, x1, x2))
      have Hb1 := hide hb1
      have hsz := hb1.size
      have hsz0 := (unhide Hb).size
      clear ho1 hb1 hcells hq hfz hfl
      go_wp2_with fail
      go_roundw
      case rel => exact ⟨k + 1, by omega, by go_num, by have h9 := (unhide Hp2).1; rw [unhide HS] at h9; exact h9, ((unhide Hb).trans ((unhide Hb1).mono hsz0)).trans (below_grown (unhide Hp2).2 (Nat.le_refl _) (by omega))⟩
      case measure => simp [intOf]; omega
    · obtain rfl : k = ps.length := by omega
      rw [fillL_all] at hown
      go_wp2_with fail
      go_ret
      exact ⟨_, rfl, hown, hb⟩

end Go.Proofs.YtifolooecfebfaaGreat

/- Slices of int64 that the call itself made: what they hold, that what is held stays, and contracts of the laws' own helpers over them (alike, rising, among, marked, held). Conditions: those that each theorem names. -/
namespace Go.Proofs.YtifolooecfebfaaGreat
open Go.ChangeShapes Go.WideShapes Go.ChangeAt Go.RowKit
set_option linter.unusedVariables false

/-- The slice v, in a block from n₀ on, holds the numbers zs. -/
def IntsAt (n₀ : Nat) (w : World) (v : Value) (zs : List Int) : Prop := w.ownsRow n₀ 2 1 v zs.length (zs.map (Value.int .i64))

/-- What the walk asks of it: its address and length; the cells, where there are any. -/
theorem IntsAt.view {n₀ : Nat} {w : World} {v : Value} {zs : List Int} (h : IntsAt n₀ w v zs) :
    ∃ (a : Option Addr) (cap : Nat), v = .slice a zs.length cap ∧ zs.length ≤ 9223372036854775807 ∧ (zs = [] ∨ ∃ g, a = some ⟨g, 0, none⟩ ∧ n₀ ≤ g ∧ g < w.heap.size ∧
      (∀ k, k < zs.length → w.cell? ⟨g, k, none⟩ = some (.int .i64 (zs.getD k 0))) ∧ (∀ k, w.frozen? ⟨g, k, none⟩ = false)) := by
  have h' := h
  rcases h.2 with ⟨rfl, hz⟩ | ⟨g, cap, cur, rfl, hb, hg, hnc, hcm, r⟩
  · exact ⟨none, 0, by rw [hz], by omega, .inl (List.eq_nil_of_length_eq_zero hz)⟩
  · refine ⟨_, cap, rfl, by unfold maxLen at hcm; omega, .inr ⟨g, rfl, hb, (Array.getElem?_eq_some_iff.1 hg).1, fun k hk => ?_, fun k => World.ownsRow.frozenAt h' k⟩⟩
    rw [World.ownsRow.cellAt h' k (by omega)]
    simp [List.getElem?_eq_getElem hk]

theorem grownBy_trans {a b c : World} {row : Option Nat} (h : a.grownBy b row) (k : b.grownBy c row) : a.grownBy c row :=
  ⟨k.os.trans h.os, k.tape.trans h.tape, k.output.trans h.output, Nat.le_trans h.size k.size, fun i hi hn => (k.block i (Nat.lt_of_lt_of_le hi h.size) hn).trans (h.block i hi hn)⟩
theorem grownBy_refl (a : World) (row : Option Nat) : a.grownBy a row := ⟨rfl, rfl, rfl, Nat.le_refl _, fun _ _ _ => rfl⟩
theorem IntsAt.stored {n₀ : Nat} {w : World} {g n cap : Nat} {zs : List Int} (h : IntsAt n₀ w (.slice (some ⟨g, 0, none⟩) n cap) zs) (hn : zs.length = n) (j : Nat) (u : Int) :
    IntsAt n₀ (w.setCell ⟨g, j, none⟩ (.int .i64 u)) (.slice (some ⟨g, 0, none⟩) n cap) (zs.set j u) ∧ w.grownBy (w.setCell ⟨g, j, none⟩ (.int .i64 u)) (some g) := by
  subst hn
  have := World.ownsRow.stored h j (.int .i64 u)
  refine ⟨?_, this.2⟩
  unfold IntsAt
  rw [List.length_set, List.map_set]
  exact this.1
/-- The numbers from k on, n of them. -/
def marks (k : Int) (n : Nat) : List Int := (List.range n).map fun i : Nat => k + (i : Int)
theorem marks_len (k : Int) (n : Nat) : (marks k n).length = n := by simp [marks]
theorem marks_get (k : Int) (n i : Nat) (h : i < n) : (marks k n).getD i 0 = k + i := by simp [marks, h]
/-- The first j of them are marked. -/
def marked (zs : List Int) (k : Int) (j : Nat) : List Int := marks k j ++ zs.drop j
theorem marked_len {zs : List Int} {k : Int} {j : Nat} (h : j ≤ zs.length) : (marked zs k j).length = zs.length := by simp [marked, marks_len]; omega
theorem marked_succ {zs : List Int} {k : Int} {j : Nat} (h : j < zs.length) : (marked zs k j).set j (k + j) = marked zs k (j + 1) := by
  unfold marked
  rw [List.set_append_right _ _ (by simp [marks_len]), marks_len, Nat.sub_self, List.drop_eq_getElem_cons h, List.set_cons_zero]
  simp [marks, List.range_succ]
theorem marked_all (zs : List Int) (k : Int) : marked zs k zs.length = marks k zs.length := by simp [marked]

set_option maxHeartbeats 1000000 in
theorem markInts_any {n₀ : Nat} {w : World} {v : Value} {zs : List Int} (k : Int) (hv : IntsAt n₀ w v zs) (hk0 : 0 ≤ k) (hk1 : k ≤ 1000000000000000) (hl : zs.length ≤ 1000000000) :
    Calls Tryz.prog 81 #[v, .int .i64 k] w fun e w' => e = .returned (.int .i64 (k + zs.length)) ∧ IntsAt n₀ w' v (marks k zs.length) ∧ w.grownBy w' v.ownBlock := by
  have hv0 := hide hv
  obtain ⟨a, cap, rfl, hlen, hca⟩ := hv.view
  clear hv
  go_enter Tryz.func81, Tryz.ntmps81
  go_wp2_with fail
  go_loopw [5, 1] (fun i q wr => ∃ j : Nat, j ≤ zs.length ∧ i = .int .i64 j ∧ q = .int .i64 (k + j) ∧ IntsAt n₀ wr (.slice a zs.length cap) (marked zs k j) ∧ w.grownBy wr (Value.ownBlock (.slice a zs.length cap))) (fun i _ _ => zs.length - (intOf i).toNat)
  case atStart => exact ⟨0, Nat.zero_le _, rfl, by simp, unhide hv0, grownBy_refl _ _⟩
  case round =>
    obtain ⟨j, hj, rfl, rfl, hin, hgr⟩ := hrel
    by_cases hlt : j < zs.length
    · rcases hca with rfl | ⟨g, rfl, _, _, _, _⟩
      · simp at hlt
      obtain ⟨hs1, hs2⟩ := hin.stored (marked_len hj) j (k + j)
      rw [marked_succ hlt] at hs1
      have H1 := hide hs1
      have H2 := hide (grownBy_trans hgr hs2)
      have hfz := World.ownsRow.frozenAt (show wr.ownsRow n₀ 2 1 (.slice (some ⟨g, 0, none⟩) (marked zs k j).length cap) (marked zs k j).length _ by rw [marked_len hj]; have h9 := hin; unfold IntsAt at h9; rwa [marked_len hj] at h9) j
      have hcl : ∃ c, wr.cell? ⟨g, j, none⟩ = some c := by
        have h9 := hin
        unfold IntsAt at h9
        rw [marked_len hj] at h9
        have := World.ownsRow.cellAt h9 j (by omega)
        rw [List.getElem?_eq_getElem (by simp [marked_len hj]; omega)] at this
        exact ⟨_, this⟩
      obtain ⟨c, hcl⟩ := hcl
      clear hin hgr hs1 hs2
      go_wp2_with fail
      go_roundw
      case rel => exact ⟨j + 1, by omega, by go_num, by go_num, unhide H1, unhide H2⟩
      case measure => simp [intOf]; omega
    · obtain rfl : j = zs.length := by omega
      rw [marked_all] at hin
      go_wp2_with fail
      go_ret
      exact ⟨rfl, hin, hgr⟩

set_option maxHeartbeats 1000000 in
theorem heldInts_yes {n₀ : Nat} {w : World} {v : Value} (k : Int) (n : Nat) (hv : IntsAt n₀ w v (marks k n)) (hk0 : 0 ≤ k) (hk1 : k ≤ 1000000000000000) (hl : n ≤ 1000000000) :
    Calls Tryz.prog 86 #[v, .int .i64 k] w fun e w' => e = .returned (.int .i64 (k + n)) ∧ w' = w := by
  obtain ⟨a, cap, rfl, hlen, hca⟩ := hv.view
  clear hv
  rw [marks_len] at *
  go_enter Tryz.func86, Tryz.ntmps86
  go_wp2_with fail
  go_loop [5, 1] (fun i q => ∃ j : Nat, j ≤ n ∧ i = .int .i64 j ∧ q = .int .i64 (k + j)) (fun i _ => n - (intOf i).toNat)
  case atStart => exact ⟨0, Nat.zero_le _, rfl, by simp⟩
  case round =>
    obtain ⟨j, hj, rfl, rfl⟩ := hrel
    by_cases hlt : j < n
    · rcases hca with hz | ⟨g, rfl, _, _, hc, _⟩
      · have := congrArg List.length hz; rw [marks_len] at this; simp at this; omega
      have h1 := hc j hlt
      rw [marks_get k n j hlt] at h1
      clear hc
      go_wp2_with fail
      go_round
      case rel => exact ⟨j + 1, by omega, by go_num, by go_num⟩
      case measure => simp [intOf]; omega
    · obtain rfl : j = n := by omega
      go_wp2_with fail
      go_ret
      exact ⟨rfl, rfl⟩

end Go.Proofs.YtifolooecfebfaaGreat

/- The members of a set, as a list; the model's Members and FirstOf. No condition. -/
namespace Go.Proofs.YtifolooecfebfaaGreat
open Go.ChangeShapes Go.WideShapes Go.ChangeAt Go.RowKit
set_option linter.unusedVariables false

/-- The benches below k that are in the set s, in their order. -/
def upto (s : Int) : Nat → List Int
  | 0 => []
  | k + 1 => if memB s k = true then upto s k ++ [(k : Int)] else upto s k
def mems (s : Int) : List Int := upto s 8
def firstMV (s : Int) : Int := (mems s).headD (-1)
theorem upto_hit {s : Int} {k : Nat} (h : memB s k = true) : upto s (k + 1) = upto s k ++ [(k : Int)] := by simp [upto, h]
theorem upto_miss {s : Int} {k : Nat} (h : memB s k = false) : upto s (k + 1) = upto s k := by simp [upto, h]
theorem upto_len (s : Int) : ∀ k, (upto s k).length ≤ k
  | 0 => by simp [upto]
  | k + 1 => by
    have := upto_len s k
    cases h : memB s k
    · rw [upto_miss h]; omega
    · rw [upto_hit h]; simp; omega
theorem upto_none {s : Int} (h : inB s 0 255 = false) : ∀ k, upto s k = []
  | 0 => rfl
  | k + 1 => by rw [upto_miss (memB_f (.inl h))]; exact upto_none h k
theorem upto_pre (s : Int) : ∀ k, k ≤ 8 → upto s k <+: mems s := by
  have step : ∀ k, upto s k <+: upto s (k + 1) := fun k => by
    cases h : memB s k
    · rw [upto_miss h]; exact List.prefix_refl _
    · rw [upto_hit h]; exact List.prefix_append _ _
  have go : ∀ d k, upto s k <+: upto s (k + d) := by
    intro d
    induction d with
    | zero => intro k; exact List.prefix_refl _
    | succ d ih => intro k; exact (ih k).trans (step (k + d))
  intro k hk
  have := go (8 - k) k
  rwa [show k + (8 - k) = 8 by omega] at this
end Go.Proofs.YtifolooecfebfaaGreat

/- The program's Members and FirstOf, which range over an iterator. No condition. -/
namespace Go.Proofs.YtifolooecfebfaaGreat
open Go.ChangeShapes Go.WideShapes Go.ChangeAt Go.RowKit Go.Shelf
set_option linter.unusedVariables false
attribute [local go_sem] Oper.semAt_some

/-- The box Bn holds on what it held. -/
def KeepsBox (Bn : Nat) (t : TypeId) (W W' : World) : Prop := ∀ v, Boxed W Bn t v → Boxed W' Bn t v
theorem KeepsBox.trans {Bn : Nat} {t : TypeId} {A B C : World} (h : KeepsBox Bn t A B) (k : KeepsBox Bn t B C) : KeepsBox Bn t A C := fun v hv => k v (h v hv)
theorem KeepsBox.putObj {Bn : Nat} {t : TypeId} {n : Nat} (h : Bn < n) (W : World) (l : Nat) (o o' : Obj) (hl : n ≤ l) (_ : W.heap[l]? = some o) (_ : o.isCells = false) (_ : o.isWalk = false) : KeepsBox Bn t W (W.putObj l o') :=
  fun v hv => hv.kept (grownBy_putObj' W l o') (fun e => by cases e; omega)

set_option maxRecDepth 100000 in
set_option maxHeartbeats 1000000 in
/-- The iterator: each member of the set s, in their order, until a round says no more. -/
theorem members1_in (n : Nat) (hn : 1 ≤ n) (l Bn : Nat) (s : Int) (J Jx : List Int → World → Prop)
    (hY : ∀ pre x W, J pre W → pre.length < 8 → YieldAt Fence.wide (n - 1) Tryz.prog l #[.int .i64 x] W fun e W' =>
      (e = .returned (.bool true) ∧ J (pre ++ [x]) W' ∧ KeepsBox Bn 2 W W') ∨ (e = .returned (.bool false) ∧ Jx (pre ++ [x]) W'))
    (W : World) (hBn : Boxed W Bn 2 (.int .i64 s)) (h0 : J [] W) :
    CallsIn Fence.wide n Tryz.prog 295 #[.func (.yield l) #[] #[], .pointer (some ⟨Bn, 0, none⟩)] W fun e W' => (∃ v, e = .returned v) ∧
      ((∃ ys, ys = mems s ∧ J ys W') ∨ (∃ pre, pre <+: mems s ∧ Jx pre W')) := by
  refine callsIn_of_wp Tryz.func295 rfl trivial ?_ rfl
  simp only [Tryz.ntmps295, List.size_toArray, List.length_cons, List.length_nil, Nat.reduceAdd, Nat.reduceSub, Array.replicate_succ, Array.replicate_zero, List.push_toArray, List.append_toArray, List.nil_append, List.cons_append]
  gi_wp2
  gi_loopw [4] (fun i wr => ∃ k : Nat, k ≤ 8 ∧ i = .int .i64 k ∧ Boxed wr Bn 2 (.int .i64 s) ∧ J (upto s k) wr)
    (fun i wr => 8 - (intOf i).toNat)
  case atStart => exact ⟨0, by omega, rfl, hBn, h0⟩
  case round =>
    obtain ⟨k, hk, rfl, hbx, hJ⟩ := hrel
    have hul := upto_len s k
    have hc := hbx.cell
    have Hb := hide hbx
    clear hbx
    by_cases hlt : (k : Int) < 8
    · cases hm : memB s k
      · gi_wp2_with (refine ⟨trivial, ?_⟩; gi_at_call 104; refine (callsIn_wide.2 (implInSet_any _ _ _)).mono ?_; rintro e w' ⟨rfl, rfl⟩)
        refine ⟨fun _ h => (by cases h), ?_⟩
        gi_wp2
        go_roundw
        case rel => exact ⟨k + 1, by omega, by go_num, unhide Hb, by rw [upto_miss hm]; exact hJ⟩
        case measure => simp [intOf]; omega
      · obtain ⟨fn, tmps, assign, body, hy, hR⟩ := hY (upto s k) k wr hJ (by omega)
        gi_wp2_with (refine ⟨trivial, ?_⟩; gi_at_call 104; refine (callsIn_wide.2 (implInSet_any _ _ _)).mono ?_; rintro e w' ⟨rfl, rfl⟩)
        refine hR.mono ?_
        rintro e W3 (⟨rfl, hJ3, hk3⟩ | ⟨rfl, hJx3⟩)
        · gi_wp2
          go_roundw
          case rel => exact ⟨k + 1, by omega, by go_num, hk3 _ (unhide Hb), by rw [upto_hit hm]; exact hJ3⟩
          case measure => simp [intOf]; omega
        · gi_wp2
          refine bodyPost_ret (results_none rfl _ _ _) rfl ?_
          exact ⟨⟨_, rfl⟩, .inr ⟨upto s k ++ [(k : Int)], by rw [← upto_hit hm]; exact upto_pre s (k + 1) (by omega), hJx3⟩⟩
    · obtain rfl : k = 8 := by omega
      gi_wp2
      go_end0
      exact ⟨⟨_, rfl⟩, .inl hJ⟩

set_option maxHeartbeats 1000000 in
theorem membersOf_in (n : Nat) (s : Int) (w : World) :
    CallsIn Fence.wide n Tryz.prog 291 #[.int .i64 s] w fun e w' => e = .returned (.func (.func 295) #[] #[.pointer (some ⟨w.heap.size, 0, none⟩)]) ∧ w' = w.alloc (.cells #[.int .i64 s] 2) := by
  refine callsIn_of_wp Tryz.func291 rfl trivial ?_ rfl
  simp only [Tryz.ntmps291, List.size_toArray, List.length_cons, List.length_nil, Nat.reduceAdd, Nat.reduceSub, Array.replicate_succ, Array.replicate_zero, List.push_toArray, List.append_toArray, List.nil_append, List.cons_append]
  gi_wp2
  go_ret
  exact ⟨rfl, rfl⟩

theorem members_stops (n : Nat) (hn : 1 ≤ n) (Bn : Nat) (s : Int) (w : World) (hBn : Boxed w Bn 2 (.int .i64 s)) :
    SeqStopsK Fence.wide n Tryz.prog 295 #[.pointer (some ⟨Bn, 0, none⟩)] (fun x : Int => #[Value.int .i64 x]) (KeepsBox Bn 2) (fun ys => ys = mems s) (fun pre => pre <+: mems s) 8 w := fun l J Jx W hW _ _ hY h0 =>
  members1_in n hn l Bn s J Jx hY W ((hW.block Bn hBn.lt).trans hBn) h0

set_option maxRecDepth 100000 in
set_option maxHeartbeats 2000000 in
theorem implFirstOf_in (n : Nat) (hn : 3 ≤ n) (s : Int) (w : World) :
    CallsIn Fence.wide n Tryz.prog 286 #[.int .i64 s] w fun e w' => e = .returned (.int .i64 (firstMV s)) ∧ Below w.heap.size w w' := by
  have h1 : 1 ≤ n := by omega
  refine callsIn_of_wp_marks Tryz.func286 rfl trivial ?_ rfl
  simp only [Tryz.ntmps286, List.size_toArray, List.length_cons, List.length_nil, Nat.reduceAdd, Nat.reduceSub, Array.replicate_succ, Array.replicate_zero, List.push_toArray, List.append_toArray, List.nil_append, List.cons_append]
  gi_wp2_with (refine ⟨trivial, ?_⟩; gi_at_call 291; refine (membersOf_in (n - 1) _ _).mono ?_; rintro e w' ⟨rfl, rfl⟩)
  have bR := Boxed.new w 2 (.int .i64 0)
  have bN := Boxed.new (w.alloc (.cells #[.int .i64 0] 2)) 2 (.int .i64 s)
  simp only [World.size_alloc] at bN
  have hB0 : Below w.heap.size w ((w.alloc (.cells #[.int .i64 0] 2)).alloc (.cells #[.int .i64 s] 2)) := ((Below.refl _ w).alloc (Nat.le_refl _) _).alloc (by simp) _
  refine wpIn_rangeFunc_ownG rfl h1 (gf := 295) (lb := #[.pointer (some ⟨w.heap.size + 1, 0, none⟩)]) rfl trivial (enters_of Tryz.func295 (by kernel_rfl) rfl)
    (members_stops (n - 1) (by omega) (w.heap.size + 1) s _ bN) (fun h k => h.trans k) (KeepsBox.putObj (by simp)) (Below.refl _ _) (fun _ => rfl)
    (fun pre W => (pre = [] ∧ Boxed W w.heap.size 2 (.int .i64 0)) ∧ Below w.heap.size w W)
    (fun c pre W => (c = .ret ∧ ∃ x, pre = [x] ∧ Boxed W w.heap.size 2 (.int .i64 x)) ∧ Below w.heap.size w W)
    (OwnFrom.and (Own.from (fun s A B row hs hg hr => ⟨hs.1, hs.2.kept hg (fun e => by obtain ⟨o, ho, hc⟩ := hr _ e.symm; rw [show A.heap[w.heap.size]? = _ from hs.2] at ho; cases ho; cases hc)⟩) _) (ownFrom_below (Nat.le_refl _) (by simp; omega)))
    (fun c => OwnFrom.and (Own.from (fun s A B row hs hg hr => by obtain ⟨e1, x, e2, hb⟩ := hs; exact ⟨e1, x, e2, hb.kept hg (fun e => by obtain ⟨o, ho, hc⟩ := hr _ e.symm; rw [show A.heap[w.heap.size]? = _ from hb] at ho; cases ho; cases hc)⟩) _) (ownFrom_below (Nat.le_refl _) (by simp; omega)))
    ⟨⟨rfl, bR.alloc _⟩, hB0⟩
    (fun x => { tmps := #[.int .i64 s, undef, .pointer (some ⟨w.heap.size, 0, none⟩), .int .i64 x, .int .i64 s, .func (.func 295) #[] #[.pointer (some ⟨w.heap.size + 1, 0, none⟩)], .int .i64 x, undef], defers := [] }) ?assign ?body ?done ?stop
  case assign =>
    intro l x W K hK
    gi_wp2
    exact hK
  case body =>
    rintro l pre x W ⟨⟨rfl, hb⟩, hB⟩ _
    have hc := hb.cell
    have hf := hb.frozen
    gi_wp2
    exact ⟨(KeepsOthers.setCell _ _ _).from _, ⟨rfl, x, rfl, hb.set _⟩, hB.setCell (p := ⟨w.heap.size, 0, none⟩) (Nat.le_refl _) _⟩
  case done =>
    rintro D ys W hD hys ⟨⟨hp, hb⟩, hB⟩ hK
    have hc := hb.cell
    have hf := hb.frozen
    gi_wp2
    have hK' := (KeepsOthers.setCell W ⟨w.heap.size, 0, none⟩ (.int .i64 (-1))).same D _ hK rfl
    refine ⟨by simp, .inl ⟨_, _, rfl, run_takeDeferred hK', ?_⟩⟩
    have hc5 := cell_kept (hb.set (.int .i64 (-1))).cell (grownBy_putObj' _ D (.deferred none)) (fun r e => by cases e; exact ⟨_, hK', rfl⟩)
    have hm : mems s = [] := hys.symm.trans hp
    refine ⟨.int .i64 (-1), ?_, ret_int (by unfold firstMV; rw [hm]; rfl), (hB.setCell (p := ⟨w.heap.size, 0, none⟩) (Nat.le_refl _) _).trans (belowK_b (w := w) (Nat.le_refl _) _ D _ _ (by simp at hD; omega) hK' rfl rfl)⟩
    simp [results, Tryz.f286, go_sem, hc5]
  case stop =>
    rintro D c pre W hD hpre ⟨⟨rfl, x, rfl, hb⟩, hB⟩ hK
    gi_wp2
    refine ⟨by simp, .inl ⟨_, _, rfl, run_takeDeferred hK, ?_⟩⟩
    have hc5 := cell_kept hb.cell (grownBy_putObj' _ D (.deferred none)) (fun r e => by cases e; exact ⟨_, hK, rfl⟩)
    have hx : firstMV s = x := by obtain ⟨r, hr⟩ := hpre; unfold firstMV; rw [← hr]; rfl
    refine ⟨.int .i64 x, ?_, ret_int hx.symm, hB.trans (belowK_b (w := w) (Nat.le_refl _) W D _ _ (by simp at hD; omega) hK rfl rfl)⟩
    simp [results, Tryz.f286, go_sem, hc5]

theorem implFirstOf_any (s : Int) (w : World) : Calls Tryz.prog 286 #[.int .i64 s] w fun e w' => e = .returned (.int .i64 (firstMV s)) ∧ Below w.heap.size w w' :=
  callsIn_wide.1 (implFirstOf_in 3 (Nat.le_refl _) s w)

end Go.Proofs.YtifolooecfebfaaGreat

/- Contracts of chapter 10's functions and of their models: what each call returns. No condition but those that a theorem names. -/
namespace Go.Proofs.YtifolooecfebfaaGreat
open Go.ChangeShapes Go.WideShapes Go.ChangeAt Go.RowKit Go.Sort
set_option linter.unusedVariables false
set_option maxRecDepth 100000

theorem band_equal (a b c d : Int) (w : World) : (Op.equalIn 10000 181 (.agg #[.int .i64 a, .int .i64 b]) (.agg #[.int .i64 c, .int .i64 d])).run Tryz.prog w = .ok (a == c && b == d) w := by
  have u := Tryz.underlying2
  have ag := Tryz.isAgg2
  have z := Tryz.sizeOf2
  have hc : Tryz.prog.cellsOf 2 = 1 := by kernel_rfl
  obtain ⟨i, hi⟩ := Option.isSome_iff_exists.1 (show (Tryz.prog.info? 2).isSome = true by kernel_rfl)
  rw [show (10000 : Nat) = 9999 + 1 from rfl, run_equalIn_array w 9999 _ _ Tryz.underlying181 hi, hc]
  simp only [show List.range 2 = [0, 1] from rfl, Op.eqItems]
  go_simp
  by_cases h : a = c
  · subst h
    by_cases h2 : b = d
    · subst h2; simp
    · simp [h2]
  · simp [h]
theorem band_eql (a b c d : Int) (w : World) : (binOp .eql 181 (.agg #[.int .i64 a, .int .i64 b]) (.agg #[.int .i64 c, .int .i64 d])).run Tryz.prog w = .ok (.bool (a == c && b == d)) w := by
  rw [run_eql_struct, band_equal]; rfl

theorem bandStretched_any (lo hi n : Int) (w : World) : Calls Tryz.prog 215 #[.agg #[.int .i64 lo, .int .i64 hi], .int .i64 n] w fun e w' => e = .returned (.agg #[.int .i64 (min lo n), .int .i64 (max hi n)]) ∧ Below w.heap.size w w' := by
  by_cases h1 : lo ≤ n
  all_goals
    by_cases h2 : hi < n
    all_goals
      go_enter Tryz.func215, Tryz.ntmps215
      go_wp2_with fail
      exact bodyPost_ret (v := .agg #[.int .i64 (min lo n), .int .i64 (max hi n)]) (by simp [results, Tryz.results215, go_sem]; omega) rfl ⟨rfl, ((Below.refl _ _).alloc (Nat.le_refl _) _).alloc (by simp) _⟩

theorem bandOf_any (m : Int) (w : World) (m0 : -1000000000000 ≤ m) (m1 : m ≤ 1000000000000) : Calls Tryz.prog 209 #[.int .i64 m] w fun e w' => e = .returned (.agg #[.int .i64 (m - 20000), .int .i64 (m + 63000)]) ∧ Below w.heap.size w w' := by
  go_enter Tryz.func209, Tryz.ntmps209
  go_wp2_with fail
  exact bodyPost_ret (v := .agg #[.int .i64 (m - 20000), .int .i64 (m + 63000)]) (by simp [results, Tryz.results209, go_sem]) rfl ⟨rfl, (Below.refl _ _).alloc (Nat.le_refl _) _⟩

/-- The least and the greatest of a band that is stretched to a list. -/
def loL (lo : Int) (zs : List Int) : Int := zs.foldl min lo
def hiL (hi : Int) (zs : List Int) : Int := zs.foldl max hi
theorem loL_le (zs : List Int) : ∀ lo, loL lo zs ≤ lo := by
  induction zs with
  | nil => intro lo; exact Int.le_refl _
  | cons z zs ih => intro lo; exact Int.le_trans (ih (min lo z)) (Int.min_le_left _ _)
theorem hiL_ge (zs : List Int) : ∀ hi, hi ≤ hiL hi zs := by
  induction zs with
  | nil => intro hi; exact Int.le_refl _
  | cons z zs ih => intro hi; exact Int.le_trans (Int.le_max_left _ _) (ih (max hi z))
theorem stretched_is (zs : List Int) : ∀ lo hi, (loL lo zs == lo && hiL hi zs == hi) = zs.all fun z => inB z lo hi := by
  induction zs with
  | nil => intro lo hi; simp [loL, hiL]
  | cons z zs ih =>
    intro lo hi
    show (loL (min lo z) zs == lo && hiL (max hi z) zs == hi) = (inB z lo hi && zs.all fun z => inB z lo hi)
    cases hz : inB z lo hi
    · have hn : ¬ (lo ≤ z ∧ z ≤ hi) := of_decide_eq_false hz
      have h1 := loL_le zs (min lo z)
      have h2 := hiL_ge zs (max hi z)
      simp only [Bool.false_and, Bool.and_eq_false_iff, beq_eq_false_iff_ne]
      omega
    · obtain ⟨h1, h2⟩ := inB_of hz
      rw [show min lo z = lo by omega, show max hi z = hi by omega, ih]; rfl
theorem loL_snoc {lo : Int} {zs : List Int} {k : Nat} (hk : k < zs.length) : loL lo (zs.take (k + 1)) = min (loL lo (zs.take k)) (zs.getD k 0) := by
  unfold loL; rw [List.take_succ_eq_append_getElem hk, List.foldl_append]; simp [List.getD, List.getElem?_eq_getElem hk]
theorem hiL_snoc {hi : Int} {zs : List Int} {k : Nat} (hk : k < zs.length) : hiL hi (zs.take (k + 1)) = max (hiL hi (zs.take k)) (zs.getD k 0) := by
  unfold hiL; rw [List.take_succ_eq_append_getElem hk, List.foldl_append]; simp [List.getD, List.getElem?_eq_getElem hk]

attribute [local go_sem ↓] band_eql
set_option maxHeartbeats 400000 in
theorem bandHolds_any (lo hi : Int) (b cap : Nat) (zs : List Int) (w : World) (hl : zs.length ≤ 1000) (hb : b < w.heap.size) (hc : ∀ k, k < zs.length → w.cell? ⟨b, k, none⟩ = some (.int .i64 (zs.getD k 0))) :
    Calls Tryz.prog 185 #[.agg #[.int .i64 lo, .int .i64 hi], .slice (some ⟨b, 0, none⟩) zs.length cap] w fun e w' => e = .returned (.bool (zs.all fun z => inB z lo hi)) ∧ Below w.heap.size w w' := by
  have Hc := hide hc
  clear hc
  go_enter Tryz.func185, Tryz.ntmps185
  go_wp2_with fail
  go_loopw [11] (fun i wr => ∃ k : Nat, k ≤ zs.length ∧ i = .int .i64 k ∧ Blk wr (w.heap.size + 1) 181 #[.int .i64 (loL lo (zs.take k)), .int .i64 (hiL hi (zs.take k))] ∧ Blk wr w.heap.size 181 #[.int .i64 lo, .int .i64 hi] ∧ Below w.heap.size w wr) (fun i _ => zs.length - (intOf i).toNat)
  case atStart =>
    refine ⟨0, Nat.zero_le _, rfl, ?_, (Blk.new w _ _).alloc _, ((Below.refl _ _).alloc (Nat.le_refl _) _).alloc (by simp) _⟩
    have := Blk.new (w.alloc (.cells #[.int .i64 lo, .int .i64 hi] 181)) 181 #[.int .i64 lo, .int .i64 hi]
    simpa [loL, hiL] using this
  case round =>
    obtain ⟨k, hk, rfl, hs, ho, hbl⟩ := hrel
    have Hs := hide hs
    have Ho := hide ho
    have Hb := hide hbl
    by_cases hlt : k < zs.length
    · have c0 := unhide Hc k hlt
      rw [← hbl.cell (p := ⟨b, k, none⟩) hb] at c0
      have e1 := loL_snoc (lo := lo) hlt
      have e2 := hiL_snoc (hi := hi) hlt
      have s0 := hs.cell (i := 0) rfl
      have s1 := hs.cell (i := 1) rfl
      have g0 := hs.free 0
      have g1 := hs.free 1
      generalize zs.getD k 0 = z at *
      generalize loL lo (zs.take k) = x at *
      generalize hiL hi (zs.take k) = y at *
      have E1 := hide e1
      have E2 := hide e2
      clear e1 e2 hs ho hbl
      go_wp2_with fail
      refine (bandStretched_any x y z _).mono ?_
      rintro e w1 ⟨rfl, hb1⟩
      have hs1 := (unhide Hs).below hb1 (unhide Hs).lt
      have Hs1 := hide hs1
      have Ho1 : Hid (Blk w1 w.heap.size 181 #[.int .i64 lo, .int .i64 hi]) := hide ((unhide Ho).below hb1 (unhide Ho).lt)
      have B1 : Hid (Below w.heap.size w w1) := hide ((unhide Hb).trans (hb1.mono (unhide Hb).size))
      have s0 := hs1.cell (i := 0) rfl
      have s1 := hs1.cell (i := 1) rfl
      have g0 := hs1.free 0
      have g1 := hs1.free 1
      clear hs1 hb1
      go_wp2_with fail
      go_roundw
      case rel =>
        refine ⟨k + 1, by omega, by go_num, ?_, ?_, ?_⟩
        · rw [unhide E1, unhide E2]
          simpa using ((unhide Hs1).set 0 (.int .i64 (min x z))).set 1 (.int .i64 (max y z))
        · exact ((unhide Ho1).other (by simp) _).other (by simp) _
        · exact ((unhide B1).setCell (by simp) _).setCell (by simp) _
      case measure => simp [intOf]; omega
    · obtain rfl : k = zs.length := by omega
      rw [List.take_length] at hs
      have e3 := stretched_is zs lo hi
      have s0 := hs.cell (i := 0) rfl
      have s1 := hs.cell (i := 1) rfl
      have o0 := ho.cell (i := 0) rfl
      have o1 := ho.cell (i := 1) rfl
      generalize loL lo zs = x at *
      generalize hiL hi zs = y at *
      have E3 := hide e3
      clear e3 hs ho hbl Hs
      go_wp2_with fail
      go_ret
      exact ⟨ret_bool (unhide E3), unhide Hb⟩

theorem areHads_any (b cap : Nat) (zs : List Int) (w : World) (hl : zs.length ≤ 1000) (hb : b < w.heap.size) (hc : ∀ k, k < zs.length → w.cell? ⟨b, k, none⟩ = some (.int .i64 (zs.getD k 0))) :
    Calls Tryz.prog 139 #[.slice (some ⟨b, 0, none⟩) zs.length cap] w fun e w' => e = .returned (.bool (zs.all fun z => inB z (-1000000000000) 1000000000000)) ∧ Below w.heap.size w w' := by
  have Hc := hide hc
  clear hc
  go_enter Tryz.func139, Tryz.ntmps139
  go_wp2_with fail
  refine (bandHolds_any _ _ b cap zs _ hl hb (unhide Hc)).mono ?_
  rintro e w1 ⟨rfl, hb1⟩
  have B1 := hide hb1
  clear hb1
  go_wp2_with fail
  go_ret
  exact ⟨rfl, unhide B1⟩

theorem implInBand_any (h m : Int) (w : World) : Calls Tryz.prog 174 #[.int .i64 h, .int .i64 m] w fun e w' => e = .returned (.bool (inBandB h m)) ∧ Below w.heap.size w w' := by
  cases hh : hadB h && hadB m
  · have hs : inBandB h m = false := by unfold inBandB; rw [hh]; rfl
    have Hs := hide hs
    clear hs
    go_enter Tryz.func174, Tryz.ntmps174
    go_wp2_with fail
    refine (areHads_any _ _ [h, m] _ (by simp) (by simp) ?_).mono ?_
    · intro k hk
      simp at hk
      match k, hk with
      | 0, _ => simp
      | 1, _ => simp
    rintro e w1 ⟨rfl, hb⟩
    rw [hads2, hh]
    have B1 : Hid (Below w.heap.size w w1) := hide (((Below.refl _ _).alloc (Nat.le_refl _) _).trans (hb.mono (by simp)))
    clear hb
    go_wp2_with fail
    go_ret
    exact ⟨ret_bool (unhide Hs).symm, unhide B1⟩
  · have hs : inBandB h m = inB (h - m) (-20000) 63000 := by unfold inBandB; rw [hh]; rfl
    have Hs := hide hs
    have h' := hh
    simp only [Bool.and_eq_true] at h'
    obtain ⟨m0, m1⟩ := had_of h'.2
    clear hs h'
    go_enter Tryz.func174, Tryz.ntmps174
    go_wp2_with fail
    refine (areHads_any _ _ [h, m] _ (by simp) (by simp) ?_).mono ?_
    · intro k hk
      simp at hk
      match k, hk with
      | 0, _ => simp
      | 1, _ => simp
    rintro e w1 ⟨rfl, hb⟩
    rw [hads2, hh]
    have B1 : Hid (Below w.heap.size w w1) := hide (((Below.refl _ _).alloc (Nat.le_refl _) _).trans (hb.mono (by simp)))
    clear hb
    go_wp2_with fail
    refine (bandOf_any m _ m0 m1).mono ?_
    rintro e w2 ⟨rfl, hb⟩
    have B2 : Hid (Below w.heap.size w w2) := hide ((unhide B1).trans (hb.mono (unhide B1).size))
    clear hb B1
    go_wp2_with fail
    refine (bandHolds_any _ _ _ _ [h] _ (by simp) (by simp) ?_).mono ?_
    · intro k hk
      simp at hk
      subst hk
      simp
    rintro e w3 ⟨rfl, hb⟩
    rw [band_at]
    have B3 : Hid (Below w.heap.size w w3) := hide (((unhide B2).alloc (unhide B2).size _).trans (hb.mono (by have := (unhide B2).size; simp; omega)))
    clear hb B2
    go_wp2_with fail
    go_ret
    exact ⟨ret_bool (unhide Hs).symm, unhide B3⟩

theorem implMoved_any (h f t : Int) (w : World) : Calls Tryz.prog 95 #[.int .i64 h, .int .i64 f, .int .i64 t] w fun e w' => e = .returned (.int .i64 (movedV h f t)) ∧ Below w.heap.size w w' := by
  cases hh : hadB h && (hadB f && hadB t)
  · have hs : movedV h f t = h := by unfold movedV; rw [hh]; rfl
    have Hs := hide hs
    clear hs
    go_enter Tryz.func95, Tryz.ntmps95
    go_wp2_with fail
    refine (areHads_any _ _ [h, f, t] _ (by simp) (by simp) ?_).mono ?_
    · intro k hk
      simp at hk
      match k, hk with
      | 0, _ => simp
      | 1, _ => simp
      | 2, _ => simp
    rintro e w1 ⟨rfl, hb⟩
    rw [hads3, hh]
    have B1 : Hid (Below w.heap.size w w1) := hide (((Below.refl _ _).alloc (Nat.le_refl _) _).trans (hb.mono (by simp)))
    clear hb
    go_wp2_with fail
    go_ret
    exact ⟨ret_int (unhide Hs).symm, unhide B1⟩
  · have hs : movedV h f t = h - f + t := by unfold movedV; rw [hh]; rfl
    have Hs := hide hs
    have h' := hh
    simp only [Bool.and_eq_true] at h'
    obtain ⟨h0, h1⟩ := had_of h'.1
    obtain ⟨f0, f1⟩ := had_of h'.2.1
    obtain ⟨t0, t1⟩ := had_of h'.2.2
    clear hs h'
    go_enter Tryz.func95, Tryz.ntmps95
    go_wp2_with fail
    refine (areHads_any _ _ [h, f, t] _ (by simp) (by simp) ?_).mono ?_
    · intro k hk
      simp at hk
      match k, hk with
      | 0, _ => simp
      | 1, _ => simp
      | 2, _ => simp
    rintro e w1 ⟨rfl, hb⟩
    rw [hads3, hh]
    have B1 : Hid (Below w.heap.size w w1) := hide (((Below.refl _ _).alloc (Nat.le_refl _) _).trans (hb.mono (by simp)))
    clear hb
    go_wp2_with fail
    go_ret
    exact ⟨ret_int (unhide Hs).symm, unhide B1⟩

theorem implMarked_any (m f : Int) (w : World) : Calls Tryz.prog 142 #[.int .i64 m, .int .i64 f] w fun e w' => e = .returned (.int .i64 (markedV m f)) ∧ Below w.heap.size w w' := by
  cases hh : hadB m && hadB f
  · have hs : markedV m f = m := by unfold markedV; rw [hh]; rfl
    have Hs := hide hs
    clear hs
    go_enter Tryz.func142, Tryz.ntmps142
    go_wp2_with fail
    refine (areHads_any _ _ [m, f] _ (by simp) (by simp) ?_).mono ?_
    · intro k hk
      simp at hk
      match k, hk with
      | 0, _ => simp
      | 1, _ => simp
    rintro e w1 ⟨rfl, hb⟩
    rw [hads2, hh]
    have B1 : Hid (Below w.heap.size w w1) := hide (((Below.refl _ _).alloc (Nat.le_refl _) _).trans (hb.mono (by simp)))
    clear hb
    go_wp2_with fail
    go_ret
    exact ⟨ret_int (unhide Hs).symm, unhide B1⟩
  · have hs : markedV m f = min (max m f) 900000000000 := by unfold markedV; rw [hh]; rfl
    have Hs := hide hs
    clear hs
    go_enter Tryz.func142, Tryz.ntmps142
    go_wp2_with fail
    refine (areHads_any _ _ [m, f] _ (by simp) (by simp) ?_).mono ?_
    · intro k hk
      simp at hk
      match k, hk with
      | 0, _ => simp
      | 1, _ => simp
    rintro e w1 ⟨rfl, hb⟩
    rw [hads2, hh]
    have B1 : Hid (Below w.heap.size w w1) := hide (((Below.refl _ _).alloc (Nat.le_refl _) _).trans (hb.mono (by simp)))
    clear hb
    go_wp2_with fail
    refine (implClamped_any m f 900000000000 _).mono ?_
    rintro e w2 ⟨rfl, hw2⟩
    subst w2
    go_wp2_with fail
    go_ret
    exact ⟨ret_int (unhide Hs).symm, unhide B1⟩

theorem bandHad_any (x : Int) (w : World) : Calls Tryz.prog 154 #[.int .i64 x] w fun e w' => e = .returned (.bool (hadB x)) ∧ w' = w := by
  go_enter Tryz.func154, Tryz.ntmps154
  go_wp2_with (go_at_call 113; refine (l1In_any _ _ _ _).mono ?_; rintro e w' ⟨rfl, rfl⟩)
  go_ret
  exact ⟨rfl, rfl⟩
theorem bandHad_v {x : Int} {r : Bool} (h : hadB x = r) (w : World) : Calls Tryz.prog 154 #[.int .i64 x] w fun e w' => e = .returned (.bool r) ∧ w' = w := by
  rw [← h]; exact bandHad_any x w

theorem specMoved_any (h f t : Int) (w : World) : Calls Tryz.prog 107 #[.int .i64 h, .int .i64 f, .int .i64 t] w fun e w' => e = .returned (.int .i64 (movedV h f t)) ∧ w' = w := by
  cases h1 : hadB h
  · have hs : movedV h f t = h := by unfold movedV; rw [h1]; rfl
    have Hs := hide hs
    have H1 := hide h1
    clear hs h1
    go_enter Tryz.func107, Tryz.ntmps107
    go_wp2_with (go_at_call 154; refine (bandHad_v (unhide H1) _).mono ?_; rintro e w' ⟨rfl, rfl⟩)
    go_ret
    exact ⟨ret_int (unhide Hs).symm, rfl⟩
  cases h2 : hadB f
  · have hs : movedV h f t = h := by unfold movedV; rw [h1, h2]; rfl
    have Hs := hide hs
    have H1 := hide h1
    have H2 := hide h2
    clear hs h1 h2
    go_enter Tryz.func107, Tryz.ntmps107
    go_wp2_with (go_at_call 154; first | (refine (bandHad_v (unhide H1) _).mono ?_; rintro e w' ⟨rfl, rfl⟩) | (refine (bandHad_v (unhide H2) _).mono ?_; rintro e w' ⟨rfl, rfl⟩))
    go_ret
    exact ⟨ret_int (unhide Hs).symm, rfl⟩
  cases h3 : hadB t
  · have hs : movedV h f t = h := by unfold movedV; rw [h1, h2, h3]; rfl
    have Hs := hide hs
    have H1 := hide h1
    have H2 := hide h2
    have H3 := hide h3
    clear hs h1 h2 h3
    go_enter Tryz.func107, Tryz.ntmps107
    go_wp2_with (go_at_call 154; first | (refine (bandHad_v (unhide H1) _).mono ?_; rintro e w' ⟨rfl, rfl⟩) | (refine (bandHad_v (unhide H2) _).mono ?_; rintro e w' ⟨rfl, rfl⟩) | (refine (bandHad_v (unhide H3) _).mono ?_; rintro e w' ⟨rfl, rfl⟩))
    go_ret
    exact ⟨ret_int (unhide Hs).symm, rfl⟩
  have hs : movedV h f t = h - f + t := by unfold movedV; rw [h1, h2, h3]; rfl
  obtain ⟨a0, a1⟩ := had_of h1
  obtain ⟨b0, b1⟩ := had_of h2
  obtain ⟨c0, c1⟩ := had_of h3
  have Hs := hide hs
  have H1 := hide h1
  have H2 := hide h2
  have H3 := hide h3
  clear hs h1 h2 h3
  go_enter Tryz.func107, Tryz.ntmps107
  go_wp2_with (go_at_call 154; first | (refine (bandHad_v (unhide H1) _).mono ?_; rintro e w' ⟨rfl, rfl⟩) | (refine (bandHad_v (unhide H2) _).mono ?_; rintro e w' ⟨rfl, rfl⟩) | (refine (bandHad_v (unhide H3) _).mono ?_; rintro e w' ⟨rfl, rfl⟩))
  go_ret
  exact ⟨ret_int (unhide Hs).symm, rfl⟩

theorem specMarked_any (m f : Int) (w : World) : Calls Tryz.prog 108 #[.int .i64 m, .int .i64 f] w fun e w' => e = .returned (.int .i64 (markedV m f)) ∧ w' = w := by
  cases h1 : hadB m
  · have hs : markedV m f = m := by unfold markedV; rw [h1]; rfl
    have Hs := hide hs
    have H1 := hide h1
    clear hs h1
    go_enter Tryz.func108, Tryz.ntmps108
    go_wp2_with (go_at_call 154; refine (bandHad_v (unhide H1) _).mono ?_; rintro e w' ⟨rfl, rfl⟩)
    go_ret
    exact ⟨ret_int (unhide Hs).symm, rfl⟩
  cases h2 : hadB f
  · have hs : markedV m f = m := by unfold markedV; rw [h1, h2]; rfl
    have Hs := hide hs
    have H1 := hide h1
    have H2 := hide h2
    clear hs h1 h2
    go_enter Tryz.func108, Tryz.ntmps108
    go_wp2_with (go_at_call 154; first | (refine (bandHad_v (unhide H1) _).mono ?_; rintro e w' ⟨rfl, rfl⟩) | (refine (bandHad_v (unhide H2) _).mono ?_; rintro e w' ⟨rfl, rfl⟩))
    go_ret
    exact ⟨ret_int (unhide Hs).symm, rfl⟩
  have hs : markedV m f = min (max m f) 900000000000 := by unfold markedV; rw [h1, h2]; rfl
  have Hs := hide hs
  have H1 := hide h1
  have H2 := hide h2
  clear hs h1 h2
  go_enter Tryz.func108, Tryz.ntmps108
  go_wp2_with (first | (go_at_call 156; refine (l1Max_any _ _ _).mono ?_; rintro e w' ⟨rfl, rfl⟩) | (go_at_call 155; refine (l1Min_any _ _ _).mono ?_; rintro e w' ⟨rfl, rfl⟩) | (go_at_call 154; first | (refine (bandHad_v (unhide H1) _).mono ?_; rintro e w' ⟨rfl, rfl⟩) | (refine (bandHad_v (unhide H2) _).mono ?_; rintro e w' ⟨rfl, rfl⟩)))
  go_ret
  exact ⟨ret_int (unhide Hs).symm, rfl⟩

end Go.Proofs.YtifolooecfebfaaGreat

/- Contracts of the laws' own helpers that mark a list of records (Smith) and ask whether it holds its marks. Conditions: those that each theorem names. -/
namespace Go.Proofs.YtifolooecfebfaaGreat
open Go.ChangeShapes Go.WideShapes Go.ChangeAt Go.RowKit Go.Sort
set_option linter.unusedVariables false

def mkSmith (c : Int) : SmithV := (c, c + 1, c + 1 + 1, c + 1 + 1 + 1, c + 1 + 1 + 1 + 1, c + 1 + 1 + 1 + 1 + 1, c + 1 + 1 + 1 + 1 + 1 + 1, c + 1 + 1 + 1 + 1 + 1 + 1 + 1, c + 1 + 1 + 1 + 1 + 1 + 1 + 1 + 1, c + 1 + 1 + 1 + 1 + 1 + 1 + 1 + 1 + 1, c + 1 + 1 + 1 + 1 + 1 + 1 + 1 + 1 + 1 + 1)

set_option maxRecDepth 100000 in
set_option maxHeartbeats 8000000 in
theorem markSmithS_any {n₀ : Nat} {w : World} {v : Value} {ps : List SmithV} (c : Int) (h : SmithsAt n₀ w v ps) (hk0 : 0 ≤ c) (hk1 : c ≤ 1000000000000000) (hl : ps.length ≤ 10000000) :
    Calls Tryz.prog 79 #[v, .int .i64 c] w fun e w' => e = .returned (.int .i64 (c + 11 * (ps.length : Int))) ∧ SmithsAt n₀ w' v (markL mkSmith 11 c ps.length) ∧ w.grownBy w' v.ownBlock := by
  have Hv := hide h
  obtain ⟨a, cap, rfl⟩ := RecAt.shape h
  clear h
  go_enter Tryz.func79, Tryz.ntmps79
  go_wp2_with fail
  go_loopw [5, 1] (fun i q wr => ∃ j : Nat, j ≤ ps.length ∧ i = .int .i64 j ∧ q = .int .i64 (c + 11 * (j : Int)) ∧ SmithsAt n₀ wr (.slice a ps.length cap) (markedL mkSmith 11 c ps j) ∧ w.grownBy wr (Value.ownBlock (.slice a ps.length cap))) (fun i _ _ => ps.length - (intOf i).toNat)
  case atStart => exact ⟨0, Nat.zero_le _, rfl, by simp, by rw [markedL_zero]; exact unhide Hv, grown_refl _ _⟩
  case round =>
    obtain ⟨j, hj, rfl, rfl, hin, hgr⟩ := hrel
    by_cases hlt : j < ps.length
    · have hfl := markedL_len (mk := mkSmith) (d := 11) (c := c) hj
      obtain ⟨g, rfl, _, _, hcells, hfz⟩ := RecAt.view encSmith_len (by omega) hin hfl.symm (by omega)
      have hq := fun i u hu => hcells j (by omega) i u hu
      generalize recAt (markedL mkSmith 11 c ps j) j = old at hq
      have o0 := hq 0 _ rfl
      have f0 := hfz (j * 11)
      have o1 := hq 1 _ rfl
      have f1 := hfz (j * 11 + 1)
      have o2 := hq 2 _ rfl
      have f2 := hfz (j * 11 + 2)
      have o3 := hq 3 _ rfl
      have f3 := hfz (j * 11 + 3)
      have o4 := hq 4 _ rfl
      have f4 := hfz (j * 11 + 4)
      have o5 := hq 5 _ rfl
      have f5 := hfz (j * 11 + 5)
      have o6 := hq 6 _ rfl
      have f6 := hfz (j * 11 + 6)
      have o7 := hq 7 _ rfl
      have f7 := hfz (j * 11 + 7)
      have o8 := hq 8 _ rfl
      have f8 := hfz (j * 11 + 8)
      have o9 := hq 9 _ rfl
      have f9 := hfz (j * 11 + 9)
      have o10 := hq 10 _ rfl
      have f10 := hfz (j * 11 + 10)
      simp only [Nat.add_zero] at o0
      have hp := RecAt.put encSmith_len (by omega) hin hfl.symm (j := j) (by omega) (mkSmith (c + 11 * (j : Int)))
      have hs9 := markedL_set (mk := mkSmith) (d := 11) (c := c) hlt
      rw [show ((11 : Nat) : Int) = 11 from rfl] at hs9
      have HS := hide hs9
      clear hs9
      have H1 := hide hp.1
      have H2 := hide (grown_trans hgr hp.2)
      clear hin hgr hcells hq hfz hp hfl
      go_wp2_with fail
      go_roundw
      case rel => exact ⟨j + 1, by omega, by go_num, by go_num, by have h9 := unhide H1; rw [unhide HS] at h9; exact h9, unhide H2⟩
      case measure => simp [intOf]; omega
    · obtain rfl : j = ps.length := by omega
      rw [markedL_all] at hin
      go_wp2_with fail
      go_ret
      exact ⟨rfl, hin, hgr⟩

set_option maxRecDepth 100000 in
set_option maxHeartbeats 8000000 in
theorem heldSmithS_yes {w : World} {v : Value} (c : Int) (n : Nat) (h : IsSmiths w v (markL mkSmith 11 c n)) (hk0 : 0 ≤ c) (hk1 : c ≤ 1000000000000000) (hl : n ≤ 10000000) :
    Calls Tryz.prog 84 #[v, .int .i64 c] w fun e w' => e = .returned (.int .i64 (c + 11 * (n : Int))) ∧ w' = w := by
  obtain ⟨a, cap, rfl, hc, hm, hrow⟩ := h
  rw [markL_len] at *
  have Hrow := hide hrow
  clear hrow
  go_enter Tryz.func84, Tryz.ntmps84
  go_wp2_with fail
  go_loop [5, 1] (fun i q => ∃ j : Nat, j ≤ n ∧ i = .int .i64 j ∧ q = .int .i64 (c + 11 * (j : Int))) (fun i _ => n - (intOf i).toNat)
  case atStart => exact ⟨0, Nat.zero_le _, rfl, by simp⟩
  case round =>
    obtain ⟨j, hj, rfl, rfl⟩ := hrel
    by_cases hlt : j < n
    · rcases unhide Hrow with h0 | ⟨bk, off, rfl, hbw, hcl⟩
      · have := congrArg List.length h0; rw [markL_len] at this; simp at this; omega
      have hq := fun i u hu => hcl j hlt i u hu
      rw [markL_at _ _ _ hlt, show ((11 : Nat) : Int) = 11 from rfl] at hq
      have c0 : w.cell? ⟨bk, off + j * 11, none⟩ = some (.int .i64 ((c + 11 * (j : Int)))) := hq 0 _ rfl
      have c1 : w.cell? ⟨bk, off + j * 11 + 1, none⟩ = some (.int .i64 ((c + 11 * (j : Int)) + 1)) := hq 1 _ rfl
      have c2 : w.cell? ⟨bk, off + j * 11 + 2, none⟩ = some (.int .i64 ((c + 11 * (j : Int)) + 1 + 1)) := hq 2 _ rfl
      have c3 : w.cell? ⟨bk, off + j * 11 + 3, none⟩ = some (.int .i64 ((c + 11 * (j : Int)) + 1 + 1 + 1)) := hq 3 _ rfl
      have c4 : w.cell? ⟨bk, off + j * 11 + 4, none⟩ = some (.int .i64 ((c + 11 * (j : Int)) + 1 + 1 + 1 + 1)) := hq 4 _ rfl
      have c5 : w.cell? ⟨bk, off + j * 11 + 5, none⟩ = some (.int .i64 ((c + 11 * (j : Int)) + 1 + 1 + 1 + 1 + 1)) := hq 5 _ rfl
      have c6 : w.cell? ⟨bk, off + j * 11 + 6, none⟩ = some (.int .i64 ((c + 11 * (j : Int)) + 1 + 1 + 1 + 1 + 1 + 1)) := hq 6 _ rfl
      have c7 : w.cell? ⟨bk, off + j * 11 + 7, none⟩ = some (.int .i64 ((c + 11 * (j : Int)) + 1 + 1 + 1 + 1 + 1 + 1 + 1)) := hq 7 _ rfl
      have c8 : w.cell? ⟨bk, off + j * 11 + 8, none⟩ = some (.int .i64 ((c + 11 * (j : Int)) + 1 + 1 + 1 + 1 + 1 + 1 + 1 + 1)) := hq 8 _ rfl
      have c9 : w.cell? ⟨bk, off + j * 11 + 9, none⟩ = some (.int .i64 ((c + 11 * (j : Int)) + 1 + 1 + 1 + 1 + 1 + 1 + 1 + 1 + 1)) := hq 9 _ rfl
      have c10 : w.cell? ⟨bk, off + j * 11 + 10, none⟩ = some (.int .i64 ((c + 11 * (j : Int)) + 1 + 1 + 1 + 1 + 1 + 1 + 1 + 1 + 1 + 1)) := hq 10 _ rfl
      clear hcl hq
      go_wp2_with fail
      go_round
      case rel => exact ⟨j + 1, by omega, by go_num, by go_num⟩
      case measure => simp [intOf]; omega
    · obtain rfl : j = n := by omega
      go_wp2_with fail
      go_ret
      exact ⟨rfl, rfl⟩

end Go.Proofs.YtifolooecfebfaaGreat

/- Contracts of the laws' own helpers that mark a list of records (Desk) and ask whether it holds its marks. Conditions: those that each theorem names. -/
namespace Go.Proofs.YtifolooecfebfaaGreat
open Go.ChangeShapes Go.WideShapes Go.ChangeAt Go.RowKit Go.Sort
set_option linter.unusedVariables false

def mkDesk (c : Int) : DeskV := ((c % 3 == 0), c + 1, c + 1 + 1)

set_option maxRecDepth 100000 in
set_option maxHeartbeats 8000000 in
theorem markDeskS_any {n₀ : Nat} {w : World} {v : Value} {ps : List DeskV} (c : Int) (h : DesksAt n₀ w v ps) (hk0 : 0 ≤ c) (hk1 : c ≤ 1000000000000000) (hl : ps.length ≤ 10000000) :
    Calls Tryz.prog 80 #[v, .int .i64 c] w fun e w' => e = .returned (.int .i64 (c + 3 * (ps.length : Int))) ∧ DesksAt n₀ w' v (markL mkDesk 3 c ps.length) ∧ w.grownBy w' v.ownBlock := by
  have Hv := hide h
  obtain ⟨a, cap, rfl⟩ := RecAt.shape h
  clear h
  go_enter Tryz.func80, Tryz.ntmps80
  go_wp2_with fail
  go_loopw [5, 1] (fun i q wr => ∃ j : Nat, j ≤ ps.length ∧ i = .int .i64 j ∧ q = .int .i64 (c + 3 * (j : Int)) ∧ DesksAt n₀ wr (.slice a ps.length cap) (markedL mkDesk 3 c ps j) ∧ w.grownBy wr (Value.ownBlock (.slice a ps.length cap))) (fun i _ _ => ps.length - (intOf i).toNat)
  case atStart => exact ⟨0, Nat.zero_le _, rfl, by simp, by rw [markedL_zero]; exact unhide Hv, grown_refl _ _⟩
  case round =>
    obtain ⟨j, hj, rfl, rfl, hin, hgr⟩ := hrel
    by_cases hlt : j < ps.length
    · have hfl := markedL_len (mk := mkDesk) (d := 3) (c := c) hj
      obtain ⟨g, rfl, _, _, hcells, hfz⟩ := RecAt.view encDesk_len (by omega) hin hfl.symm (by omega)
      have hq := fun i u hu => hcells j (by omega) i u hu
      generalize recAt (markedL mkDesk 3 c ps j) j = old at hq
      have hmod : (c + 3 * (j : Int)) % 3 = c % 3 := by omega
      have o0 := hq 0 _ rfl
      have f0 := hfz (j * 3)
      have o1 := hq 1 _ rfl
      have f1 := hfz (j * 3 + 1)
      have o2 := hq 2 _ rfl
      have f2 := hfz (j * 3 + 2)
      simp only [Nat.add_zero] at o0
      have hp := RecAt.put encDesk_len (by omega) hin hfl.symm (j := j) (by omega) (mkDesk (c + 3 * (j : Int)))
      have hs9 := markedL_set (mk := mkDesk) (d := 3) (c := c) hlt
      rw [show ((3 : Nat) : Int) = 3 from rfl] at hs9
      have HS := hide hs9
      clear hs9
      have H1 := hide hp.1
      have H2 := hide (grown_trans hgr hp.2)
      clear hin hgr hcells hq hfz hp hfl
      go_wp2_with fail
      go_roundw
      case rel => exact ⟨j + 1, by omega, by go_num, by go_num, by have h9 := unhide H1; rw [unhide HS] at h9; simpa [setW, encDesk, mkDesk, hmod] using h9, by have h9 := unhide H2; simpa [setW, encDesk, mkDesk, hmod] using h9⟩
      case measure => simp [intOf]; omega
    · obtain rfl : j = ps.length := by omega
      rw [markedL_all] at hin
      go_wp2_with fail
      go_ret
      exact ⟨rfl, hin, hgr⟩

set_option maxRecDepth 100000 in
set_option maxHeartbeats 8000000 in
theorem heldDeskS_yes {w : World} {v : Value} (c : Int) (n : Nat) (h : IsDesks w v (markL mkDesk 3 c n)) (hk0 : 0 ≤ c) (hk1 : c ≤ 1000000000000000) (hl : n ≤ 10000000) :
    Calls Tryz.prog 85 #[v, .int .i64 c] w fun e w' => e = .returned (.int .i64 (c + 3 * (n : Int))) ∧ w' = w := by
  obtain ⟨a, cap, rfl, hc, hm, hrow⟩ := h
  rw [markL_len] at *
  have Hrow := hide hrow
  clear hrow
  go_enter Tryz.func85, Tryz.ntmps85
  go_wp2_with fail
  go_loop [5, 1] (fun i q => ∃ j : Nat, j ≤ n ∧ i = .int .i64 j ∧ q = .int .i64 (c + 3 * (j : Int))) (fun i _ => n - (intOf i).toNat)
  case atStart => exact ⟨0, Nat.zero_le _, rfl, by simp⟩
  case round =>
    obtain ⟨j, hj, rfl, rfl⟩ := hrel
    by_cases hlt : j < n
    · rcases unhide Hrow with h0 | ⟨bk, off, rfl, hbw, hcl⟩
      · have := congrArg List.length h0; rw [markL_len] at this; simp at this; omega
      have hq := fun i u hu => hcl j hlt i u hu
      rw [markL_at _ _ _ hlt, show ((3 : Nat) : Int) = 3 from rfl] at hq
      have c0 : w.cell? ⟨bk, off + j * 3, none⟩ = some (.bool ((c + 3 * (j : Int)) % 3 == 0)) := hq 0 _ rfl
      have c1 : w.cell? ⟨bk, off + j * 3 + 1, none⟩ = some (.int .i64 ((c + 3 * (j : Int)) + 1)) := hq 1 _ rfl
      have c2 : w.cell? ⟨bk, off + j * 3 + 2, none⟩ = some (.int .i64 ((c + 3 * (j : Int)) + 1 + 1)) := hq 2 _ rfl
      clear hcl hq
      go_wp2_with fail
      go_round
      case rel => exact ⟨j + 1, by omega, by go_num, by go_num⟩
      case measure => simp [intOf]; omega
    · obtain rfl : j = n := by omega
      go_wp2_with fail
      go_ret
      exact ⟨rfl, rfl⟩

end Go.Proofs.YtifolooecfebfaaGreat

/- Contracts of the laws' own helpers that mark a list of records (Guild) and ask whether it holds its marks. Conditions: those that each theorem names. -/
namespace Go.Proofs.YtifolooecfebfaaGreat
open Go.ChangeShapes Go.WideShapes Go.ChangeAt Go.RowKit Go.Sort
set_option linter.unusedVariables false

def mkGuild (c : Int) : GuildV := (c, c + 1, c + 1 + 1)

set_option maxRecDepth 100000 in
set_option maxHeartbeats 8000000 in
theorem markGuildS_any {n₀ : Nat} {w : World} {v : Value} {ps : List GuildV} (c : Int) (h : GuildsAt n₀ w v ps) (hk0 : 0 ≤ c) (hk1 : c ≤ 1000000000000000) (hl : ps.length ≤ 10000000) :
    Calls Tryz.prog 78 #[v, .int .i64 c] w fun e w' => e = .returned (.int .i64 (c + 3 * (ps.length : Int))) ∧ GuildsAt n₀ w' v (markL mkGuild 3 c ps.length) ∧ w.grownBy w' v.ownBlock := by
  have Hv := hide h
  obtain ⟨a, cap, rfl⟩ := RecAt.shape h
  clear h
  go_enter Tryz.func78, Tryz.ntmps78
  go_wp2_with fail
  go_loopw [5, 1] (fun i q wr => ∃ j : Nat, j ≤ ps.length ∧ i = .int .i64 j ∧ q = .int .i64 (c + 3 * (j : Int)) ∧ GuildsAt n₀ wr (.slice a ps.length cap) (markedL mkGuild 3 c ps j) ∧ w.grownBy wr (Value.ownBlock (.slice a ps.length cap))) (fun i _ _ => ps.length - (intOf i).toNat)
  case atStart => exact ⟨0, Nat.zero_le _, rfl, by simp, by rw [markedL_zero]; exact unhide Hv, grown_refl _ _⟩
  case round =>
    obtain ⟨j, hj, rfl, rfl, hin, hgr⟩ := hrel
    by_cases hlt : j < ps.length
    · have hfl := markedL_len (mk := mkGuild) (d := 3) (c := c) hj
      obtain ⟨g, rfl, _, _, hcells, hfz⟩ := RecAt.view encGuild_len (by omega) hin hfl.symm (by omega)
      have hq := fun i u hu => hcells j (by omega) i u hu
      generalize recAt (markedL mkGuild 3 c ps j) j = old at hq
      have o0 := hq 0 _ rfl
      have f0 := hfz (j * 3)
      have o1 := hq 1 _ rfl
      have f1 := hfz (j * 3 + 1)
      have o2 := hq 2 _ rfl
      have f2 := hfz (j * 3 + 2)
      simp only [Nat.add_zero] at o0
      have hp := RecAt.put encGuild_len (by omega) hin hfl.symm (j := j) (by omega) (mkGuild (c + 3 * (j : Int)))
      have hs9 := markedL_set (mk := mkGuild) (d := 3) (c := c) hlt
      rw [show ((3 : Nat) : Int) = 3 from rfl] at hs9
      have HS := hide hs9
      clear hs9
      have H1 := hide hp.1
      have H2 := hide (grown_trans hgr hp.2)
      clear hin hgr hcells hq hfz hp hfl
      go_wp2_with fail
      go_roundw
      case rel => exact ⟨j + 1, by omega, by go_num, by go_num, by have h9 := unhide H1; rw [unhide HS] at h9; exact h9, unhide H2⟩
      case measure => simp [intOf]; omega
    · obtain rfl : j = ps.length := by omega
      rw [markedL_all] at hin
      go_wp2_with fail
      go_ret
      exact ⟨rfl, hin, hgr⟩

set_option maxRecDepth 100000 in
set_option maxHeartbeats 8000000 in
theorem heldGuildS_yes {w : World} {v : Value} (c : Int) (n : Nat) (h : IsGuilds w v (markL mkGuild 3 c n)) (hk0 : 0 ≤ c) (hk1 : c ≤ 1000000000000000) (hl : n ≤ 10000000) :
    Calls Tryz.prog 83 #[v, .int .i64 c] w fun e w' => e = .returned (.int .i64 (c + 3 * (n : Int))) ∧ w' = w := by
  obtain ⟨a, cap, rfl, hc, hm, hrow⟩ := h
  rw [markL_len] at *
  have Hrow := hide hrow
  clear hrow
  go_enter Tryz.func83, Tryz.ntmps83
  go_wp2_with fail
  go_loop [5, 1] (fun i q => ∃ j : Nat, j ≤ n ∧ i = .int .i64 j ∧ q = .int .i64 (c + 3 * (j : Int))) (fun i _ => n - (intOf i).toNat)
  case atStart => exact ⟨0, Nat.zero_le _, rfl, by simp⟩
  case round =>
    obtain ⟨j, hj, rfl, rfl⟩ := hrel
    by_cases hlt : j < n
    · rcases unhide Hrow with h0 | ⟨bk, off, rfl, hbw, hcl⟩
      · have := congrArg List.length h0; rw [markL_len] at this; simp at this; omega
      have hq := fun i u hu => hcl j hlt i u hu
      rw [markL_at _ _ _ hlt, show ((3 : Nat) : Int) = 3 from rfl] at hq
      have c0 : w.cell? ⟨bk, off + j * 3, none⟩ = some (.int .i64 ((c + 3 * (j : Int)))) := hq 0 _ rfl
      have c1 : w.cell? ⟨bk, off + j * 3 + 1, none⟩ = some (.int .i64 ((c + 3 * (j : Int)) + 1)) := hq 1 _ rfl
      have c2 : w.cell? ⟨bk, off + j * 3 + 2, none⟩ = some (.int .i64 ((c + 3 * (j : Int)) + 1 + 1)) := hq 2 _ rfl
      clear hcl hq
      go_wp2_with fail
      go_round
      case rel => exact ⟨j + 1, by omega, by go_num, by go_num⟩
      case measure => simp [intOf]; omega
    · obtain rfl : j = n := by omega
      go_wp2_with fail
      go_ret
      exact ⟨rfl, rfl⟩

end Go.Proofs.YtifolooecfebfaaGreat

/- A room or a hall that is handed in, opened: what it reads as. No condition. -/
namespace Go.Proofs.YtifolooecfebfaaGreat
open Go.ChangeShapes Go.WideShapes Go.ChangeAt Go.RowKit Go.Deep
set_option linter.unusedVariables false

theorem addr_two {w : World} {b off i : Nat} {u u' : Value} (h1 : w.cell? ((⟨b, off, none⟩ : Addr).add (i * 2)) = some u) (h2 : w.cell? ((⟨b, off, none⟩ : Addr).add (i * 2 + 1)) = some u') :
    w.cell? ⟨b, off + i * 2, none⟩ = some u ∧ w.cell? ⟨b, off + i * 2 + 1, none⟩ = some u' := by
  by_cases hi : i = 0
  · subst hi
    simp [Addr.add] at h1 h2 ⊢
    exact ⟨h1, h2⟩
  · have h2i : ¬ i * 2 = 0 := by omega
    simp [Addr.add, h2i] at h1 h2 ⊢
    exact ⟨h1, h2⟩

theorem open_paces {H : Type} {enc : TypeId × Value → H} {W : World} {spare : Nat → Bool} {held : Bool} {n : Nat} {v : Value} {y : DataW H × List MemPlace}
    (h : DataW.trod enc Tryz.prog W 0 spare held n 173 [v] = some y) : ∃ ps, IsPaces W v ps := by
  rcases open_slice_pairs Tryz.underlying173 Tryz.underlying224 (by kernel_rfl) rfl rfl (by kernel_rfl) (by kernel_rfl) h with ⟨hv, _⟩ | ⟨a, len, cap, m, n', V0, V1, D0, D1, P0, P1, hv, _, hl, hm, hmm, _, hx⟩
  · cases hv
    exact ⟨[], none, 0, rfl, Nat.le_refl _, by omega, .inl rfl⟩
  · cases hv
    have hlm : len ≤ m := by rw [hmm]; split <;> omega
    obtain ⟨F, hF⟩ := choose_lt (α := Int × Int) (n := len) (p := fun i q => V0 i = .int .i64 q.1 ∧ V1 i = .int .i64 q.2) (fun i hi => by
      obtain ⟨_, _, t0, t1⟩ := hx i (by omega)
      obtain ⟨q0, e0, _⟩ := DataW.trod_int Tryz.underlying2 t0
      obtain ⟨q1, e1, _⟩ := DataW.trod_int Tryz.underlying2 t1
      exact ⟨(q0, q1), by simpa using e0, by simpa using e1⟩)
    have hlen : ((List.range len).map F).length = len := by simp
    refine ⟨(List.range len).map F, some a, cap, by rw [hlen], by rw [hlen]; exact hl, by unfold maxLen at hm; omega, ?_⟩
    by_cases hz : len = 0
    · exact .inl (by simp [hz])
    · have h0 := hx 0 (by omega)
      have sp := World.cell?_spot h0.1
      have hlt := World.block_lt_of_cell? _ _ h0.1
      obtain ⟨b, off, spot⟩ := a
      have hspot : spot = none := by simpa [Addr.add] using sp
      subst hspot
      refine .inr ⟨b, off, rfl, by simpa [Addr.add] using hlt, fun k hk => ?_⟩
      rw [hlen] at hk
      obtain ⟨c0, c1, _, _⟩ := hx k (by omega)
      obtain ⟨e0, e1⟩ := hF k hk
      have hat : paceAt ((List.range len).map F) k = F k := by unfold paceAt; simp [List.getD, hk]
      rw [hat, ← e0, ← e1]
      exact addr_two c0 c1

theorem open_rooms {H : Type} {enc : TypeId × Value → H} {W : World} {spare : Nat → Bool} {held : Bool} {n : Nat} {v : Value} {y : DataW H × List MemPlace}
    (h : DataW.trod enc Tryz.prog W 0 spare held n 49 [v] = some y) : ∃ rs, IsRooms W v rs := by
  rcases open_slice_pairs Tryz.underlying49 Tryz.underlying175 (by kernel_rfl) rfl rfl (by kernel_rfl) (by kernel_rfl) h with ⟨hv, _⟩ | ⟨a, len, cap, m, n', V0, V1, D0, D1, P0, P1, hv, _, hl, hm, hmm, _, hx⟩
  · cases hv
    exact ⟨[], none, 0, rfl, Nat.le_refl _, by omega, .inl rfl⟩
  · cases hv
    have hlm : len ≤ m := by rw [hmm]; split <;> omega
    obtain ⟨F, hF⟩ := choose_lt (α := RoomV) (n := len) (p := fun i q => V0 i = .int .i64 q.1 ∧ IsPaces W (V1 i) q.2) (fun i hi => by
      obtain ⟨_, _, t0, t1⟩ := hx i (by omega)
      obtain ⟨q0, e0, _⟩ := DataW.trod_int Tryz.underlying2 t0
      obtain ⟨ps, e1⟩ := open_paces t1
      exact ⟨(q0, ps), by simpa using e0, e1⟩)
    have hlen : ((List.range len).map F).length = len := by simp
    refine ⟨(List.range len).map F, some a, cap, by rw [hlen], by rw [hlen]; exact hl, by unfold maxLen at hm; omega, ?_⟩
    by_cases hz : len = 0
    · exact .inl (by simp [hz])
    · have h0 := hx 0 (by omega)
      have sp := World.cell?_spot h0.1
      have hlt := World.block_lt_of_cell? _ _ h0.1
      obtain ⟨b, off, spot⟩ := a
      have hspot : spot = none := by simpa [Addr.add] using sp
      subst hspot
      refine .inr ⟨b, off, rfl, by simpa [Addr.add] using hlt, fun k hk => ?_⟩
      rw [hlen] at hk
      obtain ⟨c0, c1, _, _⟩ := hx k (by omega)
      obtain ⟨e0, e1⟩ := hF k hk
      have hat : roomAt ((List.range len).map F) k = F k := by unfold roomAt; simp [List.getD, hk]
      rw [hat, ← e0]
      exact ⟨(addr_two c0 c1).1, V1 k, (addr_two c0 c1).2, e1⟩

end Go.Proofs.YtifolooecfebfaaGreat

