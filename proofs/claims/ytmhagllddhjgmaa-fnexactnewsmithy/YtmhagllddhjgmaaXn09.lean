/- What the proof rests on, part 9: lists and numbers, how they lie in memory, and contracts of the calls. No condition but those that a theorem names. -/
import Derived.Test.YtmhagllddhjgmaaXn01
import Derived.Test.YtmhagllddhjgmaaXn02
import Derived.Test.YtmhagllddhjgmaaXn03
import Derived.Test.YtmhagllddhjgmaaXn04
import Derived.Test.YtmhagllddhjgmaaXn05
import Derived.Test.YtmhagllddhjgmaaXn06
import Derived.WalkKit
import Derived.ProofKit
import Derived.OpenShut
import Derived.Outline
import Derived.Deep.RegionWith
import Derived.Deep.QuietTactic
import Derived.BigQuiet
import Derived.Laws.OwnMore
import Derived.OwnWalk
import Derived.Lib.QuietBelow
import Derived.Maps.AppendAt
import Derived.Lib.SmallJoins
import Derived.Deep.Fields
import Derived.Deep.Slices
/- Lists of records (Smith): what they read as, and contracts of the laws' own helpers over them: how many, copies in memory of their own, that two that read alike are alike. Conditions: the slices can be read; what is copied is no longer than 2^20. -/
namespace Go.Proofs.Ytmhagllddhjgmaa
open Go.ChangeShapes Go.WideShapes Go.ChangeAt Go.RowKit Go.Sort
set_option linter.unusedVariables false

abbrev SmithV := Int × Int × Int × Int × Int × Int × Int × Int × Int × Int × Int
def encSmith (p : SmithV) : List Value := [.int .i64 p.1, .int .i64 p.2.1, .int .i64 p.2.2.1, .int .i64 p.2.2.2.1, .int .i64 p.2.2.2.2.1, .int .i64 p.2.2.2.2.2.1, .int .i64 p.2.2.2.2.2.2.1, .int .i64 p.2.2.2.2.2.2.2.1, .int .i64 p.2.2.2.2.2.2.2.2.1, .int .i64 p.2.2.2.2.2.2.2.2.2.1, .int .i64 p.2.2.2.2.2.2.2.2.2.2]
theorem encSmith_len (p : SmithV) : (encSmith p).length = 11 := rfl
abbrev IsSmiths (w : World) (v : Value) (ps : List SmithV) : Prop := IsRec 11 encSmith w v ps
abbrev SmithsAt (n₀ : Nat) (w : World) (v : Value) (ps : List SmithV) : Prop := RecAt 81 11 encSmith n₀ w v ps
theorem SmithsAt.list {n₀ : Nat} {w : World} {v : Value} {ps : List SmithV} (h : SmithsAt n₀ w v ps) : IsSmiths w v ps := RecAt.recs encSmith_len (by omega) h
theorem smith_cells {w : World} {b off : Nat} {ps : List SmithV} (h : ∀ j, j < ps.length → ∀ i u, (encSmith (recAt ps j))[i]? = some u → w.cell? ⟨b, off + j * 11 + i, none⟩ = some u) {j : Nat} (hj : j < ps.length) :
    w.cell? ⟨b, off + j * 11, none⟩ = some (.int .i64 (recAt ps j).1) ∧ w.cell? ⟨b, off + j * 11 + 1, none⟩ = some (.int .i64 (recAt ps j).2.1) ∧ w.cell? ⟨b, off + j * 11 + 2, none⟩ = some (.int .i64 (recAt ps j).2.2.1) ∧ w.cell? ⟨b, off + j * 11 + 3, none⟩ = some (.int .i64 (recAt ps j).2.2.2.1) ∧ w.cell? ⟨b, off + j * 11 + 4, none⟩ = some (.int .i64 (recAt ps j).2.2.2.2.1) ∧ w.cell? ⟨b, off + j * 11 + 5, none⟩ = some (.int .i64 (recAt ps j).2.2.2.2.2.1) ∧ w.cell? ⟨b, off + j * 11 + 6, none⟩ = some (.int .i64 (recAt ps j).2.2.2.2.2.2.1) ∧ w.cell? ⟨b, off + j * 11 + 7, none⟩ = some (.int .i64 (recAt ps j).2.2.2.2.2.2.2.1) ∧ w.cell? ⟨b, off + j * 11 + 8, none⟩ = some (.int .i64 (recAt ps j).2.2.2.2.2.2.2.2.1) ∧ w.cell? ⟨b, off + j * 11 + 9, none⟩ = some (.int .i64 (recAt ps j).2.2.2.2.2.2.2.2.2.1) ∧ w.cell? ⟨b, off + j * 11 + 10, none⟩ = some (.int .i64 (recAt ps j).2.2.2.2.2.2.2.2.2.2) :=
  ⟨h j hj 0 _ rfl, h j hj 1 _ rfl, h j hj 2 _ rfl, h j hj 3 _ rfl, h j hj 4 _ rfl, h j hj 5 _ rfl, h j hj 6 _ rfl, h j hj 7 _ rfl, h j hj 8 _ rfl, h j hj 9 _ rfl, h j hj 10 _ rfl⟩

set_option maxHeartbeats 2000000 in
theorem eqSmith_yes (x0 : Int) (x1 : Int) (x2 : Int) (x3 : Int) (x4 : Int) (x5 : Int) (x6 : Int) (x7 : Int) (x8 : Int) (x9 : Int) (x10 : Int) (w : World) :
    Calls Try.prog 45 #[.agg #[.int .i64 x0, .int .i64 x1, .int .i64 x2, .int .i64 x3, .int .i64 x4, .int .i64 x5, .int .i64 x6, .int .i64 x7, .int .i64 x8, .int .i64 x9, .int .i64 x10], .agg #[.int .i64 x0, .int .i64 x1, .int .i64 x2, .int .i64 x3, .int .i64 x4, .int .i64 x5, .int .i64 x6, .int .i64 x7, .int .i64 x8, .int .i64 x9, .int .i64 x10]] w fun e w' => e = .returned (.bool true) ∧ Below w.heap.size w w' := by
  go_enter Try.func45, Try.ntmps45
  go_wp2_with fail
  go_ret
  exact ⟨rfl, ((Below.refl _ _).alloc (Nat.le_refl _) _).alloc (by simp) _⟩

set_option maxHeartbeats 4000000 in
theorem eqSmithS_yes {w : World} {v u : Value} {ps : List SmithV} (hv : IsSmiths w v ps) (hu : IsSmiths w u ps) :
    Calls Try.prog 22 #[v, u] w fun e w' => e = .returned (.bool true) ∧ Below w.heap.size w w' := by
  obtain ⟨a, cap, rfl, hc, hm, hr⟩ := hv
  obtain ⟨a', cap', rfl, hc', hm', hr'⟩ := hu
  have Hr := hide hr
  have Hr' := hide hr'
  clear hr hr'
  go_enter Try.func22, Try.ntmps22
  go_wp2_with fail
  go_loopw [5] (fun i wr => ∃ k : Nat, k ≤ ps.length ∧ i = .int .i64 k ∧ Below w.heap.size w wr) (fun i _ => ps.length - (intOf i).toNat)
  case atStart => exact ⟨0, Nat.zero_le _, rfl, Below.refl _ _⟩
  case round =>
    obtain ⟨k, hk, rfl, hb⟩ := hrel
    have Hb := hide hb
    by_cases hlt : k < ps.length
    · rcases unhide Hr with h0 | ⟨b, off, rfl, hbw, hcl⟩
      · rw [h0] at hlt; simp at hlt
      rcases unhide Hr' with h0 | ⟨b', off', rfl, hbw', hcl'⟩
      · rw [h0] at hlt; simp at hlt
      obtain ⟨c0, c1, c2, c3, c4, c5, c6, c7, c8, c9, c10⟩ := smith_cells hcl hlt
      obtain ⟨d0, d1, d2, d3, d4, d5, d6, d7, d8, d9, d10⟩ := smith_cells hcl' hlt
      generalize recAt ps k = p at *
      obtain ⟨x0, x1, x2, x3, x4, x5, x6, x7, x8, x9, x10⟩ := p
      simp only at c0 c1 c2 c3 c4 c5 c6 c7 c8 c9 c10 d0 d1 d2 d3 d4 d5 d6 d7 d8 d9 d10
      have k0 := cell_regrown ((hb.cell (p := ⟨b, off + k * 11, none⟩) hbw).trans c0)
      have m0 := cell_regrown ((hb.cell (p := ⟨b', off' + k * 11, none⟩) hbw').trans d0)
      have k1 := cell_regrown ((hb.cell (p := ⟨b, off + k * 11 + 1, none⟩) hbw).trans c1)
      have m1 := cell_regrown ((hb.cell (p := ⟨b', off' + k * 11 + 1, none⟩) hbw').trans d1)
      have k2 := cell_regrown ((hb.cell (p := ⟨b, off + k * 11 + 2, none⟩) hbw).trans c2)
      have m2 := cell_regrown ((hb.cell (p := ⟨b', off' + k * 11 + 2, none⟩) hbw').trans d2)
      have k3 := cell_regrown ((hb.cell (p := ⟨b, off + k * 11 + 3, none⟩) hbw).trans c3)
      have m3 := cell_regrown ((hb.cell (p := ⟨b', off' + k * 11 + 3, none⟩) hbw').trans d3)
      have k4 := cell_regrown ((hb.cell (p := ⟨b, off + k * 11 + 4, none⟩) hbw).trans c4)
      have m4 := cell_regrown ((hb.cell (p := ⟨b', off' + k * 11 + 4, none⟩) hbw').trans d4)
      have k5 := cell_regrown ((hb.cell (p := ⟨b, off + k * 11 + 5, none⟩) hbw).trans c5)
      have m5 := cell_regrown ((hb.cell (p := ⟨b', off' + k * 11 + 5, none⟩) hbw').trans d5)
      have k6 := cell_regrown ((hb.cell (p := ⟨b, off + k * 11 + 6, none⟩) hbw).trans c6)
      have m6 := cell_regrown ((hb.cell (p := ⟨b', off' + k * 11 + 6, none⟩) hbw').trans d6)
      have k7 := cell_regrown ((hb.cell (p := ⟨b, off + k * 11 + 7, none⟩) hbw).trans c7)
      have m7 := cell_regrown ((hb.cell (p := ⟨b', off' + k * 11 + 7, none⟩) hbw').trans d7)
      have k8 := cell_regrown ((hb.cell (p := ⟨b, off + k * 11 + 8, none⟩) hbw).trans c8)
      have m8 := cell_regrown ((hb.cell (p := ⟨b', off' + k * 11 + 8, none⟩) hbw').trans d8)
      have k9 := cell_regrown ((hb.cell (p := ⟨b, off + k * 11 + 9, none⟩) hbw).trans c9)
      have m9 := cell_regrown ((hb.cell (p := ⟨b', off' + k * 11 + 9, none⟩) hbw').trans d9)
      have k10 := cell_regrown ((hb.cell (p := ⟨b, off + k * 11 + 10, none⟩) hbw).trans c10)
      have m10 := cell_regrown ((hb.cell (p := ⟨b', off' + k * 11 + 10, none⟩) hbw').trans d10)
      clear hcl hcl' hb c0 c1 c2 c3 c4 c5 c6 c7 c8 c9 c10 d0 d1 d2 d3 d4 d5 d6 d7 d8 d9 d10
      go_wp2_with fail
      refine wp_region_quiet_below (by kernel_rfl) (by kernel_rfl) ?_
      repeat (go_big_quiet_step (exact Calls.regrown_of (eqSmith_yes _ _ _ _ _ _ _ _ _ _ _ _)))
      refine wpQuiet_nil ?_
      intro _ hw'
      obtain ⟨⟨dq, osq⟩, hw''⟩ := hw'
      subst hw''
      go_wp2_with fail
      go_roundw
      case rel => exact ⟨k + 1, by omega, by go_num, (unhide Hb).trans ((below_regrown _ _ _).mono (unhide Hb).size)⟩
      case measure => simp [intOf]; omega
    · go_wp2_with fail
      go_ret
      exact ⟨rfl, hb⟩

end Go.Proofs.Ytmhagllddhjgmaa

/- Lists of records (Desk): what they read as, and contracts of the laws' own helpers over them: how many, copies in memory of their own, that two that read alike are alike. Conditions: the slices can be read; what is copied is no longer than 2^20. -/
namespace Go.Proofs.Ytmhagllddhjgmaa
open Go.ChangeShapes Go.WideShapes Go.ChangeAt Go.RowKit Go.Sort
set_option linter.unusedVariables false

abbrev DeskV := Bool × Int × Int
def encDesk (p : DeskV) : List Value := [.bool p.1, .int .i64 p.2.1, .int .i64 p.2.2]
theorem encDesk_len (p : DeskV) : (encDesk p).length = 3 := rfl
abbrev IsDesks (w : World) (v : Value) (ps : List DeskV) : Prop := IsRec 3 encDesk w v ps
abbrev DesksAt (n₀ : Nat) (w : World) (v : Value) (ps : List DeskV) : Prop := RecAt 48 3 encDesk n₀ w v ps
theorem DesksAt.list {n₀ : Nat} {w : World} {v : Value} {ps : List DeskV} (h : DesksAt n₀ w v ps) : IsDesks w v ps := RecAt.recs encDesk_len (by omega) h
theorem desk_cells {w : World} {b off : Nat} {ps : List DeskV} (h : ∀ j, j < ps.length → ∀ i u, (encDesk (recAt ps j))[i]? = some u → w.cell? ⟨b, off + j * 3 + i, none⟩ = some u) {j : Nat} (hj : j < ps.length) :
    w.cell? ⟨b, off + j * 3, none⟩ = some (.bool (recAt ps j).1) ∧ w.cell? ⟨b, off + j * 3 + 1, none⟩ = some (.int .i64 (recAt ps j).2.1) ∧ w.cell? ⟨b, off + j * 3 + 2, none⟩ = some (.int .i64 (recAt ps j).2.2) :=
  ⟨h j hj 0 _ rfl, h j hj 1 _ rfl, h j hj 2 _ rfl⟩

set_option maxHeartbeats 2000000 in
theorem eqDesk_yes (x0 : Bool) (x1 : Int) (x2 : Int) (w : World) :
    Calls Try.prog 46 #[.agg #[.bool x0, .int .i64 x1, .int .i64 x2], .agg #[.bool x0, .int .i64 x1, .int .i64 x2]] w fun e w' => e = .returned (.bool true) ∧ Below w.heap.size w w' := by
  go_enter Try.func46, Try.ntmps46
  go_wp2_with fail
  go_ret
  exact ⟨rfl, ((Below.refl _ _).alloc (Nat.le_refl _) _).alloc (by simp) _⟩

set_option maxHeartbeats 4000000 in
theorem eqDeskS_yes {w : World} {v u : Value} {ps : List DeskV} (hv : IsDesks w v ps) (hu : IsDesks w u ps) :
    Calls Try.prog 23 #[v, u] w fun e w' => e = .returned (.bool true) ∧ Below w.heap.size w w' := by
  obtain ⟨a, cap, rfl, hc, hm, hr⟩ := hv
  obtain ⟨a', cap', rfl, hc', hm', hr'⟩ := hu
  have Hr := hide hr
  have Hr' := hide hr'
  clear hr hr'
  go_enter Try.func23, Try.ntmps23
  go_wp2_with fail
  go_loopw [5] (fun i wr => ∃ k : Nat, k ≤ ps.length ∧ i = .int .i64 k ∧ Below w.heap.size w wr) (fun i _ => ps.length - (intOf i).toNat)
  case atStart => exact ⟨0, Nat.zero_le _, rfl, Below.refl _ _⟩
  case round =>
    obtain ⟨k, hk, rfl, hb⟩ := hrel
    have Hb := hide hb
    by_cases hlt : k < ps.length
    · rcases unhide Hr with h0 | ⟨b, off, rfl, hbw, hcl⟩
      · rw [h0] at hlt; simp at hlt
      rcases unhide Hr' with h0 | ⟨b', off', rfl, hbw', hcl'⟩
      · rw [h0] at hlt; simp at hlt
      obtain ⟨c0, c1, c2⟩ := desk_cells hcl hlt
      obtain ⟨d0, d1, d2⟩ := desk_cells hcl' hlt
      generalize recAt ps k = p at *
      obtain ⟨x0, x1, x2⟩ := p
      simp only at c0 c1 c2 d0 d1 d2
      have k0 := cell_regrown ((hb.cell (p := ⟨b, off + k * 3, none⟩) hbw).trans c0)
      have m0 := cell_regrown ((hb.cell (p := ⟨b', off' + k * 3, none⟩) hbw').trans d0)
      have k1 := cell_regrown ((hb.cell (p := ⟨b, off + k * 3 + 1, none⟩) hbw).trans c1)
      have m1 := cell_regrown ((hb.cell (p := ⟨b', off' + k * 3 + 1, none⟩) hbw').trans d1)
      have k2 := cell_regrown ((hb.cell (p := ⟨b, off + k * 3 + 2, none⟩) hbw).trans c2)
      have m2 := cell_regrown ((hb.cell (p := ⟨b', off' + k * 3 + 2, none⟩) hbw').trans d2)
      clear hcl hcl' hb c0 c1 c2 d0 d1 d2
      go_wp2_with fail
      refine wp_region_quiet_below (by kernel_rfl) (by kernel_rfl) ?_
      repeat (go_big_quiet_step (exact Calls.regrown_of (eqDesk_yes _ _ _ _)))
      refine wpQuiet_nil ?_
      intro _ hw'
      obtain ⟨⟨dq, osq⟩, hw''⟩ := hw'
      subst hw''
      go_wp2_with fail
      go_roundw
      case rel => exact ⟨k + 1, by omega, by go_num, (unhide Hb).trans ((below_regrown _ _ _).mono (unhide Hb).size)⟩
      case measure => simp [intOf]; omega
    · go_wp2_with fail
      go_ret
      exact ⟨rfl, hb⟩

end Go.Proofs.Ytmhagllddhjgmaa

/- Lists of int64: what they read as, and contracts of the laws' own helpers over them: how many, copies in memory of their own, that two that read alike are alike; one that is handed in, opened. Conditions: the slices can be read; what is copied is no longer than 2^20. -/
namespace Go.Proofs.Ytmhagllddhjgmaa
open Go.ChangeShapes Go.WideShapes Go.ChangeAt Go.RowKit Go.Sort Go.Deep
set_option linter.unusedVariables false

def encNum (z : Int) : List Value := [.int .i64 z]
theorem encNum_len (z : Int) : (encNum z).length = 1 := rfl
abbrev IsNums (w : World) (v : Value) (zs : List Int) : Prop := IsRec 1 encNum w v zs
abbrev NumsAt (n₀ : Nat) (w : World) (v : Value) (zs : List Int) : Prop := RecAt 2 1 encNum n₀ w v zs
theorem NumsAt.list {n₀ : Nat} {w : World} {v : Value} {zs : List Int} (h : NumsAt n₀ w v zs) : IsNums w v zs := RecAt.recs encNum_len (by omega) h
theorem num_cell {w : World} {b off : Nat} {zs : List Int} (h : ∀ j, j < zs.length → ∀ i u, (encNum (recAt zs j))[i]? = some u → w.cell? ⟨b, off + j * 1 + i, none⟩ = some u) {j : Nat} (hj : j < zs.length) :
    w.cell? ⟨b, off + j, none⟩ = some (.int .i64 (recAt zs j)) := by
  have := h j hj 0 _ rfl
  simpa using this

set_option maxHeartbeats 2000000 in
theorem eqNums_yes {w : World} {v u : Value} {zs : List Int} (hv : IsNums w v zs) (hu : IsNums w u zs) :
    Calls Try.prog 24 #[v, u] w fun e w' => e = .returned (.bool true) ∧ Below w.heap.size w w' := by
  obtain ⟨a, cap, rfl, hc, hm, hr⟩ := hv
  obtain ⟨a', cap', rfl, hc', hm', hr'⟩ := hu
  have Hr := hide hr
  have Hr' := hide hr'
  clear hr hr'
  go_enter Try.func24, Try.ntmps24
  go_wp2_with fail
  go_loopw [5] (fun i wr => ∃ k : Nat, k ≤ zs.length ∧ i = .int .i64 k ∧ Below w.heap.size w wr) (fun i _ => zs.length - (intOf i).toNat)
  case atStart => exact ⟨0, Nat.zero_le _, rfl, Below.refl _ _⟩
  case round =>
    obtain ⟨k, hk, rfl, hb⟩ := hrel
    have Hb := hide hb
    by_cases hlt : k < zs.length
    · rcases unhide Hr with h0 | ⟨b, off, rfl, hbw, hcl⟩
      · rw [h0] at hlt; simp at hlt
      rcases unhide Hr' with h0 | ⟨b', off', rfl, hbw', hcl'⟩
      · rw [h0] at hlt; simp at hlt
      have c0 := num_cell hcl hlt
      have d0 := num_cell hcl' hlt
      rw [← hb.cell (p := ⟨b, off + k, none⟩) hbw] at c0
      rw [← hb.cell (p := ⟨b', off' + k, none⟩) hbw'] at d0
      generalize recAt zs k = z at *
      clear hcl hcl' hb
      go_wp2_with fail
      go_quiet (fail)
      go_wp2_with fail
      go_roundw
      case rel => exact ⟨k + 1, by omega, by go_num, ⟨(unhide Hb).os, (unhide Hb).tape, (unhide Hb).output, (unhide Hb).size, (unhide Hb).block⟩⟩
      case measure => simp [intOf]; omega
    · go_wp2_with fail
      go_ret
      exact ⟨rfl, hb⟩

end Go.Proofs.Ytmhagllddhjgmaa

/- A smithy in memory: what it reads as, and one that the call itself made. No condition but those that a theorem names. -/
namespace Go.Proofs.Ytmhagllddhjgmaa
open Go.ChangeShapes Go.WideShapes Go.ChangeAt Go.RowKit Go.Sort
set_option linter.unusedVariables false

structure SmyV where
  rooms : List RoomV
  guilds : List GuildV
  smiths : List SmithV
  desks : List DeskV
  paces : List Int
  now : Int

/-- The five slices read as the smithy's lists. -/
structure Smy (w : World) (v0 v1 v2 v3 v4 : Value) (m : SmyV) : Prop where
  rooms : IsRooms w v0 m.rooms
  guilds : IsGuilds w v1 m.guilds
  smiths : IsSmiths w v2 m.smiths
  desks : IsDesks w v3 m.desks
  paces : IsNums w v4 m.paces
theorem Smy.below {w w' : World} {v0 v1 v2 v3 v4 : Value} {m : SmyV} (h : Smy w v0 v1 v2 v3 v4 m) (hb : Below w.heap.size w w') : Smy w' v0 v1 v2 v3 v4 m :=
  ⟨h.rooms.below hb, h.guilds.below hb, h.smiths.below hb, h.desks.below hb, h.paces.below hb⟩
/-- Nothing in it is longer than 2^20. -/
structure SmySmall (m : SmyV) : Prop where
  rooms : Small m.rooms
  guilds : m.guilds.length ≤ 1048576
  smiths : m.smiths.length ≤ 1048576
  desks : m.desks.length ≤ 1048576
  paces : m.paces.length ≤ 1048576

end Go.Proofs.Ytmhagllddhjgmaa

/- Contracts of the laws' own helpers over smithies: how big one is, its copy in memory of its own, that two that read alike are alike. Conditions: the slices can be read; what is copied is no longer than 2^20. -/
namespace Go.Proofs.Ytmhagllddhjgmaa
open Go.ChangeShapes Go.WideShapes Go.ChangeAt Go.RowKit Go.Sort
set_option linter.unusedVariables false

set_option maxHeartbeats 2000000 in
theorem eqSmithy_yes {w : World} {v0 v1 v2 v3 v4 u0 u1 u2 u3 u4 : Value} {m : SmyV} (h : Smy w v0 v1 v2 v3 v4 m) (k : Smy w u0 u1 u2 u3 u4 m) :
    Calls Try.prog 8 #[.agg #[v0, v1, v2, v3, v4, .int .i64 m.now], .agg #[u0, u1, u2, u3, u4, .int .i64 m.now]] w fun e w' => e = .returned (.bool true) ∧ Below w.heap.size w w' := by
  have Hv := hide h
  have Hu := hide k
  obtain ⟨a0, p0, rfl, _, _⟩ := IsRooms.shape h.rooms
  obtain ⟨a1, p1, rfl, hc1, hm1⟩ := IsRec.shape h.guilds
  obtain ⟨a2, p2, rfl, hc2, hm2⟩ := IsRec.shape h.smiths
  obtain ⟨a3, p3, rfl, hc3, hm3⟩ := IsRec.shape h.desks
  obtain ⟨a4, p4, rfl, hc4, hm4⟩ := IsRec.shape h.paces
  obtain ⟨b0, q0, rfl, _, _⟩ := IsRooms.shape k.rooms
  obtain ⟨b1, q1, rfl, _, _⟩ := IsRec.shape k.guilds
  obtain ⟨b2, q2, rfl, _, _⟩ := IsRec.shape k.smiths
  obtain ⟨b3, q3, rfl, _, _⟩ := IsRec.shape k.desks
  obtain ⟨b4, q4, rfl, _, _⟩ := IsRec.shape k.paces
  clear h k
  go_enter Try.func8, Try.ntmps8
  go_wp2_with fail
  have BB : Hid (Below w.heap.size w ((w.alloc (.cells #[.slice a0 m.rooms.length p0, .slice a1 m.guilds.length p1, .slice a2 m.smiths.length p2, .slice a3 m.desks.length p3, .slice a4 m.paces.length p4, .int .i64 m.now] 34)).alloc (.cells #[.slice b0 m.rooms.length q0, .slice b1 m.guilds.length q1, .slice b2 m.smiths.length q2, .slice b3 m.desks.length q3, .slice b4 m.paces.length q4, .int .i64 m.now] 34))) := hide (((Below.refl _ _).alloc (Nat.le_refl _) _).alloc (by simp) _)
  have ka : Hid (Blk ((w.alloc (.cells #[.slice a0 m.rooms.length p0, .slice a1 m.guilds.length p1, .slice a2 m.smiths.length p2, .slice a3 m.desks.length p3, .slice a4 m.paces.length p4, .int .i64 m.now] 34)).alloc (.cells #[.slice b0 m.rooms.length q0, .slice b1 m.guilds.length q1, .slice b2 m.smiths.length q2, .slice b3 m.desks.length q3, .slice b4 m.paces.length q4, .int .i64 m.now] 34)) w.heap.size 34 #[.slice a0 m.rooms.length p0, .slice a1 m.guilds.length p1, .slice a2 m.smiths.length p2, .slice a3 m.desks.length p3, .slice a4 m.paces.length p4, .int .i64 m.now]) := hide ((Blk.new w _ _).alloc _)
  have kb : Hid (Blk ((w.alloc (.cells #[.slice a0 m.rooms.length p0, .slice a1 m.guilds.length p1, .slice a2 m.smiths.length p2, .slice a3 m.desks.length p3, .slice a4 m.paces.length p4, .int .i64 m.now] 34)).alloc (.cells #[.slice b0 m.rooms.length q0, .slice b1 m.guilds.length q1, .slice b2 m.smiths.length q2, .slice b3 m.desks.length q3, .slice b4 m.paces.length q4, .int .i64 m.now] 34)) (w.heap.size + 1) 34 #[.slice b0 m.rooms.length q0, .slice b1 m.guilds.length q1, .slice b2 m.smiths.length q2, .slice b3 m.desks.length q3, .slice b4 m.paces.length q4, .int .i64 m.now]) := hide (by
    have k := Blk.new (w.alloc (.cells #[.slice a0 m.rooms.length p0, .slice a1 m.guilds.length p1, .slice a2 m.smiths.length p2, .slice a3 m.desks.length p3, .slice a4 m.paces.length p4, .int .i64 m.now] 34)) 34 #[.slice b0 m.rooms.length q0, .slice b1 m.guilds.length q1, .slice b2 m.smiths.length q2, .slice b3 m.desks.length q3, .slice b4 m.paces.length q4, .int .i64 m.now]
    rw [World.size_alloc] at k
    exact k)
  generalize (w.alloc (.cells #[.slice a0 m.rooms.length p0, .slice a1 m.guilds.length p1, .slice a2 m.smiths.length p2, .slice a3 m.desks.length p3, .slice a4 m.paces.length p4, .int .i64 m.now] 34)).alloc (.cells #[.slice b0 m.rooms.length q0, .slice b1 m.guilds.length q1, .slice b2 m.smiths.length q2, .slice b3 m.desks.length q3, .slice b4 m.paces.length q4, .int .i64 m.now] 34) = W at *
  refine (eqHall_yes ((unhide Hv).below (unhide BB)).rooms ((unhide Hu).below (unhide BB)).rooms).mono ?_
  rintro e w1 ⟨rfl, hb⟩
  replace ka := hide ((unhide ka).below hb (unhide ka).lt)
  replace kb := hide ((unhide kb).below hb (unhide kb).lt)
  replace BB := hide ((unhide BB).trans (hb.mono (unhide BB).size))
  clear hb
  have c1 := (unhide ka).cell (i := 1) (v := .slice a1 m.guilds.length p1) rfl
  have d1 := (unhide kb).cell (i := 1) (v := .slice b1 m.guilds.length q1) rfl
  go_wp2_with fail
  clear c1 d1
  refine (eqGuildS_yes ((unhide Hv).below (unhide BB)).guilds ((unhide Hu).below (unhide BB)).guilds).mono ?_
  rintro e w2 ⟨rfl, hb⟩
  replace ka := hide ((unhide ka).below hb (unhide ka).lt)
  replace kb := hide ((unhide kb).below hb (unhide kb).lt)
  replace BB := hide ((unhide BB).trans (hb.mono (unhide BB).size))
  clear hb
  have c2 := (unhide ka).cell (i := 2) (v := .slice a2 m.smiths.length p2) rfl
  have d2 := (unhide kb).cell (i := 2) (v := .slice b2 m.smiths.length q2) rfl
  go_wp2_with fail
  clear c2 d2
  refine (eqSmithS_yes ((unhide Hv).below (unhide BB)).smiths ((unhide Hu).below (unhide BB)).smiths).mono ?_
  rintro e w3 ⟨rfl, hb⟩
  replace ka := hide ((unhide ka).below hb (unhide ka).lt)
  replace kb := hide ((unhide kb).below hb (unhide kb).lt)
  replace BB := hide ((unhide BB).trans (hb.mono (unhide BB).size))
  clear hb
  have c3 := (unhide ka).cell (i := 3) (v := .slice a3 m.desks.length p3) rfl
  have d3 := (unhide kb).cell (i := 3) (v := .slice b3 m.desks.length q3) rfl
  go_wp2_with fail
  clear c3 d3
  refine (eqDeskS_yes ((unhide Hv).below (unhide BB)).desks ((unhide Hu).below (unhide BB)).desks).mono ?_
  rintro e w4 ⟨rfl, hb⟩
  replace ka := hide ((unhide ka).below hb (unhide ka).lt)
  replace kb := hide ((unhide kb).below hb (unhide kb).lt)
  replace BB := hide ((unhide BB).trans (hb.mono (unhide BB).size))
  clear hb
  have c4 := (unhide ka).cell (i := 4) (v := .slice a4 m.paces.length p4) rfl
  have d4 := (unhide kb).cell (i := 4) (v := .slice b4 m.paces.length q4) rfl
  go_wp2_with fail
  clear c4 d4
  refine (eqNums_yes ((unhide Hv).below (unhide BB)).paces ((unhide Hu).below (unhide BB)).paces).mono ?_
  rintro e w5 ⟨rfl, hb⟩
  replace ka := hide ((unhide ka).below hb (unhide ka).lt)
  replace kb := hide ((unhide kb).below hb (unhide kb).lt)
  replace BB := hide ((unhide BB).trans (hb.mono (unhide BB).size))
  clear hb
  have c5 := (unhide ka).cell (i := 5) (v := .int .i64 m.now) rfl
  have d5 := (unhide kb).cell (i := 5) (v := .int .i64 m.now) rfl
  go_wp2_with fail
  go_ret
  exact ⟨rfl, unhide BB⟩

end Go.Proofs.Ytmhagllddhjgmaa

