/- What the proof rests on, part 6: lists and numbers, how they lie in memory, and contracts of the calls. No condition but those that a theorem names. -/
import Derived.Test.YtmhagllddhjgmabGreatXu01
import Derived.Test.YtmhagllddhjgmabGreatXu05
import Derived.WalkKit
import Derived.ProofKit
import Derived.OpenShut
import Derived.Outline
import Derived.Deep.QuietTactic
import Derived.BigQuiet
import Derived.Laws.OwnMore
import Derived.OwnWalk
import Derived.Lib.QuietBelow
import Derived.Maps.AppendAt
import Derived.Lib.SmallJoins
/- Lists of records (Guild): what they read as, and contracts of the laws' own helpers over them: how many, copies in memory of their own, that two that read alike are alike. Conditions: the slices can be read; what is copied is no longer than 2^20. -/
namespace Go.Proofs.YtmhagllddhjgmabGreat
open Go.ChangeShapes Go.WideShapes Go.ChangeAt Go.RowKit Go.Sort
set_option linter.unusedVariables false

abbrev GuildV := Int × Int × Int
def encGuild (p : GuildV) : List Value := [.int .i64 p.1, .int .i64 p.2.1, .int .i64 p.2.2]
theorem encGuild_len (p : GuildV) : (encGuild p).length = 3 := rfl
abbrev IsGuilds (w : World) (v : Value) (ps : List GuildV) : Prop := IsRec 3 encGuild w v ps
abbrev GuildsAt (n₀ : Nat) (w : World) (v : Value) (ps : List GuildV) : Prop := RecAt 78 3 encGuild n₀ w v ps
theorem infoGuild : (Tryz.prog.info? 78).map (fun i => (i.zero, i.size, i.bytes)) = some (some (.agg #[.int .i64 0, .int .i64 0, .int .i64 0]), 3, 24) := by kernel_rfl
theorem GuildsAt.list {n₀ : Nat} {w : World} {v : Value} {ps : List GuildV} (h : GuildsAt n₀ w v ps) : IsGuilds w v ps := RecAt.recs encGuild_len (by omega) h
theorem guild_cells {w : World} {b off : Nat} {ps : List GuildV} (h : ∀ j, j < ps.length → ∀ i u, (encGuild (recAt ps j))[i]? = some u → w.cell? ⟨b, off + j * 3 + i, none⟩ = some u) {j : Nat} (hj : j < ps.length) :
    w.cell? ⟨b, off + j * 3, none⟩ = some (.int .i64 (recAt ps j).1) ∧ w.cell? ⟨b, off + j * 3 + 1, none⟩ = some (.int .i64 (recAt ps j).2.1) ∧ w.cell? ⟨b, off + j * 3 + 2, none⟩ = some (.int .i64 (recAt ps j).2.2) :=
  ⟨h j hj 0 _ rfl, h j hj 1 _ rfl, h j hj 2 _ rfl⟩

theorem szGuildS_any (a : Option Addr) (n cap : Nat) (left : Int) (hn : n ≤ 9223372036854775807) (h0 : 0 ≤ left) (h1 : left ≤ 1048576) (w : World) :
    Calls Tryz.prog 10 #[.slice a n cap, .int .i64 left] w fun e w' => e = .returned (.int .i64 (szV n left)) ∧ w' = w := by
  by_cases h : left - n < 0
  all_goals
    go_enter Tryz.func10, Tryz.ntmps10
    go_wp2
    go_ret
    exact ⟨ret_int (by first | exact (szV_f (by omega)).symm | exact (szV_t (by omega)).symm), rfl⟩

set_option maxHeartbeats 2000000 in
theorem eqGuild_yes (x0 : Int) (x1 : Int) (x2 : Int) (w : World) :
    Calls Tryz.prog 49 #[.agg #[.int .i64 x0, .int .i64 x1, .int .i64 x2], .agg #[.int .i64 x0, .int .i64 x1, .int .i64 x2]] w fun e w' => e = .returned (.bool true) ∧ Below w.heap.size w w' := by
  go_enter Tryz.func49, Tryz.ntmps49
  go_wp2_with fail
  go_ret
  exact ⟨rfl, ((Below.refl _ _).alloc (Nat.le_refl _) _).alloc (by simp) _⟩

set_option maxHeartbeats 4000000 in
theorem eqGuildS_yes {w : World} {v u : Value} {ps : List GuildV} (hv : IsGuilds w v ps) (hu : IsGuilds w u ps) :
    Calls Tryz.prog 28 #[v, u] w fun e w' => e = .returned (.bool true) ∧ Below w.heap.size w w' := by
  obtain ⟨a, cap, rfl, hc, hm, hr⟩ := hv
  obtain ⟨a', cap', rfl, hc', hm', hr'⟩ := hu
  have Hr := hide hr
  have Hr' := hide hr'
  clear hr hr'
  go_enter Tryz.func28, Tryz.ntmps28
  go_wp2_with fail
  go_loopw [5] (fun i wr => ∃ k : Nat, k ≤ ps.length ∧ i = .int .i64 k ∧ Below w.heap.size w wr) (fun i _ => ps.length - (intOf i).toNat)
  case atStart => exact ⟨0, Nat.zero_le _, rfl, Below.refl _ _⟩
  case round =>
    obtain ⟨k, hk, rfl, hb⟩ := hrel
    have Hb := hide hb
    by_cases hlt : k < ps.length
    · rcases unhide Hr with h0 | ⟨b, off, rfl, hbw, hcl⟩
      · rw [h0] at hlt; simp at hlt
      rcases unhide Hr' with h0 | ⟨b', off', rfl, hbw', hcl'⟩
      · rw [h0] at hlt; simp at hlt
      obtain ⟨c0, c1, c2⟩ := guild_cells hcl hlt
      obtain ⟨d0, d1, d2⟩ := guild_cells hcl' hlt
      generalize recAt ps k = p at *
      obtain ⟨x0, x1, x2⟩ := p
      simp only at c0 c1 c2 d0 d1 d2
      have k0 := cell_regrown ((hb.cell (p := ⟨b, off + k * 3, none⟩) hbw).trans c0)
      have m0 := cell_regrown ((hb.cell (p := ⟨b', off' + k * 3, none⟩) hbw').trans d0)
      have k1 := cell_regrown ((hb.cell (p := ⟨b, off + k * 3 + 1, none⟩) hbw).trans c1)
      have m1 := cell_regrown ((hb.cell (p := ⟨b', off' + k * 3 + 1, none⟩) hbw').trans d1)
      have k2 := cell_regrown ((hb.cell (p := ⟨b, off + k * 3 + 2, none⟩) hbw).trans c2)
      have m2 := cell_regrown ((hb.cell (p := ⟨b', off' + k * 3 + 2, none⟩) hbw').trans d2)
      clear hcl hcl' hb c0 c1 c2 d0 d1 d2
      go_wp2_with fail
      refine wp_region_quiet_below (by kernel_rfl) (by kernel_rfl) ?_
      repeat (go_big_quiet_step (exact Calls.regrown_of (eqGuild_yes _ _ _ _)))
      refine wpQuiet_nil ?_
      intro _ hw'
      obtain ⟨⟨dq, osq⟩, hw''⟩ := hw'
      subst hw''
      go_wp2_with fail
      go_roundw
      case rel => exact ⟨k + 1, by omega, by go_num, (unhide Hb).trans ((below_regrown _ _ _).mono (unhide Hb).size)⟩
      case measure => simp [intOf]; omega
    · go_wp2_with fail
      go_ret
      exact ⟨rfl, hb⟩

set_option maxHeartbeats 1000000 in
theorem toGuild_any (x0 : Int) (x1 : Int) (x2 : Int) (w : World) :
    Calls Tryz.prog 39 #[.agg #[.int .i64 x0, .int .i64 x1, .int .i64 x2]] w fun e w' => e = .returned (.agg #[.int .i64 x0, .int .i64 x1, .int .i64 x2]) ∧ Below w.heap.size w w' := by
  go_enter Tryz.func39, Tryz.ntmps39
  go_wp2_with fail
  exact bodyPost_ret (v := .agg #[.int .i64 x0, .int .i64 x1, .int .i64 x2]) (by simp [results, Tryz.results39, go_sem]) rfl ⟨rfl, (((Below.refl _ _).alloc (Nat.le_refl _) _).alloc (by simp) _).alloc (by simp; omega) _⟩

set_option maxRecDepth 100000 in
set_option maxHeartbeats 4000000 in
theorem toGuildS_any {w : World} {v : Value} {ps : List GuildV} (h : IsGuilds w v ps) (hs : ps.length ≤ 1048576) :
    Calls Tryz.prog 18 #[v] w fun e w' => ∃ v', e = .returned v' ∧ GuildsAt w.heap.size w' v' ps ∧ Below w.heap.size w w' := by
  obtain ⟨a, cap, rfl, hc, hm, hr⟩ := h
  have Hr := hide hr
  clear hr
  obtain ⟨i0, hi, hz0, hz1, hz2⟩ := info_parts infoGuild
  go_enter Tryz.func18, Tryz.ntmps18
  go_wp2_with (at_make; refine wpList_make_full _ rfl _ _ 36 rfl w.heap.size 78 i0 (.agg #[.int .i64 0, .int .i64 0, .int .i64 0]) 3 Tryz.underlying36 hi hz0 hz1 _ _ _ _ ps.length rfl rfl rfl rfl (by rw [hz2]; omega) (by unfold maxLen; omega) (Nat.le_refl _) ?_; intro w0 hown hgrow)
  have Hown : Hid (GuildsAt w.heap.size w0 (.slice (some ⟨w.heap.size, 0, none⟩) ps.length ps.length) (fillL ps (0, 0, 0) 0)) := hide (by
    rw [made_flat encGuild_len (by omega) (0, 0, 0) (Value.agg #[.int .i64 0, .int .i64 0, .int .i64 0]).cells rfl ps.length] at hown
    rw [fillL_zero]
    show w0.ownsRow _ _ _ _ (List.replicate ps.length _).length _
    rw [List.length_replicate]
    exact hown)
  have Hgr := hide hgrow
  clear hown hgrow
  go_loopw [4] (fun i wr => ∃ k : Nat, k ≤ ps.length ∧ i = .int .i64 k ∧ GuildsAt w.heap.size wr (.slice (some ⟨w.heap.size, 0, none⟩) ps.length ps.length) (fillL ps (0, 0, 0) k) ∧ Below w.heap.size w wr) (fun i _ => ps.length - (intOf i).toNat)
  case atStart => exact ⟨0, Nat.zero_le _, rfl, unhide Hown, (Below.refl _ _).grown (unhide Hgr) (Nat.le_refl _) (fun k e => by cases e)⟩
  case round =>
    obtain ⟨k, hk, rfl, hown, hb⟩ := hrel
    have Hb := hide hb
    by_cases hlt : k < ps.length
    · rcases unhide Hr with h0 | ⟨b, off, rfl, hbw, hcl⟩
      · rw [h0] at hlt; simp at hlt
      obtain ⟨c0, c1, c2⟩ := guild_cells hcl hlt
      rw [← hb.cell (p := ⟨b, off + k * 3, none⟩) hbw] at c0
      rw [← hb.cell (p := ⟨b, off + k * 3 + 1, none⟩) hbw] at c1
      rw [← hb.cell (p := ⟨b, off + k * 3 + 2, none⟩) hbw] at c2
      have Ho := hide hown
      have HS := hide (fillL_set (z := ((0, 0, 0) : GuildV)) hlt)
      generalize hp : recAt ps k = p at *
      obtain ⟨x0, x1, x2⟩ := p
      simp only at c0 c1 c2
      clear hcl hb hown hp
      go_wp2_with fail
      refine (toGuild_any _ _ _ _).mono ?_
      rintro e w1 ⟨rfl, hb1⟩
      have ho1 := RecAt.later (unhide Ho) hb1
      have hfl := fillL_len (z := ((0, 0, 0) : GuildV)) hk
      obtain ⟨g, hg, _, _, hcells, hfz⟩ := RecAt.view encGuild_len (by omega) ho1 hfl.symm (by omega)
      cases hg
      have hq := fun i u hu => hcells k (by omega) i u hu
      generalize recAt (fillL ps (0, 0, 0) k) k = old at hq
      have o0 := hq 0 _ rfl
      have f0 := hfz (k * 3)
      have o1 := hq 1 _ rfl
      have f1 := hfz (k * 3 + 1)
      have o2 := hq 2 _ rfl
      have f2 := hfz (k * 3 + 2)
      simp only [Nat.add_zero] at o0
      have Hp2 := hide (RecAt.put encGuild_len (by omega) ho1 hfl.symm (j := k) (by omega) (x0, x1, x2))
      have Hb1 := hide hb1
      have hsz := hb1.size
      have hsz0 := (unhide Hb).size
      clear ho1 hb1 hcells hq hfz hfl
      go_wp2_with fail
      go_roundw
      case rel => exact ⟨k + 1, by omega, by go_num, by have h9 := (unhide Hp2).1; rw [unhide HS] at h9; exact h9, ((unhide Hb).trans ((unhide Hb1).mono hsz0)).trans (below_grown (unhide Hp2).2 (Nat.le_refl _) (by omega))⟩
      case measure => simp [intOf]; omega
    · obtain rfl : k = ps.length := by omega
      rw [fillL_all] at hown
      go_wp2_with fail
      go_ret
      exact ⟨_, rfl, hown, hb⟩

end Go.Proofs.YtmhagllddhjgmabGreat

/- Lists of records (Smith): what they read as, and contracts of the laws' own helpers over them: how many, copies in memory of their own, that two that read alike are alike. Conditions: the slices can be read; what is copied is no longer than 2^20. -/
namespace Go.Proofs.YtmhagllddhjgmabGreat
open Go.ChangeShapes Go.WideShapes Go.ChangeAt Go.RowKit Go.Sort
set_option linter.unusedVariables false

abbrev SmithV := Int × Int × Int × Int × Int × Int × Int × Int × Int × Int × Int
def encSmith (p : SmithV) : List Value := [.int .i64 p.1, .int .i64 p.2.1, .int .i64 p.2.2.1, .int .i64 p.2.2.2.1, .int .i64 p.2.2.2.2.1, .int .i64 p.2.2.2.2.2.1, .int .i64 p.2.2.2.2.2.2.1, .int .i64 p.2.2.2.2.2.2.2.1, .int .i64 p.2.2.2.2.2.2.2.2.1, .int .i64 p.2.2.2.2.2.2.2.2.2.1, .int .i64 p.2.2.2.2.2.2.2.2.2.2]
theorem encSmith_len (p : SmithV) : (encSmith p).length = 11 := rfl
abbrev IsSmiths (w : World) (v : Value) (ps : List SmithV) : Prop := IsRec 11 encSmith w v ps
abbrev SmithsAt (n₀ : Nat) (w : World) (v : Value) (ps : List SmithV) : Prop := RecAt 73 11 encSmith n₀ w v ps
theorem infoSmith : (Tryz.prog.info? 73).map (fun i => (i.zero, i.size, i.bytes)) = some (some (.agg #[.int .i64 0, .int .i64 0, .int .i64 0, .int .i64 0, .int .i64 0, .int .i64 0, .int .i64 0, .int .i64 0, .int .i64 0, .int .i64 0, .int .i64 0]), 11, 88) := by kernel_rfl
theorem SmithsAt.list {n₀ : Nat} {w : World} {v : Value} {ps : List SmithV} (h : SmithsAt n₀ w v ps) : IsSmiths w v ps := RecAt.recs encSmith_len (by omega) h
theorem smith_cells {w : World} {b off : Nat} {ps : List SmithV} (h : ∀ j, j < ps.length → ∀ i u, (encSmith (recAt ps j))[i]? = some u → w.cell? ⟨b, off + j * 11 + i, none⟩ = some u) {j : Nat} (hj : j < ps.length) :
    w.cell? ⟨b, off + j * 11, none⟩ = some (.int .i64 (recAt ps j).1) ∧ w.cell? ⟨b, off + j * 11 + 1, none⟩ = some (.int .i64 (recAt ps j).2.1) ∧ w.cell? ⟨b, off + j * 11 + 2, none⟩ = some (.int .i64 (recAt ps j).2.2.1) ∧ w.cell? ⟨b, off + j * 11 + 3, none⟩ = some (.int .i64 (recAt ps j).2.2.2.1) ∧ w.cell? ⟨b, off + j * 11 + 4, none⟩ = some (.int .i64 (recAt ps j).2.2.2.2.1) ∧ w.cell? ⟨b, off + j * 11 + 5, none⟩ = some (.int .i64 (recAt ps j).2.2.2.2.2.1) ∧ w.cell? ⟨b, off + j * 11 + 6, none⟩ = some (.int .i64 (recAt ps j).2.2.2.2.2.2.1) ∧ w.cell? ⟨b, off + j * 11 + 7, none⟩ = some (.int .i64 (recAt ps j).2.2.2.2.2.2.2.1) ∧ w.cell? ⟨b, off + j * 11 + 8, none⟩ = some (.int .i64 (recAt ps j).2.2.2.2.2.2.2.2.1) ∧ w.cell? ⟨b, off + j * 11 + 9, none⟩ = some (.int .i64 (recAt ps j).2.2.2.2.2.2.2.2.2.1) ∧ w.cell? ⟨b, off + j * 11 + 10, none⟩ = some (.int .i64 (recAt ps j).2.2.2.2.2.2.2.2.2.2) :=
  ⟨h j hj 0 _ rfl, h j hj 1 _ rfl, h j hj 2 _ rfl, h j hj 3 _ rfl, h j hj 4 _ rfl, h j hj 5 _ rfl, h j hj 6 _ rfl, h j hj 7 _ rfl, h j hj 8 _ rfl, h j hj 9 _ rfl, h j hj 10 _ rfl⟩

theorem szSmithS_any (a : Option Addr) (n cap : Nat) (left : Int) (hn : n ≤ 9223372036854775807) (h0 : 0 ≤ left) (h1 : left ≤ 1048576) (w : World) :
    Calls Tryz.prog 11 #[.slice a n cap, .int .i64 left] w fun e w' => e = .returned (.int .i64 (szV n left)) ∧ w' = w := by
  by_cases h : left - n < 0
  all_goals
    go_enter Tryz.func11, Tryz.ntmps11
    go_wp2
    go_ret
    exact ⟨ret_int (by first | exact (szV_f (by omega)).symm | exact (szV_t (by omega)).symm), rfl⟩

set_option maxHeartbeats 2000000 in
theorem eqSmith_yes (x0 : Int) (x1 : Int) (x2 : Int) (x3 : Int) (x4 : Int) (x5 : Int) (x6 : Int) (x7 : Int) (x8 : Int) (x9 : Int) (x10 : Int) (w : World) :
    Calls Tryz.prog 50 #[.agg #[.int .i64 x0, .int .i64 x1, .int .i64 x2, .int .i64 x3, .int .i64 x4, .int .i64 x5, .int .i64 x6, .int .i64 x7, .int .i64 x8, .int .i64 x9, .int .i64 x10], .agg #[.int .i64 x0, .int .i64 x1, .int .i64 x2, .int .i64 x3, .int .i64 x4, .int .i64 x5, .int .i64 x6, .int .i64 x7, .int .i64 x8, .int .i64 x9, .int .i64 x10]] w fun e w' => e = .returned (.bool true) ∧ Below w.heap.size w w' := by
  go_enter Tryz.func50, Tryz.ntmps50
  go_wp2_with fail
  go_ret
  exact ⟨rfl, ((Below.refl _ _).alloc (Nat.le_refl _) _).alloc (by simp) _⟩

set_option maxHeartbeats 4000000 in
theorem eqSmithS_yes {w : World} {v u : Value} {ps : List SmithV} (hv : IsSmiths w v ps) (hu : IsSmiths w u ps) :
    Calls Tryz.prog 29 #[v, u] w fun e w' => e = .returned (.bool true) ∧ Below w.heap.size w w' := by
  obtain ⟨a, cap, rfl, hc, hm, hr⟩ := hv
  obtain ⟨a', cap', rfl, hc', hm', hr'⟩ := hu
  have Hr := hide hr
  have Hr' := hide hr'
  clear hr hr'
  go_enter Tryz.func29, Tryz.ntmps29
  go_wp2_with fail
  go_loopw [5] (fun i wr => ∃ k : Nat, k ≤ ps.length ∧ i = .int .i64 k ∧ Below w.heap.size w wr) (fun i _ => ps.length - (intOf i).toNat)
  case atStart => exact ⟨0, Nat.zero_le _, rfl, Below.refl _ _⟩
  case round =>
    obtain ⟨k, hk, rfl, hb⟩ := hrel
    have Hb := hide hb
    by_cases hlt : k < ps.length
    · rcases unhide Hr with h0 | ⟨b, off, rfl, hbw, hcl⟩
      · rw [h0] at hlt; simp at hlt
      rcases unhide Hr' with h0 | ⟨b', off', rfl, hbw', hcl'⟩
      · rw [h0] at hlt; simp at hlt
      obtain ⟨c0, c1, c2, c3, c4, c5, c6, c7, c8, c9, c10⟩ := smith_cells hcl hlt
      obtain ⟨d0, d1, d2, d3, d4, d5, d6, d7, d8, d9, d10⟩ := smith_cells hcl' hlt
      generalize recAt ps k = p at *
      obtain ⟨x0, x1, x2, x3, x4, x5, x6, x7, x8, x9, x10⟩ := p
      simp only at c0 c1 c2 c3 c4 c5 c6 c7 c8 c9 c10 d0 d1 d2 d3 d4 d5 d6 d7 d8 d9 d10
      have k0 := cell_regrown ((hb.cell (p := ⟨b, off + k * 11, none⟩) hbw).trans c0)
      have m0 := cell_regrown ((hb.cell (p := ⟨b', off' + k * 11, none⟩) hbw').trans d0)
      have k1 := cell_regrown ((hb.cell (p := ⟨b, off + k * 11 + 1, none⟩) hbw).trans c1)
      have m1 := cell_regrown ((hb.cell (p := ⟨b', off' + k * 11 + 1, none⟩) hbw').trans d1)
      have k2 := cell_regrown ((hb.cell (p := ⟨b, off + k * 11 + 2, none⟩) hbw).trans c2)
      have m2 := cell_regrown ((hb.cell (p := ⟨b', off' + k * 11 + 2, none⟩) hbw').trans d2)
      have k3 := cell_regrown ((hb.cell (p := ⟨b, off + k * 11 + 3, none⟩) hbw).trans c3)
      have m3 := cell_regrown ((hb.cell (p := ⟨b', off' + k * 11 + 3, none⟩) hbw').trans d3)
      have k4 := cell_regrown ((hb.cell (p := ⟨b, off + k * 11 + 4, none⟩) hbw).trans c4)
      have m4 := cell_regrown ((hb.cell (p := ⟨b', off' + k * 11 + 4, none⟩) hbw').trans d4)
      have k5 := cell_regrown ((hb.cell (p := ⟨b, off + k * 11 + 5, none⟩) hbw).trans c5)
      have m5 := cell_regrown ((hb.cell (p := ⟨b', off' + k * 11 + 5, none⟩) hbw').trans d5)
      have k6 := cell_regrown ((hb.cell (p := ⟨b, off + k * 11 + 6, none⟩) hbw).trans c6)
      have m6 := cell_regrown ((hb.cell (p := ⟨b', off' + k * 11 + 6, none⟩) hbw').trans d6)
      have k7 := cell_regrown ((hb.cell (p := ⟨b, off + k * 11 + 7, none⟩) hbw).trans c7)
      have m7 := cell_regrown ((hb.cell (p := ⟨b', off' + k * 11 + 7, none⟩) hbw').trans d7)
      have k8 := cell_regrown ((hb.cell (p := ⟨b, off + k * 11 + 8, none⟩) hbw).trans c8)
      have m8 := cell_regrown ((hb.cell (p := ⟨b', off' + k * 11 + 8, none⟩) hbw').trans d8)
      have k9 := cell_regrown ((hb.cell (p := ⟨b, off + k * 11 + 9, none⟩) hbw).trans c9)
      have m9 := cell_regrown ((hb.cell (p := ⟨b', off' + k * 11 + 9, none⟩) hbw').trans d9)
      have k10 := cell_regrown ((hb.cell (p := ⟨b, off + k * 11 + 10, none⟩) hbw).trans c10)
      have m10 := cell_regrown ((hb.cell (p := ⟨b', off' + k * 11 + 10, none⟩) hbw').trans d10)
      clear hcl hcl' hb c0 c1 c2 c3 c4 c5 c6 c7 c8 c9 c10 d0 d1 d2 d3 d4 d5 d6 d7 d8 d9 d10
      go_wp2_with fail
      refine wp_region_quiet_below (by kernel_rfl) (by kernel_rfl) ?_
      repeat (go_big_quiet_step (exact Calls.regrown_of (eqSmith_yes _ _ _ _ _ _ _ _ _ _ _ _)))
      refine wpQuiet_nil ?_
      intro _ hw'
      obtain ⟨⟨dq, osq⟩, hw''⟩ := hw'
      subst hw''
      go_wp2_with fail
      go_roundw
      case rel => exact ⟨k + 1, by omega, by go_num, (unhide Hb).trans ((below_regrown _ _ _).mono (unhide Hb).size)⟩
      case measure => simp [intOf]; omega
    · go_wp2_with fail
      go_ret
      exact ⟨rfl, hb⟩

set_option maxHeartbeats 1000000 in
theorem toSmith_any (x0 : Int) (x1 : Int) (x2 : Int) (x3 : Int) (x4 : Int) (x5 : Int) (x6 : Int) (x7 : Int) (x8 : Int) (x9 : Int) (x10 : Int) (w : World) :
    Calls Tryz.prog 40 #[.agg #[.int .i64 x0, .int .i64 x1, .int .i64 x2, .int .i64 x3, .int .i64 x4, .int .i64 x5, .int .i64 x6, .int .i64 x7, .int .i64 x8, .int .i64 x9, .int .i64 x10]] w fun e w' => e = .returned (.agg #[.int .i64 x0, .int .i64 x1, .int .i64 x2, .int .i64 x3, .int .i64 x4, .int .i64 x5, .int .i64 x6, .int .i64 x7, .int .i64 x8, .int .i64 x9, .int .i64 x10]) ∧ Below w.heap.size w w' := by
  go_enter Tryz.func40, Tryz.ntmps40
  go_wp2_with fail
  exact bodyPost_ret (v := .agg #[.int .i64 x0, .int .i64 x1, .int .i64 x2, .int .i64 x3, .int .i64 x4, .int .i64 x5, .int .i64 x6, .int .i64 x7, .int .i64 x8, .int .i64 x9, .int .i64 x10]) (by simp [results, Tryz.results40, go_sem]) rfl ⟨rfl, (((Below.refl _ _).alloc (Nat.le_refl _) _).alloc (by simp) _).alloc (by simp; omega) _⟩

set_option maxRecDepth 100000 in
set_option maxHeartbeats 4000000 in
theorem toSmithS_any {w : World} {v : Value} {ps : List SmithV} (h : IsSmiths w v ps) (hs : ps.length ≤ 1048576) :
    Calls Tryz.prog 19 #[v] w fun e w' => ∃ v', e = .returned v' ∧ SmithsAt w.heap.size w' v' ps ∧ Below w.heap.size w w' := by
  obtain ⟨a, cap, rfl, hc, hm, hr⟩ := h
  have Hr := hide hr
  clear hr
  obtain ⟨i0, hi, hz0, hz1, hz2⟩ := info_parts infoSmith
  go_enter Tryz.func19, Tryz.ntmps19
  go_wp2_with (at_make; refine wpList_make_full _ rfl _ _ 37 rfl w.heap.size 73 i0 (.agg #[.int .i64 0, .int .i64 0, .int .i64 0, .int .i64 0, .int .i64 0, .int .i64 0, .int .i64 0, .int .i64 0, .int .i64 0, .int .i64 0, .int .i64 0]) 11 Tryz.underlying37 hi hz0 hz1 _ _ _ _ ps.length rfl rfl rfl rfl (by rw [hz2]; omega) (by unfold maxLen; omega) (Nat.le_refl _) ?_; intro w0 hown hgrow)
  have Hown : Hid (SmithsAt w.heap.size w0 (.slice (some ⟨w.heap.size, 0, none⟩) ps.length ps.length) (fillL ps (0, 0, 0, 0, 0, 0, 0, 0, 0, 0, 0) 0)) := hide (by
    rw [made_flat encSmith_len (by omega) (0, 0, 0, 0, 0, 0, 0, 0, 0, 0, 0) (Value.agg #[.int .i64 0, .int .i64 0, .int .i64 0, .int .i64 0, .int .i64 0, .int .i64 0, .int .i64 0, .int .i64 0, .int .i64 0, .int .i64 0, .int .i64 0]).cells rfl ps.length] at hown
    rw [fillL_zero]
    show w0.ownsRow _ _ _ _ (List.replicate ps.length _).length _
    rw [List.length_replicate]
    exact hown)
  have Hgr := hide hgrow
  clear hown hgrow
  go_loopw [4] (fun i wr => ∃ k : Nat, k ≤ ps.length ∧ i = .int .i64 k ∧ SmithsAt w.heap.size wr (.slice (some ⟨w.heap.size, 0, none⟩) ps.length ps.length) (fillL ps (0, 0, 0, 0, 0, 0, 0, 0, 0, 0, 0) k) ∧ Below w.heap.size w wr) (fun i _ => ps.length - (intOf i).toNat)
  case atStart => exact ⟨0, Nat.zero_le _, rfl, unhide Hown, (Below.refl _ _).grown (unhide Hgr) (Nat.le_refl _) (fun k e => by cases e)⟩
  case round =>
    obtain ⟨k, hk, rfl, hown, hb⟩ := hrel
    have Hb := hide hb
    by_cases hlt : k < ps.length
    · rcases unhide Hr with h0 | ⟨b, off, rfl, hbw, hcl⟩
      · rw [h0] at hlt; simp at hlt
      obtain ⟨c0, c1, c2, c3, c4, c5, c6, c7, c8, c9, c10⟩ := smith_cells hcl hlt
      rw [← hb.cell (p := ⟨b, off + k * 11, none⟩) hbw] at c0
      rw [← hb.cell (p := ⟨b, off + k * 11 + 1, none⟩) hbw] at c1
      rw [← hb.cell (p := ⟨b, off + k * 11 + 2, none⟩) hbw] at c2
      rw [← hb.cell (p := ⟨b, off + k * 11 + 3, none⟩) hbw] at c3
      rw [← hb.cell (p := ⟨b, off + k * 11 + 4, none⟩) hbw] at c4
      rw [← hb.cell (p := ⟨b, off + k * 11 + 5, none⟩) hbw] at c5
      rw [← hb.cell (p := ⟨b, off + k * 11 + 6, none⟩) hbw] at c6
      rw [← hb.cell (p := ⟨b, off + k * 11 + 7, none⟩) hbw] at c7
      rw [← hb.cell (p := ⟨b, off + k * 11 + 8, none⟩) hbw] at c8
      rw [← hb.cell (p := ⟨b, off + k * 11 + 9, none⟩) hbw] at c9
      rw [← hb.cell (p := ⟨b, off + k * 11 + 10, none⟩) hbw] at c10
      have Ho := hide hown
      have HS := hide (fillL_set (z := ((0, 0, 0, 0, 0, 0, 0, 0, 0, 0, 0) : SmithV)) hlt)
      generalize hp : recAt ps k = p at *
      obtain ⟨x0, x1, x2, x3, x4, x5, x6, x7, x8, x9, x10⟩ := p
      simp only at c0 c1 c2 c3 c4 c5 c6 c7 c8 c9 c10
      clear hcl hb hown hp
      go_wp2_with fail
      refine (toSmith_any _ _ _ _ _ _ _ _ _ _ _ _).mono ?_
      rintro e w1 ⟨rfl, hb1⟩
      have ho1 := RecAt.later (unhide Ho) hb1
      have hfl := fillL_len (z := ((0, 0, 0, 0, 0, 0, 0, 0, 0, 0, 0) : SmithV)) hk
      obtain ⟨g, hg, _, _, hcells, hfz⟩ := RecAt.view encSmith_len (by omega) ho1 hfl.symm (by omega)
      cases hg
      have hq := fun i u hu => hcells k (by omega) i u hu
      generalize recAt (fillL ps (0, 0, 0, 0, 0, 0, 0, 0, 0, 0, 0) k) k = old at hq
      have o0 := hq 0 _ rfl
      have f0 := hfz (k * 11)
      have o1 := hq 1 _ rfl
      have f1 := hfz (k * 11 + 1)
      have o2 := hq 2 _ rfl
      have f2 := hfz (k * 11 + 2)
      have o3 := hq 3 _ rfl
      have f3 := hfz (k * 11 + 3)
      have o4 := hq 4 _ rfl
      have f4 := hfz (k * 11 + 4)
      have o5 := hq 5 _ rfl
      have f5 := hfz (k * 11 + 5)
      have o6 := hq 6 _ rfl
      have f6 := hfz (k * 11 + 6)
      have o7 := hq 7 _ rfl
      have f7 := hfz (k * 11 + 7)
      have o8 := hq 8 _ rfl
      have f8 := hfz (k * 11 + 8)
      have o9 := hq 9 _ rfl
      have f9 := hfz (k * 11 + 9)
      have o10 := hq 10 _ rfl
      have f10 := hfz (k * 11 + 10)
      simp only [Nat.add_zero] at o0
      have Hp2 := hide (RecAt.put encSmith_len (by omega) ho1 hfl.symm (j := k) (by omega) (x0, x1, x2, x3, x4, x5, x6, x7, x8, x9, x10))
      have Hb1 := hide hb1
      have hsz := hb1.size
      have hsz0 := (unhide Hb).size
      clear ho1 hb1 hcells hq hfz hfl
      go_wp2_with fail
      go_roundw
      case rel => exact ⟨k + 1, by omega, by go_num, by have h9 := (unhide Hp2).1; rw [unhide HS] at h9; exact h9, ((unhide Hb).trans ((unhide Hb1).mono hsz0)).trans (below_grown (unhide Hp2).2 (Nat.le_refl _) (by omega))⟩
      case measure => simp [intOf]; omega
    · obtain rfl : k = ps.length := by omega
      rw [fillL_all] at hown
      go_wp2_with fail
      go_ret
      exact ⟨_, rfl, hown, hb⟩

end Go.Proofs.YtmhagllddhjgmabGreat

