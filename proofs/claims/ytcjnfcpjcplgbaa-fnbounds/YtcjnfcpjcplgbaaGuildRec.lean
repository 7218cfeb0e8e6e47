/- Lists of records (Guild): what they read as, and contracts of the laws' own helpers over them: how many, copies in memory of their own, that two that read alike are alike. Conditions: the slices can be read; what is copied is no longer than 2^20. -/
import Derived.Test.YtcjnfcpjcplgbaaRecKit2
namespace Go.Proofs.Ytcjnfcpjcplgbaa
open Go.ChangeShapes Go.WideShapes Go.ChangeAt Go.RowKit Go.Sort
set_option linter.unusedVariables false

abbrev GuildV := Int × Int × Int
def encGuild (p : GuildV) : List Value := [.int .i64 p.1, .int .i64 p.2.1, .int .i64 p.2.2]
theorem encGuild_len (p : GuildV) : (encGuild p).length = 3 := rfl
abbrev IsGuilds (w : World) (v : Value) (ps : List GuildV) : Prop := IsRec 3 encGuild w v ps
abbrev GuildsAt (n₀ : Nat) (w : World) (v : Value) (ps : List GuildV) : Prop := RecAt 34 3 encGuild n₀ w v ps
theorem infoGuild : (Try.prog.info? 34).map (fun i => (i.zero, i.size, i.bytes)) = some (some (.agg #[.int .i64 0, .int .i64 0, .int .i64 0]), 3, 24) := by kernel_rfl
theorem GuildsAt.list {n₀ : Nat} {w : World} {v : Value} {ps : List GuildV} (h : GuildsAt n₀ w v ps) : IsGuilds w v ps := RecAt.recs encGuild_len (by omega) h
theorem guild_cells {w : World} {b off : Nat} {ps : List GuildV} (h : ∀ j, j < ps.length → ∀ i u, (encGuild (recAt ps j))[i]? = some u → w.cell? ⟨b, off + j * 3 + i, none⟩ = some u) {j : Nat} (hj : j < ps.length) :
    w.cell? ⟨b, off + j * 3, none⟩ = some (.int .i64 (recAt ps j).1) ∧ w.cell? ⟨b, off + j * 3 + 1, none⟩ = some (.int .i64 (recAt ps j).2.1) ∧ w.cell? ⟨b, off + j * 3 + 2, none⟩ = some (.int .i64 (recAt ps j).2.2) :=
  ⟨h j hj 0 _ rfl, h j hj 1 _ rfl, h j hj 2 _ rfl⟩

theorem szGuildS_any (a : Option Addr) (n cap : Nat) (left : Int) (hn : n ≤ 9223372036854775807) (h0 : 0 ≤ left) (h1 : left ≤ 1048576) (w : World) :
    Calls Try.prog 16 #[.slice a n cap, .int .i64 left] w fun e w' => e = .returned (.int .i64 (szV n left)) ∧ w' = w := by
  by_cases h : left - n < 0
  all_goals
    go_enter Try.func16, Try.ntmps16
    go_wp2
    go_ret
    exact ⟨ret_int (by first | exact (szV_f (by omega)).symm | exact (szV_t (by omega)).symm), rfl⟩

set_option maxHeartbeats 2000000 in
theorem eqGuild_yes (x0 : Int) (x1 : Int) (x2 : Int) (w : World) :
    Calls Try.prog 33 #[.agg #[.int .i64 x0, .int .i64 x1, .int .i64 x2], .agg #[.int .i64 x0, .int .i64 x1, .int .i64 x2]] w fun e w' => e = .returned (.bool true) ∧ Below w.heap.size w w' := by
  go_enter Try.func33, Try.ntmps33
  go_wp2_with fail
  go_ret
  exact ⟨rfl, ((Below.refl _ _).alloc (Nat.le_refl _) _).alloc (by simp) _⟩

set_option maxHeartbeats 4000000 in
theorem eqGuildS_yes {w : World} {v u : Value} {ps : List GuildV} (hv : IsGuilds w v ps) (hu : IsGuilds w u ps) :
    Calls Try.prog 18 #[v, u] w fun e w' => e = .returned (.bool true) ∧ Below w.heap.size w w' := by
  obtain ⟨a, cap, rfl, hc, hm, hr⟩ := hv
  obtain ⟨a', cap', rfl, hc', hm', hr'⟩ := hu
  have Hr := hide hr
  have Hr' := hide hr'
  clear hr hr'
  go_enter Try.func18, Try.ntmps18
  go_wp2_with fail
  go_loopw [5] (fun i wr => ∃ k : Nat, k ≤ ps.length ∧ i = .int .i64 k ∧ Below w.heap.size w wr) (fun i _ => ps.length - (intOf i).toNat)
  case atStart => exact ⟨0, Nat.zero_le _, rfl, Below.refl _ _⟩
  case round =>
    obtain ⟨k, hk, rfl, hb⟩ := hrel
    have Hb := hide hb
    by_cases hlt : k < ps.length
    · rcases unhide Hr with h0 | ⟨b, off, rfl, hbw, hcl⟩
      · rw [h0] at hlt; simp at hlt
      rcases unhide Hr' with h0 | ⟨b', off', rfl, hbw', hcl'⟩
      · rw [h0] at hlt; simp at hlt
      obtain ⟨c0, c1, c2⟩ := guild_cells hcl hlt
      obtain ⟨d0, d1, d2⟩ := guild_cells hcl' hlt
      generalize recAt ps k = p at *
      obtain ⟨x0, x1, x2⟩ := p
      simp only at c0 c1 c2 d0 d1 d2
      have k0 := cell_regrown ((hb.cell (p := ⟨b, off + k * 3, none⟩) hbw).trans c0)
      have m0 := cell_regrown ((hb.cell (p := ⟨b', off' + k * 3, none⟩) hbw').trans d0)
      have k1 := cell_regrown ((hb.cell (p := ⟨b, off + k * 3 + 1, none⟩) hbw).trans c1)
      have m1 := cell_regrown ((hb.cell (p := ⟨b', off' + k * 3 + 1, none⟩) hbw').trans d1)
      have k2 := cell_regrown ((hb.cell (p := ⟨b, off + k * 3 + 2, none⟩) hbw).trans c2)
      have m2 := cell_regrown ((hb.cell (p := ⟨b', off' + k * 3 + 2, none⟩) hbw').trans d2)
      clear hcl hcl' hb c0 c1 c2 d0 d1 d2
      go_wp2_with fail
      refine wp_region_quiet_below (by kernel_rfl) (by kernel_rfl) ?_
      repeat (go_big_quiet_step (exact Calls.regrown_of (eqGuild_yes _ _ _ _)))
      refine wpQuiet_nil ?_
      intro _ hw'
      obtain ⟨⟨dq, osq⟩, hw''⟩ := hw'
      subst hw''
      go_wp2_with fail
      go_roundw
      case rel => exact ⟨k + 1, by omega, by go_num, (unhide Hb).trans ((below_regrown _ _ _).mono (unhide Hb).size)⟩
      case measure => simp [intOf]; omega
    · go_wp2_with fail
      go_ret
      exact ⟨rfl, hb⟩

set_option maxHeartbeats 1000000 in
theorem toGuild_any (x0 : Int) (x1 : Int) (x2 : Int) (w : World) :
    Calls Try.prog 32 #[.agg #[.int .i64 x0, .int .i64 x1, .int .i64 x2]] w fun e w' => e = .returned (.agg #[.int .i64 x0, .int .i64 x1, .int .i64 x2]) ∧ Below w.heap.size w w' := by
  go_enter Try.func32, Try.ntmps32
  go_wp2_with fail
  exact bodyPost_ret (v := .agg #[.int .i64 x0, .int .i64 x1, .int .i64 x2]) (by simp [results, Try.results32, go_sem]) rfl ⟨rfl, (((Below.refl _ _).alloc (Nat.le_refl _) _).alloc (by simp) _).alloc (by simp; omega) _⟩

set_option maxRecDepth 100000 in
set_option maxHeartbeats 4000000 in
theorem toGuildS_any {w : World} {v : Value} {ps : List GuildV} (h : IsGuilds w v ps) (hs : ps.length ≤ 1048576) :
    Calls Try.prog 17 #[v] w fun e w' => ∃ v', e = .returned v' ∧ GuildsAt w.heap.size w' v' ps ∧ Below w.heap.size w w' := by
  obtain ⟨a, cap, rfl, hc, hm, hr⟩ := h
  have Hr := hide hr
  clear hr
  obtain ⟨i0, hi, hz0, hz1, hz2⟩ := info_parts infoGuild
  go_enter Try.func17, Try.ntmps17
  go_wp2_with (at_make; refine wpList_make_full _ rfl _ _ 24 rfl w.heap.size 34 i0 (.agg #[.int .i64 0, .int .i64 0, .int .i64 0]) 3 Try.underlying24 hi hz0 hz1 _ _ _ _ ps.length rfl rfl rfl rfl (by rw [hz2]; omega) (by unfold maxLen; omega) (Nat.le_refl _) ?_; intro w0 hown hgrow)
  have Hown : Hid (GuildsAt w.heap.size w0 (.slice (some ⟨w.heap.size, 0, none⟩) ps.length ps.length) (fillL ps (0, 0, 0) 0)) := hide (by
    rw [made_flat encGuild_len (by omega) (0, 0, 0) (Value.agg #[.int .i64 0, .int .i64 0, .int .i64 0]).cells rfl ps.length] at hown
    rw [fillL_zero]
    show w0.ownsRow _ _ _ _ (List.replicate ps.length _).length _
    rw [List.length_replicate]
    exact hown)
  have Hgr := hide hgrow
  clear hown hgrow
  go_loopw [4] (fun i wr => ∃ k : Nat, k ≤ ps.length ∧ i = .int .i64 k ∧ GuildsAt w.heap.size wr (.slice (some ⟨w.heap.size, 0, none⟩) ps.length ps.length) (fillL ps (0, 0, 0) k) ∧ Below w.heap.size w wr) (fun i _ => ps.length - (intOf i).toNat)
  case atStart => exact ⟨0, Nat.zero_le _, rfl, unhide Hown, (Below.refl _ _).grown (unhide Hgr) (Nat.le_refl _) (fun k e => by cases e)⟩
  case round =>
    obtain ⟨k, hk, rfl, hown, hb⟩ := hrel
    have Hb := hide hb
    by_cases hlt : k < ps.length
    · rcases unhide Hr with h0 | ⟨b, off, rfl, hbw, hcl⟩
      · rw [h0] at hlt; simp at hlt
      obtain ⟨c0, c1, c2⟩ := guild_cells hcl hlt
      rw [← hb.cell (p := ⟨b, off + k * 3, none⟩) hbw] at c0
      rw [← hb.cell (p := ⟨b, off + k * 3 + 1, none⟩) hbw] at c1
      rw [← hb.cell (p := ⟨b, off + k * 3 + 2, none⟩) hbw] at c2
      have Ho := hide hown
      have HS := hide (fillL_set (z := ((0, 0, 0) : GuildV)) hlt)
      generalize hp : recAt ps k = p at *
      obtain ⟨x0, x1, x2⟩ := p
      simp only at c0 c1 c2
      clear hcl hb hown hp
      go_wp2_with fail
      refine (toGuild_any _ _ _ _).mono ?_
      rintro e w1 ⟨rfl, hb1⟩
      have ho1 := RecAt.later (unhide Ho) hb1
      have hfl := fillL_len (z := ((0, 0, 0) : GuildV)) hk
      obtain ⟨g, hg, _, _, hcells, hfz⟩ := RecAt.view encGuild_len (by omega) ho1 hfl.symm (by omega)
      cases hg
      have hq := fun i u hu => hcells k (by omega) i u hu
      generalize recAt (fillL ps (0, 0, 0) k) k = old at hq
      have o0 := hq 0 _ rfl
      have f0 := hfz (k * 3)
      have o1 := hq 1 _ rfl
      have f1 := hfz (k * 3 + 1)
      have o2 := hq 2 _ rfl
      have f2 := hfz (k * 3 + 2)
      simp only [Nat.add_zero] at o0
      have Hp2 := hide (RecAt.put encGuild_len (by omega) ho1 hfl.symm (j := k) (by omega) (x0, x1, x2))
      have Hb1 := hide hb1
      have hsz := hb1.size
      have hsz0 := (unhide Hb).size
      clear ho1 hb1 hcells hq hfz hfl
      go_wp2_with fail
      go_roundw
      case rel => exact ⟨k + 1, by omega, by go_num, by have h9 := (unhide Hp2).1; rw [unhide HS] at h9; exact h9, ((unhide Hb).trans ((unhide Hb1).mono hsz0)).trans (below_grown (unhide Hp2).2 (Nat.le_refl _) (by omega))⟩
      case measure => simp [intOf]; omega
    · obtain rfl : k = ps.length := by omega
      rw [fillL_all] at hown
      go_wp2_with fail
      go_ret
      exact ⟨_, rfl, hown, hb⟩

end Go.Proofs.Ytcjnfcpjcplgbaa
