/- Contracts of chapter 8's models: each returns what the plain lists say and writes into no memory that was there. Condition: the slices can be read, and what a theorem names. -/
import Derived.Test.YtcjnfcpjcplgbaaGuildFn
namespace Go.Proofs.Ytcjnfcpjcplgbaa
open Go.ChangeShapes Go.WideShapes Go.ChangeAt Go.RowKit Go.Sort
set_option linter.unusedVariables false

theorem drewN_below {B : Nat} {w w' : World} (h : Below B w w') (n : Nat) : Below B w (w'.drewN n) := ⟨h.os, h.tape, h.output, h.size, h.block⟩

theorem guildForce_any (x : Int) (w : World) : Calls Try.prog 39 #[.int .i64 x] w fun e w' => e = .returned (.bool (inB x 0 1024)) ∧ w' = w := by
  go_enter Try.func39, Try.ntmps39
  go_wp2_with (go_at_call 29; refine (l1In_any _ _ _ _).mono ?_; rintro e w' ⟨rfl, rfl⟩)
  go_ret
  exact ⟨rfl, rfl⟩

theorem l8Pair_any (lo hi : Int) (w : World) : Calls Try.prog 30 #[.int .i64 lo, .int .i64 hi] w fun e w' => e = .returned (.bool (pairB lo hi)) ∧ w' = w := by
  cases h1 : inB lo 0 1024
  · have hp : pairB lo hi = false := by unfold pairB; rw [h1]; rfl
    rw [hp]; clear hp
    go_enter Try.func30, Try.ntmps30
    go_wp2_with (go_at_call 39; refine (guildForce_any _ _).mono ?_; rintro e w' ⟨rfl, rfl⟩)
    go_ret
    exact ⟨rfl, rfl⟩
  · cases h2 : inB hi 0 1024
    · have hp : pairB lo hi = false := by unfold pairB; rw [h1, h2]; rfl
      rw [hp]; clear hp
      go_enter Try.func30, Try.ntmps30
      go_wp2_with (go_at_call 39; refine (guildForce_any _ _).mono ?_; rintro e w' ⟨rfl, rfl⟩)
      go_ret
      exact ⟨rfl, rfl⟩
    · have hp : pairB lo hi = decide (lo ≤ hi) := by unfold pairB; rw [h1, h2]; rfl
      rw [hp]; clear hp
      by_cases h3 : lo ≤ hi
      all_goals
        go_enter Try.func30, Try.ntmps30
        go_wp2_with (go_at_call 39; refine (guildForce_any _ _).mono ?_; rintro e w' ⟨rfl, rfl⟩)
        go_ret
        exact ⟨ret_bool (by first | (simp; done) | (simp; omega)), rfl⟩

set_option maxHeartbeats 2000000 in
theorem specGuildsOk_any {w : World} {v : Value} {ps : List GuildV} (h : IsGuilds w v ps) :
    Calls Try.prog 14 #[v] w fun e w' => e = .returned (.bool (guildsB ps)) ∧ Below w.heap.size w w' := by
  obtain ⟨a, cap, rfl, hc, hm, hr⟩ := h
  have Hr := hide hr
  clear hr
  go_enter Try.func14, Try.ntmps14
  go_wp2_with fail
  go_loopw [3] (fun i wr => ∃ k : Nat, k ≤ ps.length ∧ i = .int .i64 k ∧ upToB ps k = true ∧ Below w.heap.size w wr) (fun i _ => ps.length - (intOf i).toNat)
  case atStart => exact ⟨0, Nat.zero_le _, rfl, rfl, Below.refl _ _⟩
  case round =>
    obtain ⟨k, hk, rfl, hst, hb⟩ := hrel
    have Hst := hide hst
    have Hb := hide hb
    clear hst
    by_cases hlt : k < ps.length
    · rcases unhide Hr with h0 | ⟨b, off, rfl, hbw, hcl⟩
      · rw [h0] at hlt; simp at hlt
      obtain ⟨c0, c1, c2⟩ := guild_cells hcl hlt
      rw [← hb.cell (p := ⟨b, off + k * 3, none⟩) hbw] at c0
      rw [← hb.cell (p := ⟨b, off + k * 3 + 1, none⟩) hbw] at c1
      rw [← hb.cell (p := ⟨b, off + k * 3 + 2, none⟩) hbw] at c2
      generalize hp : recAt ps k = p at c0 c1 c2
      have Hp := hide hp
      clear hp
      obtain ⟨x0, x1, x2⟩ := p
      simp only at c0 c1 c2
      clear hcl hb
      have hg : guildB (x0, x1, x2) k = (inB x0 (-1) ((k : Int) - 1) && pairB x1 x2) := rfl
      have Hg := hide hg
      clear hg
      cases h1 : inB x0 (-1) ((k : Int) - 1)
      · go_wp2_with fail
        go_quiet (first | exact Calls.quiet_of_same (l1In_any _ _ _ _) | exact Calls.quiet_of_same (l8Pair_any _ _ _))
        go_wp2_with fail
        go_ret
        exact ⟨ret_bool (guildsB_f hlt (by rw [unhide Hp, unhide Hg, h1]; rfl)).symm, drewN_below (unhide Hb) _⟩
      cases h2 : pairB x1 x2
      · go_wp2_with fail
        go_quiet (first | exact Calls.quiet_of_same (l1In_any _ _ _ _) | exact Calls.quiet_of_same (l8Pair_any _ _ _))
        go_wp2_with fail
        go_ret
        exact ⟨ret_bool (guildsB_f hlt (by rw [unhide Hp, unhide Hg, h1, h2]; rfl)).symm, drewN_below (unhide Hb) _⟩
      · go_wp2_with fail
        go_quiet (first | exact Calls.quiet_of_same (l1In_any _ _ _ _) | exact Calls.quiet_of_same (l8Pair_any _ _ _))
        go_wp2_with fail
        go_roundw
        case rel => exact ⟨k + 1, by omega, by go_num, by rw [upToB_succ, unhide Hst, unhide Hp, unhide Hg, h1, h2]; rfl, drewN_below (unhide Hb) _⟩
        case measure => simp [intOf]; omega
    · obtain rfl : k = ps.length := by omega
      by_cases hbig : ps.length ≤ 6
      all_goals
        go_wp2_with fail
        go_ret
        exact ⟨ret_bool (by unfold guildsB; rw [unhide Hst]; simp; omega), hb⟩

set_option maxHeartbeats 2000000 in
theorem l8Within_of {ps : List GuildV} (g : Int) (lo hi : Int) {w : World} {v : Value} (h : IsGuilds w v ps)
    (hB : Calls Try.prog 28 #[v, .int .i64 g] w fun e w' => e = .returned (.tuple #[.int .i64 (bnd ps g).1, .int .i64 (bnd ps g).2]) ∧ Below w.heap.size w w') :
    Calls Try.prog 31 #[v, .int .i64 g, .int .i64 lo, .int .i64 hi] w fun e w' => e = .returned (.tuple #[.int .i64 (narV (bnd ps g) lo hi).1, .int .i64 (narV (bnd ps g) lo hi).2]) ∧ Below w.heap.size w w' := by
  have HB := hide hB
  clear hB
  obtain ⟨a, cap, rfl, _⟩ := h
  unfold narV
  go_enter Try.func31, Try.ntmps31
  go_wp2_with fail
  refine (unhide HB).mono ?_
  rintro e w1 ⟨rfl, hb1⟩
  go_wp2_with (go_at_call 40; refine (specClamped_any _ _ _ _).mono ?_; rintro e w' ⟨rfl, rfl⟩)
  go_ret2
  exact ⟨rfl, hb1⟩

set_option maxRecDepth 100000 in
set_option maxHeartbeats 4000000 in
theorem l8Bounds_any {ps : List GuildV} (hg : guildsB ps = true) : ∀ (n : Nat) (g : Int) {w : World} {v : Value}, IsGuilds w v ps → -1 ≤ g → g < n → g < ps.length →
    Calls Try.prog 28 #[v, .int .i64 g] w fun e w' => e = .returned (.tuple #[.int .i64 (bnd ps g).1, .int .i64 (bnd ps g).2]) ∧ Below w.heap.size w w' := by
  intro n
  induction n with
  | zero =>
    intro g w v h h0 h1 h2
    obtain rfl : g = -1 := by omega
    rw [bnd_none ps (by omega)]
    obtain ⟨a, cap, rfl, _⟩ := h
    go_enter Try.func28, Try.ntmps28
    go_wp2_with fail
    go_ret2
    exact ⟨rfl, Below.refl _ _⟩
  | succ n ih =>
    intro g w v h h0 h1 h2
    by_cases hg0 : g < 0
    · obtain rfl : g = -1 := by omega
      rw [bnd_none ps (by omega)]
      obtain ⟨a, cap, rfl, _⟩ := h
      go_enter Try.func28, Try.ntmps28
      go_wp2_with fail
      go_ret2
      exact ⟨rfl, Below.refl _ _⟩
    · obtain ⟨k, rfl⟩ : ∃ k : Nat, g = k := ⟨g.toNat, by omega⟩
      have hlt : k < ps.length := by omega
      obtain ⟨a0, a1, _⟩ := guildsB_at hg (g := (k : Int)) (by omega) h2
      have hs := bnd_step hg (g := (k : Int)) (by omega) h2
      rw [show ((k : Int)).toNat = k by omega] at a0 a1 hs
      rw [hs]
      clear hs
      have Hi := hide h
      obtain ⟨a, cap, rfl, hc, hm, hr⟩ := h
      rcases hr with hz | ⟨b, off, rfl, hbw, hcl⟩
      · rw [hz] at hlt; simp at hlt
      obtain ⟨c0, c1, c2⟩ := guild_cells hcl hlt
      clear hcl
      generalize hp : recAt ps k = p at *
      obtain ⟨x0, x1, x2⟩ := p
      simp only at c0 c1 c2 a0 a1
      have k0 := cell_regrown c0
      have k1 := cell_regrown c1
      have k2 := cell_regrown c2
      have ih' := fun (w' : World) (h : IsGuilds w' (.slice (some ⟨b, off, none⟩) ps.length cap) ps) => l8Within_of x0 x1 x2 h (ih x0 h a0 (by omega) (by omega))
      have Ih := hide ih'
      clear ih ih' hp
      go_enter Try.func28, Try.ntmps28
      go_wp2_with fail
      refine wp_region_quiet_below (by kernel_rfl) (by kernel_rfl) ?_
      repeat (go_big_quiet_step (exact Calls.regrown_of (unhide Ih _ ((unhide Hi).below (below_regrown _ _ _)))))
      refine wpQuiet_nil ?_
      intro _ hw'
      obtain ⟨⟨dq, osq⟩, hw''⟩ := hw'
      subst hw''
      go_wp2_with fail
      go_ret2
      exact ⟨rfl, below_regrown _ _ _⟩

theorem l8Is_any {w : World} {v : Value} {ps : List GuildV} (g : Int) (h : IsGuilds w v ps) :
    Calls Try.prog 27 #[v, .int .i64 g] w fun e w' => e = .returned (.bool (isB ps g)) ∧ Below w.heap.size w w' := by
  have Hi := hide h
  obtain ⟨a, cap, rfl, hc, hm, hr⟩ := h
  clear hr
  unfold isB
  cases hG : guildsB ps
  · go_enter Try.func27, Try.ntmps27
    go_wp2_with fail
    refine (specGuildsOk_any (unhide Hi)).mono ?_
    rw [hG]
    rintro e w1 ⟨rfl, hb1⟩
    go_wp2_with fail
    go_ret
    exact ⟨rfl, hb1⟩
  · have hl := (guildsB_of hG).2
    go_enter Try.func27, Try.ntmps27
    go_wp2_with fail
    refine (specGuildsOk_any (unhide Hi)).mono ?_
    rw [hG]
    rintro e w1 ⟨rfl, hb1⟩
    go_wp2_with (go_at_call 29; refine (l1In_any _ _ _ _).mono ?_; rintro e w' ⟨rfl, rfl⟩)
    go_ret
    exact ⟨rfl, hb1⟩

theorem specBounds_any {w : World} {v : Value} {ps : List GuildV} (g : Int) (h : IsGuilds w v ps) :
    Calls Try.prog 12 #[v, .int .i64 g] w fun e w' => e = .returned (.tuple #[.int .i64 (boundsV ps g).1, .int .i64 (boundsV ps g).2]) ∧ Below w.heap.size w w' := by
  have Hi := hide h
  obtain ⟨a, cap, rfl, hc, hm, hr⟩ := h
  clear hr
  cases hI : isB ps g
  · rw [boundsV_f hI]
    go_enter Try.func12, Try.ntmps12
    go_wp2_with fail
    refine (l8Is_any g (unhide Hi)).mono ?_
    rw [hI]
    rintro e w1 ⟨rfl, hb1⟩
    go_wp2_with fail
    go_ret2
    exact ⟨rfl, hb1⟩
  · rw [boundsV_t hI]
    obtain ⟨hG, g0, g1⟩ := isB_of hI
    go_enter Try.func12, Try.ntmps12
    go_wp2_with fail
    refine (l8Is_any g (unhide Hi)).mono ?_
    rw [hI]
    rintro e w1 ⟨rfl, hb1⟩
    have B1 := hide hb1
    clear hb1
    go_wp2_with fail
    refine (l8Bounds_any hG (g + 1).toNat g ((unhide Hi).below (unhide B1)) g0 (by omega) g1).mono ?_
    rintro e w2 ⟨rfl, hb2⟩
    have B2 := hide ((unhide B1).trans (hb2.mono (unhide B1).size))
    clear hb2
    go_wp2_with fail
    go_ret2
    exact ⟨rfl, unhide B2⟩

theorem specWithin_any {w : World} {v : Value} {ps : List GuildV} (g lo hi : Int) (h : IsGuilds w v ps) :
    Calls Try.prog 15 #[v, .int .i64 g, .int .i64 lo, .int .i64 hi] w fun e w' => e = .returned (.tuple #[.int .i64 (withinV ps g lo hi).1, .int .i64 (withinV ps g lo hi).2]) ∧ Below w.heap.size w w' := by
  have Hi := hide h
  obtain ⟨a, cap, rfl, hc, hm, hr⟩ := h
  clear hr
  cases hI : isB ps g
  · rw [withinV_f (by rw [hI]; rfl)]
    go_enter Try.func15, Try.ntmps15
    go_wp2_with fail
    refine (l8Is_any g (unhide Hi)).mono ?_
    rw [hI]
    rintro e w1 ⟨rfl, hb1⟩
    go_wp2_with fail
    go_ret2
    exact ⟨rfl, hb1⟩
  · cases hP : pairB lo hi
    · rw [withinV_f (by rw [hI, hP]; rfl)]
      go_enter Try.func15, Try.ntmps15
      go_wp2_with fail
      refine (l8Is_any g (unhide Hi)).mono ?_
      rw [hI]
      rintro e w1 ⟨rfl, hb1⟩
      go_wp2_with (go_at_call 30; refine (l8Pair_any _ _ _).mono ?_; rw [hP]; rintro e w' ⟨rfl, rfl⟩)
      go_ret2
      exact ⟨rfl, hb1⟩
    · rw [withinV_t hI hP]
      obtain ⟨hG, g0, g1⟩ := isB_of hI
      go_enter Try.func15, Try.ntmps15
      go_wp2_with fail
      refine (l8Is_any g (unhide Hi)).mono ?_
      rw [hI]
      rintro e w1 ⟨rfl, hb1⟩
      have B1 := hide hb1
      clear hb1
      go_wp2_with (go_at_call 30; refine (l8Pair_any _ _ _).mono ?_; rw [hP]; rintro e w' ⟨rfl, rfl⟩)
      have hi1 := (unhide Hi).below (unhide B1)
      refine (l8Within_of g lo hi hi1 (l8Bounds_any hG (g + 1).toNat g hi1 g0 (by omega) g1)).mono ?_
      rintro e w2 ⟨rfl, hb2⟩
      have B2 := hide ((unhide B1).trans (hb2.mono (unhide B1).size))
      clear hb2 hi1
      go_wp2_with fail
      go_ret2
      exact ⟨rfl, unhide B2⟩

end Go.Proofs.Ytcjnfcpjcplgbaa
