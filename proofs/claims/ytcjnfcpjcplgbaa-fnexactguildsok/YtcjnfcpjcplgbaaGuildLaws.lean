/- The walks of chapter 8's exact laws: at every list of guilds and every number the call returns true and writes into no memory that was there. Condition: the list can be read. -/
import Derived.Test.YtcjnfcpjcplgbaaGuildSpec
namespace Go.Proofs.Ytcjnfcpjcplgbaa
open Go.ChangeShapes Go.WideShapes Go.ChangeAt Go.RowKit Go.Sort
set_option linter.unusedVariables false

set_option maxHeartbeats 4000000 in
theorem walkFnExactGuildsOk (v : Value) (ps : List GuildV) (w : World) (h : IsGuilds w v ps) :
    Calls Try.prog 4 #[v] w fun e w' => e = .returned (.bool true) ∧ Below w.heap.size w w' := by
  have Hv := hide h
  obtain ⟨a, cap, rfl, hc, hm, hr⟩ := h
  clear hr
  go_enter Try.func4, Try.ntmps4
  go_wp2_with fail
  refine (szGuildS_any _ _ _ _ (by omega) (by omega) (by omega) _).mono ?_
  by_cases hx : (1048576 : Int) - ps.length < 0
  · rw [szV_f hx]
    rintro e w1 ⟨rfl, rfl⟩
    go_wp2_with fail
    go_ret
    exact ⟨rfl, Below.refl _ _⟩
  rw [szV_t hx]
  rintro e w1 ⟨rfl, h1⟩
  subst w1
  go_wp2_with fail
  refine (toGuildS_any (unhide Hv) (by omega)).mono ?_
  rintro e w2 ⟨v1, rfl, hi1, hb2⟩
  obtain ⟨a1, cap1, rfl⟩ := RecAt.shape hi1
  have Hi1 := hide hi1
  have B2 := hide hb2
  clear hi1 hb2
  go_wp2_with fail
  refine (specGuildsOk_any (GuildsAt.list (unhide Hi1))).mono ?_
  rintro e w3 ⟨rfl, hb3⟩
  have B3 := hide ((unhide B2).trans (hb3.mono (unhide B2).size))
  clear hb3 B2 Hi1
  go_wp2_with fail
  refine (toGuildS_any ((unhide Hv).below (unhide B3)) (by omega)).mono ?_
  rintro e w4 ⟨v2, rfl, hi2, hb4⟩
  obtain ⟨a2, cap2, rfl⟩ := RecAt.shape hi2
  have Hi2 := hide hi2
  have B4 := hide ((unhide B3).trans (hb4.mono (unhide B3).size))
  clear hi2 hb4 B3
  go_wp2_with fail
  refine (implGuildsOk_any (GuildsAt.list (unhide Hi2))).mono ?_
  rintro e w5 ⟨rfl, hb5⟩
  have Hi5 := hide (RecAt.later (unhide Hi2) hb5)
  have B5 := hide ((unhide B4).trans (hb5.mono (unhide B4).size))
  clear hb5 B4 Hi2
  generalize guildsB ps = q
  cases q
  all_goals
    go_wp2_with fail
    refine (toGuildS_any ((unhide Hv).below (unhide B5)) (by omega)).mono ?_
    rintro e w6 ⟨v3, rfl, hi6, hb6⟩
    obtain ⟨a3, cap3, rfl⟩ := RecAt.shape hi6
    have Hi6 := hide hi6
    have Hi7 := hide (RecAt.later (unhide Hi5) hb6)
    have B6 := hide ((unhide B5).trans (hb6.mono (unhide B5).size))
    clear hi6 hb6 Hi5 B5
    go_wp2_with fail
    refine (eqGuildS_yes (GuildsAt.list (unhide Hi7)) (GuildsAt.list (unhide Hi6))).mono ?_
    rintro e w7 ⟨rfl, hb7⟩
    have B7 := hide ((unhide B6).trans (hb7.mono (unhide B6).size))
    clear hb7 B6
    go_wp2_with fail
    go_ret
    exact ⟨rfl, unhide B7⟩

set_option maxHeartbeats 4000000 in
theorem walkFnExactBounds (v : Value) (ps : List GuildV) (g : Int) (w : World) (h : IsGuilds w v ps) :
    Calls Try.prog 5 #[v, .int .i64 g] w fun e w' => e = .returned (.bool true) ∧ Below w.heap.size w w' := by
  have Hv := hide h
  obtain ⟨a, cap, rfl, hc, hm, hr⟩ := h
  clear hr
  go_enter Try.func5, Try.ntmps5
  go_wp2_with fail
  refine (szGuildS_any _ _ _ _ (by omega) (by omega) (by omega) _).mono ?_
  by_cases hx : (1048576 : Int) - ps.length < 0
  · rw [szV_f hx]
    rintro e w1 ⟨rfl, rfl⟩
    go_wp2_with fail
    go_ret
    exact ⟨rfl, Below.refl _ _⟩
  rw [szV_t hx]
  rintro e w1 ⟨rfl, h1⟩
  subst w1
  go_wp2_with fail
  refine (toGuildS_any (unhide Hv) (by omega)).mono ?_
  rintro e w2 ⟨v1, rfl, hi1, hb2⟩
  obtain ⟨a1, cap1, rfl⟩ := RecAt.shape hi1
  have Hi1 := hide hi1
  have B2 := hide hb2
  clear hi1 hb2
  go_wp2_with fail
  refine (specBounds_any g (GuildsAt.list (unhide Hi1))).mono ?_
  rintro e w3 ⟨rfl, hb3⟩
  have B3 := hide ((unhide B2).trans (hb3.mono (unhide B2).size))
  clear hb3 B2 Hi1
  go_wp2_with fail
  refine (toGuildS_any ((unhide Hv).below (unhide B3)) (by omega)).mono ?_
  rintro e w4 ⟨v2, rfl, hi2, hb4⟩
  obtain ⟨a2, cap2, rfl⟩ := RecAt.shape hi2
  have Hi2 := hide hi2
  have B4 := hide ((unhide B3).trans (hb4.mono (unhide B3).size))
  clear hi2 hb4 B3
  go_wp2_with fail
  refine (implBounds_any g (GuildsAt.list (unhide Hi2))).mono ?_
  rintro e w5 ⟨rfl, hb5⟩
  have Hi5 := hide (RecAt.later (unhide Hi2) hb5)
  have B5 := hide ((unhide B4).trans (hb5.mono (unhide B4).size))
  clear hb5 B4 Hi2
  go_wp2_with fail
  refine (toGuildS_any ((unhide Hv).below (unhide B5)) (by omega)).mono ?_
  rintro e w6 ⟨v3, rfl, hi6, hb6⟩
  obtain ⟨a3, cap3, rfl⟩ := RecAt.shape hi6
  have Hi6 := hide hi6
  have Hi7 := hide (RecAt.later (unhide Hi5) hb6)
  have B6 := hide ((unhide B5).trans (hb6.mono (unhide B5).size))
  clear hi6 hb6 Hi5 B5
  go_wp2_with fail
  refine (eqGuildS_yes (GuildsAt.list (unhide Hi7)) (GuildsAt.list (unhide Hi6))).mono ?_
  rintro e w7 ⟨rfl, hb7⟩
  have B7 := hide ((unhide B6).trans (hb7.mono (unhide B6).size))
  clear hb7 B6
  go_wp2_with fail
  go_ret
  exact ⟨rfl, unhide B7⟩

set_option maxHeartbeats 4000000 in
theorem walkFnExactWithin (v : Value) (ps : List GuildV) (g lo hi : Int) (w : World) (h : IsGuilds w v ps) :
    Calls Try.prog 6 #[v, .int .i64 g, .int .i64 lo, .int .i64 hi] w fun e w' => e = .returned (.bool true) ∧ Below w.heap.size w w' := by
  have Hv := hide h
  obtain ⟨a, cap, rfl, hc, hm, hr⟩ := h
  clear hr
  go_enter Try.func6, Try.ntmps6
  go_wp2_with fail
  refine (szGuildS_any _ _ _ _ (by omega) (by omega) (by omega) _).mono ?_
  by_cases hx : (1048576 : Int) - ps.length < 0
  · rw [szV_f hx]
    rintro e w1 ⟨rfl, rfl⟩
    go_wp2_with fail
    go_ret
    exact ⟨rfl, Below.refl _ _⟩
  rw [szV_t hx]
  rintro e w1 ⟨rfl, h1⟩
  subst w1
  go_wp2_with fail
  refine (toGuildS_any (unhide Hv) (by omega)).mono ?_
  rintro e w2 ⟨v1, rfl, hi1, hb2⟩
  obtain ⟨a1, cap1, rfl⟩ := RecAt.shape hi1
  have Hi1 := hide hi1
  have B2 := hide hb2
  clear hi1 hb2
  go_wp2_with fail
  refine (specWithin_any g lo hi (GuildsAt.list (unhide Hi1))).mono ?_
  rintro e w3 ⟨rfl, hb3⟩
  have B3 := hide ((unhide B2).trans (hb3.mono (unhide B2).size))
  clear hb3 B2 Hi1
  go_wp2_with fail
  refine (toGuildS_any ((unhide Hv).below (unhide B3)) (by omega)).mono ?_
  rintro e w4 ⟨v2, rfl, hi2, hb4⟩
  obtain ⟨a2, cap2, rfl⟩ := RecAt.shape hi2
  have Hi2 := hide hi2
  have B4 := hide ((unhide B3).trans (hb4.mono (unhide B3).size))
  clear hi2 hb4 B3
  go_wp2_with fail
  refine (implWithin_any g lo hi (GuildsAt.list (unhide Hi2))).mono ?_
  rintro e w5 ⟨rfl, hb5⟩
  have Hi5 := hide (RecAt.later (unhide Hi2) hb5)
  have B5 := hide ((unhide B4).trans (hb5.mono (unhide B4).size))
  clear hb5 B4 Hi2
  go_wp2_with fail
  refine (toGuildS_any ((unhide Hv).below (unhide B5)) (by omega)).mono ?_
  rintro e w6 ⟨v3, rfl, hi6, hb6⟩
  obtain ⟨a3, cap3, rfl⟩ := RecAt.shape hi6
  have Hi6 := hide hi6
  have Hi7 := hide (RecAt.later (unhide Hi5) hb6)
  have B6 := hide ((unhide B5).trans (hb6.mono (unhide B5).size))
  clear hi6 hb6 Hi5 B5
  go_wp2_with fail
  refine (eqGuildS_yes (GuildsAt.list (unhide Hi7)) (GuildsAt.list (unhide Hi6))).mono ?_
  rintro e w7 ⟨rfl, hb7⟩
  have B7 := hide ((unhide B6).trans (hb7.mono (unhide B6).size))
  clear hb7 B6
  go_wp2_with fail
  go_ret
  exact ⟨rfl, unhide B7⟩

end Go.Proofs.Ytcjnfcpjcplgbaa
