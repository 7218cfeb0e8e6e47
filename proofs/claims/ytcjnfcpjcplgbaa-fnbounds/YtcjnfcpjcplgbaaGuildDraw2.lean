/- Contracts of the draws of chapter 8's arguments: a list of at most four guilds in memory of its own, and numbers; only the draw's own memory is written. Condition: the bytes of the draw can be read and are at most 4096. -/
import Derived.Test.YtcjnfcpjcplgbaaGuildDraw
namespace Go.Proofs.Ytcjnfcpjcplgbaa
open Go.ChangeShapes Go.WideShapes Go.ChangeAt Go.RowKit Go.Sort
open Draw (St Off Row Cur)
set_option linter.unusedVariables false

/-- One number of one guild is written. -/
theorem Gbox.put {a : Option Addr} {len cap bc : Nat} {w0 w : World} {g n rcap : Nat} {ps : List GuildV} (h : Gbox a len cap bc w0 w (.slice (some ⟨g, 0, none⟩) n rcap) ps) (hn : n = ps.length) {j i : Nat} (hj : j < ps.length) (hi : i < 3) (y : Int) :
    ∃ qs : List GuildV, qs.length = ps.length ∧ Gbox a len cap bc w0 (w.setCell ⟨g, j * 3 + i, none⟩ (.int .i64 y)) (.slice (some ⟨g, 0, none⟩) n rcap) qs := by
  have key : ∃ x : GuildV, encGuild x = (encGuild (recAt ps j)).set i (.int .i64 y) := by
    generalize recAt ps j = p
    obtain ⟨p0, p1, p2⟩ := p
    rcases (show i = 0 ∨ i = 1 ∨ i = 2 by omega) with rfl | rfl | rfl
    · exact ⟨(y, p1, p2), rfl⟩
    · exact ⟨(p0, y, p2), rfl⟩
    · exact ⟨(p0, p1, y), rfl⟩
  obtain ⟨x, hx⟩ := key
  obtain ⟨h1, h2⟩ := RecAt.put1 encGuild_len (by omega) h.row hn hj hi (.int .i64 y) x hx
  exact ⟨ps.set j x, by simp, h.grown h2 h1⟩

set_option maxRecDepth 100000 in
set_option maxHeartbeats 4000000 in
theorem l8DrawAny_any (a : Option Addr) (len cap bc : Nat) (w : World) (hs : St a len cap bc w) :
    Calls Try.prog 20 #[.pointer (some ⟨bc, 0, none⟩)] w fun e w' => ∃ v ps, e = .returned v ∧ ps.length ≤ 4 ∧ Gbox a len cap bc w w' v ps := by
  have Hs := hide hs
  clear hs
  go_enter Try.func20, Try.ntmps20
  go_wp2_with fail
  refine (l8Draw_any a len cap bc _ (unhide Hs)).mono ?_
  rintro e w1 ⟨v, ps, rfl, hl, hG⟩
  obtain ⟨ra, rcap, rfl⟩ := RecAt.shape hG.row
  have HG := hide hG
  clear hG Hs
  by_cases hz : 0 < ps.length
  · go_wp2_with fail
    refine (Draw.once_any a len cap bc 6 (by omega) (by omega) _ (unhide HG).st).mono ?_
    rintro e w2 ⟨b, rfl, s2, o2⟩
    have HG2 := hide ((unhide HG).step s2 o2)
    clear s2 o2 HG
    cases b
    · go_wp2_with fail
      go_ret
      exact ⟨_, ps, rfl, hl, unhide HG2⟩
    · go_wp2_with fail
      refine (Draw.below_any a len cap bc _ (by omega) (by omega) _ (unhide HG2).st).mono ?_
      rintro e w3 ⟨x, rfl, x0, x1, s3, o3⟩
      have HG3 := hide ((unhide HG2).step s3 o3)
      clear s3 o3 HG2
      obtain ⟨j, rfl⟩ : ∃ j : Nat, x = j := ⟨x.toNat, by omega⟩
      have hj : j < ps.length := by omega
      obtain ⟨g, rfl, _⟩ := RecAt.view encGuild_len (by omega) (unhide HG3).row rfl hz
      go_wp2_with fail
      refine (Draw.below_any a len cap bc 3 (by omega) (by omega) _ (unhide HG3).st).mono ?_
      rintro e w4 ⟨y, rfl, y0, y1, s4, o4⟩
      have HG4 := hide ((unhide HG3).step s4 o4)
      clear s4 o4 HG3
      rcases (show y = 0 ∨ y = 1 ∨ y = 2 by omega) with rfl | rfl | rfl
      · go_wp2_with fail
        refine (Draw.from_any a len cap bc (-2) ps.length (by omega) (by omega) (by omega) _ (unhide HG4).st).mono ?_
        rintro e w5 ⟨z, rfl, z0, z1, s5, o5⟩
        have HG5 := hide ((unhide HG4).step s5 o5)
        clear s5 o5 HG4
        obtain ⟨g', hg', _, _, hcells, hfz⟩ := RecAt.view encGuild_len (by omega) (unhide HG5).row rfl hz
        cases hg'
        have c0 := hcells j hj 0 _ rfl
        have f0 := hfz (j * 3)
        simp only [Nat.add_zero] at c0
        obtain ⟨qs, hq, hG6⟩ := (unhide HG5).put rfl hj (i := 0) (by omega) z
        have HG6 := hide hG6
        clear hcells hfz hG6
        go_wp2_with fail
        go_ret
        exact ⟨_, qs, rfl, by omega, unhide HG6⟩
      · go_wp2_with fail
        refine (Draw.drawForce_any a len cap bc _ (unhide HG4).st).mono ?_
        rintro e w5 ⟨z, rfl, s5, o5⟩
        have HG5 := hide ((unhide HG4).step s5 o5)
        clear s5 o5 HG4
        obtain ⟨g', hg', _, _, hcells, hfz⟩ := RecAt.view encGuild_len (by omega) (unhide HG5).row rfl hz
        cases hg'
        have c0 := hcells j hj 1 _ rfl
        have f0 := hfz (j * 3 + 1)
        obtain ⟨qs, hq, hG6⟩ := (unhide HG5).put rfl hj (i := 1) (by omega) z
        have HG6 := hide hG6
        clear hcells hfz hG6
        go_wp2_with fail
        go_ret
        exact ⟨_, qs, rfl, by omega, unhide HG6⟩
      · go_wp2_with fail
        refine (Draw.drawForce_any a len cap bc _ (unhide HG4).st).mono ?_
        rintro e w5 ⟨z, rfl, s5, o5⟩
        have HG5 := hide ((unhide HG4).step s5 o5)
        clear s5 o5 HG4
        obtain ⟨g', hg', _, _, hcells, hfz⟩ := RecAt.view encGuild_len (by omega) (unhide HG5).row rfl hz
        cases hg'
        have c0 := hcells j hj 2 _ rfl
        have f0 := hfz (j * 3 + 2)
        obtain ⟨qs, hq, hG6⟩ := (unhide HG5).put rfl hj (i := 2) (by omega) z
        have HG6 := hide hG6
        clear hcells hfz hG6
        go_wp2_with fail
        go_ret
        exact ⟨_, qs, rfl, by omega, unhide HG6⟩
  · obtain rfl : ps = [] := List.eq_nil_of_length_eq_zero (by omega)
    go_wp2_with fail
    go_ret
    exact ⟨_, [], rfl, by simp, unhide HG⟩

theorem Gbox.list {a : Option Addr} {len cap bc : Nat} {w0 w : World} {v : Value} {ps : List GuildV} (h : Gbox a len cap bc w0 w v ps) : IsGuilds w v ps := GuildsAt.list h.row

set_option maxHeartbeats 2000000 in
theorem drawBounds_any (a : Option Addr) (len cap : Nat) (w : World) (hr : Row w.heap.size w a len) :
    Calls Try.prog 8 #[.slice a len cap] w fun e w' => ∃ (v : Value) (ps : List GuildV) (g : Int), e = .returned (.tuple #[v, .int .i64 g]) ∧ ps.length ≤ 4 ∧ IsGuilds w' v ps ∧ Below w.heap.size w w' := by
  have Hr := hide hr
  clear hr
  go_enter Try.func8, Try.ntmps8
  go_wp2_with fail
  refine (Draw.new_any a len cap _ (unhide Hr)).mono ?_
  rintro e w1 ⟨rfl, hs1, ho1⟩
  have B1 : Hid (Below w.heap.size w w1) := hide (ho1.below (Nat.le_refl _) (Nat.le_refl _))
  have Hs1 := hide hs1
  clear hs1 ho1
  go_wp2_with fail
  refine (l8DrawAny_any a len cap w.heap.size _ (unhide Hs1)).mono ?_
  rintro e w2 ⟨v, ps, rfl, hl, hG⟩
  obtain ⟨ra, rcap, rfl⟩ := RecAt.shape hG.row
  have HG := hide hG
  clear hG Hs1
  go_wp2_with fail
  refine (Draw.from_any a len cap w.heap.size (-2) ps.length (by omega) (by omega) (by omega) _ (unhide HG).st).mono ?_
  rintro e w3 ⟨g, rfl, g0, g1, s3, o3⟩
  have HG3 := hide ((unhide HG).step s3 o3)
  clear s3 o3 HG
  go_wp2_with fail
  go_ret2
  exact ⟨_, ps, g, rfl, hl, (unhide HG3).list, (unhide B1).trans ((unhide HG3).off.below (Nat.le_refl _) (unhide B1).size)⟩

set_option maxHeartbeats 2000000 in
theorem drawWithin_any (a : Option Addr) (len cap : Nat) (w : World) (hr : Row w.heap.size w a len) :
    Calls Try.prog 10 #[.slice a len cap] w fun e w' => ∃ (v : Value) (ps : List GuildV) (g x y : Int), e = .returned (.tuple #[v, .int .i64 g, .int .i64 x, .int .i64 y]) ∧ ps.length ≤ 4 ∧ IsGuilds w' v ps ∧ Below w.heap.size w w' := by
  have Hr := hide hr
  clear hr
  go_enter Try.func10, Try.ntmps10
  go_wp2_with fail
  refine (drawBounds_any a len cap _ (unhide Hr)).mono ?_
  rintro e w1 ⟨v, ps, g, rfl, hl, hi, hb1⟩
  obtain ⟨ra, rcap, rfl, _, _⟩ := IsRec.shape hi
  have B1 := hide hb1
  have Hi := hide hi
  clear hb1 hi
  go_wp2_with fail
  refine (Draw.new_any a len cap _ (Draw.row_later (unhide Hr) (unhide B1))).mono ?_
  rintro e w2 ⟨rfl, hs2, ho2⟩
  have C2 : Hid (Below w1.heap.size w1 w2) := hide (ho2.below (Nat.le_refl _) (Nat.le_refl _))
  have Hs2 := hide hs2
  clear hs2 ho2
  go_wp2_with fail
  refine (Draw.drawForce_any a len cap w1.heap.size _ (unhide Hs2)).mono ?_
  rintro e w3 ⟨x, rfl, hs3, ho3⟩
  have C3 : Hid (Below w1.heap.size w1 w3) := hide ((unhide C2).trans (ho3.below (Nat.le_refl _) (unhide C2).size))
  have Hs3 := hide hs3
  clear hs3 ho3 Hs2 C2
  go_wp2_with fail
  refine (Draw.drawForce_any a len cap w1.heap.size _ (unhide Hs3)).mono ?_
  rintro e w4 ⟨y, rfl, hs4, ho4⟩
  have C4 : Hid (Below w1.heap.size w1 w4) := hide ((unhide C3).trans (ho4.below (Nat.le_refl _) (unhide C3).size))
  have Hs4 := hide hs4
  clear hs4 ho4 Hs3 C3
  by_cases hxy : y < x
  · go_wp2_with fail
    refine (Draw.once_any a len cap w1.heap.size 6 (by omega) (by omega) _ (unhide Hs4)).mono ?_
    rintro e w5 ⟨b, rfl, hs5, ho5⟩
    have C5 : Hid (Below w1.heap.size w1 w5) := hide ((unhide C4).trans (ho5.below (Nat.le_refl _) (unhide C4).size))
    clear hs5 ho5 Hs4 C4
    cases b
    · go_wp2_with fail
      exact bodyPost_ret (v := .tuple #[.slice ra ps.length rcap, .int .i64 g, .int .i64 y, .int .i64 x]) (by simp [results, Try.results10, go_sem]) rfl ⟨_, ps, g, y, x, rfl, hl, (unhide Hi).below (unhide C5), (unhide B1).trans ((unhide C5).mono (unhide B1).size)⟩
    · go_wp2_with fail
      exact bodyPost_ret (v := .tuple #[.slice ra ps.length rcap, .int .i64 g, .int .i64 x, .int .i64 y]) (by simp [results, Try.results10, go_sem]) rfl ⟨_, ps, g, x, y, rfl, hl, (unhide Hi).below (unhide C5), (unhide B1).trans ((unhide C5).mono (unhide B1).size)⟩
  · go_wp2_with fail
    exact bodyPost_ret (v := .tuple #[.slice ra ps.length rcap, .int .i64 g, .int .i64 x, .int .i64 y]) (by simp [results, Try.results10, go_sem]) rfl ⟨_, ⟨g, x, y, rfl⟩, ps, hl, (unhide Hi).below (unhide C4), (unhide B1).trans ((unhide C4).mono (unhide B1).size)⟩

end Go.Proofs.Ytcjnfcpjcplgbaa
