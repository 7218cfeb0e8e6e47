/- The law FnBounds: at every row of bytes bounds are bounds, and lie within those of all guilds above. No condition but that the bytes can be read. -/
import Derived.Test.YtcjnfcpjcplgbaaGuildDraw2
import Derived.Test.YtcjnfcpjcplgbaaGuildSpec
import Derived.Deep.DeepCutAuto
namespace Go.Proofs.Ytcjnfcpjcplgbaa
open Go.ChangeShapes Go.WideShapes Go.ChangeAt Go.RowKit Go.Sort
open Draw (IsRow Row row_of row_later big_yes big_no)
set_option linter.unusedVariables false

theorem implBounds_v {w : World} {v : Value} {ps : List GuildV} {g A B : Int} (hv : boundsV ps g = (A, B)) (h : IsGuilds w v ps) :
    Calls Try.prog 9 #[v, .int .i64 g] w fun e w' => e = .returned (.tuple #[.int .i64 A, .int .i64 B]) ∧ Below w.heap.size w w' := by
  have := implBounds_any g h; rw [hv] at this; exact this
theorem specBounds_v {w : World} {v : Value} {ps : List GuildV} {g A B : Int} (hv : boundsV ps g = (A, B)) (h : IsGuilds w v ps) :
    Calls Try.prog 12 #[v, .int .i64 g] w fun e w' => e = .returned (.tuple #[.int .i64 A, .int .i64 B]) ∧ Below w.heap.size w w' := by
  have := specBounds_any g h; rw [hv] at this; exact this
theorem implWithin_v {w : World} {v : Value} {ps : List GuildV} {g lo hi A B : Int} (hv : withinV ps g lo hi = (A, B)) (h : IsGuilds w v ps) :
    Calls Try.prog 11 #[v, .int .i64 g, .int .i64 lo, .int .i64 hi] w fun e w' => e = .returned (.tuple #[.int .i64 A, .int .i64 B]) ∧ Below w.heap.size w w' := by
  have := implWithin_any g lo hi h; rw [hv] at this; exact this
theorem specWithin_v {w : World} {v : Value} {ps : List GuildV} {g lo hi A B : Int} (hv : withinV ps g lo hi = (A, B)) (h : IsGuilds w v ps) :
    Calls Try.prog 15 #[v, .int .i64 g, .int .i64 lo, .int .i64 hi] w fun e w' => e = .returned (.tuple #[.int .i64 A, .int .i64 B]) ∧ Below w.heap.size w w' := by
  have := specWithin_any g lo hi h; rw [hv] at this; exact this
theorem implGuildsOk_v {w : World} {v : Value} {ps : List GuildV} {q : Bool} (hv : guildsB ps = q) (h : IsGuilds w v ps) :
    Calls Try.prog 13 #[v] w fun e w' => e = .returned (.bool q) ∧ Below w.heap.size w w' := by
  have := implGuildsOk_any h; rw [hv] at this; exact this
theorem specGuildsOk_v {w : World} {v : Value} {ps : List GuildV} {q : Bool} (hv : guildsB ps = q) (h : IsGuilds w v ps) :
    Calls Try.prog 14 #[v] w fun e w' => e = .returned (.bool q) ∧ Below w.heap.size w w' := by
  have := specGuildsOk_any h; rw [hv] at this; exact this

theorem bounds_or {ps : List GuildV} {g A B : Int} (h : boundsV ps g = (A, B)) : (isB ps g = false ∧ A = -1 ∧ B = -1) ∨ (isB ps g = true ∧ bnd ps g = (A, B) ∧ 0 ≤ A ∧ A ≤ B ∧ B ≤ 1024) := by
  cases hI : isB ps g
  · rw [boundsV_f hI] at h
    cases h
    exact .inl ⟨rfl, rfl, rfl⟩
  · rw [boundsV_t hI] at h
    have := bnd_bd ps g
    rw [h] at this
    exact .inr ⟨rfl, h, this.1, this.2.1, this.2.2⟩
theorem within_or {ps : List GuildV} {g lo hi C D : Int} (h : withinV ps g lo hi = (C, D)) : (C = -1 ∧ D = -1) ∨ (∃ X Y, boundsV ps g = (X, Y) ∧ 0 ≤ C ∧ X ≤ C ∧ C ≤ D ∧ D ≤ Y ∧ (X ≤ lo → hi ≤ Y → C = lo ∧ D = hi)) := by
  cases hI : isB ps g
  · rw [withinV_f (by rw [hI]; rfl)] at h
    cases h
    exact .inl ⟨rfl, rfl⟩
  · cases hP : pairB lo hi
    · rw [withinV_f (by rw [hI, hP]; rfl)] at h
      cases h
      exact .inl ⟨rfl, rfl⟩
    · rw [withinV_t hI hP] at h
      obtain ⟨b0, b1, b2⟩ := bnd_bd ps g
      obtain ⟨n0, n1, n2⟩ := narV_bd (lo := lo) (hi := hi) b0 b1 b2
      rw [h] at n0 n1 n2
      simp only at n0 n1 n2
      refine .inr ⟨(bnd ps g).1, (bnd ps g).2, boundsV_t hI, by omega, n0, n1, n2, fun hx hy => ?_⟩
      rw [narV_in hx hy (pairB_of hP).2.2.2.2] at h
      cases h
      exact ⟨rfl, rfl⟩

set_option maxRecDepth 100000 in
set_option maxHeartbeats 8000000 in
theorem walkFnBounds (a0 : Option Addr) (len0 cap0 : Nat) (z0 : List Int) (w : World) (w0 : IsRow .u8 w a0 len0 cap0 z0) :
    Calls Try.prog 3 #[.slice a0 len0 cap0] w fun e w' => e = .returned (.bool true) ∧ Below w.heap.size w w' := by
  by_cases hbig : 4096 < len0
  · go_enter Try.func3, Try.ntmps3
    go_wp2_with fail
    refine (big_yes _ _ _ _ hbig).mono ?_
    rintro e w' ⟨rfl, rfl⟩
    go_wp2_with fail
    go_ret
    exact ⟨rfl, Below.refl _ _⟩
  have Hr := hide (row_of w0 (by omega))
  clear w0
  go_enter Try.func3, Try.ntmps3
  go_wp2_with fail
  refine (big_no _ _ _ _ (by omega)).mono ?_
  rintro e w' ⟨rfl, hw'⟩
  subst w'
  go_wp2_with fail
  refine (drawBounds_any _ _ _ _ (unhide Hr)).mono ?_
  rintro e w1 ⟨v, ps, g, rfl, hl, hi, hb⟩
  obtain ⟨ra, rcap, rfl, hrc, hrm⟩ := IsRec.shape hi
  have B1 := hide hb
  have P1 := hide hi
  clear hb hi
  obtain ⟨A, B, hA⟩ : ∃ A B, boundsV ps g = (A, B) := ⟨_, _, rfl⟩
  have HA := hide hA
  clear hA
  go_wp2_with fail
  refine (implBounds_v (unhide HA) (unhide P1)).mono ?_
  rintro e w2 ⟨rfl, hb⟩
  have P2 := hide ((unhide P1).below hb)
  have B2 : Hid (Below w.heap.size w w2) := hide ((unhide B1).trans (hb.mono (unhide B1).size))
  clear hb P1 B1
  go_wp2_with fail
  refine (drawWithin_any _ _ _ _ (row_later (unhide Hr) (unhide B2))).mono ?_
  rintro e w3 ⟨v2, qs, k, lo, hi, rfl, hl2, hi2, hb⟩
  obtain ⟨qa, qcap, rfl, hqc, hqm⟩ := IsRec.shape hi2
  have P3 := hide ((unhide P2).below hb)
  have B3 : Hid (Below w.heap.size w w3) := hide ((unhide B2).trans (hb.mono (unhide B2).size))
  have Q3 := hide hi2
  clear hb hi2 P2 B2
  obtain ⟨C, D, hC⟩ : ∃ C D, withinV qs k lo hi = (C, D) := ⟨_, _, rfl⟩
  have HC := hide hC
  clear hC
  go_wp2_with fail
  refine (implWithin_v (unhide HC) (unhide Q3)).mono ?_
  rintro e w4 ⟨rfl, hb⟩
  have P4 := hide ((unhide P3).below hb)
  have Q4 := hide ((unhide Q3).below hb)
  have B4 : Hid (Below w.heap.size w w4) := hide ((unhide B3).trans (hb.mono (unhide B3).size))
  clear hb P3 Q3 B3
  go_wp2_with fail
  refine (specBounds_v (unhide HA) (unhide P4)).mono ?_
  rintro e w5 ⟨rfl, hb⟩
  have P5 := hide ((unhide P4).below hb)
  have Q5 := hide ((unhide Q4).below hb)
  have B5 : Hid (Below w.heap.size w w5) := hide ((unhide B4).trans (hb.mono (unhide B4).size))
  clear hb P4 Q4 B4
  obtain ⟨q, hq⟩ : ∃ q, guildsB ps = q := ⟨_, rfl⟩
  have Hq := hide hq
  clear hq
  go_wp2_with fail
  refine (implGuildsOk_v (unhide Hq) (unhide P5)).mono ?_
  rintro e w6 ⟨rfl, hb⟩
  have P6 := hide ((unhide P5).below hb)
  have Q6 := hide ((unhide Q5).below hb)
  have B6 : Hid (Below w.heap.size w w6) := hide ((unhide B5).trans (hb.mono (unhide B5).size))
  clear hb P5 Q5 B5
  go_wp2_with fail
  refine (specGuildsOk_v (unhide Hq) (unhide P6)).mono ?_
  rintro e w7 ⟨rfl, hb⟩
  have P7 := hide ((unhide P6).below hb)
  have Q7 := hide ((unhide Q6).below hb)
  have B7 : Hid (Below w.heap.size w w7) := hide ((unhide B6).trans (hb.mono (unhide B6).size))
  clear hb P6 Q6 B6
  go_wp2_with fail
  refine (specWithin_v (unhide HC) (unhide Q7)).mono ?_
  rintro e w8 ⟨rfl, hb⟩
  have P8 := hide ((unhide P7).below hb)
  have Q8 := hide ((unhide Q7).below hb)
  have B8 : Hid (Below w.heap.size w w8) := hide ((unhide B7).trans (hb.mono (unhide B7).size))
  clear hb P7 Q7 B7
  go_upto_if 88 with fail
  go_cut [] (fun wc => Below w8.heap.size w8 wc)
  case first =>
    rcases within_or (unhide HC) with ⟨rfl, rfl⟩ | ⟨X, Y, hX, c0, c1, c2, c3, hin⟩
    · go_wp2_with fail
      go_meet
      exact Below.refl _ _
    · have HX := hide hX
      have Hin := hide hin
      have hC0 : decide (0 ≤ C) = true := decide_eq_true c0
      clear hX hin
      go_wp2_with fail
      refine (implBounds_v (unhide HX) (unhide Q8)).mono ?_
      rintro e w9 ⟨rfl, hb⟩
      have B9 := hide hb
      clear hb
      by_cases hx : X ≤ lo
      · by_cases hy : hi ≤ Y
        · obtain ⟨rfl, rfl⟩ := unhide Hin hx hy
          go_wp2_with fail
          go_meet
          exact unhide B9
        · go_wp2_with fail
          go_meet
          exact unhide B9
      · go_wp2_with fail
        go_meet
        exact unhide B9
  case rest =>
    have P9 := hide ((unhide P8).below hcut)
    have B9 : Hid (Below w.heap.size w wc) := hide ((unhide B8).trans (hcut.mono (unhide B8).size))
    clear hcut
    rcases bounds_or (unhide HA) with ⟨hI, rfl, rfl⟩ | ⟨hI, hbd, a0', a1, a2⟩
    · cases q
      · go_wp2_with fail
        refine (specGuildsOk_v (unhide Hq) (unhide P9)).mono ?_
        rintro e w10 ⟨rfl, hb⟩
        have B10 : Hid (Below w.heap.size w w10) := hide ((unhide B9).trans (hb.mono (unhide B9).size))
        clear hb
        go_wp2_with fail
        go_ret
        exact ⟨rfl, unhide B10⟩
      · have hout : g < -1 ∨ (ps.length : Int) ≤ g := by
          unfold isB at hI
          rw [unhide Hq] at hI
          rcases Int.lt_or_le g (-1) with h | h
          · exact .inl h
          · rcases Int.lt_or_le g ps.length with h' | h'
            · rw [inB_t h (by omega)] at hI; cases hI
            · exact .inr h'
        rcases hout with ho | ho
        · go_wp2_with fail
          refine (specGuildsOk_v (unhide Hq) (unhide P9)).mono ?_
          rintro e w10 ⟨rfl, hb⟩
          have B10 : Hid (Below w.heap.size w w10) := hide ((unhide B9).trans (hb.mono (unhide B9).size))
          clear hb
          go_wp2_with fail
          go_ret
          exact ⟨rfl, unhide B10⟩
        · by_cases hneg : g < -1
          all_goals
            go_wp2_with fail
            refine (specGuildsOk_v (unhide Hq) (unhide P9)).mono ?_
            rintro e w10 ⟨rfl, hb⟩
            have B10 : Hid (Below w.heap.size w w10) := hide ((unhide B9).trans (hb.mono (unhide B9).size))
            clear hb
            go_wp2_with fail
            go_ret
            exact ⟨rfl, unhide B10⟩
    · obtain ⟨hG, g0, g1⟩ := isB_of hI
      have HG := hide hG
      have Hbd := hide hbd
      clear hI hG hbd
      by_cases hneg : g < 0
      · have h0 := bnd_none ps hneg
        rw [unhide Hbd] at h0
        cases h0
        go_wp2_with fail
        go_ret
        exact ⟨rfl, unhide B9⟩
      · obtain ⟨n, rfl⟩ : ∃ n : Nat, g = n := ⟨g.toNat, by omega⟩
        have hlt : n < ps.length := by omega
        have P10 := unhide P9
        obtain ⟨_, _, hv, _, _, hr⟩ := P10
        cases hv
        rcases hr with hz | ⟨b, off, rfl, hbw, hcl⟩
        · rw [hz] at hlt; simp at hlt
        have Hcl := hide hcl
        obtain ⟨c0, _, _⟩ := guild_cells hcl hlt
        obtain ⟨e0, e1, _⟩ := guildsB_at (unhide HG) (g := (n : Int)) (by omega) g1
        have hab := bnd_above (unhide HG) (g := (n : Int)) (by omega) g1
        rw [show ((n : Int)).toNat = n by omega] at e0 e1 hab
        rw [unhide Hbd] at hab
        generalize recAt ps n = p at c0 e0 e1 hab
        obtain ⟨up, p1, p2⟩ := p
        simp only at c0 e0 e1 hab
        have Hab := hide hab
        clear hcl hab
        go_wp2_with fail
        go_loopw [19] (fun s wr => ∃ u : Int, s = .int .i64 u ∧ -1 ≤ u ∧ u < ps.length ∧ (bnd ps u).1 ≤ A ∧ B ≤ (bnd ps u).2 ∧ Below wc.heap.size wc wr) (fun s _ => (intOf s + 1).toNat)
        case atStart => exact ⟨up, rfl, e0, by omega, (unhide Hab).1, (unhide Hab).2, Below.refl _ _⟩
        case round =>
          obtain ⟨u, rfl, u0, u1, l1, l2, hbr⟩ := hrel
          have Hbr := hide hbr
          have hszr := hbr.size
          clear hbr
          by_cases hu : 0 ≤ u
          · have hIu : isB ps u = true := by unfold isB; rw [unhide HG, inB_t u0 (by omega)]; rfl
            obtain ⟨X, Y, hX⟩ : ∃ X Y, bnd ps u = (X, Y) := ⟨_, _, rfl⟩
            have HX : Hid (boundsV ps u = (X, Y)) := hide ((boundsV_t hIu).trans hX)
            rw [hX] at l1 l2
            simp only at l1 l2
            obtain ⟨m, rfl⟩ : ∃ m : Nat, u = m := ⟨u.toNat, by omega⟩
            have hltm : m < ps.length := by omega
            obtain ⟨d0, _, _⟩ := guild_cells (unhide Hcl) hltm
            obtain ⟨t0, t1, _⟩ := guildsB_at (unhide HG) (g := (m : Int)) (by omega) u1
            have habm := bnd_above (unhide HG) (g := (m : Int)) (by omega) u1
            rw [show ((m : Int)).toNat = m by omega] at t0 t1 habm
            rw [hX] at habm
            generalize recAt ps m = p at d0 t0 t1 habm
            obtain ⟨up', p1', p2'⟩ := p
            simp only at d0 t0 t1 habm
            have Habm := hide habm
            clear habm hX hIu
            go_wp2_with fail
            refine (implBounds_v (unhide HX) ((unhide P9).below (unhide Hbr))).mono ?_
            rintro e w11 ⟨rfl, hb⟩
            have B11 : Hid (Below wc.heap.size wc w11) := hide ((unhide Hbr).trans (hb.mono hszr))
            have d1 := ((unhide B11).cell (p := ⟨b, off + m * 3, none⟩) hbw).trans d0
            clear hb
            go_wp2_with fail
            go_roundw
            case rel => exact ⟨up', rfl, t0, by omega, by have := (unhide Habm).1; omega, by have := (unhide Habm).2; omega, unhide B11⟩
            case measure => simp [intOf]; omega
          · go_wp2_with fail
            go_ret
            exact ⟨rfl, (unhide B9).trans ((unhide Hbr).mono (unhide B9).size)⟩

end Go.Proofs.Ytcjnfcpjcplgbaa
