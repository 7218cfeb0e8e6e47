/- The law FnPaces: at every row of bytes the pace that is told is enough, if one is, and no slower one is; and what needs more costs no less. No condition but that the bytes can be read. -/
import Derived.Test.YtbekkdneldcehaaPaceDraw2
import Derived.Test.YtbekkdneldcehaaPaceFn2
namespace Go.Proofs.Ytbekkdneldcehaa
open Go.ChangeShapes Go.WideShapes Go.ChangeAt Go.RowKit Go.Sort
open Draw (St Off Row Cur IsRow)
set_option linter.unusedVariables false

theorem IsPaces.on {w : World} {v : Value} {ps : List PaceV} (h : IsPaces w v ps) (o : Obj) : IsPaces (w.alloc o) v ps := h.below ((Below.refl _ _).alloc (Nat.le_refl _) _)

theorem coal_work {r : RoomV} {pace work : Int} (h : 0 ≤ coalForV r pace work) : work ≤ 1000000 := by
  cases h2 : inB work 0 1000000
  · rw [coalForV_f2 h2] at h; omega
  · exact (inB_of h2).2
theorem pace_none {r : RoomV} {need : Int} (h : paceForV r need < 0) : paceForV r need = -1 := by have := paceForV_bd r need; omega
theorem pace_some {r : RoomV} {need : Int} (h : ¬ paceForV r need < 0) : roomB r = true ∧ inB need 0 1000000 = true ∧ paceForV r need = paceN need r.2 := by
  cases h1 : roomB r
  · rw [paceForV_f1 h1] at h; omega
  cases h2 : inB need 0 1000000
  · rw [paceForV_f2 h2] at h; omega
  · exact ⟨rfl, rfl, paceForV_t h1 h2⟩
theorem pace_less {r : RoomV} {need : Int} (h : ¬ paceForV r need < 0) : paceForV r (need - 1) ≤ paceForV r need := by
  obtain ⟨h1, h2, h3⟩ := pace_some h
  cases h4 : inB (need - 1) 0 1000000
  · rw [paceForV_f2 h4]; omega
  · rw [h3, paceForV_t h1 h4]; have := paceN_mono (show need - 1 ≤ need by omega) r.2; omega

set_option maxRecDepth 100000 in
set_option maxHeartbeats 8000000 in
theorem walkFnPaces (a0 : Option Addr) (len0 cap0 : Nat) (z0 : List Int) (w : World) (w0 : IsRow .u8 w a0 len0 cap0 z0) :
    Calls Try.prog 3 #[.slice a0 len0 cap0] w fun e w' => e = .returned (.bool true) ∧ Below w.heap.size w w' := by
  by_cases hbig : 4096 < len0
  · go_enter Try.func3, Try.ntmps3
    go_wp2_with fail
    refine (Draw.big_yes _ _ _ _ hbig).mono ?_
    rintro e w' ⟨rfl, rfl⟩
    go_wp2_with fail
    go_ret
    exact ⟨rfl, Below.refl _ _⟩
  have HRow := hide (Draw.row_of w0 (by omega))
  clear w0
  go_enter Try.func3, Try.ntmps3
  go_wp2_with fail
  refine (Draw.big_no _ _ _ _ (by omega)).mono ?_
  rintro e w' ⟨rfl, hw'⟩
  subst w'
  go_wp2_with fail
  refine (drawPaceFor_any _ _ _ _ (unhide HRow)).mono ?_
  rintro e w1 ⟨b, v, ps, need, rfl, hi, hbl⟩
  obtain ⟨va, vcap, rfl, hvc, hvm⟩ := pshape hi
  have HI1 := hide hi
  have HB1 := hide hbl
  clear hi hbl
  go_wp2_with fail
  refine (implPaceFor_any b need ((unhide HI1).on _)).mono ?_
  rintro e w2 ⟨rfl, hbl⟩
  have hz2 : w1.heap.size + 1 ≤ w2.heap.size := by have := hbl.size; simpa using this
  have HI2 := hide (((unhide HI1).on _).below hbl)
  have HX2 := hide ((Res.new w1 (.int .i64 b) (.slice va ps.length vcap) 26).below hbl (by simp))
  have HB2 : Hid (Below w.heap.size w w2) := hide (((unhide HB1).alloc (unhide HB1).size _).trans (hbl.mono (by have := (unhide HB1).size; simp; omega)))
  clear hbl HI1
  go_wp2_with fail
  refine (drawCoalFor_any _ _ _ _ (Draw.row_later (unhide HRow) (unhide HB2))).mono ?_
  rintro e w3 ⟨qb, qv, qs, pace, work, rfl, hi, hbl⟩
  obtain ⟨qa, qcap, rfl, hqc, hqm⟩ := pshape hi
  have hz3 := hbl.size
  have HQ3 := hide hi
  have HI3 := hide ((unhide HI2).below hbl)
  have HX3 := hide ((unhide HX2).below hbl (by omega))
  have HB3 : Hid (Below w.heap.size w w3) := hide ((unhide HB2).trans (hbl.mono (unhide HB2).size))
  clear hi hbl HI2 HX2
  go_wp2_with fail
  refine (implCoalFor_any qb pace work ((unhide HQ3).on _)).mono ?_
  rintro e w4 ⟨rfl, hbl⟩
  have hz4 : w3.heap.size + 1 ≤ w4.heap.size := by have := hbl.size; simpa using this
  have HQ4 := hide (((unhide HQ3).on _).below hbl)
  have HI4 := hide (((unhide HI3).on _).below hbl)
  have HX4 := hide (((unhide HX3).alloc (by omega) _).below hbl (by simp; omega))
  have HY4 := hide ((Res.new w3 (.int .i64 qb) (.slice qa qs.length qcap) 26).below hbl (by simp))
  have HB4 : Hid (Below w.heap.size w w4) := hide (((unhide HB3).alloc (unhide HB3).size _).trans (hbl.mono (by have := (unhide HB3).size; simp; omega)))
  clear hbl HI3 HX3 HQ3
  go_wp2_with fail
  refine (drawLeastCoal_any _ _ _ _ (Draw.row_later (unhide HRow) (unhide HB4))).mono ?_
  rintro e w5 ⟨ob, ov, os, n, wk, rfl, hi, hbl⟩
  obtain ⟨oa, ocap, rfl, hoc, hom⟩ := pshape hi
  have hz5 := hbl.size
  have HO5 := hide hi
  have HQ5 := hide ((unhide HQ4).below hbl)
  have HI5 := hide ((unhide HI4).below hbl)
  have HX5 := hide ((unhide HX4).below hbl (by omega))
  have HY5 := hide ((unhide HY4).below hbl (by omega))
  have HB5 : Hid (Below w.heap.size w w5) := hide ((unhide HB4).trans (hbl.mono (unhide HB4).size))
  clear hi hbl HI4 HX4 HQ4 HY4
  go_wp2_with fail
  refine (implLeastCoal_any ob n wk ((unhide HO5).on _)).mono ?_
  rintro e w6 ⟨rfl, hbl⟩
  have hz6 : w5.heap.size + 1 ≤ w6.heap.size := by have := hbl.size; simpa using this
  have HO6 := hide (((unhide HO5).on _).below hbl)
  have HQ6 := hide (((unhide HQ5).on _).below hbl)
  have HI6 := hide (((unhide HI5).on _).below hbl)
  have hx6 := ((unhide HX5).alloc (by omega) _).below hbl (by simp; omega)
  have hy6 := ((unhide HY5).alloc (by omega) _).below hbl (by simp; omega)
  have hu6 := (Res.new w5 (.int .i64 ob) (.slice oa os.length ocap) 26).below hbl (by simp)
  have HX6 := hide hx6
  have HY6 := hide hy6
  have HB6 : Hid (Below w.heap.size w w6) := hide (((unhide HB5).alloc (unhide HB5).size _).trans (hbl.mono (by have := (unhide HB5).size; simp; omega)))
  have k1 := cell_regrown hx6.1
  have k2 := cell_regrown hx6.2.1
  have k3 := cell_regrown hy6.1
  have k4 := cell_regrown hy6.2.1
  have k5 := cell_regrown hu6.1
  have k6 := cell_regrown hu6.2.1
  clear hbl HI5 HX5 HQ5 HY5 HO5 hx6 hy6 hu6
  go_upto_region 9 with fail
  go_cut [79] (fun s wc => s = .bool false ∧ Below w6.heap.size w6 wc)
  case first =>
    by_cases hleast : 0 ≤ leastV (ob, os) n wk
    · have hdl : decide (0 ≤ leastV (ob, os) n wk) = true := decide_eq_true hleast
      refine wp_region_quiet_below (by kernel_rfl) (by kernel_rfl) ?_
      repeat (go_big_quiet_step (first | exact Calls.regrown_of (specPaceFor_any b need ((unhide HI6).below (below_regrown _ _ _))) | exact Calls.regrown_of (specCoalFor_any qb pace work ((unhide HQ6).below (below_regrown _ _ _))) | exact Calls.regrown_of (specLeastCoal_any ob n wk ((unhide HO6).below (below_regrown _ _ _))) | exact Calls.regrown_of (implPaceFor_any ob n ((unhide HO6).below (below_regrown _ _ _))) | exact Calls.regrown_of (implCoalFor_any ob _ wk ((unhide HO6).below (below_regrown _ _ _)))))
      refine wpQuiet_nil ?_
      intro _ hw'
      obtain ⟨⟨dq, osq⟩, hw''⟩ := hw'
      subst hw''
      go_wp2_with fail
      go_meet
      exact ⟨(by unfold leastV; simp), below_regrown _ _ _⟩
    · have hdl : decide (0 ≤ leastV (ob, os) n wk) = false := decide_eq_false hleast
      refine wp_region_quiet_below (by kernel_rfl) (by kernel_rfl) ?_
      repeat (go_big_quiet_step (first | exact Calls.regrown_of (specPaceFor_any b need ((unhide HI6).below (below_regrown _ _ _))) | exact Calls.regrown_of (specCoalFor_any qb pace work ((unhide HQ6).below (below_regrown _ _ _))) | exact Calls.regrown_of (specLeastCoal_any ob n wk ((unhide HO6).below (below_regrown _ _ _))) | exact Calls.regrown_of (implPaceFor_any ob n ((unhide HO6).below (below_regrown _ _ _))) | exact Calls.regrown_of (implCoalFor_any ob _ wk ((unhide HO6).below (below_regrown _ _ _)))))
      refine wpQuiet_nil ?_
      intro _ hw'
      obtain ⟨⟨dq, osq⟩, hw''⟩ := hw'
      subst hw''
      go_wp2_with fail
      go_meet
      exact ⟨rfl, below_regrown _ _ _⟩
  case rest =>
    clear k1 k2 k3 k4 k5 k6
    obtain ⟨rfl, hb7⟩ := hcut
    obtain ⟨w7, rfl⟩ : ∃ x, x = wc := ⟨wc, rfl⟩
    have hz7 := hb7.size
    have HI7 := hide ((unhide HI6).below hb7)
    have HQ7 := hide ((unhide HQ6).below hb7)
    have HX7 := hide ((unhide HX6).below hb7 (by omega))
    have HY7 := hide ((unhide HY6).below hb7 (by omega))
    have HB7 : Hid (Below w.heap.size w w7) := hide ((unhide HB6).trans (hb7.mono (unhide HB6).size))
    clear hb7 HI6 HQ6 HX6 HY6 HO6
    go_upto_region 11 with fail
    go_cut [94] (fun s wc => s = .bool false ∧ Below w7.heap.size w7 wc)
    case first =>
      by_cases hc0 : 0 ≤ coalForV (qb, qs) pace work
      · by_cases hw0 : 0 < work
        · have hmono := coalForV_mono hc0 hw0
          have hwb := coal_work hc0
          have hdm : decide (coalForV (qb, qs) pace work < coalForV (qb, qs) pace (work - 1)) = false := decide_eq_false (by omega)
          obtain ⟨y0, y1, _, _⟩ := unhide HY7
          go_wp2_with fail
          refine (implCoalFor_any qb pace (work - 1) (unhide HQ7)).mono ?_
          rintro e w8 ⟨rfl, hb8⟩
          have Hb8 := hide hb8
          clear hb8
          go_wp2_with fail
          go_meet
          exact ⟨rfl, unhide Hb8⟩
        · go_wp2_with fail
          go_meet
          exact ⟨rfl, Below.refl _ _⟩
      · go_wp2_with fail
        go_meet
        exact ⟨rfl, Below.refl _ _⟩
    case rest =>
      obtain ⟨rfl, hb8⟩ := hcut
      obtain ⟨w8, rfl⟩ : ∃ x, x = wc := ⟨wc, rfl⟩
      have hz8 := hb8.size
      have hi8 := (unhide HI7).below hb8
      have HI8 := hide hi8
      obtain ⟨x0, x1, _, _⟩ := (unhide HX7).below hb8 (by omega)
      have HB8 : Hid (Below w.heap.size w w8) := hide ((unhide HB7).trans (hb8.mono (unhide HB7).size))
      clear hb8 HI7 HX7 HQ7 HY7
      by_cases hp : paceForV (b, ps) need < 0
      · have hp1 := pace_none hp
        clear hi8 hp
        go_wp2_with fail
        go_ret
        exact ⟨rfl, unhide HB8⟩
      obtain ⟨hr, hn, hpk⟩ := pace_some hp
      obtain ⟨_, _, hl1, hl4⟩ := room_bd hr
      simp only at hl1 hl4
      obtain ⟨n0, n1⟩ := inB_of hn
      have hk1 := paceN_lt need ps (by omega)
      have Hlo := hide (paceN_lo need ps)
      have Hhi := hide (paceN_hi need ps (by omega))
      have HM : Hid (paceForV (b, ps) (need - 1) ≤ paceForV (b, ps) need) := hide (pace_less hp)
      have Hr := hide hr
      have Hn := hide hn
      clear hr hn hp
      simp only at hpk
      rw [hpk]
      have Hpk := hide hpk
      clear hpk
      generalize paceN need ps = k at *
      have hgk := room_pace (unhide Hr) (k := k) (show k < ps.length by omega)
      obtain ⟨va', vcap', hve, _, _, hrow⟩ := hi8
      cases hve
      rcases hrow with h0 | ⟨bk, off, rfl, hbw, hcl⟩
      · rw [h0] at hl1; simp at hl1
      obtain ⟨c0, c1⟩ := hcl k (by omega)
      have Hcl := hide hcl
      clear hcl
      simp only at hgk
      have hgk1 : ∀ j, j < k → 4 * (paceAt ps j).1 < 5 * need := fun j hj => enough_no (unhide Hlo j hj)
      have hgk2 : k + 1 = ps.length ∨ 5 * need ≤ 4 * (paceAt ps k).1 := (unhide Hhi).imp id enough_of
      generalize paceAt ps k = pk at *
      obtain ⟨f, c⟩ := pk
      simp only at c0 c1 hgk hgk2
      obtain ⟨f0, f1, _, _⟩ := hgk
      have Hgk1 := hide hgk1
      clear hgk1
      go_upto_region 16 with fail
      go_cut [134] (fun s wc => s = .bool false ∧ wc = w8)
      case first =>
        by_cases hk0 : 0 < k
        · obtain ⟨d0, d1⟩ := unhide Hcl (k - 1) (by omega)
          have hlow := unhide Hgk1 (k - 1) (by omega)
          have hpb := room_pace (unhide Hr) (k := k - 1) (show k - 1 < ps.length by omega)
          simp only at hpb
          generalize paceAt ps (k - 1) = pj at *
          obtain ⟨f', c'⟩ := pj
          simp only at d0 d1 hlow hpb
          obtain ⟨g0, g1, _, _⟩ := hpb
          have hdl : decide (5 * need ≤ 4 * f') = false := decide_eq_false (by omega)
          have hk1' : ((k - 1 : Nat) : Int) = (k : Int) - 1 := by omega
          rcases hgk2 with hlast | hen
          · have hl' : ((k : Int) != (ps.length : Int) - 1) = false := bne_eq_false_iff_eq.2 (by omega)
            by_cases hq : 4 * f < 5 * need
            · go_wp2_with fail
              go_meet
              exact ⟨rfl, rfl⟩
            · go_wp2_with fail
              go_meet
              exact ⟨rfl, rfl⟩
          · have hq : ¬ 4 * f < 5 * need := by omega
            go_wp2_with fail
            go_meet
            exact ⟨rfl, rfl⟩
        · obtain rfl : k = 0 := by omega
          simp only [Nat.zero_mul, Nat.add_zero] at c0 c1
          rcases hgk2 with hlast | hen
          · have hl' : ((0 : Int) != (ps.length : Int) - 1) = false := bne_eq_false_iff_eq.2 (by omega)
            clear hlast
            by_cases hq : 4 * f < 5 * need
            · go_wp2_with fail
              go_meet
              exact ⟨rfl, rfl⟩
            · go_wp2_with fail
              go_meet
              exact ⟨rfl, rfl⟩
          · have hq : ¬ 4 * f < 5 * need := by omega
            go_wp2_with fail
            go_meet
            exact ⟨rfl, rfl⟩
      case rest =>
        obtain ⟨rfl, rfl⟩ := hcut
        by_cases hn0 : need = 0
        · go_wp2_with fail
          go_ret
          exact ⟨rfl, unhide HB8⟩
        · have hle := unhide HM
          go_wp2_with fail
          refine (implPaceFor_any b (need - 1) (unhide HI8)).mono ?_
          rintro e w9 ⟨rfl, hb9⟩
          have Hb9 := hide hb9
          clear hb9
          rw [unhide Hpk] at hle
          generalize paceForV (b, ps) (need - 1) = P at *
          go_wp2_with fail
          go_ret
          exact ⟨rfl, (unhide HB8).trans ((unhide Hb9).mono (unhide HB8).size)⟩

end Go.Proofs.Ytbekkdneldcehaa
