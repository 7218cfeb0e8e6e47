/- The law FnQueues: at every row of bytes, what was queued stands where it belongs, and can be taken out again. No condition but that the bytes can be read. -/
import Derived.Test.YtekobedbjemdiaaEntDraw3
import Derived.Test.YtekobedbjemdiaaEntLike
import Derived.Test.YtekobedbjemdiaaEntFacts
import Derived.Deep.DeepCutAuto
namespace Go.Proofs.Ytekobedbjemdiaa
open Go.ChangeShapes Go.WideShapes Go.ChangeAt Go.RowKit Go.Sort
open Draw (St Off Row Cur IsRow)
set_option linter.unusedVariables false

theorem less_three (f z f' z' : Int) : (ltB (f, z) (f', z') = true ∧ ltB (f', z') (f, z) = false) ∨ (ltB (f, z) (f', z') = false ∧ ltB (f', z') (f, z) = true) ∨ (ltB (f, z) (f', z') = false ∧ ltB (f', z') (f, z) = false ∧ f' = f ∧ z' = z) := by
  cases h1 : ltB (f, z) (f', z')
  · cases h2 : ltB (f', z') (f, z)
    · have := ltB_eq h1 h2
      simp only [Prod.mk.injEq] at this
      exact .inr (.inr ⟨rfl, rfl, this.1, this.2⟩)
    · exact .inr (.inl ⟨rfl, rfl⟩)
  · exact .inl ⟨rfl, ltB_not h1⟩
theorem implLess_q {f z f' z' : Int} {b : Bool} (h : ltB (f, z) (f', z') = b) (w : World) : Calls Try.prog 20 #[.agg #[.int .i64 f, .int .i64 z], .agg #[.int .i64 f', .int .i64 z']] w fun e w' => e = .returned (.bool b) ∧ Below w.heap.size w w' := by
  subst h; exact implLess_any _ _ _ _ _
theorem specLess_q {f z f' z' : Int} {b : Bool} (h : ltB (f, z) (f', z') = b) (w : World) : Calls Try.prog 21 #[.agg #[.int .i64 f, .int .i64 z], .agg #[.int .i64 f', .int .i64 z']] w fun e w' => e = .returned (.bool b) ∧ Below w.heap.size w w' := by
  subst h; exact specLess_any _ _ _ _ _

set_option maxRecDepth 100000 in
set_option maxHeartbeats 16000000 in
theorem walkFnQueues (a0 : Option Addr) (len0 cap0 : Nat) (z0 : List Int) (w : World) (w0 : IsRow .u8 w a0 len0 cap0 z0) :
    Calls Try.prog 3 #[.slice a0 len0 cap0] w fun e w' => e = .returned (.bool true) ∧ Below w.heap.size w w' := by
  by_cases hbig : 4096 < len0
  · go_enter Try.func3, Try.ntmps3
    go_wp2_with fail
    refine (Draw.big_yes _ _ _ _ hbig).mono ?_
    rintro e w' ⟨rfl, rfl⟩
    go_wp2_with fail
    go_ret
    exact ⟨rfl, Below.refl _ _⟩
  have HRow := hide (Draw.row_of w0 (by omega))
  clear w0
  go_enter Try.func3, Try.ntmps3
  go_wp2_with fail
  refine (Draw.big_no _ _ _ _ (by omega)).mono ?_
  rintro e w' ⟨rfl, hw'⟩
  subst w'
  go_wp2_with fail
  refine (drawQueued_any _ _ _ _ (unhide HRow)).mono ?_
  rintro e w1 ⟨v, ps, f, z, rfl, hi, hl, hbl⟩
  obtain ⟨qa, qcap, rfl⟩ := hi.shape
  have HI1 := hide hi
  have HB1 := hide hbl
  clear hi hbl
  obtain ⟨L, bq, hR⟩ : ∃ L b, queuedV ps (f, z) = (L, b) := ⟨_, _, rfl⟩
  have HR := hide hR
  clear hR
  have HE1 := hide (Res.new w1 (.int .i64 f) (.int .i64 z) 26)
  obtain ⟨e0, e1, _, _⟩ := unhide HE1
  go_wp2_with fail
  refine (implQueued_any f z ((unhide HI1).paces.below ((Below.refl _ _).alloc (Nat.le_refl _) _))).mono ?_
  rw [unhide HR]
  rintro e w2 ⟨⟨xv, rfl, hx⟩, hb2⟩
  simp only at hx
  obtain ⟨xa, xcap, rfl⟩ := hx.shape
  have hz2 : w1.heap.size + 1 ≤ w2.heap.size := by have := hb2.size; simpa using this
  have HX2 := hide hx.paces
  have HE2 := hide ((unhide HE1).below hb2 (by simp))
  have HI2 := hide (((unhide HI1).paces.below ((Below.refl _ _).alloc (Nat.le_refl _) _)).below hb2)
  have HB2 : Hid (Below w.heap.size w w2) := hide (((unhide HB1).alloc (unhide HB1).size _).trans (hb2.mono (by have := (unhide HB1).size; simp; omega)))
  clear hx hb2 HE1 HI1 HB1 e0 e1
  go_wp2_with fail
  refine (drawUnqueued_any _ _ _ _ (Draw.row_later (unhide HRow) (unhide HB2))).mono ?_
  rintro e w3 ⟨rv, rs, who, rfl, hr3, hrl, hb3⟩
  obtain ⟨ra, rcap, rfl⟩ := hr3.shape
  have HT3 := hide hr3.paces
  have hz3 := hb3.size
  have HX3 := hide ((unhide HX2).below hb3)
  have HE3 := hide ((unhide HE2).below hb3 (by omega))
  have HI3 := hide ((unhide HI2).below hb3)
  have HB3 := hide ((unhide HB2).trans (hb3.mono (unhide HB2).size))
  clear hr3 hb3 HX2 HE2 HI2 HB2
  obtain ⟨M, bu, hR2⟩ : ∃ L b, unqueuedV rs who = (L, b) := ⟨_, _, rfl⟩
  have HR2 := hide hR2
  clear hR2
  go_wp2_with fail
  refine (implUnqueued_any who (unhide HT3)).mono ?_
  rw [unhide HR2]
  rintro e w4 ⟨⟨yv, rfl, hy⟩, hb4⟩
  simp only at hy
  obtain ⟨ya, ycap, rfl⟩ := hy.shape
  have HY4 := hide hy.paces
  have hz4 := hb4.size
  have HT4 := hide ((unhide HT3).below hb4)
  have HX4 := hide ((unhide HX3).below hb4)
  have HE4 := hide ((unhide HE3).below hb4 (by omega))
  have HI4 := hide ((unhide HI3).below hb4)
  have HB4 := hide ((unhide HB3).trans (hb4.mono (unhide HB3).size))
  clear hy hb4 HT3 HX3 HE3 HI3 HB3
  go_wp2_with fail
  refine (drawEntryLess_any _ _ _ _ (Draw.row_later (unhide HRow) (unhide HB4))).mono ?_
  rintro e w5 ⟨f1, z1, f2, z2, rfl, hb5⟩
  have hz5 := hb5.size
  have HY5 := hide ((unhide HY4).below hb5)
  have HT5 := hide ((unhide HT4).below hb5)
  have HX5 := hide ((unhide HX4).below hb5)
  have HE5 := hide ((unhide HE4).below hb5 (by omega))
  have HI5 := hide ((unhide HI4).below hb5)
  have HB5 := hide ((unhide HB4).trans (hb5.mono (unhide HB4).size))
  clear hb5 HY4 HT4 HX4 HE4 HI4 HB4
  obtain ⟨W5, hW⟩ : ∃ W5, W5 = (w5.alloc (.cells #[.int .i64 f1, .int .i64 z1] 26)).alloc (.cells #[.int .i64 f2, .int .i64 z2] 26) := ⟨_, rfl⟩
  have hs5 : w5.heap.size + 2 ≤ W5.heap.size := by rw [hW]; simp
  have hb5 : Below w5.heap.size w5 W5 := by rw [hW]; exact ((Below.refl _ _).alloc (Nat.le_refl _) _).alloc (by simp) _
  have HA6 : Hid (Res W5 w5.heap.size (.int .i64 f1) (.int .i64 z1)) := hide (by rw [hW]; exact (Res.new _ _ _ _).alloc (by simp) _)
  have HC6 : Hid (Res W5 (w5.heap.size + 1) (.int .i64 f2) (.int .i64 z2)) := hide (by rw [hW]; have := Res.new (w5.alloc (.cells #[.int .i64 f1, .int .i64 z1] 26)) (.int .i64 f2) (.int .i64 z2) 26; simpa using this)
  have HY6 := hide ((unhide HY5).below hb5)
  have HT6 := hide ((unhide HT5).below hb5)
  have HX6 := hide ((unhide HX5).below hb5)
  have HE6 := hide ((unhide HE5).below hb5 (by omega))
  have HI6 := hide ((unhide HI5).below hb5)
  have HB6 := hide ((unhide HB5).trans (hb5.mono (unhide HB5).size))
  have hWs : w1.heap.size < W5.heap.size := by omega
  clear hb5 HY5 HT5 HX5 HE5 HI5 HB5
  go_upto_region 8 with fail
  rw [← hW]
  clear hW
  obtain ⟨e0, e1, _, _⟩ := unhide HE6
  go_wp2_with fail
  refine (specQueued_any f z (unhide HI6)).mono ?_
  rw [unhide HR]
  rintro e w6 ⟨⟨uv, rfl, hu⟩, hb6⟩
  simp only at hu
  obtain ⟨ua, ucap, rfl⟩ := hu.shape
  have HU7 := hide hu.paces
  have hz7 := hb6.size
  have HY7 := hide ((unhide HY6).below hb6)
  have HT7 := hide ((unhide HT6).below hb6)
  have HX7 := hide ((unhide HX6).below hb6)
  have HI7 := hide ((unhide HI6).below hb6)
  have HE7 := hide ((unhide HE6).below hb6 (by omega))
  have HA7 := hide ((unhide HA6).below hb6 (by omega))
  have HC7 := hide ((unhide HC6).below hb6 (by omega))
  have HB7 := hide ((unhide HB6).trans (hb6.mono (unhide HB6).size))
  clear hb6 HY6 HT6 HX6 HI6 HE6 HA6 HC6 HB6
  clear hu e0 e1
  go_wp2_with fail
  refine (likeQueue_yes (unhide HX7) (unhide HU7)).mono ?_
  rintro e w7 ⟨rfl, hb7⟩
  have hz8 := hb7.size
  have HY8 := hide ((unhide HY7).below hb7)
  have HT8 := hide ((unhide HT7).below hb7)
  have HX8 := hide ((unhide HX7).below hb7)
  have HI8 := hide ((unhide HI7).below hb7)
  have HE8 := hide ((unhide HE7).below hb7 (by omega))
  have HA8 := hide ((unhide HA7).below hb7 (by omega))
  have HC8 := hide ((unhide HC7).below hb7 (by omega))
  have HB8 := hide ((unhide HB7).trans (hb7.mono (unhide HB7).size))
  clear hb7 HY7 HT7 HX7 HI7 HE7 HA7 HC7 HB7
  clear HU7
  go_wp2_with fail
  refine (implQueueOk_any (unhide HI8)).mono ?_
  rintro e w8 ⟨rfl, hb8⟩
  have hz9 := hb8.size
  have HY9 := hide ((unhide HY8).below hb8)
  have HT9 := hide ((unhide HT8).below hb8)
  have HX9 := hide ((unhide HX8).below hb8)
  have HI9 := hide ((unhide HI8).below hb8)
  have HE9 := hide ((unhide HE8).below hb8 (by omega))
  have HA9 := hide ((unhide HA8).below hb8 (by omega))
  have HC9 := hide ((unhide HC8).below hb8 (by omega))
  have HB9 := hide ((unhide HB8).trans (hb8.mono (unhide HB8).size))
  clear hb8 HY8 HT8 HX8 HI8 HE8 HA8 HC8 HB8
  go_wp2_with fail
  refine (specQueueOk_any (unhide HI9)).mono ?_
  rintro e w9 ⟨rfl, hb9⟩
  have hz10 := hb9.size
  have HY10 := hide ((unhide HY9).below hb9)
  have HT10 := hide ((unhide HT9).below hb9)
  have HX10 := hide ((unhide HX9).below hb9)
  have HI10 := hide ((unhide HI9).below hb9)
  have HE10 := hide ((unhide HE9).below hb9 (by omega))
  have HA10 := hide ((unhide HA9).below hb9 (by omega))
  have HC10 := hide ((unhide HC9).below hb9 (by omega))
  have HB10 := hide ((unhide HB9).trans (hb9.mono (unhide HB9).size))
  clear hb9 HY9 HT9 HX9 HI9 HE9 HA9 HC9 HB9
  have hqq : (queueB ps != queueB ps) = false := by simp
  go_upto_region 11 with fail
  go_wp2_with fail
  refine (specUnqueued_any who (unhide HT10)).mono ?_
  rw [unhide HR2]
  rintro e w10 ⟨⟨tv, rfl, ht⟩, hb10⟩
  simp only at ht
  obtain ⟨ta, tcap, rfl⟩ := ht.shape
  have HV11 := hide ht.paces
  have hz11 := hb10.size
  have HY11 := hide ((unhide HY10).below hb10)
  have HT11 := hide ((unhide HT10).below hb10)
  have HX11 := hide ((unhide HX10).below hb10)
  have HI11 := hide ((unhide HI10).below hb10)
  have HE11 := hide ((unhide HE10).below hb10 (by omega))
  have HA11 := hide ((unhide HA10).below hb10 (by omega))
  have HC11 := hide ((unhide HC10).below hb10 (by omega))
  have HB11 := hide ((unhide HB10).trans (hb10.mono (unhide HB10).size))
  clear hb10 HY10 HT10 HX10 HI10 HE10 HA10 HC10 HB10
  clear ht hqq
  have k0 := cell_regrown (unhide HA11).1
  have k1 := cell_regrown (unhide HA11).2.1
  have k2 := cell_regrown (unhide HC11).1
  have k3 := cell_regrown (unhide HC11).2.1
  go_upto_region 12 with fail
  go_cut [121] (fun s wc => s = .bool false ∧ Below w10.heap.size w10 wc)
  case first =>
    cases bu
    all_goals
      rcases less_three f1 z1 f2 z2 with ⟨h1, h2⟩ | ⟨h1, h2⟩ | ⟨h1, h2, rfl, rfl⟩
      all_goals
        have HL1 := hide h1
        have HL2 := hide h2
        clear h1 h2
        refine wp_region_quiet_below (by kernel_rfl) (by kernel_rfl) ?_
        repeat (go_big_quiet_step (first | exact Calls.regrown_of (likeQueue_yes ((unhide HY11).below (below_regrown _ _ _)) ((unhide HV11).below (below_regrown _ _ _))) | exact Calls.regrown_of (implLess_q (by first | exact (unhide HL1) | exact (unhide HL2)) _) | exact Calls.regrown_of (specLess_q (by first | exact (unhide HL1) | exact (unhide HL2)) _)))
        refine wpQuiet_nil ?_
        intro _ hw'
        obtain ⟨⟨dq, osq⟩, hw''⟩ := hw'
        subst hw''
        go_wp2_with fail
        go_meet
        exact ⟨rfl, below_regrown _ _ _⟩
  case rest =>
    clear k0 k1 k2 k3
    obtain ⟨rfl, hb11⟩ := hcut
    obtain ⟨w11, rfl⟩ : ∃ x, x = wc := ⟨wc, rfl⟩
    have hz12 := hb11.size
    have HY12 := hide ((unhide HY11).below hb11)
    have HX12 := hide ((unhide HX11).below hb11)
    have HI12 := hide ((unhide HI11).below hb11)
    have HE12 := hide ((unhide HE11).below hb11 (by omega))
    have HB12 := hide ((unhide HB11).trans (hb11.mono (unhide HB11).size))
    clear hb11 HY11 HT11 HX11 HI11 HE11 HA11 HC11 HB11 HV11
    cases bu
    · cases bq
      · rcases q_no (unhide HR) with ⟨hq, hLe⟩ | ⟨hq, hLe⟩
        · subst hLe
          have HQq := hide (specQueueOk_any (unhide HI12))
          go_wp2_with fail
          refine (unhide HQq).mono ?_
          rw [hq]
          rintro e wl ⟨rfl, hbl⟩
          have HBl := hide ((unhide HB12).trans (hbl.mono (unhide HB12).size))
          clear hbl
          go_wp2_with fail
          go_ret
          exact ⟨rfl, unhide HBl⟩
        · subst hLe
          have HQq := hide (specQueueOk_any (unhide HI12))
          go_wp2_with fail
          refine (unhide HQq).mono ?_
          rw [hq]
          rintro e wl ⟨rfl, hbl⟩
          have HXl := hide ((unhide HX12).below hbl)
          have HIl := hide ((unhide HI12).below hbl)
          have HBl := hide ((unhide HB12).trans (hbl.mono (unhide HB12).size))
          clear hbl
          go_wp2_with fail
          refine (likeQueue_yes (unhide HXl) (unhide HIl)).mono ?_
          rintro e wm ⟨rfl, hbm⟩
          have HBm := hide ((unhide HBl).trans (hbm.mono (unhide HBl).size))
          clear hbm
          go_wp2_with fail
          go_ret
          exact ⟨rfl, unhide HBm⟩
      · have hQ3 := q_yes (unhide HR)
        have HQ3 := hide hQ3
        have hLl : L.length ≤ ps.length + 1 ∧ ps.length + 1 ≤ L.length := by have := hQ3.2.1; omega
        clear hQ3
        obtain ⟨_, g1, _, _⟩ := unhide HE12
        go_wp2_with fail
        refine (implUnqueued_any z (unhide HX12)).mono ?_
        rw [(unhide HQ3).2.2]
        rintro e wl ⟨⟨bv, rfl, hbv⟩, hbl⟩
        simp only at hbv
        obtain ⟨ba, bcap, rfl⟩ := hbv.shape
        have HVl := hide hbv.paces
        have HXl := hide ((unhide HX12).below hbl)
        have HIl := hide ((unhide HI12).below hbl)
        have HBl := hide ((unhide HB12).trans (hbl.mono (unhide HB12).size))
        clear hbl hbv g1
        go_wp2_with fail
        refine (implQueueOk_any (unhide HXl)).mono ?_
        rw [(unhide HQ3).1]
        rintro e wm ⟨rfl, hbm⟩
        have HVm := hide ((unhide HVl).below hbm)
        have HIm := hide ((unhide HIl).below hbm)
        have HBm := hide ((unhide HBl).trans (hbm.mono (unhide HBl).size))
        clear hbm
        have hlb : ((L.length : Int) == (ps.length : Int) + 1) = true := by simp; omega
        go_wp2_with fail
        refine (likeQueue_yes (unhide HVm) (unhide HIm)).mono ?_
        rintro e wn ⟨rfl, hbn⟩
        have HBn := hide ((unhide HBm).trans (hbn.mono (unhide HBm).size))
        clear hbn
        go_wp2_with fail
        go_ret
        exact ⟨rfl, unhide HBn⟩
    · have hU := unq_yes (unhide HR2)
      have HU := hide hU
      have hul : M.length + 1 ≤ rs.length ∧ rs.length ≤ M.length + 1 := by have := hU.2.1; omega
      clear hU
      obtain ⟨ya', ycap', ye, yc, ym, yr⟩ := unhide HY12
      cases ye
      have Hyr := hide yr
      clear yr
      go_wp2_with fail
      go_loop [17] (fun i => ∃ k : Nat, k ≤ M.length ∧ i = .int .i64 k) (fun i => M.length - (intOf i).toNat)
      case atStart => exact ⟨0, Nat.zero_le _, rfl⟩
      case round =>
        obtain ⟨k, hk, rfl⟩ := hrel
        by_cases hlt : k < M.length
        · rcases unhide Hyr with h0 | ⟨b, off, rfl, hbw, hcl⟩
          · rw [h0] at hlt; simp at hlt
          obtain ⟨c0, c1⟩ := hcl k hlt
          have hne : ((paceAt M k).2 == who) = false := beq_eq_false_iff_ne.2 ((unhide HU).2.2 k hlt)
          generalize (paceAt M k).2 = y at *
          clear hcl c0
          go_wp2_with fail
          go_round
          case rel => exact ⟨k + 1, by omega, by go_num⟩
          case measure => simp [intOf]; omega
        · have hnn : ((M.length : Int) != (rs.length : Int) - 1) = false := by simp; omega
          have hnn2 : ((M.length : Int) == (rs.length : Int) - 1) = true := by simp; omega
          have HQY := hide (implQueueOk_any (unhide HY12))
          go_wp2_with fail
          refine (unhide HQY).mono ?_
          rw [(unhide HU).1]
          rintro e w12 ⟨rfl, hb12⟩
          have hz13 := hb12.size
          have HX13 := hide ((unhide HX12).below hb12)
          have HI13 := hide ((unhide HI12).below hb12)
          have HE13 := hide ((unhide HE12).below hb12 (by omega))
          have HB13 := hide ((unhide HB12).trans (hb12.mono (unhide HB12).size))
          clear hb12 hnn hnn2
          cases bq
          · rcases q_no (unhide HR) with ⟨hq, hLe⟩ | ⟨hq, hLe⟩
            · subst hLe
              have HQq := hide (specQueueOk_any (unhide HI13))
              go_wp2_with fail
              refine (unhide HQq).mono ?_
              rw [hq]
              rintro e wl ⟨rfl, hbl⟩
              have HBl := hide ((unhide HB13).trans (hbl.mono (unhide HB13).size))
              clear hbl
              go_wp2_with fail
              go_ret
              exact ⟨rfl, unhide HBl⟩
            · subst hLe
              have HQq := hide (specQueueOk_any (unhide HI13))
              go_wp2_with fail
              refine (unhide HQq).mono ?_
              rw [hq]
              rintro e wl ⟨rfl, hbl⟩
              have HXl := hide ((unhide HX13).below hbl)
              have HIl := hide ((unhide HI13).below hbl)
              have HBl := hide ((unhide HB13).trans (hbl.mono (unhide HB13).size))
              clear hbl
              go_wp2_with fail
              refine (likeQueue_yes (unhide HXl) (unhide HIl)).mono ?_
              rintro e wm ⟨rfl, hbm⟩
              have HBm := hide ((unhide HBl).trans (hbm.mono (unhide HBl).size))
              clear hbm
              go_wp2_with fail
              go_ret
              exact ⟨rfl, unhide HBm⟩
          · have hQ3 := q_yes (unhide HR)
            have HQ3 := hide hQ3
            have hLl : L.length ≤ ps.length + 1 ∧ ps.length + 1 ≤ L.length := by have := hQ3.2.1; omega
            clear hQ3
            obtain ⟨_, g1, _, _⟩ := unhide HE13
            go_wp2_with fail
            refine (implUnqueued_any z (unhide HX13)).mono ?_
            rw [(unhide HQ3).2.2]
            rintro e wl ⟨⟨bv, rfl, hbv⟩, hbl⟩
            simp only at hbv
            obtain ⟨ba, bcap, rfl⟩ := hbv.shape
            have HVl := hide hbv.paces
            have HXl := hide ((unhide HX13).below hbl)
            have HIl := hide ((unhide HI13).below hbl)
            have HBl := hide ((unhide HB13).trans (hbl.mono (unhide HB13).size))
            clear hbl hbv g1
            go_wp2_with fail
            refine (implQueueOk_any (unhide HXl)).mono ?_
            rw [(unhide HQ3).1]
            rintro e wm ⟨rfl, hbm⟩
            have HVm := hide ((unhide HVl).below hbm)
            have HIm := hide ((unhide HIl).below hbm)
            have HBm := hide ((unhide HBl).trans (hbm.mono (unhide HBl).size))
            clear hbm
            have hlb : ((L.length : Int) == (ps.length : Int) + 1) = true := by simp; omega
            go_wp2_with fail
            refine (likeQueue_yes (unhide HVm) (unhide HIm)).mono ?_
            rintro e wn ⟨rfl, hbn⟩
            have HBn := hide ((unhide HBm).trans (hbn.mono (unhide HBm).size))
            clear hbn
            go_wp2_with fail
            go_ret
            exact ⟨rfl, unhide HBn⟩

end Go.Proofs.Ytekobedbjemdiaa
