/- The law FnFirst: at every row of bytes, first in the queue that is drawn is who had least. No condition but that the bytes can be read. -/
import Derived.Test.YtekobedbjemdiaaEntDraw3
import Derived.Test.YtekobedbjemdiaaEntFirst
namespace Go.Proofs.Ytekobedbjemdiaa
open Go.ChangeShapes Go.WideShapes Go.ChangeAt Go.RowKit Go.Sort
open Draw (St Off Row Cur IsRow)
set_option linter.unusedVariables false

theorem firstV_cases (ps : List PaceV) : (firstV ps = ((0, 0), false) ∧ (ps.length = 0 ∨ queueB ps = false)) ∨ (firstV ps = (paceAt ps 0, true) ∧ queueB ps = true ∧ 0 < ps.length) := by
  cases hq : queueB ps
  · exact .inl ⟨firstV_no (by rw [hq]; rfl), .inr rfl⟩
  · by_cases hl : 0 < ps.length
    · exact .inr ⟨firstV_yes hq hl, rfl, hl⟩
    · exact .inl ⟨firstV_no (by rw [decide_eq_false hl]; simp), .inl (by omega)⟩
theorem first_less {ps : List PaceV} (h : queueB ps = true) {k : Nat} (h0 : 0 < k) (hk : k < ps.length) : ltB (paceAt ps 0) (paceAt ps k) = true :=
  ord_of (fun j j0 jn => (stepQ_of ((queueB_of h).2 j jn)).2.1 j0) 0 k h0 hk

set_option maxRecDepth 100000 in
set_option maxHeartbeats 8000000 in
theorem walkFnFirst (a0 : Option Addr) (len0 cap0 : Nat) (z0 : List Int) (w : World) (w0 : IsRow .u8 w a0 len0 cap0 z0) :
    Calls Try.prog 4 #[.slice a0 len0 cap0] w fun e w' => e = .returned (.bool true) ∧ Below w.heap.size w w' := by
  by_cases hbig : 4096 < len0
  · go_enter Try.func4, Try.ntmps4
    go_wp2_with fail
    refine (Draw.big_yes _ _ _ _ hbig).mono ?_
    rintro e w' ⟨rfl, rfl⟩
    go_wp2_with fail
    go_ret
    exact ⟨rfl, Below.refl _ _⟩
  have HRow := hide (Draw.row_of w0 (by omega))
  clear w0
  go_enter Try.func4, Try.ntmps4
  go_wp2_with fail
  refine (Draw.big_no _ _ _ _ (by omega)).mono ?_
  rintro e w' ⟨rfl, hw'⟩
  subst w'
  go_wp2_with fail
  refine (drawFirstIn_any _ _ _ _ (unhide HRow)).mono ?_
  rintro e w1 ⟨v, ps, rfl, hi, hl, hbl⟩
  obtain ⟨va, vcap, rfl⟩ := hi.shape
  have HI1 := hide hi
  have HB1 := hide hbl
  clear hi hbl
  obtain ⟨f, z, ok, hF⟩ : ∃ f z ok, firstV ps = ((f, z), ok) := ⟨_, _, _, rfl⟩
  have HF := hide hF
  clear hF
  go_wp2_with fail
  refine (implFirstIn_any (unhide HI1).paces).mono ?_
  rw [unhide HF]
  rintro e w2 ⟨rfl, hb2⟩
  have HB2 := hide ((unhide HB1).trans (hb2.mono (unhide HB1).size))
  have HI2 := hide ((unhide HI1).later hb2)
  clear hb2 HB1 HI1
  go_wp2_with fail
  obtain ⟨W2, hW⟩ : ∃ W2, W2 = w2.alloc (.cells #[.int .i64 f, .int .i64 z] 26) := ⟨_, rfl⟩
  rw [← hW]
  have hs2 : w2.heap.size + 1 ≤ W2.heap.size := by rw [hW]; simp
  have HR2 : Hid (Res W2 w2.heap.size (.int .i64 f) (.int .i64 z)) := hide (by rw [hW]; exact Res.new _ _ _ _)
  have HC2 : Hid (Below w.heap.size w W2) := hide (by rw [hW]; exact (unhide HB2).alloc (unhide HB2).size _)
  have HJ2 : Hid (EntsAt w.heap.size W2 (.slice va ps.length vcap) ps) := hide (by rw [hW]; exact (unhide HI2).later ((Below.refl _ _).alloc (Nat.le_refl _) _))
  clear hW HB2 HI2
  refine (specFirstIn_any (unhide HJ2).paces).mono ?_
  rw [unhide HF]
  rintro e w3 ⟨rfl, hb3⟩
  have HC3 := hide ((unhide HC2).trans (hb3.mono (unhide HC2).size))
  have HJ3 := hide ((unhide HJ2).later hb3)
  have HR3 := hide ((unhide HR2).below hb3 (by omega))
  have hz3 := hb3.size
  clear hb3 HC2 HJ2 HR2
  have HR4 := hide ((unhide HR3).alloc (by omega) (.cells #[.int .i64 f, .int .i64 z] 26))
  obtain ⟨r0, r1, _, _⟩ := unhide HR4
  have HJ4 := hide ((unhide HJ3).later ((Below.refl _ _).alloc (Nat.le_refl _) (.cells #[.int .i64 f, .int .i64 z] 26)))
  have HC4 := hide ((unhide HC3).alloc (unhide HC3).size (.cells #[.int .i64 f, .int .i64 z] 26))
  clear HR3 HJ3 HC3
  rcases firstV_cases ps with ⟨h1, h2⟩ | ⟨h1, h2, h3⟩
  · rw [unhide HF] at h1
    simp only [Prod.mk.injEq] at h1
    obtain ⟨⟨rfl, rfl⟩, rfl⟩ := h1
    by_cases hz : ps.length = 0
    · obtain rfl : ps = [] := List.eq_nil_of_length_eq_zero hz
      go_wp2_with fail
      go_ret
      exact ⟨rfl, unhide HC4⟩
    · have hq : queueB ps = false := by rcases h2 with h2 | h2; · omega
                                        · exact h2
      have hz1 : ((ps.length : Int) == 0) = false := beq_eq_false_iff_ne.2 (by omega)
      have hz2 : (ps.length == 0) = false := beq_eq_false_iff_ne.2 hz
      have HQ := hide (specQueueOk_any (unhide HJ4).paces)
      clear h2
      go_wp2_with fail
      refine (unhide HQ).mono ?_
      rw [hq]
      rintro e w5 ⟨rfl, hb5⟩
      have HC5 := hide ((unhide HC4).trans (hb5.mono (unhide HC4).size))
      clear hb5
      go_wp2_with fail
      go_ret
      exact ⟨rfl, unhide HC5⟩
  · rw [unhide HF] at h1
    simp only [Prod.mk.injEq] at h1
    obtain ⟨h1, rfl⟩ := h1
    have H1 := hide h1
    have H2 := hide h2
    clear h1 h2
    obtain ⟨W4, hW⟩ : ∃ W4, W4 = w3.alloc (.cells #[.int .i64 f, .int .i64 z] 26) := ⟨_, rfl⟩
    have hs4 : w2.heap.size < W4.heap.size := by rw [hW]; simp; omega
    have HR5 : Hid (Res W4 w2.heap.size (.int .i64 f) (.int .i64 z)) := hide (by rw [hW]; exact unhide HR4)
    have HJ5 : Hid (EntsAt w.heap.size W4 (.slice va ps.length vcap) ps) := hide (by rw [hW]; exact unhide HJ4)
    have HC5 : Hid (Below w.heap.size w W4) := hide (by rw [hW]; exact unhide HC4)
    obtain ⟨qa, qcap, qe, qc, qm, qr⟩ := (unhide HJ5).paces
    cases qe
    have Hqr := hide qr
    clear qr
    go_wp2_with fail
    rw [← hW]
    clear hW HR4 HJ4 HC4 r0 r1
    go_loopw [8, 9] (fun s i wr => ∃ (k : Nat) (sb : Bool), k ≤ ps.length ∧ i = .int .i64 k ∧ s = .bool sb ∧ sb = decide (0 < k) ∧ Below W4.heap.size W4 wr) (fun _ i _ => ps.length - (intOf i).toNat)
    case atStart => exact ⟨0, false, Nat.zero_le _, rfl, rfl, rfl, Below.refl _ _⟩
    case round =>
      obtain ⟨k, sb, hk, rfl, rfl, hsb, hb⟩ := hrel
      have Hsb := hide hsb
      clear hsb
      have Hb := hide hb
      by_cases hlt : k < ps.length
      · rcases unhide Hqr with h0 | ⟨b, off, rfl, hbw, hcl⟩
        · rw [h0] at hlt; simp at hlt
        obtain ⟨c0, c1⟩ := hcl k hlt
        rw [← hb.cell (p := ⟨b, off + k * 2, none⟩) hbw] at c0
        rw [← hb.cell (p := ⟨b, off + k * 2 + 1, none⟩) hbw] at c1
        obtain ⟨r0, r1, _, _⟩ := (unhide HR5).below hb hs4
        have hLs : 0 < k → ltB (f, z) (paceAt ps k) = true := fun h0 => by rw [unhide H1]; exact first_less (unhide H2) h0 hlt
        have hEq : k = 0 → paceAt ps k = (f, z) := fun h0 => by subst h0; exact (unhide H1).symm
        generalize paceAt ps k = p at *
        obtain ⟨f', z'⟩ := p
        simp only at c0 c1
        clear hcl hb
        by_cases hz : 0 < k
        · have hL := hLs hz
          have hLC : ∀ W, Calls Try.prog 21 #[.agg #[.int .i64 f, .int .i64 z], .agg #[.int .i64 f', .int .i64 z']] W fun e w' => e = .returned (.bool true) ∧ Below W.heap.size W w' := fun W => by have := specLess_any f z f' z' W; rwa [hL] at this
          have HLC := hide hLC
          obtain rfl : sb = true := (unhide Hsb).trans (decide_eq_true hz)
          have hne : (f' == f) = false ∨ (f' = f ∧ (z' == z) = false) := by
            rw [ltB_t] at hL
            simp only at hL
            by_cases e : f' = f
            · exact .inr ⟨e, beq_eq_false_iff_ne.2 (by omega)⟩
            · exact .inl (beq_eq_false_iff_ne.2 e)
          clear hLs hEq hLC hL
          have k0 := cell_regrown c0
          have k1 := cell_regrown c1
          have k2 := cell_regrown r0
          have k3 := cell_regrown r1
          clear c0 c1 r0 r1
          rcases hne with hne | ⟨rfl, hne⟩
          all_goals
            go_wp2_with fail
            refine wp_region_quiet_below (by kernel_rfl) (by kernel_rfl) ?_
            repeat (go_big_quiet_step (fail))
            refine wpQuiet_nil ?_
            intro w5 hw'
            obtain ⟨⟨dq, osq⟩, hw''⟩ := hw'
            have Hb5 : Hid (Below W4.heap.size W4 w5) := hide (by rw [hw'']; exact (unhide Hb).trans ((below_regrown _ _ _).mono (unhide Hb).size))
            have g0 := k0 dq osq
            have g1 := k1 dq osq
            have g2 := k2 dq osq
            have g3 := k3 dq osq
            simp only at hw''
            rw [← hw''] at g0 g1 g2 g3
            clear hw'' k0 k1 k2 k3
            have k0 := cell_regrown g0
            have k1 := cell_regrown g1
            have k2 := cell_regrown g2
            have k3 := cell_regrown g3
            clear g0 g1 g2 g3
            go_wp2_with fail
            refine wp_region_quiet_below (by kernel_rfl) (by kernel_rfl) ?_
            repeat (go_big_quiet_step (exact Calls.regrown_of (unhide HLC _)))
            refine wpQuiet_nil ?_
            intro w6 hw'
            have Hb6 : Hid (Below W4.heap.size W4 w6) := hide (by obtain ⟨q, rfl⟩ := hw'; exact (unhide Hb5).trans ((below_regrown _ _ _).mono (unhide Hb5).size))
            clear hw' k0 k1 k2 k3
            go_wp2_with fail
            go_roundw
            case rel => exact ⟨k + 1, true, by omega, by go_num, rfl, by simp, unhide Hb6⟩
            case measure => simp [intOf]; omega
        · obtain rfl : sb = false := (unhide Hsb).trans (decide_eq_false hz)
          obtain rfl : k = 0 := by omega
          have he := hEq rfl
          simp only [Prod.mk.injEq] at he
          obtain ⟨rfl, rfl⟩ := he
          simp only [Nat.zero_mul, Nat.add_zero] at c0 c1
          clear hLs hEq hz
          have k0 := cell_regrown c0
          have k1 := cell_regrown c1
          have k2 := cell_regrown r0
          have k3 := cell_regrown r1
          clear c0 c1 r0 r1
          go_wp2_with fail
          refine wp_region_quiet_below (by kernel_rfl) (by kernel_rfl) ?_
          repeat (go_big_quiet_step (fail))
          refine wpQuiet_nil ?_
          intro w5 hw'
          obtain ⟨⟨dq, osq⟩, hw''⟩ := hw'
          have Hb5 : Hid (Below W4.heap.size W4 w5) := hide (by rw [hw'']; exact (unhide Hb).trans ((below_regrown _ _ _).mono (unhide Hb).size))
          have g0 := k0 dq osq
          have g1 := k1 dq osq
          have g2 := k2 dq osq
          have g3 := k3 dq osq
          simp only at hw''
          rw [← hw''] at g0 g1 g2 g3
          clear hw'' k0 k1 k2 k3
          have k0 := cell_regrown g0
          have k1 := cell_regrown g1
          have k2 := cell_regrown g2
          have k3 := cell_regrown g3
          clear g0 g1 g2 g3
          go_wp2_with fail
          refine wp_region_quiet_below (by kernel_rfl) (by kernel_rfl) ?_
          repeat (go_big_quiet_step (fail))
          refine wpQuiet_nil ?_
          intro w6 hw'
          have Hb6 : Hid (Below W4.heap.size W4 w6) := hide (by obtain ⟨q, rfl⟩ := hw'; exact (unhide Hb5).trans ((below_regrown _ _ _).mono (unhide Hb5).size))
          clear hw' k0 k1 k2 k3
          go_wp2_with fail
          go_roundw
          case rel => exact ⟨1, true, by omega, by go_num, rfl, by simp, unhide Hb6⟩
          case measure => simp [intOf]; omega
      · obtain rfl : sb = true := (unhide Hsb).trans (decide_eq_true (by omega))
        go_wp2_with fail
        go_ret
        exact ⟨rfl, (unhide HC5).trans ((unhide Hb).mono (unhide HC5).size)⟩

end Go.Proofs.Ytekobedbjemdiaa
