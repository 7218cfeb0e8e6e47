/- The law FnFits: at every row of bytes what fits in is not too much then, and what is less fits, too. No condition but that the bytes can be read. -/
import Derived.Test.YtbekkdneldcehaaFitDraw
import Derived.Test.YtbekkdneldcehaaAmt
import Derived.Deep.DeepCutAuto
namespace Go.Proofs.Ytbekkdneldcehaa
open Go.ChangeShapes Go.WideShapes Go.ChangeAt Go.RowKit Go.Sort
open Draw (IsRow Row row_of row_later big_yes big_no)
set_option linter.unusedVariables false

theorem implFitsIn_v {x u f : Int} {r : Bool} (h : fitsB x u f = r) (w : World) : Calls Try.prog 23 #[.int .i64 x, .int .i64 u, .int .i64 f] w fun e w' => e = .returned (.bool r) ∧ Below w.heap.size w w' := by
  rw [← h]; exact implFitsIn_any x u f w
theorem specFitsIn_v {x u f : Int} {r : Bool} (h : fitsB x u f = r) (w : World) : Calls Try.prog 26 #[.int .i64 x, .int .i64 u, .int .i64 f] w fun e w' => e = .returned (.bool r) ∧ w' = w := by
  rw [← h]; exact specFitsIn_any x u f w
theorem implTooMuch_v {u f : Int} {r : Bool} (h : muchB u f = r) (w : World) : Calls Try.prog 27 #[.int .i64 u, .int .i64 f] w fun e w' => e = .returned (.bool r) ∧ Below w.heap.size w w' := by
  rw [← h]; exact implTooMuch_any u f w
theorem specTooMuch_v {u f : Int} {r : Bool} (h : muchB u f = r) (w : World) : Calls Try.prog 28 #[.int .i64 u, .int .i64 f] w fun e w' => e = .returned (.bool r) ∧ w' = w := by
  rw [← h]; exact specTooMuch_any u f w
theorem implSpareOf_v {u f : Int} {r : Int} (h : spareV u f = r) (w : World) : Calls Try.prog 25 #[.int .i64 u, .int .i64 f] w fun e w' => e = .returned (.int .i64 r) ∧ Below w.heap.size w w' := by
  rw [← h]; exact implSpareOf_any u f w
theorem specSpareOf_v {u f : Int} {r : Int} (h : spareV u f = r) (w : World) : Calls Try.prog 29 #[.int .i64 u, .int .i64 f] w fun e w' => e = .returned (.int .i64 r) ∧ w' = w := by
  rw [← h]; exact specSpareOf_any u f w

theorem spare_or (u f : Int) : spareV u f = -1000001 ∨ (0 ≤ u ∧ u ≤ 1000000 ∧ 0 ≤ f ∧ f ≤ 1000000 ∧ spareV u f = f - u) := by
  unfold spareV
  cases h : amt u && amt f
  · left; rfl
  · simp only [Bool.and_eq_true] at h
    obtain ⟨u0, u1⟩ := amt_of h.1
    obtain ⟨f0, f1⟩ := amt_of h.2
    right; exact ⟨u0, u1, f0, f1, rfl⟩
theorem fits_in {x u f : Int} (x0 : 0 ≤ x) (x1 : x ≤ 1000000) (u0 : 0 ≤ u) (u1 : u ≤ 1000000) (f0 : 0 ≤ f) (f1 : f ≤ 1000000) : fitsB x u f = decide (5 * (x + u) ≤ 4 * f) := by
  unfold fitsB amt; rw [inB_t x0 x1, inB_t u0 u1, inB_t f0 f1]; rfl
theorem much_in {u f : Int} (u0 : 0 ≤ u) (u1 : u ≤ 1000000) (f0 : 0 ≤ f) (f1 : f ≤ 1000000) : muchB u f = !decide (5 * u ≤ 4 * f) := by
  unfold muchB amt; rw [inB_t u0 u1, inB_t f0 f1]; rfl
theorem fits_out {x u f : Int} (h : x < 0 ∨ u < 0 ∨ f < 0 ∨ 1000000 < x ∨ 1000000 < u ∨ 1000000 < f) : fitsB x u f = false := by
  unfold fitsB amt
  rcases (show (x < 0 ∨ 1000000 < x) ∨ (u < 0 ∨ 1000000 < u) ∨ (f < 0 ∨ 1000000 < f) by omega) with h | h | h <;> rw [inB_f h] <;> simp

set_option maxRecDepth 100000 in
set_option maxHeartbeats 8000000 in
theorem walkFnFits (a0 : Option Addr) (len0 cap0 : Nat) (z0 : List Int) (w : World) (w0 : IsRow .u8 w a0 len0 cap0 z0) :
    Calls Try.prog 7 #[.slice a0 len0 cap0] w fun e w' => e = .returned (.bool true) ∧ Below w.heap.size w w' := by
  by_cases hbig : 4096 < len0
  · go_enter Try.func7, Try.ntmps7
    go_wp2_with fail
    refine (big_yes _ _ _ _ hbig).mono ?_
    rintro e w' ⟨rfl, rfl⟩
    go_wp2_with fail
    go_ret
    exact ⟨rfl, Below.refl _ _⟩
  have Hr := hide (row_of w0 (by omega))
  clear w0
  go_enter Try.func7, Try.ntmps7
  go_wp2_with fail
  refine (big_no _ _ _ _ (by omega)).mono ?_
  rintro e w' ⟨rfl, hw'⟩
  subst w'
  go_wp2_with fail
  refine (drawFitsIn_any _ _ _ _ (unhide Hr)).mono ?_
  rintro e w1 ⟨x, u, f, rfl, x0, x1, u0, u1, f0, f1, hb⟩
  have B1 := hide hb
  clear hb
  generalize hfit : fitsB x u f = is
  have Hfit := hide hfit
  clear hfit
  go_wp2_with fail
  refine (implFitsIn_v (unhide Hfit) _).mono ?_
  rintro e w2 ⟨rfl, hb⟩
  have B2 : Hid (Below w.heap.size w w2) := hide ((unhide B1).trans (hb.mono (unhide B1).size))
  clear hb B1
  go_wp2_with fail
  refine (drawTooMuch_any _ _ _ _ (row_later (unhide Hr) (unhide B2))).mono ?_
  rintro e w3 ⟨a, b, rfl, a0', a1, b0, b1, hb⟩
  have B3 : Hid (Below w.heap.size w w3) := hide ((unhide B2).trans (hb.mono (unhide B2).size))
  clear hb B2
  generalize hsp : spareV a b = s
  have hor := spare_or a b
  rw [hsp] at hor
  have Hsp := hide hsp
  generalize hmu : muchB a b = mu
  have Hmu := hide hmu
  clear hsp hmu
  go_wp2_with fail
  refine (implSpareOf_v (unhide Hsp) _).mono ?_
  rintro e w4 ⟨rfl, hb⟩
  have B4 : Hid (Below w.heap.size w w4) := hide ((unhide B3).trans (hb.mono (unhide B3).size))
  clear hb B3
  clear Hr
  go_upto_region 7 with fail
  go_cut [62] (fun s wc => s = .bool false ∧ Below w.heap.size w wc)
  case first =>
    go_wp2_with fail
    refine (specFitsIn_v (unhide Hfit) _).mono ?_
    rintro e w' ⟨rfl, hw'⟩
    subst w'
    go_wp2_with fail
    refine (implTooMuch_v (unhide Hmu) _).mono ?_
    rintro e w5 ⟨rfl, hb⟩
    have B5 : Hid (Below w.heap.size w w5) := hide ((unhide B4).trans (hb.mono (unhide B4).size))
    clear hb B4
    go_wp2_with fail
    refine (specTooMuch_v (unhide Hmu) _).mono ?_
    rintro e w' ⟨rfl, hw'⟩
    subst w'
    go_wp2_with fail
    refine (specSpareOf_v (unhide Hsp) _).mono ?_
    rintro e w' ⟨rfl, hw'⟩
    subst w'
    rcases hor with hs | ⟨a2, a3, b2, b3, hs⟩
    · subst hs
      clear a0' a1 b0 b1 x0 x1 u0 u1 f0 f1
      go_wp2_with fail
      go_meet
      exact ⟨rfl, unhide B5⟩
    · have hab : s + a = b := by omega
      have s0 : -1000000 ≤ s := by omega
      have s1 : s ≤ 1000000 := by omega
      clear hs a0' a1 b0 b1 x0 x1 u0 u1 f0 f1
      go_wp2_with fail
      go_meet
      exact ⟨by simp, unhide B5⟩
  case rest =>
    obtain ⟨rfl, hb5⟩ := hcut
    obtain ⟨w5, rfl⟩ : ∃ x, x = wc := ⟨wc, rfl⟩
    have B5 := hide hb5
    clear hb5 B4 hor Hsp Hmu a0' a1 b0 b1
    by_cases hout : x < 0 ∨ u < 0 ∨ f < 0 ∨ 1000000 < x ∨ 1000000 < u ∨ 1000000 < f
    · obtain rfl : is = false := (unhide Hfit).symm.trans (fits_out hout)
      by_cases c0 : x < 0
      · clear hout
        go_wp2_with fail
        go_ret
        exact ⟨rfl, unhide B5⟩
      by_cases c1 : u < 0
      · clear hout
        go_wp2_with fail
        go_ret
        exact ⟨rfl, unhide B5⟩
      by_cases c2 : f < 0
      · clear hout
        go_wp2_with fail
        go_ret
        exact ⟨rfl, unhide B5⟩
      by_cases c3 : 1000000 < x
      · clear hout
        go_wp2_with fail
        go_ret
        exact ⟨rfl, unhide B5⟩
      by_cases c4 : 1000000 < u
      · clear hout
        go_wp2_with fail
        go_ret
        exact ⟨rfl, unhide B5⟩
      have c5 : 1000000 < f := by omega
      clear hout
      go_wp2_with fail
      go_ret
      exact ⟨rfl, unhide B5⟩
    · have x0' : 0 ≤ x := by omega
      have u0' : 0 ≤ u := by omega
      have f0' : 0 ≤ f := by omega
      have x1' : x ≤ 1000000 := by omega
      have u1' : u ≤ 1000000 := by omega
      have f1' : f ≤ 1000000 := by omega
      have hi : is = decide (5 * (x + u) ≤ 4 * f) := (unhide Hfit).symm.trans (fits_in x0' x1' u0' u1' f0' f1')
      have Hi := hide hi
      clear hout x0 x1 u0 u1 f0 f1 hi Hfit
      go_upto_region 11 with fail
      go_cut [99] (fun s wc => s = .bool false ∧ Below w.heap.size w wc)
      case first =>
        by_cases hsum : x + u ≤ 1000000
        · have hm : Hid (muchB (x + u) f = !is) := hide ((much_in (by omega) hsum f0' f1').trans (by rw [unhide Hi]))
          have hnn : (is == !is) = false := by cases is <;> rfl
          go_wp2_with fail
          refine (implTooMuch_v (unhide hm) _).mono ?_
          rintro e w6 ⟨rfl, hb⟩
          have B6 : Hid (Below w.heap.size w w6) := hide ((unhide B5).trans (hb.mono (unhide B5).size))
          clear hb
          go_wp2_with fail
          go_meet
          exact ⟨by simp, unhide B6⟩
        · go_wp2_with fail
          go_meet
          exact ⟨rfl, unhide B5⟩
      case rest =>
        obtain ⟨rfl, hb6⟩ := hcut
        obtain ⟨w6, rfl⟩ : ∃ x, x = wc := ⟨wc, rfl⟩
        have B6 := hide hb6
        clear hb6 B5
        cases is
        · clear Hi
          go_wp2_with fail
          go_ret
          exact ⟨rfl, unhide B6⟩
        have hle : 5 * (x + u) ≤ 4 * f := of_decide_eq_true (unhide Hi).symm
        clear Hi
        by_cases hx : x = 0
        · subst hx
          by_cases hf : f = 1000000
          · subst hf
            clear hle
            go_wp2_with fail
            go_ret
            exact ⟨rfl, unhide B6⟩
          · have h2 : Hid (fitsB 0 u (f + 1) = true) := hide ((fits_in x0' x1' u0' u1' (by omega) (by omega)).trans (decide_eq_true (by omega)))
            clear hle
            go_wp2_with fail
            refine (implFitsIn_v (unhide h2) _).mono ?_
            rintro e w7 ⟨rfl, hb⟩
            have B7 : Hid (Below w.heap.size w w7) := hide ((unhide B6).trans (hb.mono (unhide B6).size))
            clear hb
            go_wp2_with fail
            go_ret
            exact ⟨rfl, unhide B7⟩
        · have h1 : Hid (fitsB (x - 1) u f = true) := hide ((fits_in (by omega) (by omega) u0' u1' f0' f1').trans (decide_eq_true (by omega)))
          by_cases hf : f = 1000000
          · subst hf
            clear hle
            go_wp2_with fail
            refine (implFitsIn_v (unhide h1) _).mono ?_
            rintro e w7 ⟨rfl, hb⟩
            have B7 : Hid (Below w.heap.size w w7) := hide ((unhide B6).trans (hb.mono (unhide B6).size))
            clear hb
            go_wp2_with fail
            go_ret
            exact ⟨rfl, unhide B7⟩
          · have h2 : Hid (fitsB x u (f + 1) = true) := hide ((fits_in x0' x1' u0' u1' (by omega) (by omega)).trans (decide_eq_true (by omega)))
            clear hle
            go_wp2_with fail
            refine (implFitsIn_v (unhide h1) _).mono ?_
            rintro e w7 ⟨rfl, hb⟩
            have B7 : Hid (Below w.heap.size w w7) := hide ((unhide B6).trans (hb.mono (unhide B6).size))
            clear hb
            go_wp2_with fail
            refine (implFitsIn_v (unhide h2) _).mono ?_
            rintro e w8 ⟨rfl, hb⟩
            have B8 : Hid (Below w.heap.size w w8) := hide ((unhide B7).trans (hb.mono (unhide B7).size))
            clear hb
            go_wp2_with fail
            go_ret
            exact ⟨rfl, unhide B8⟩
end Go.Proofs.Ytbekkdneldcehaa
