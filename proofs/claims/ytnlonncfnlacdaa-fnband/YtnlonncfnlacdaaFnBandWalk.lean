/- The law FnBand: at every row of bytes who was placed is in the band where it was not ahead, moved it is as far in it, and there and back it is the same. No condition but that the bytes can be read. -/
import Derived.Test.YtnlonncfnlacdaaBandDraw
import Derived.Test.YtnlonncfnlacdaaBand
import Derived.Deep.DeepCutAuto
namespace Go.Proofs.Ytnlonncfnlacdaa
open Go.ChangeShapes Go.WideShapes Go.ChangeAt Go.RowKit Go.Sort
open Draw (IsRow Row row_of row_later big_yes big_no)
set_option linter.unusedVariables false

def szN (n : Int) : Int := if n < 0 then -n else n
theorem size_v {n r : Int} (h : szN n = r) (n0 : -4000000000000 ≤ n) (n1 : n ≤ 4000000000000) (w : World) : Calls Try.prog 21 #[.int .i64 n] w fun e w' => e = .returned (.int .i64 r) ∧ w' = w := by
  by_cases hn : n < 0
  all_goals
    go_enter Try.func21, Try.ntmps21
    go_wp2_with fail
    go_ret
    exact ⟨ret_int (by rw [← h]; unfold szN; split <;> omega), rfl⟩
theorem sz_of {n : Int} (h : szN n < 900000000000) : -900000000000 < n ∧ n < 900000000000 := by
  unfold szN at h; split at h <;> omega

theorem implInBand_v {h m : Int} {r : Bool} (e : inBandB h m = r) (w : World) : Calls Try.prog 10 #[.int .i64 h, .int .i64 m] w fun e w' => e = .returned (.bool r) ∧ Below w.heap.size w w' := by
  rw [← e]; exact implInBand_any h m w
theorem specInBand_v {h m : Int} {r : Bool} (e : inBandB h m = r) (w : World) : Calls Try.prog 17 #[.int .i64 h, .int .i64 m] w fun e w' => e = .returned (.bool r) ∧ w' = w := by
  rw [← e]; exact specInBand_any h m w
theorem implPlaced_v {h m r : Int} (e : placedV h m = r) (w : World) : Calls Try.prog 12 #[.int .i64 h, .int .i64 m] w fun e w' => e = .returned (.int .i64 r) ∧ Below w.heap.size w w' := by
  rw [← e]; exact implPlaced_any h m w
theorem specPlaced_v {h m r : Int} (e : placedV h m = r) (w : World) : Calls Try.prog 18 #[.int .i64 h, .int .i64 m] w fun e w' => e = .returned (.int .i64 r) ∧ w' = w := by
  rw [← e]; exact specPlaced_any h m w
theorem implMoved_v {h f t r : Int} (e : movedV h f t = r) (w : World) : Calls Try.prog 14 #[.int .i64 h, .int .i64 f, .int .i64 t] w fun e w' => e = .returned (.int .i64 r) ∧ Below w.heap.size w w' := by
  rw [← e]; exact implMoved_any h f t w
theorem specMoved_v {h f t r : Int} (e : movedV h f t = r) (w : World) : Calls Try.prog 19 #[.int .i64 h, .int .i64 f, .int .i64 t] w fun e w' => e = .returned (.int .i64 r) ∧ w' = w := by
  rw [← e]; exact specMoved_any h f t w
theorem implMarked_v {m f r : Int} (e : markedV m f = r) (w : World) : Calls Try.prog 16 #[.int .i64 m, .int .i64 f] w fun e w' => e = .returned (.int .i64 r) ∧ Below w.heap.size w w' := by
  rw [← e]; exact implMarked_any m f w
theorem specMarked_v {m f r : Int} (e : markedV m f = r) (w : World) : Calls Try.prog 20 #[.int .i64 m, .int .i64 f] w fun e w' => e = .returned (.int .i64 r) ∧ w' = w := by
  rw [← e]; exact specMarked_any m f w

theorem hadB_t {x : Int} (h0 : -1000000000000 ≤ x) (h1 : x ≤ 1000000000000) : hadB x = true := inB_t h0 h1
theorem inBand_in {h m : Int} (h0 : -1000000000000 ≤ h) (h1 : h ≤ 1000000000000) (m0 : -1000000000000 ≤ m) (m1 : m ≤ 1000000000000) : inBandB h m = inB (h - m) (-20000) 63000 := by
  unfold inBandB; rw [hadB_t h0 h1, hadB_t m0 m1]; rfl
theorem placed_in {h m : Int} (m0 : -1000000000000 ≤ m) (m1 : m ≤ 1000000000000) : placedV h m = max h (m - 20000) := by
  unfold placedV; rw [hadB_t m0 m1]; rfl
theorem moved_in {h f t : Int} (h0 : -1000000000000 ≤ h) (h1 : h ≤ 1000000000000) (f0 : -1000000000000 ≤ f) (f1 : f ≤ 1000000000000) (t0 : -1000000000000 ≤ t) (t1 : t ≤ 1000000000000) : movedV h f t = h - f + t := by
  unfold movedV; rw [hadB_t h0 h1, hadB_t f0 f1, hadB_t t0 t1]; rfl
theorem marked_in {m f : Int} (m0 : -1000000000000 ≤ m) (m1 : m ≤ 1000000000000) (f0 : -1000000000000 ≤ f) (f1 : f ≤ 1000000000000) : markedV m f = min (max m f) 900000000000 := by
  unfold markedV; rw [hadB_t m0 m1, hadB_t f0 f1]; rfl
/-- However it is moved, it lies far within 64 bits. -/
theorem moved_bd {h f t : Int} (h0 : -1000000000000 ≤ h) (h1 : h ≤ 1000000000001) : -3000000000000 ≤ movedV h f t ∧ movedV h f t ≤ 3000000000001 := by
  unfold movedV
  cases e : hadB h && (hadB f && hadB t)
  · simp only [Bool.false_eq_true, if_false]; omega
  · simp only [Bool.and_eq_true] at e
    have a1 := had_of e.1
    have a2 := had_of e.2.1
    have a3 := had_of e.2.2
    simp only [if_true]; omega

set_option maxRecDepth 100000 in
set_option maxHeartbeats 8000000 in
theorem walkFnBand (a0 : Option Addr) (len0 cap0 : Nat) (z0 : List Int) (w : World) (w0 : IsRow .u8 w a0 len0 cap0 z0) :
    Calls Try.prog 3 #[.slice a0 len0 cap0] w fun e w' => e = .returned (.bool true) ∧ Below w.heap.size w w' := by
  by_cases hbig : 4096 < len0
  · go_enter Try.func3, Try.ntmps3
    go_wp2_with fail
    refine (big_yes _ _ _ _ hbig).mono ?_
    rintro e w' ⟨rfl, rfl⟩
    go_wp2_with fail
    go_ret
    exact ⟨rfl, Below.refl _ _⟩
  have Hr := hide (row_of w0 (by omega))
  clear w0
  go_enter Try.func3, Try.ntmps3
  go_wp2_with fail
  refine (big_no _ _ _ _ (by omega)).mono ?_
  rintro e w' ⟨rfl, hw'⟩
  subst w'
  go_wp2_with fail
  refine (Draw.drawInBand_any _ _ _ _ (unhide Hr)).mono ?_
  rintro e w1 ⟨h, m, rfl, h0, h1, m0, m1, hb⟩
  have B1 := hide hb
  clear hb h0 h1 m0 m1
  generalize e1 : inBandB h m = is
  have E1 := hide e1
  clear e1
  go_wp2_with fail
  refine (implInBand_v (unhide E1) _).mono ?_
  rintro e w2 ⟨rfl, hb⟩
  have B2 : Hid (Below w.heap.size w w2) := hide ((unhide B1).trans (hb.mono (unhide B1).size))
  clear hb B1
  go_wp2_with fail
  refine (Draw.drawPlaced_any _ _ _ _ (row_later (unhide Hr) (unhide B2))).mono ?_
  rintro e w3 ⟨p, q, rfl, p0, p1, q0, q1, hb⟩
  have B3 : Hid (Below w.heap.size w w3) := hide ((unhide B2).trans (hb.mono (unhide B2).size))
  clear hb B2
  generalize e2 : placedV p q = at'
  have E2 := hide e2
  clear e2
  go_wp2_with fail
  refine (implPlaced_v (unhide E2) _).mono ?_
  rintro e w4 ⟨rfl, hb⟩
  have B4 : Hid (Below w.heap.size w w4) := hide ((unhide B3).trans (hb.mono (unhide B3).size))
  clear hb B3
  go_wp2_with fail
  refine (Draw.drawMoved_any _ _ _ _ (row_later (unhide Hr) (unhide B4))).mono ?_
  rintro e w5 ⟨a, b, c, rfl, a1, a2, b1, b2, c1, c2, hb⟩
  have B5 : Hid (Below w.heap.size w w5) := hide ((unhide B4).trans (hb.mono (unhide B4).size))
  clear hb B4
  obtain ⟨x0, x1⟩ := moved_bd (f := b) (t := c) a1 a2
  generalize e3 : movedV a b c = x at x0 x1
  have E3 := hide e3
  clear e3
  go_wp2_with fail
  refine (implMoved_v (unhide E3) _).mono ?_
  rintro e w6 ⟨rfl, hb⟩
  have B6 : Hid (Below w.heap.size w w6) := hide ((unhide B5).trans (hb.mono (unhide B5).size))
  clear hb B5
  go_wp2_with fail
  refine (Draw.drawMarked_any _ _ _ _ (row_later (unhide Hr) (unhide B6))).mono ?_
  rintro e w7 ⟨u, v, rfl, u0, u1, v0, v1, hb⟩
  have B7 : Hid (Below w.heap.size w w7) := hide ((unhide B6).trans (hb.mono (unhide B6).size))
  clear hb B6
  generalize e4 : markedV u v = k
  have E4 := hide e4
  clear e4
  go_wp2_with fail
  refine (implMarked_v (unhide E4) _).mono ?_
  rintro e w8 ⟨rfl, hb⟩
  have B8 : Hid (Below w.heap.size w w8) := hide ((unhide B7).trans (hb.mono (unhide B7).size))
  clear hb B7 Hr
  go_upto_region 11 with fail
  go_cut [79] (fun s wc => s = .bool false ∧ Below w.heap.size w wc)
  case first =>
    go_wp2_with fail
    refine (specInBand_v (unhide E1) _).mono ?_
    rintro e w' ⟨rfl, hw'⟩
    subst w'
    go_wp2_with fail
    refine (specPlaced_v (unhide E2) _).mono ?_
    rintro e w' ⟨rfl, hw'⟩
    subst w'
    go_wp2_with fail
    refine (specMoved_v (unhide E3) _).mono ?_
    rintro e w' ⟨rfl, hw'⟩
    subst w'
    go_wp2_with fail
    refine (specMarked_v (unhide E4) _).mono ?_
    rintro e w' ⟨rfl, hw'⟩
    subst w'
    go_wp2_with fail
    go_meet
    exact ⟨by simp, unhide B8⟩
  case rest =>
    obtain ⟨rfl, hb9⟩ := hcut
    obtain ⟨w9, rfl⟩ : ∃ x, x = wc := ⟨wc, rfl⟩
    have B9 := hide hb9
    clear hb9 B8 E1
    go_upto_region 14 with fail
    go_cut [118] (fun s wc => s = .bool false ∧ Below w.heap.size w wc)
    case first =>
      generalize s1 : szN a = sa
      generalize s2 : szN b = sb
      generalize s3 : szN c = sc
      generalize s4 : szN x = sx
      have S1 := hide s1
      have S2 := hide s2
      have S3 := hide s3
      have S4 := hide s4
      clear s1 s2 s3 s4 p0 p1 q0 q1 u0 u1 v0 v1 E2 E4
      by_cases k1 : sa < 900000000000
      rotate_left
      · go_wp2_with fail
        refine (size_v (unhide S1) (by omega) (by omega) _).mono ?_
        rintro e w' ⟨rfl, hw'⟩
        subst w'
        go_wp2_with fail
        go_meet
        exact ⟨rfl, unhide B9⟩
      by_cases k2 : sb < 900000000000
      rotate_left
      · go_wp2_with fail
        refine (size_v (unhide S1) (by omega) (by omega) _).mono ?_
        rintro e w' ⟨rfl, hw'⟩
        subst w'
        go_wp2_with fail
        refine (size_v (unhide S2) (by omega) (by omega) _).mono ?_
        rintro e w' ⟨rfl, hw'⟩
        subst w'
        go_wp2_with fail
        go_meet
        exact ⟨rfl, unhide B9⟩
      by_cases k3 : sc < 900000000000
      rotate_left
      · go_wp2_with fail
        refine (size_v (unhide S1) (by omega) (by omega) _).mono ?_
        rintro e w' ⟨rfl, hw'⟩
        subst w'
        go_wp2_with fail
        refine (size_v (unhide S2) (by omega) (by omega) _).mono ?_
        rintro e w' ⟨rfl, hw'⟩
        subst w'
        go_wp2_with fail
        refine (size_v (unhide S3) (by omega) (by omega) _).mono ?_
        rintro e w' ⟨rfl, hw'⟩
        subst w'
        go_wp2_with fail
        go_meet
        exact ⟨rfl, unhide B9⟩
      have a3 := sz_of (n := a) (by rw [unhide S1]; exact k1)
      have b3 := sz_of (n := b) (by rw [unhide S2]; exact k2)
      have c3 := sz_of (n := c) (by rw [unhide S3]; exact k3)
      have hx : x = a - b + c := (unhide E3).symm.trans (moved_in (by omega) (by omega) (by omega) (by omega) (by omega) (by omega))
      have Hx := hide hx
      have x2 : -2700000000000 ≤ x ∧ x ≤ 2700000000000 := by omega
      by_cases k4 : sx < 900000000000
      rotate_left
      · clear hx
        go_wp2_with fail
        refine (size_v (unhide S1) (by omega) (by omega) _).mono ?_
        rintro e w' ⟨rfl, hw'⟩
        subst w'
        go_wp2_with fail
        refine (size_v (unhide S2) (by omega) (by omega) _).mono ?_
        rintro e w' ⟨rfl, hw'⟩
        subst w'
        go_wp2_with fail
        refine (size_v (unhide S3) (by omega) (by omega) _).mono ?_
        rintro e w' ⟨rfl, hw'⟩
        subst w'
        go_wp2_with fail
        refine (size_v (unhide S4) (by omega) (by omega) _).mono ?_
        rintro e w' ⟨rfl, hw'⟩
        subst w'
        go_wp2_with fail
        go_meet
        exact ⟨rfl, unhide B9⟩
      have x3 := sz_of (n := x) (by rw [unhide S4]; exact k4)
      have f1 : Hid (movedV x c b = a) := hide ((moved_in (by omega) (by omega) (by omega) (by omega) (by omega) (by omega)).trans (by omega))
      have f3 : inBandB x c = inBandB a b := by
        rw [inBand_in (by omega) (by omega) (by omega) (by omega), inBand_in (by omega) (by omega) (by omega) (by omega), show x - c = a - b by omega]
      generalize f2 : inBandB a b = r at f3
      have F2 := hide f2
      have F3 := hide f3
      clear f2 f3 hx
      go_wp2_with fail
      refine (size_v (unhide S1) (by omega) (by omega) _).mono ?_
      rintro e w' ⟨rfl, hw'⟩
      subst w'
      go_wp2_with fail
      refine (size_v (unhide S2) (by omega) (by omega) _).mono ?_
      rintro e w' ⟨rfl, hw'⟩
      subst w'
      go_wp2_with fail
      refine (size_v (unhide S3) (by omega) (by omega) _).mono ?_
      rintro e w' ⟨rfl, hw'⟩
      subst w'
      go_wp2_with fail
      refine (size_v (unhide S4) (by omega) (by omega) _).mono ?_
      rintro e w' ⟨rfl, hw'⟩
      subst w'
      go_wp2_with fail
      refine (implMoved_v (unhide f1) _).mono ?_
      rintro e w10 ⟨rfl, hb⟩
      have B10 : Hid (Below w.heap.size w w10) := hide ((unhide B9).trans (hb.mono (unhide B9).size))
      clear hb B9
      go_wp2_with fail
      refine (implInBand_v (unhide F2) _).mono ?_
      rintro e w11 ⟨rfl, hb⟩
      have B11 : Hid (Below w.heap.size w w11) := hide ((unhide B10).trans (hb.mono (unhide B10).size))
      clear hb B10
      go_wp2_with fail
      refine (implInBand_v (unhide F3) _).mono ?_
      rintro e w12 ⟨rfl, hb⟩
      have B12 : Hid (Below w.heap.size w w12) := hide ((unhide B11).trans (hb.mono (unhide B11).size))
      clear hb B11
      go_wp2_with fail
      go_meet
      exact ⟨by simp, unhide B12⟩
    case rest =>
      obtain ⟨rfl, hb10⟩ := hcut
      obtain ⟨w10, rfl⟩ : ∃ x, x = wc := ⟨wc, rfl⟩
      have B10 := hide hb10
      clear hb10 B9 E3 a1 a2 b1 b2 c1 c2 x0 x1
      go_upto_region 16 with fail
      go_cut [152] (fun s wc => s = .bool false ∧ Below w.heap.size w wc)
      case first =>
        generalize s1 : szN p = sp
        generalize s2 : szN q = sq
        have S1 := hide s1
        have S2 := hide s2
        clear s1 s2 u0 u1 v0 v1 E4
        by_cases k1 : sp < 900000000000
        rotate_left
        · go_wp2_with fail
          refine (size_v (unhide S1) (by omega) (by omega) _).mono ?_
          rintro e w' ⟨rfl, hw'⟩
          subst w'
          go_wp2_with fail
          go_meet
          exact ⟨rfl, unhide B10⟩
        by_cases k2 : sq < 900000000000
        rotate_left
        · go_wp2_with fail
          refine (size_v (unhide S1) (by omega) (by omega) _).mono ?_
          rintro e w' ⟨rfl, hw'⟩
          subst w'
          go_wp2_with fail
          refine (size_v (unhide S2) (by omega) (by omega) _).mono ?_
          rintro e w' ⟨rfl, hw'⟩
          subst w'
          go_wp2_with fail
          go_meet
          exact ⟨rfl, unhide B10⟩
        have p3 := sz_of (n := p) (by rw [unhide S1]; exact k1)
        have q3 := sz_of (n := q) (by rw [unhide S2]; exact k2)
        have hat : at' = max p (q - 20000) := (unhide E2).symm.trans (placed_in (by omega) (by omega))
        have t1 : ¬ at' < p := by omega
        have f2 : Hid (placedV at' q = at') := hide ((placed_in (by omega) (by omega)).trans (by omega))
        have f3 : inBandB at' q = inB (at' - q) (-20000) 63000 := inBand_in (by omega) (by omega) (by omega) (by omega)
        by_cases hfar : p ≤ q + 63000
        · have F3 : Hid (inBandB at' q = true) := hide (f3.trans (inB_t (by omega) (by omega)))
          clear f3 hat
          go_wp2_with fail
          refine (size_v (unhide S1) (by omega) (by omega) _).mono ?_
          rintro e w' ⟨rfl, hw'⟩
          subst w'
          go_wp2_with fail
          refine (size_v (unhide S2) (by omega) (by omega) _).mono ?_
          rintro e w' ⟨rfl, hw'⟩
          subst w'
          go_wp2_with fail
          refine (implInBand_v (unhide F3) _).mono ?_
          rintro e w11 ⟨rfl, hb⟩
          have B11 : Hid (Below w.heap.size w w11) := hide ((unhide B10).trans (hb.mono (unhide B10).size))
          clear hb B10
          go_wp2_with fail
          refine (implPlaced_v (unhide f2) _).mono ?_
          rintro e w12 ⟨rfl, hb⟩
          have B12 : Hid (Below w.heap.size w w12) := hide ((unhide B11).trans (hb.mono (unhide B11).size))
          clear hb B11
          go_wp2_with fail
          go_meet
          exact ⟨by simp; omega, unhide B12⟩
        · have F3 : Hid (inBandB at' q = false) := hide (f3.trans (inB_f (by omega)))
          clear f3 hat
          go_wp2_with fail
          refine (size_v (unhide S1) (by omega) (by omega) _).mono ?_
          rintro e w' ⟨rfl, hw'⟩
          subst w'
          go_wp2_with fail
          refine (size_v (unhide S2) (by omega) (by omega) _).mono ?_
          rintro e w' ⟨rfl, hw'⟩
          subst w'
          go_wp2_with fail
          refine (implInBand_v (unhide F3) _).mono ?_
          rintro e w11 ⟨rfl, hb⟩
          have B11 : Hid (Below w.heap.size w w11) := hide ((unhide B10).trans (hb.mono (unhide B10).size))
          clear hb B10
          go_wp2_with fail
          refine (implPlaced_v (unhide f2) _).mono ?_
          rintro e w12 ⟨rfl, hb⟩
          have B12 : Hid (Below w.heap.size w w12) := hide ((unhide B11).trans (hb.mono (unhide B11).size))
          clear hb B11
          go_wp2_with fail
          go_meet
          exact ⟨by simp; omega, unhide B12⟩
      case rest =>
        obtain ⟨rfl, hb11⟩ := hcut
        obtain ⟨w11, rfl⟩ : ∃ x, x = wc := ⟨wc, rfl⟩
        have B11 := hide hb11
        clear hb11 B10 E2 p0 p1 q0 q1
        generalize s1 : szN u = su
        generalize s2 : szN v = sv
        have S1 := hide s1
        have S2 := hide s2
        clear s1 s2
        by_cases k1 : 900000000000 ≤ su
        · go_wp2_with fail
          refine (size_v (unhide S1) (by omega) (by omega) _).mono ?_
          rintro e w' ⟨rfl, hw'⟩
          subst w'
          go_wp2_with fail
          go_ret
          exact ⟨rfl, unhide B11⟩
        by_cases k2 : 900000000000 ≤ sv
        · go_wp2_with fail
          refine (size_v (unhide S1) (by omega) (by omega) _).mono ?_
          rintro e w' ⟨rfl, hw'⟩
          subst w'
          go_wp2_with fail
          refine (size_v (unhide S2) (by omega) (by omega) _).mono ?_
          rintro e w' ⟨rfl, hw'⟩
          subst w'
          go_wp2_with fail
          go_ret
          exact ⟨rfl, unhide B11⟩
        have u3 := sz_of (n := u) (by rw [unhide S1]; omega)
        have v3 := sz_of (n := v) (by rw [unhide S2]; omega)
        have hk : k = min (max u v) 900000000000 := (unhide E4).symm.trans (marked_in (by omega) (by omega) (by omega) (by omega))
        have t1 : u ≤ k := by omega
        have t2 : v ≤ k := by omega
        by_cases hku : k = u
        · clear hk
          subst hku
          go_wp2_with fail
          refine (size_v (unhide S1) (by omega) (by omega) _).mono ?_
          rintro e w' ⟨rfl, hw'⟩
          subst w'
          go_wp2_with fail
          refine (size_v (unhide S2) (by omega) (by omega) _).mono ?_
          rintro e w' ⟨rfl, hw'⟩
          subst w'
          go_wp2_with fail
          go_ret
          exact ⟨by simp, unhide B11⟩
        · obtain rfl : k = v := by omega
          clear hk
          go_wp2_with fail
          refine (size_v (unhide S1) (by omega) (by omega) _).mono ?_
          rintro e w' ⟨rfl, hw'⟩
          subst w'
          go_wp2_with fail
          refine (size_v (unhide S2) (by omega) (by omega) _).mono ?_
          rintro e w' ⟨rfl, hw'⟩
          subst w'
          go_wp2_with fail
          go_ret
          exact ⟨by simp, unhide B11⟩
end Go.Proofs.Ytnlonncfnlacdaa
