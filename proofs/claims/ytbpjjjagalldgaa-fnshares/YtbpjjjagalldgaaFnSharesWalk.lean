/- The law on shares: none is lost: what two works come to one after the other, both together come to: whatever bytes are drawn from. No condition. -/
import Derived.Test.YtbpjjjagalldgaaDraw3
import Derived.Test.YtbpjjjagalldgaaShares
import Derived.Test.YtbpjjjagalldgaaPick
namespace Go.Proofs.Ytbpjjjagalldgaa
open Go.ChangeShapes Go.WideShapes Go.ChangeAt Go.RowKit
open Draw (IsRow Row row_of row_later big_yes big_no drawShare_any pick_lt)
set_option linter.unusedVariables false

theorem implShare_v {a b c n l : Int} (hn : shareN a b c = n) (hl : shareL a b c = l) (w : World) : Calls Try.prog 16 #[.int .i64 a, .int .i64 b, .int .i64 c] w fun e w' => e = .returned (.tuple #[.int .i64 n, .int .i64 l]) ∧ Below w.heap.size w w' := by
  rw [← hn, ← hl]; exact implShare_any a b c w
theorem specShare_v {a b c n l : Int} (hn : shareN a b c = n) (hl : shareL a b c = l) (w : World) : Calls Try.prog 17 #[.int .i64 a, .int .i64 b, .int .i64 c] w fun e w' => e = .returned (.tuple #[.int .i64 n, .int .i64 l]) ∧ Below w.heap.size w w' := by
  rw [← hn, ← hl]; exact specShare_any a b c w

theorem share_facts {a b c : Int} (h : okShare a b c = true) : 0 ≤ shareN a b c ∧ shareN a b c ≤ 1024000100000 ∧ 0 ≤ shareL a b c ∧ shareL a b c < b ∧ 0 ≤ shareN a b c * b ∧ shareN a b c * b + shareL a b c = 1024 * a + c := by
  obtain ⟨h1, h2⟩ := share_yes h
  obtain ⟨a0, a1, b0, b1, c0, c1⟩ := okShare_of h
  rw [h1, h2]
  have hm : 0 ≤ 1024 * a + c := by omega
  have g1 := Int.ediv_nonneg hm (show 0 ≤ b by omega)
  have g2 := Int.mul_nonneg g1 (show 0 ≤ b by omega)
  have g3 := Int.emod_add_mul_ediv (1024 * a + c) b
  have g4 := Int.emod_nonneg (1024 * a + c) (show b ≠ 0 by omega)
  have g5 := Int.emod_lt_of_pos (1024 * a + c) (show 0 < b by omega)
  have g6 : (1024 * a + c) / b * b = b * ((1024 * a + c) / b) := Int.mul_comm _ _
  have g7 : (1024 * a + c) / b ≤ 1024 * a + c := Int.ediv_le_self _ hm
  omega

theorem share_two {a b c f : Int} (h : okShare a b c = true) (f0 : 0 ≤ f) (f1 : f ≤ a) :
    shareN f b c + shareN (a - f) b (shareL f b c) = shareN a b c ∧ shareL (a - f) b (shareL f b c) = shareL a b c := by
  obtain ⟨a0, a1, b0, b1, c0, c1⟩ := okShare_of h
  have k1 : okShare f b c = true := okShare_in f0 (by omega) b0 b1 c0 c1
  obtain ⟨p0, p1, l0, l1, p2, p3⟩ := share_facts k1
  have k2 : okShare (a - f) b (shareL f b c) = true := okShare_in (by omega) (by omega) b0 b1 l0 l1
  obtain ⟨q0, q1, m0, m1, q2, q3⟩ := share_facts k2
  obtain ⟨e1, e2⟩ := share_yes h
  rw [e1, e2]
  generalize shareN f b c = p at *
  generalize shareL f b c = l at *
  generalize shareN (a - f) b l = q at *
  generalize shareL (a - f) b l = m at *
  have hs : 1024 * a + c = m + b * (p + q) := by
    rw [Int.mul_add, Int.mul_comm b p, Int.mul_comm b q]; omega
  rw [hs, Int.add_mul_ediv_left _ _ (by omega), Int.add_mul_emod_self_left, Int.ediv_eq_zero_of_lt m0 m1, Int.emod_eq_of_lt m0 m1]
  omega

set_option maxRecDepth 100000 in
set_option maxHeartbeats 2000000 in
theorem walkFnShares (a0 : Option Addr) (len0 cap0 : Nat) (z0 : List Int) (w : World) (w0 : IsRow .u8 w a0 len0 cap0 z0) :
    Calls Try.prog 4 #[.slice a0 len0 cap0] w fun e w' => e = .returned (.bool true) ∧ Below w.heap.size w w' := by
  by_cases hbig : 4096 < len0
  · go_enter Try.func4, Try.ntmps4
    go_wp2_with fail
    refine (big_yes _ _ _ _ hbig).mono ?_
    rintro e w' ⟨rfl, rfl⟩
    go_wp2_with fail
    go_ret
    exact ⟨rfl, Below.refl _ _⟩
  have Hr := hide (row_of w0 (by omega))
  clear w0
  go_enter Try.func4, Try.ntmps4
  go_wp2_with fail
  refine (big_no _ _ _ _ (by omega)).mono ?_
  rintro e w' ⟨rfl, hw⟩
  subst w'
  go_wp2_with fail
  refine (drawShare_any _ _ _ _ (unhide Hr)).mono ?_
  rintro e w1 ⟨a, b, c, rfl, b1⟩
  have Hb1 := hide b1
  clear b1
  obtain ⟨n, hn⟩ : ∃ n, shareN a b c = n := ⟨_, rfl⟩
  obtain ⟨l, hl⟩ : ∃ l, shareL a b c = l := ⟨_, rfl⟩
  have Hn := hide hn
  have Hl := hide hl
  clear hn hl
  go_wp2_with fail
  refine (implShare_v (unhide Hn) (unhide Hl) _).mono ?_
  rintro e w2 ⟨rfl, b2⟩
  have Hb2 := hide ((unhide Hb1).trans (b2.mono (unhide Hb1).size))
  clear b2 Hb1
  go_wp2_with fail
  refine (specShare_v (unhide Hn) (unhide Hl) _).mono ?_
  rintro e w3 ⟨rfl, b3⟩
  have Hb3 := hide ((unhide Hb2).trans (b3.mono (unhide Hb2).size))
  clear b3 Hb2
  cases hok : okShare a b c
  · obtain ⟨h1, h2⟩ := share_no hok
    obtain rfl : n = -1 := by rw [← unhide Hn]; exact h1
    obtain rfl : l = 0 := by rw [← unhide Hl]; exact h2
    clear h1 h2 Hn Hl hok
    go_wp2_with fail
    go_ret
    exact ⟨rfl, unhide Hb3⟩
  · obtain ⟨x0, x1, y0, y1, z0, z1⟩ := okShare_of hok
    obtain ⟨n0, n1, l0, l1, m0, m1⟩ := share_facts hok
    rw [unhide Hn] at n0 n1 m0 m1
    rw [unhide Hl] at l0 l1 m1
    have HO := hide hok
    clear hok
    go_wp2_with fail
    refine (pick_lt _ _ _ 1 (a + 1) (by omega) (by omega) (by omega) (by omega) _ (row_later (unhide Hr) (unhide Hb3))).mono ?_
    rintro e w' ⟨f, rfl, f0, f1, hw⟩
    subst w'
    have f2 : f ≤ a := by omega
    have HT := hide (share_two (unhide HO) f0 f2)
    have k1 : okShare f b c = true := okShare_in f0 (by omega) y0 y1 z0 z1
    obtain ⟨p0, p1, t0, t1, p2, p3⟩ := share_facts k1
    obtain ⟨p, hp⟩ : ∃ p, shareN f b c = p := ⟨_, rfl⟩
    obtain ⟨t, ht⟩ : ∃ t, shareL f b c = t := ⟨_, rfl⟩
    rw [hp] at p0 p1
    rw [ht] at t0 t1
    clear p2 p3 k1
    have k2 : okShare (a - f) b t = true := okShare_in (by omega) (by omega) y0 y1 t0 t1
    obtain ⟨q0, q1, u0, u1, q2, q3⟩ := share_facts k2
    obtain ⟨q, hq⟩ : ∃ q, shareN (a - f) b t = q := ⟨_, rfl⟩
    obtain ⟨u, hu⟩ : ∃ u, shareL (a - f) b t = u := ⟨_, rfl⟩
    rw [hq] at q0 q1
    rw [hu] at u0 u1
    clear q2 q3 k2
    obtain ⟨e1, e2⟩ := unhide HT
    rw [hp, ht, hq, unhide Hn] at e1
    rw [ht, hu, unhide Hl] at e2
    subst e2
    clear HT HO
    have Hp := hide hp
    have Ht := hide ht
    have Hq := hide hq
    have Hu := hide hu
    clear hp ht hq hu Hn Hl
    go_wp2_with fail
    refine (implShare_v (unhide Hp) (unhide Ht) _).mono ?_
    rintro e w4 ⟨rfl, b4⟩
    have Hb4 := hide ((unhide Hb3).trans (b4.mono (unhide Hb3).size))
    clear b4 Hb3
    go_wp2_with fail
    refine (implShare_v (unhide Hq) (unhide Hu) _).mono ?_
    rintro e w5 ⟨rfl, b5⟩
    have Hb5 := hide ((unhide Hb4).trans (b5.mono (unhide Hb4).size))
    clear b5 Hb4
    go_wp2_with fail
    go_ret
    exact ⟨rfl, unhide Hb5⟩

end Go.Proofs.Ytbpjjjagalldgaa
