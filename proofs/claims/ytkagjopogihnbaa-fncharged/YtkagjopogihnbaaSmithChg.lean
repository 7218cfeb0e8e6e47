/- What the program changes of a smith: contracts of the functions that it hands to 'changed'. Conditions: those that each theorem names. -/
import Derived.Test.YtkagjopogihnbaaSmithFn2
import Derived.BigQuiet
namespace Go.Proofs.Ytkagjopogihnbaa
open Go.ChangeShapes Go.WideShapes Go.ChangeAt Go.RowKit Go.Sort
set_option linter.unusedVariables false

set_option maxHeartbeats 400000 in
theorem implShare_d {a b c n l : Int} (h : okShare a b c = true) (hn : shareN a b c = n) (hl : shareL a b c = l) (w : World) : Calls Try.prog 26 #[.int .i64 a, .int .i64 b, .int .i64 c] w fun e w' => e = .returned (.tuple #[.int .i64 n, .int .i64 l]) ∧ ∃ m, w' = w.drewN m := by
  obtain ⟨h1, h2⟩ := share_yes h
  rw [← hn, ← hl, h1, h2]
  clear h1 h2 hn hl
  obtain ⟨a0, a1, b0, b1, c0, c1⟩ := okShare_of h
  go_enter Try.func26, Try.ntmps26
  go_wp2_with (go_at_call 40; refine (canShare_any _ _ _ _).mono ?_; rintro e w' ⟨rfl, rfl⟩)
  go_quiet (fail)
  go_wp2_with fail
  go_ret2
  exact ⟨rfl, _, rfl⟩
set_option maxHeartbeats 400000 in
theorem specShare_d {a b c n l : Int} (h : okShare a b c = true) (hn : shareN a b c = n) (hl : shareL a b c = l) (w : World) : Calls Try.prog 31 #[.int .i64 a, .int .i64 b, .int .i64 c] w fun e w' => e = .returned (.tuple #[.int .i64 n, .int .i64 l]) ∧ ∃ m, w' = w.drewN m := by
  obtain ⟨h1, h2⟩ := share_yes h
  rw [← hn, ← hl, h1, h2]
  clear h1 h2 hn hl
  obtain ⟨a0, a1, b0, b1, c0, c1⟩ := okShare_of h
  have ha : inB a 0 1000000000 = true := inB_t a0 a1
  have hb : inB b 1 100000 = true := inB_t b0 b1
  have hc : inB c 0 (b - 1) = true := inB_t c0 (by omega)
  go_enter Try.func31, Try.ntmps31
  go_wp2_with (first | (go_at_call 43; refine (l1Big_any _ _).mono ?_; rintro e w' ⟨rfl, rfl⟩) | (go_at_call 30; refine (l1In_any _ _ _ _).mono ?_; rintro e w' ⟨rfl, rfl⟩))
  go_quiet (fail)
  go_wp2_with fail
  go_ret2
  exact ⟨rfl, _, rfl⟩

set_option maxRecDepth 100000 in
set_option maxHeartbeats 2000000 in
theorem charge1_any {st be rk my gu lo hi hd ca ut wk : Int} {work x n l : Int} {R : Nat} {w : World} (hx : weightV rk = x) (hok : okShare work x ca = true) (hn : shareN work x ca = n) (hl : shareL work x ca = l) (n0 : 0 ≤ n) (n1 : n ≤ 400000)
    (d0 : -1000000000000 ≤ hd) (d1 : hd ≤ 1000000000000) (k0 : 0 ≤ wk) (k1 : wk ≤ 100000000000) (w0 : 0 ≤ work) (w1 : work ≤ 100000) (hR : w.cell? ⟨R, 0, none⟩ = some (.int .i64 work)) :
    Calls Try.prog 25 #[.agg #[.int .i64 st, .int .i64 be, .int .i64 rk, .int .i64 my, .int .i64 gu, .int .i64 lo, .int .i64 hi, .int .i64 hd, .int .i64 ca, .int .i64 ut, .int .i64 wk], .pointer (some ⟨R, 0, none⟩)] w fun e w' => e = .returned (.agg #[.int .i64 st, .int .i64 be, .int .i64 rk, .int .i64 my, .int .i64 gu, .int .i64 lo, .int .i64 hi, .int .i64 (hd + n), .int .i64 l, .int .i64 ut, .int .i64 (wk + work)]) ∧ Below w.heap.size w w' := by
  have Hx := hide hx
  have Hok := hide hok
  have Hn := hide hn
  have Hl := hide hl
  have hRl := block_lt_of_cell hR
  clear hx hok hn hl
  go_enter Try.func25, Try.ntmps25
  go_wp2_with fail
  go_quiet (first | exact Calls.quiet_of_same (implWeightOf_v (unhide Hx) _) | exact Calls.quiet_of (implShare_d (unhide Hok) (unhide Hn) (unhide Hl) _))
  go_wp2_with fail
  refine bodyPost_ret (v := .agg #[.int .i64 st, .int .i64 be, .int .i64 rk, .int .i64 my, .int .i64 gu, .int .i64 lo, .int .i64 hi, .int .i64 (hd + n), .int .i64 l, .int .i64 ut, .int .i64 (wk + work)]) (by simp [results, Try.results25, go_sem]) rfl ⟨rfl, ?_⟩
  repeat (refine Below.setCell ?_ (by simp) _)
  exact drewN_below (((Below.refl _ _).alloc (Nat.le_refl _) _).alloc (by simp) _) _

set_option maxRecDepth 100000 in
set_option maxHeartbeats 2000000 in
theorem rerank1_any {st be rk my gu lo hi hd ca ut wk : Int} {rank x : Int} {R R' : Nat} {w : World} (x0 : 335 ≤ x) (x1 : x ≤ 3125) (c0 : 0 ≤ ca) (c1 : ca ≤ 3125) (hR : w.cell? ⟨R, 0, none⟩ = some (.int .i64 rank)) (hR' : w.cell? ⟨R', 0, none⟩ = some (.int .i64 x)) :
    Calls Try.prog 29 #[.agg #[.int .i64 st, .int .i64 be, .int .i64 rk, .int .i64 my, .int .i64 gu, .int .i64 lo, .int .i64 hi, .int .i64 hd, .int .i64 ca, .int .i64 ut, .int .i64 wk], .pointer (some ⟨R, 0, none⟩), .pointer (some ⟨R', 0, none⟩)] w fun e w' => e = .returned (.agg #[.int .i64 st, .int .i64 be, .int .i64 rank, .int .i64 my, .int .i64 gu, .int .i64 lo, .int .i64 hi, .int .i64 hd, .int .i64 (ca % x), .int .i64 ut, .int .i64 wk]) ∧ Below w.heap.size w w' := by
  have hRl := block_lt_of_cell hR
  have hRl' := block_lt_of_cell hR'
  have hx : ¬ x = 0 := by omega
  go_enter Try.func29, Try.ntmps29
  go_wp2_with fail
  refine bodyPost_ret (v := .agg #[.int .i64 st, .int .i64 be, .int .i64 rank, .int .i64 my, .int .i64 gu, .int .i64 lo, .int .i64 hi, .int .i64 hd, .int .i64 (ca % x), .int .i64 ut, .int .i64 wk]) (by simp [results, Try.results29, go_sem]) rfl ⟨rfl, ?_⟩
  exact ((Below.refl _ _).alloc (Nat.le_refl _) _).alloc (by simp) _

end Go.Proofs.Ytkagjopogihnbaa
