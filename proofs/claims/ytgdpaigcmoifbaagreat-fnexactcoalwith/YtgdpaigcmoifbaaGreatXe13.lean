/- Part 13 of what the proof rests on. No condition but those that a theorem names. -/
import Derived.Test.YtgdpaigcmoifbaaGreatXe08
import Derived.Test.YtgdpaigcmoifbaaGreatXe11
set_option maxHeartbeats 8000000
set_option maxRecDepth 100000
namespace Go.Proofs.YtgdpaigcmoifbaaGreat
open Go.ChangeShapes Go.WideShapes Go.ChangeAt Go.RowKit Go.Sort Go.Proofs.Tryz
set_option linter.unusedVariables false
theorem first_all : ∀ k : Fin 256, (firstMV (k.val : Int) != -1) = inB (k.val : Int) 1 255 := by decide +kernel
theorem first_may (s : Int) : (firstMV s != -1) = inB s 1 255 := by
 cases h : inB s 0 255
 ·have hf : firstMV s = -1 := by unfold firstMV mems; rw [upto_none h]; rfl
  have h2 : s < 0 ∨ 255 < s := by
   rcases Int.lt_or_le s 0 with h1 | h1
   ·exact .inl h1
   ·rcases Int.lt_or_le 255 s with h2 | h2
    ·exact .inr h2
    ·rw [inB_t h1 h2] at h; cases h
  rw [hf, inB_f (by omega)]; rfl
 ·obtain ⟨h0, h1⟩ := inB_of h
  obtain ⟨n, rfl⟩ := Int.eq_ofNat_of_zero_le h0
  exact first_all ⟨n, by omega⟩
theorem implFirstOf_v {s f : Int} (h : firstMV s = f) (w : World) : cB 330 #[.int .i64 s] w (.int .i64 f) := by
 have := implFirstOf_any s w; rw [h] at this; exact this
theorem isMay_any (s : Int) (w : World) : cB 327 #[.int .i64 s] w (.bool (inB s 1 255)) := by
 have hf := first_may s
 obtain ⟨f, hv⟩ := alAx (firstMV s)
 have Hv := hide hv
 rw [hv] at hf
 have Hf := hide hf
 clear hf hv
 go_enter func327, ntmps327
 go_wp2_with fail
 refine ck (implFirstOf_v (uh Hv) _) fun w1 hb => ?_
 go_wp2_with fail
 go_ret
 exact ⟨ret_bool (uh Hf), hb⟩
theorem isCarry_any (c r : Int) (w : World) : cE 328 #[.int .i64 c, .int .i64 r] w (.bool (inB c 0 (weightV r - 1))) := by
 obtain ⟨x, hv⟩ := alAx (weightV r)
 have Hv := hide hv
 rw [hv]
 clear hv
 by_cases h0 : 0 ≤ c
 ·by_cases h1 : c < x
  ·rw [inB_t (x := c) (lo := 0) (hi := x - 1) h0 (by omega)]
   go_enter func328, ntmps328
   go_wp2_with (go_at_call 331; refine (implWeightOf_v (uh Hv) _).mono ?_; rintro e w' ⟨rfl, rfl⟩)
   go_ret
   exact ⟨rfl, rfl⟩
  ·rw [inB_f (x := c) (lo := 0) (hi := x - 1) (by omega)]
   go_enter func328, ntmps328
   go_wp2_with (go_at_call 331; refine (implWeightOf_v (uh Hv) _).mono ?_; rintro e w' ⟨rfl, rfl⟩)
   go_ret
   exact ⟨ret_bool (b := false) (by rw [decide_eq_false_iff_not]; omega), rfl⟩
 ·rw [inB_f (x := c) (lo := 0) (hi := x - 1) (by omega)]
  go_enter func328, ntmps328
  go_wp2_with fail
  go_ret
  exact ⟨rfl, rfl⟩
theorem smithHad_any (n : Int) (w : World) : cE 301 #[.int .i64 n] w (.bool (inB n (-1000000000000) 1000000000000)) := by
 go_enter func301, ntmps301
 go_wp2_with (go_at_call 219; refine (liesFrom_any _ _ _ _).mono ?_; rintro e w' ⟨rfl, rfl⟩)
 go_ret
 exact ⟨rfl, rfl⟩
theorem isCarry_v {c r : Int} {q : Bool} (h : inB c 0 (weightV r - 1) = q) (w : World) : cE 328 #[.int .i64 c, .int .i64 r] w (.bool q) := by
 have := isCarry_any c r w; rw [h] at this; exact this
theorem inB_none (x : Int) : inB x 0 (0 - 1) = false := by
 refine inB_f ?_
 rcases Int.lt_or_le x 0 with h | h
 ·exact .inl h
 ·exact .inr (by omega)
theorem presB_eq (st be rk my gu lo hi hd ca ut wk : Int) : presB (st, be, rk, my, gu, lo, hi, hd, ca, ut, wk) = (inB st 1 3 && (inB be 0 7 && (inB my 1 255 && (inB gu (-1) 5 && (pairB lo hi && (inB hd (-1000000000000) 1000000000000 && (inB ca 0 (weightV rk - 1) && (inB ut 0 1024 && (inB wk 0 100000000000))))))))) := by
 unfold presB
 simp only
 cases hr : inB rk (-5) 5
 ·rw [weightV_none hr, show inB ca 0 (0 - 1) = false from inB_none ca]
  simp
 ·simp only [Bool.true_and]
theorem isPresent_any (st be rk my gu lo hi hd ca ut wk : Int) (w : World) : cB 322 #[.agg (I11 st be rk my gu lo hi hd ca ut wk)] w (.bool (presB (st, be, rk, my, gu, lo, hi, hd, ca, ut, wk))) := by
 rw [presB_eq]
 obtain ⟨qc, hqc⟩ := alAx (inB ca 0 (weightV rk - 1))
 have Hc := hide hqc
 rw [hqc]
 clear hqc
 cases h_st : inB st 1 3
 rotate_left
 cases h_be : inB be 0 7
 rotate_left
 cases h_my : inB my 1 255
 rotate_left
 cases h_gu : inB gu (-1) 5
 rotate_left
 cases h_pr : pairB lo hi
 rotate_left
 cases h_hd : inB hd (-1000000000000) 1000000000000
 rotate_left
 cases qc
 rotate_left
 cases h_ut : inB ut 0 1024
 rotate_left
 cases h_wk : inB wk 0 100000000000
 all_goals
  go_enter func322, ntmps322
  go_wp2_with (first | (go_at_call 219; refine (liesFrom_any _ _ _ _).mono ?_; rintro e w' ⟨rfl, rfl⟩) | (go_at_call 201; refine (isBench_any _ _).mono ?_; rintro e w' ⟨rfl, rfl⟩) | (go_at_call 283; refine (areBounds_any _ _ _).mono ?_; rintro e w' ⟨rfl, rfl⟩) | (go_at_call 301; refine (smithHad_any _ _).mono ?_; rintro e w' ⟨rfl, rfl⟩) | (go_at_call 328; refine (isCarry_v (uh Hc) _).mono ?_; rintro e w' ⟨rfl, rfl⟩) | (go_at_call 329; refine (isUtil_any _ _).mono ?_; rintro e w' ⟨rfl, rfl⟩))
  try
   refine ck (isMay_any _ _) fun w1 hb => ?_
   have c2 : w1.cell? ⟨w.heap.size, 2, none⟩ = some (.int .i64 rk) := (hb.cell (p := ⟨w.heap.size, 2, none⟩) (by simp)).trans (cell_new _ rfl)
   have c4 : w1.cell? ⟨w.heap.size, 4, none⟩ = some (.int .i64 gu) := (hb.cell (p := ⟨w.heap.size, 4, none⟩) (by simp)).trans (cell_new _ rfl)
   have c5 : w1.cell? ⟨w.heap.size, 5, none⟩ = some (.int .i64 lo) := (hb.cell (p := ⟨w.heap.size, 5, none⟩) (by simp)).trans (cell_new _ rfl)
   have c6 : w1.cell? ⟨w.heap.size, 6, none⟩ = some (.int .i64 hi) := (hb.cell (p := ⟨w.heap.size, 6, none⟩) (by simp)).trans (cell_new _ rfl)
   have c7 : w1.cell? ⟨w.heap.size, 7, none⟩ = some (.int .i64 hd) := (hb.cell (p := ⟨w.heap.size, 7, none⟩) (by simp)).trans (cell_new _ rfl)
   have c8 : w1.cell? ⟨w.heap.size, 8, none⟩ = some (.int .i64 ca) := (hb.cell (p := ⟨w.heap.size, 8, none⟩) (by simp)).trans (cell_new _ rfl)
   have c9 : w1.cell? ⟨w.heap.size, 9, none⟩ = some (.int .i64 ut) := (hb.cell (p := ⟨w.heap.size, 9, none⟩) (by simp)).trans (cell_new _ rfl)
   have c10 : w1.cell? ⟨w.heap.size, 10, none⟩ = some (.int .i64 wk) := (hb.cell (p := ⟨w.heap.size, 10, none⟩) (by simp)).trans (cell_new _ rfl)
   have Hb := hide (((alBrf w.heap.size w).alloc (alNlr _) _).trans (hb.mono (by simp)))
   clear hb
   go_wp2_with (first | (go_at_call 219; refine (liesFrom_any _ _ _ _).mono ?_; rintro e w' ⟨rfl, rfl⟩) | (go_at_call 201; refine (isBench_any _ _).mono ?_; rintro e w' ⟨rfl, rfl⟩) | (go_at_call 283; refine (areBounds_any _ _ _).mono ?_; rintro e w' ⟨rfl, rfl⟩) | (go_at_call 301; refine (smithHad_any _ _).mono ?_; rintro e w' ⟨rfl, rfl⟩) | (go_at_call 328; refine (isCarry_v (uh Hc) _).mono ?_; rintro e w' ⟨rfl, rfl⟩) | (go_at_call 329; refine (isUtil_any _ _).mono ?_; rintro e w' ⟨rfl, rfl⟩))
  go_ret
  first | exact ⟨rfl, uh Hb⟩ | exact ⟨rfl, (ba _ _)⟩
attribute [local go_sem ↓] smith_eql smith_neq
theorem shapeOf_gone (w : World) : cB 295 #[.agg E11] w (.iface 281 (.agg #[])) := by
 have hz : sameB (0, 0, 0, 0, 0, 0, 0, 0, 0, 0, 0) (0, 0, 0, 0, 0, 0, 0, 0, 0, 0, 0) = true := rfl
 go_enter func295, ntmps295
 go_wp2_with fail
 go_ret
 exact ⟨rfl, (ba _ _)⟩
theorem shapeOf_pres {st be rk my gu lo hi hd ca ut wk : Int} (hg : goneB (st, be, rk, my, gu, lo, hi, hd, ca, ut, wk) = false) (hp : presB (st, be, rk, my, gu, lo, hi, hd, ca, ut, wk) = true) (w : World) : cB 295 #[.agg (I11 st be rk my gu lo hi hd ca ut wk)] w (.iface 283 (.agg (I11 st be rk my gu lo hi hd ca ut wk))) := by
 have hz : sameB (st, be, rk, my, gu, lo, hi, hd, ca, ut, wk) (0, 0, 0, 0, 0, 0, 0, 0, 0, 0, 0) = false := hg
 have Hp := hide hp
 clear hg hp
 go_enter func295, ntmps295
 go_wp2_with fail
 refine (isPresent_any st be rk my gu lo hi hd ca ut wk _).mono ?_
 rw [uh Hp]
 rintro e w1 ⟨rfl, hb⟩
 have c0 : w1.cell? ⟨w.heap.size, 0, none⟩ = some (.int .i64 st) := (hb.cell (p := ⟨w.heap.size, 0, none⟩) (by simp)).trans (cell_new _ rfl)
 have c1 : w1.cell? ⟨w.heap.size, 1, none⟩ = some (.int .i64 be) := (hb.cell (p := ⟨w.heap.size, 1, none⟩) (by simp)).trans (cell_new _ rfl)
 have c2 : w1.cell? ⟨w.heap.size, 2, none⟩ = some (.int .i64 rk) := (hb.cell (p := ⟨w.heap.size, 2, none⟩) (by simp)).trans (cell_new _ rfl)
 have c3 : w1.cell? ⟨w.heap.size, 3, none⟩ = some (.int .i64 my) := (hb.cell (p := ⟨w.heap.size, 3, none⟩) (by simp)).trans (cell_new _ rfl)
 have c4 : w1.cell? ⟨w.heap.size, 4, none⟩ = some (.int .i64 gu) := (hb.cell (p := ⟨w.heap.size, 4, none⟩) (by simp)).trans (cell_new _ rfl)
 have c5 : w1.cell? ⟨w.heap.size, 5, none⟩ = some (.int .i64 lo) := (hb.cell (p := ⟨w.heap.size, 5, none⟩) (by simp)).trans (cell_new _ rfl)
 have c6 : w1.cell? ⟨w.heap.size, 6, none⟩ = some (.int .i64 hi) := (hb.cell (p := ⟨w.heap.size, 6, none⟩) (by simp)).trans (cell_new _ rfl)
 have c7 : w1.cell? ⟨w.heap.size, 7, none⟩ = some (.int .i64 hd) := (hb.cell (p := ⟨w.heap.size, 7, none⟩) (by simp)).trans (cell_new _ rfl)
 have c8 : w1.cell? ⟨w.heap.size, 8, none⟩ = some (.int .i64 ca) := (hb.cell (p := ⟨w.heap.size, 8, none⟩) (by simp)).trans (cell_new _ rfl)
 have c9 : w1.cell? ⟨w.heap.size, 9, none⟩ = some (.int .i64 ut) := (hb.cell (p := ⟨w.heap.size, 9, none⟩) (by simp)).trans (cell_new _ rfl)
 have c10 : w1.cell? ⟨w.heap.size, 10, none⟩ = some (.int .i64 wk) := (hb.cell (p := ⟨w.heap.size, 10, none⟩) (by simp)).trans (cell_new _ rfl)
 have Hb := hide (((alBrf w.heap.size w).alloc (alNlr _) _).trans (hb.mono (by simp)))
 clear hb
 go_wp2_with fail
 go_ret
 exact ⟨rfl, uh Hb⟩
theorem shapeOf_wrong {st be rk my gu lo hi hd ca ut wk : Int} (hg : goneB (st, be, rk, my, gu, lo, hi, hd, ca, ut, wk) = false) (hp : presB (st, be, rk, my, gu, lo, hi, hd, ca, ut, wk) = false) (w : World) : cB 295 #[.agg (I11 st be rk my gu lo hi hd ca ut wk)] w (.iface 284 (.agg #[])) := by
 have hz : sameB (st, be, rk, my, gu, lo, hi, hd, ca, ut, wk) (0, 0, 0, 0, 0, 0, 0, 0, 0, 0, 0) = false := hg
 have Hp := hide hp
 clear hg hp
 go_enter func295, ntmps295
 go_wp2_with fail
 refine (isPresent_any st be rk my gu lo hi hd ca ut wk _).mono ?_
 rw [uh Hp]
 rintro e w1 ⟨rfl, hb⟩
 have Hb := hide (((alBrf w.heap.size w).alloc (alNlr _) _).trans (hb.mono (by simp)))
 clear hb
 go_wp2_with fail
 go_ret
 exact ⟨rfl, uh Hb⟩
theorem m_gone (w : World) : (method 414 281 (.agg #[]) "loop.example/g00553/impl.isSmith").run prog w = .ok (371, .agg #[]) w := by kernel_rfl
theorem m_wrong (w : World) : (method 414 284 (.agg #[]) "loop.example/g00553/impl.isSmith").run prog w = .ok (373, .agg #[]) w := by kernel_rfl
theorem m_pres (st be rk my gu lo hi hd ca ut wk : Int) (w : World) : (method 414 283 (.agg (I11 st be rk my gu lo hi hd ca ut wk)) "loop.example/g00553/impl.isSmith").run prog w = .ok (372, .agg (I11 st be rk my gu lo hi hd ca ut wk)) w := by kernel_rfl
theorem goneIs_any (w : World) : cB 371 #[.agg #[]] w (.bool true) := by
 go_enter func371, ntmps371
 go_wp2_with fail
 go_ret
 exact ⟨rfl, (ba _ _)⟩
theorem wrongIs_any (w : World) : cB 373 #[.agg #[]] w (.bool false) := by
 go_enter func373, ntmps373
 go_wp2_with fail
 go_ret
 exact ⟨rfl, (ba _ _)⟩
theorem presIs_any (st be rk my gu lo hi hd ca ut wk : Int) (w : World) : cB 372 #[.agg (I11 st be rk my gu lo hi hd ca ut wk)] w (.bool true) := by
 go_enter func372, ntmps372
 go_wp2_with fail
 go_ret
 exact ⟨rfl, (ba _ _)⟩
attribute [local go_sem] m_gone m_wrong m_pres
theorem implSmithOk_any (st be rk my gu lo hi hd ca ut wk : Int) (w : World) : cB 248 #[.agg (I11 st be rk my gu lo hi hd ca ut wk)] w (.bool (smithB (st, be, rk, my, gu, lo, hi, hd, ca, ut, wk))) := by
 unfold smithB
 cases hg : goneB (st, be, rk, my, gu, lo, hi, hd, ca, ut, wk)
 ·cases hp : presB (st, be, rk, my, gu, lo, hi, hd, ca, ut, wk)
  ·rw [show (false || false) = false from rfl]
   have Hg := hide hg
   have Hp := hide hp
   clear hg hp
   go_enter func248, ntmps248
   go_wp2_with fail
   refine ck (shapeOf_wrong (uh Hg) (uh Hp) _) fun w1 hb => ?_
   have B1 := hide (((alBrf w.heap.size w).alloc (alNlr _) _).trans (hb.mono (by simp)))
   clear hb
   go_wp2_with fail
   refine ck (wrongIs_any _) fun w2 hb => ?_
   have B2 := hide ((uh B1).trans (hb.mono (uh B1).size))
   clear hb
   go_wp2_with fail
   go_ret
   exact ⟨rfl, uh B2⟩
  ·rw [show (false || true) = true from rfl]
   have Hg := hide hg
   have Hp := hide hp
   clear hg hp
   go_enter func248, ntmps248
   go_wp2_with fail
   refine ck (shapeOf_pres (uh Hg) (uh Hp) _) fun w1 hb => ?_
   have B1 := hide (((alBrf w.heap.size w).alloc (alNlr _) _).trans (hb.mono (by simp)))
   clear hb
   go_wp2_with fail
   refine ck (presIs_any _ _ _ _ _ _ _ _ _ _ _ _) fun w2 hb => ?_
   have B2 := hide ((uh B1).trans (hb.mono (uh B1).size))
   clear hb
   go_wp2_with fail
   go_ret
   exact ⟨rfl, uh B2⟩
 ·rw [Bool.true_or]
  cases goneB_of hg
  clear hg
  go_enter func248, ntmps248
  go_wp2_with fail
  refine ck (shapeOf_gone _) fun w1 hb => ?_
  have B1 := hide (((alBrf w.heap.size w).alloc (alNlr _) _).trans (hb.mono (by simp)))
  clear hb
  go_wp2_with fail
  refine ck (goneIs_any _) fun w2 hb => ?_
  have B2 := hide ((uh B1).trans (hb.mono (uh B1).size))
  clear hb
  go_wp2_with fail
  go_ret
  exact ⟨rfl, uh B2⟩
end Go.Proofs.YtgdpaigcmoifbaaGreat
