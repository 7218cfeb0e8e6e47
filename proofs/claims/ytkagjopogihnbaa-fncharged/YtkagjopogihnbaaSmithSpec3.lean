/- The model's Charged and Reranked: contracts, by what is handed in. Conditions: those that each theorem names. -/
import Derived.Test.YtkagjopogihnbaaSmithSpec2
import Derived.Test.YtkagjopogihnbaaSmithChg
import Derived.Deep.RegionWith
namespace Go.Proofs.Ytkagjopogihnbaa
open Go.ChangeShapes Go.WideShapes Go.ChangeAt Go.RowKit Go.Sort
set_option linter.unusedVariables false

set_option maxRecDepth 100000 in
set_option maxHeartbeats 2000000 in
theorem specC_yes {st be rk my gu lo hi hd ca ut wk : Int} {work x n l : Int} {w : World} (hx : weightV rk = x) (hok : okShare work x ca = true) (hn : shareN work x ca = n) (hl : shareL work x ca = l) (n0 : 0 ≤ n) (n1 : n ≤ 400000)
    (d0 : -1000000000000 ≤ hd) (d1 : hd ≤ 1000000000000) (k0 : 0 ≤ wk) (k1 : wk ≤ 100000000000) (v0 : 0 ≤ work) (v1 : work ≤ 100000) (hs : smithB (st, be, rk, my, gu, lo, hi, hd, ca, ut, wk) = true) (hst : (st == 0) = false) (h2 : smithB (st, be, rk, my, gu, lo, hi, (hd + n), l, ut, (wk + work)) = true) : Calls Try.prog 12 #[.agg #[.int .i64 st, .int .i64 be, .int .i64 rk, .int .i64 my, .int .i64 gu, .int .i64 lo, .int .i64 hi, .int .i64 hd, .int .i64 ca, .int .i64 ut, .int .i64 wk], .int .i64 work] w fun e w' => e = .returned (.tuple #[.agg #[.int .i64 st, .int .i64 be, .int .i64 rk, .int .i64 my, .int .i64 gu, .int .i64 lo, .int .i64 hi, .int .i64 (hd + n), .int .i64 l, .int .i64 ut, .int .i64 (wk + work)], .bool true]) ∧ Below w.heap.size w w' := by
  have Hs := hide hs
  have H2 := hide h2
  have Hx := hide hx
  have Hok := hide hok
  have Hn := hide hn
  have Hl := hide hl
  have hw : inB work 0 100000 = true := inB_t v0 v1
  clear hx hok hn hl hs h2
  go_enter Try.func12, Try.ntmps12
  go_wp2_with fail
  refine (specSmithOk_any st be rk my gu lo hi hd ca ut wk _).mono ?_
  rw [unhide Hs]
  rintro e w1 ⟨rfl, hb⟩
  have kb : Blk w1 w.heap.size 25 #[.int .i64 st, .int .i64 be, .int .i64 rk, .int .i64 my, .int .i64 gu, .int .i64 lo, .int .i64 hi, .int .i64 hd, .int .i64 ca, .int .i64 ut, .int .i64 wk] := ((Blk.new w 25 #[.int .i64 st, .int .i64 be, .int .i64 rk, .int .i64 my, .int .i64 gu, .int .i64 lo, .int .i64 hi, .int .i64 hd, .int .i64 ca, .int .i64 ut, .int .i64 wk]).alloc _).below hb (by simp; omega)
  have ko : Blk w1 (w.heap.size + 1) 25 #[.int .i64 0, .int .i64 0, .int .i64 0, .int .i64 0, .int .i64 0, .int .i64 0, .int .i64 0, .int .i64 0, .int .i64 0, .int .i64 0, .int .i64 0] := by
    have k := Blk.new (w.alloc (.cells #[.int .i64 st, .int .i64 be, .int .i64 rk, .int .i64 my, .int .i64 gu, .int .i64 lo, .int .i64 hi, .int .i64 hd, .int .i64 ca, .int .i64 ut, .int .i64 wk] 25)) 25 #[.int .i64 0, .int .i64 0, .int .i64 0, .int .i64 0, .int .i64 0, .int .i64 0, .int .i64 0, .int .i64 0, .int .i64 0, .int .i64 0, .int .i64 0]
    rw [World.size_alloc] at k
    exact k.below hb (by simp)
  have hsz : w.heap.size + 2 ≤ w1.heap.size := by have := hb.size; simp at this; omega
  have hl0 : w.heap.size < w1.heap.size := by omega
  have hl1 : w.heap.size + 1 < w1.heap.size := by omega
  have B1 := hide ((((Below.refl w.heap.size w).alloc (Nat.le_refl _) _).alloc (by simp) _).trans (hb.mono (by simp; omega)))
  have Kb := hide kb
  have Ko := hide ko
  have c0 := kb.cell (i := 0) (v := .int .i64 st) rfl
  have c1 := kb.cell (i := 1) (v := .int .i64 be) rfl
  have c2 := kb.cell (i := 2) (v := .int .i64 rk) rfl
  have c3 := kb.cell (i := 3) (v := .int .i64 my) rfl
  have c4 := kb.cell (i := 4) (v := .int .i64 gu) rfl
  have c5 := kb.cell (i := 5) (v := .int .i64 lo) rfl
  have c6 := kb.cell (i := 6) (v := .int .i64 hi) rfl
  have c7 := kb.cell (i := 7) (v := .int .i64 hd) rfl
  have c8 := kb.cell (i := 8) (v := .int .i64 ca) rfl
  have c9 := kb.cell (i := 9) (v := .int .i64 ut) rfl
  have c10 := kb.cell (i := 10) (v := .int .i64 wk) rfl
  have o0 := ko.cell (i := 0) (v := .int .i64 0) rfl
  have o1 := ko.cell (i := 1) (v := .int .i64 0) rfl
  have o2 := ko.cell (i := 2) (v := .int .i64 0) rfl
  have o3 := ko.cell (i := 3) (v := .int .i64 0) rfl
  have o4 := ko.cell (i := 4) (v := .int .i64 0) rfl
  have o5 := ko.cell (i := 5) (v := .int .i64 0) rfl
  have o6 := ko.cell (i := 6) (v := .int .i64 0) rfl
  have o7 := ko.cell (i := 7) (v := .int .i64 0) rfl
  have o8 := ko.cell (i := 8) (v := .int .i64 0) rfl
  have o9 := ko.cell (i := 9) (v := .int .i64 0) rfl
  have o10 := ko.cell (i := 10) (v := .int .i64 0) rfl
  have of0 := ko.free 0
  have of1 := ko.free 1
  have of2 := ko.free 2
  have of3 := ko.free 3
  have of4 := ko.free 4
  have of5 := ko.free 5
  have of6 := ko.free 6
  have of7 := ko.free 7
  have of8 := ko.free 8
  have of9 := ko.free 9
  have of10 := ko.free 10
  clear hb kb ko
  go_wp2_with (go_at_call 30; refine (l1In_any _ _ _ _).mono ?_; rintro e w' ⟨rfl, h9⟩; subst w')
  go_quiet (first | exact Calls.quiet_of_same (specWeightOf_v (unhide Hx) _) | exact Calls.quiet_of (specShare_d (unhide Hok) (unhide Hn) (unhide Hl) _))
  have kb : Blk (w1.drewN nq) w.heap.size 25 #[.int .i64 st, .int .i64 be, .int .i64 rk, .int .i64 my, .int .i64 gu, .int .i64 lo, .int .i64 hi, .int .i64 hd, .int .i64 ca, .int .i64 ut, .int .i64 wk] := unhide Kb
  have ko : Blk (w1.drewN nq) (w.heap.size + 1) 25 #[.int .i64 0, .int .i64 0, .int .i64 0, .int .i64 0, .int .i64 0, .int .i64 0, .int .i64 0, .int .i64 0, .int .i64 0, .int .i64 0, .int .i64 0] := unhide Ko
  have b1 := drewN_below (unhide B1) nq
  clear c0 o0 of0 c1 o1 of1 c2 o2 of2 c3 o3 of3 c4 o4 of4 c5 o5 of5 c6 o6 of6 c7 o7 of7 c8 o8 of8 c9 o9 of9 c10 o10 of10 Kb Ko B1 hl0 hl1
  rw [show w1.heap.size = (w1.drewN nq).heap.size from rfl] at hsz
  generalize w1.drewN nq = W1 at *
  have hl0 : w.heap.size < W1.heap.size := by omega
  have hl1 : w.heap.size + 1 < W1.heap.size := by omega
  have Kb := hide kb
  have Ko := hide ko
  have B1 := hide b1
  have c0 := kb.cell (i := 0) (v := .int .i64 st) rfl
  have c1 := kb.cell (i := 1) (v := .int .i64 be) rfl
  have c2 := kb.cell (i := 2) (v := .int .i64 rk) rfl
  have c3 := kb.cell (i := 3) (v := .int .i64 my) rfl
  have c4 := kb.cell (i := 4) (v := .int .i64 gu) rfl
  have c5 := kb.cell (i := 5) (v := .int .i64 lo) rfl
  have c6 := kb.cell (i := 6) (v := .int .i64 hi) rfl
  have c7 := kb.cell (i := 7) (v := .int .i64 hd) rfl
  have c8 := kb.cell (i := 8) (v := .int .i64 ca) rfl
  have c9 := kb.cell (i := 9) (v := .int .i64 ut) rfl
  have c10 := kb.cell (i := 10) (v := .int .i64 wk) rfl
  have o0 := ko.cell (i := 0) (v := .int .i64 0) rfl
  have o1 := ko.cell (i := 1) (v := .int .i64 0) rfl
  have o2 := ko.cell (i := 2) (v := .int .i64 0) rfl
  have o3 := ko.cell (i := 3) (v := .int .i64 0) rfl
  have o4 := ko.cell (i := 4) (v := .int .i64 0) rfl
  have o5 := ko.cell (i := 5) (v := .int .i64 0) rfl
  have o6 := ko.cell (i := 6) (v := .int .i64 0) rfl
  have o7 := ko.cell (i := 7) (v := .int .i64 0) rfl
  have o8 := ko.cell (i := 8) (v := .int .i64 0) rfl
  have o9 := ko.cell (i := 9) (v := .int .i64 0) rfl
  have o10 := ko.cell (i := 10) (v := .int .i64 0) rfl
  have of0 := ko.free 0
  have of1 := ko.free 1
  have of2 := ko.free 2
  have of3 := ko.free 3
  have of4 := ko.free 4
  have of5 := ko.free 5
  have of6 := ko.free 6
  have of7 := ko.free 7
  have of8 := ko.free 8
  have of9 := ko.free 9
  have of10 := ko.free 10
  clear kb ko b1
  go_wp2_with fail
  refine (specSmithOk_any st be rk my gu lo hi (hd + n) l ut (wk + work) _).mono ?_
  rw [unhide H2]
  rintro e w2 ⟨rfl, hb⟩
  have kb : Blk w2 w.heap.size 25 #[.int .i64 st, .int .i64 be, .int .i64 rk, .int .i64 my, .int .i64 gu, .int .i64 lo, .int .i64 hi, .int .i64 hd, .int .i64 ca, .int .i64 ut, .int .i64 wk] := (hb.block w.heap.size (by simp; omega)).trans ((unhide Kb).alloc (.cells #[.int .i64 st, .int .i64 be, .int .i64 rk, .int .i64 my, .int .i64 gu, .int .i64 lo, .int .i64 hi, .int .i64 (hd + n), .int .i64 l, .int .i64 ut, .int .i64 (wk + work)] 25))
  have ko : Blk w2 (w.heap.size + 1) 25 #[.int .i64 0, .int .i64 0, .int .i64 0, .int .i64 0, .int .i64 0, .int .i64 0, .int .i64 0, .int .i64 0, .int .i64 0, .int .i64 0, .int .i64 0] := (hb.block (w.heap.size + 1) (by simp; omega)).trans ((unhide Ko).alloc (.cells #[.int .i64 st, .int .i64 be, .int .i64 rk, .int .i64 my, .int .i64 gu, .int .i64 lo, .int .i64 hi, .int .i64 (hd + n), .int .i64 l, .int .i64 ut, .int .i64 (wk + work)] 25))
  have kn : Blk w2 W1.heap.size 25 #[.int .i64 st, .int .i64 be, .int .i64 rk, .int .i64 my, .int .i64 gu, .int .i64 lo, .int .i64 hi, .int .i64 (hd + n), .int .i64 l, .int .i64 ut, .int .i64 (wk + work)] := (hb.block W1.heap.size (by simp)).trans (Blk.new W1 25 #[.int .i64 st, .int .i64 be, .int .i64 rk, .int .i64 my, .int .i64 gu, .int .i64 lo, .int .i64 hi, .int .i64 (hd + n), .int .i64 l, .int .i64 ut, .int .i64 (wk + work)])
  have B2 : Hid (Below w.heap.size w w2) := hide (((unhide B1).alloc (by omega) (.cells #[.int .i64 st, .int .i64 be, .int .i64 rk, .int .i64 my, .int .i64 gu, .int .i64 lo, .int .i64 hi, .int .i64 (hd + n), .int .i64 l, .int .i64 ut, .int .i64 (wk + work)] 25)).trans (hb.mono (by simp; omega)))
  clear c0 o0 of0 c1 o1 of1 c2 o2 of2 c3 o3 of3 c4 o4 of4 c5 o5 of5 c6 o6 of6 c7 o7 of7 c8 o8 of8 c9 o9 of9 c10 o10 of10 Kb Ko
  have p0 := kn.cell (i := 0) (v := .int .i64 st) rfl
  have p1 := kn.cell (i := 1) (v := .int .i64 be) rfl
  have p2 := kn.cell (i := 2) (v := .int .i64 rk) rfl
  have p3 := kn.cell (i := 3) (v := .int .i64 my) rfl
  have p4 := kn.cell (i := 4) (v := .int .i64 gu) rfl
  have p5 := kn.cell (i := 5) (v := .int .i64 lo) rfl
  have p6 := kn.cell (i := 6) (v := .int .i64 hi) rfl
  have p7 := kn.cell (i := 7) (v := .int .i64 (hd + n)) rfl
  have p8 := kn.cell (i := 8) (v := .int .i64 l) rfl
  have p9 := kn.cell (i := 9) (v := .int .i64 ut) rfl
  have p10 := kn.cell (i := 10) (v := .int .i64 (wk + work)) rfl
  have o0 := ko.cell (i := 0) (v := .int .i64 0) rfl
  have o1 := ko.cell (i := 1) (v := .int .i64 0) rfl
  have o2 := ko.cell (i := 2) (v := .int .i64 0) rfl
  have o3 := ko.cell (i := 3) (v := .int .i64 0) rfl
  have o4 := ko.cell (i := 4) (v := .int .i64 0) rfl
  have o5 := ko.cell (i := 5) (v := .int .i64 0) rfl
  have o6 := ko.cell (i := 6) (v := .int .i64 0) rfl
  have o7 := ko.cell (i := 7) (v := .int .i64 0) rfl
  have o8 := ko.cell (i := 8) (v := .int .i64 0) rfl
  have o9 := ko.cell (i := 9) (v := .int .i64 0) rfl
  have o10 := ko.cell (i := 10) (v := .int .i64 0) rfl
  have of0 := ko.free 0
  have of1 := ko.free 1
  have of2 := ko.free 2
  have of3 := ko.free 3
  have of4 := ko.free 4
  have of5 := ko.free 5
  have of6 := ko.free 6
  have of7 := ko.free 7
  have of8 := ko.free 8
  have of9 := ko.free 9
  have of10 := ko.free 10
  clear hb kb ko kn
  go_wp2_with fail
  refine bodyPost_ret (v := .tuple #[.agg #[.int .i64 st, .int .i64 be, .int .i64 rk, .int .i64 my, .int .i64 gu, .int .i64 lo, .int .i64 hi, .int .i64 (hd + n), .int .i64 l, .int .i64 ut, .int .i64 (wk + work)], .bool true]) (by simp [results, Try.results12, go_sem, o0, o1, o2, o3, o4, o5, o6, o7, o8, o9, o10]) rfl ⟨rfl, ?_⟩
  iterate 11 (refine Below.setCell ?_ (by simp) _)
  exact unhide B2

set_option maxRecDepth 100000 in
set_option maxHeartbeats 2000000 in
theorem specC_over {st be rk my gu lo hi hd ca ut wk : Int} {work x n l : Int} {w : World} (hx : weightV rk = x) (hok : okShare work x ca = true) (hn : shareN work x ca = n) (hl : shareL work x ca = l) (n0 : 0 ≤ n) (n1 : n ≤ 400000)
    (d0 : -1000000000000 ≤ hd) (d1 : hd ≤ 1000000000000) (k0 : 0 ≤ wk) (k1 : wk ≤ 100000000000) (v0 : 0 ≤ work) (v1 : work ≤ 100000) (hs : smithB (st, be, rk, my, gu, lo, hi, hd, ca, ut, wk) = true) (hst : (st == 0) = false) (h2 : smithB (st, be, rk, my, gu, lo, hi, (hd + n), l, ut, (wk + work)) = false) : Calls Try.prog 12 #[.agg #[.int .i64 st, .int .i64 be, .int .i64 rk, .int .i64 my, .int .i64 gu, .int .i64 lo, .int .i64 hi, .int .i64 hd, .int .i64 ca, .int .i64 ut, .int .i64 wk], .int .i64 work] w fun e w' => e = .returned (.tuple #[.agg #[.int .i64 st, .int .i64 be, .int .i64 rk, .int .i64 my, .int .i64 gu, .int .i64 lo, .int .i64 hi, .int .i64 hd, .int .i64 ca, .int .i64 ut, .int .i64 wk], .bool false]) ∧ Below w.heap.size w w' := by
  have Hs := hide hs
  have H2 := hide h2
  have Hx := hide hx
  have Hok := hide hok
  have Hn := hide hn
  have Hl := hide hl
  have hw : inB work 0 100000 = true := inB_t v0 v1
  clear hx hok hn hl hs h2
  go_enter Try.func12, Try.ntmps12
  go_wp2_with fail
  refine (specSmithOk_any st be rk my gu lo hi hd ca ut wk _).mono ?_
  rw [unhide Hs]
  rintro e w1 ⟨rfl, hb⟩
  have kb : Blk w1 w.heap.size 25 #[.int .i64 st, .int .i64 be, .int .i64 rk, .int .i64 my, .int .i64 gu, .int .i64 lo, .int .i64 hi, .int .i64 hd, .int .i64 ca, .int .i64 ut, .int .i64 wk] := ((Blk.new w 25 #[.int .i64 st, .int .i64 be, .int .i64 rk, .int .i64 my, .int .i64 gu, .int .i64 lo, .int .i64 hi, .int .i64 hd, .int .i64 ca, .int .i64 ut, .int .i64 wk]).alloc _).below hb (by simp; omega)
  have ko : Blk w1 (w.heap.size + 1) 25 #[.int .i64 0, .int .i64 0, .int .i64 0, .int .i64 0, .int .i64 0, .int .i64 0, .int .i64 0, .int .i64 0, .int .i64 0, .int .i64 0, .int .i64 0] := by
    have k := Blk.new (w.alloc (.cells #[.int .i64 st, .int .i64 be, .int .i64 rk, .int .i64 my, .int .i64 gu, .int .i64 lo, .int .i64 hi, .int .i64 hd, .int .i64 ca, .int .i64 ut, .int .i64 wk] 25)) 25 #[.int .i64 0, .int .i64 0, .int .i64 0, .int .i64 0, .int .i64 0, .int .i64 0, .int .i64 0, .int .i64 0, .int .i64 0, .int .i64 0, .int .i64 0]
    rw [World.size_alloc] at k
    exact k.below hb (by simp)
  have hsz : w.heap.size + 2 ≤ w1.heap.size := by have := hb.size; simp at this; omega
  have hl0 : w.heap.size < w1.heap.size := by omega
  have hl1 : w.heap.size + 1 < w1.heap.size := by omega
  have B1 := hide ((((Below.refl w.heap.size w).alloc (Nat.le_refl _) _).alloc (by simp) _).trans (hb.mono (by simp; omega)))
  have Kb := hide kb
  have Ko := hide ko
  have c0 := kb.cell (i := 0) (v := .int .i64 st) rfl
  have c1 := kb.cell (i := 1) (v := .int .i64 be) rfl
  have c2 := kb.cell (i := 2) (v := .int .i64 rk) rfl
  have c3 := kb.cell (i := 3) (v := .int .i64 my) rfl
  have c4 := kb.cell (i := 4) (v := .int .i64 gu) rfl
  have c5 := kb.cell (i := 5) (v := .int .i64 lo) rfl
  have c6 := kb.cell (i := 6) (v := .int .i64 hi) rfl
  have c7 := kb.cell (i := 7) (v := .int .i64 hd) rfl
  have c8 := kb.cell (i := 8) (v := .int .i64 ca) rfl
  have c9 := kb.cell (i := 9) (v := .int .i64 ut) rfl
  have c10 := kb.cell (i := 10) (v := .int .i64 wk) rfl
  have o0 := ko.cell (i := 0) (v := .int .i64 0) rfl
  have o1 := ko.cell (i := 1) (v := .int .i64 0) rfl
  have o2 := ko.cell (i := 2) (v := .int .i64 0) rfl
  have o3 := ko.cell (i := 3) (v := .int .i64 0) rfl
  have o4 := ko.cell (i := 4) (v := .int .i64 0) rfl
  have o5 := ko.cell (i := 5) (v := .int .i64 0) rfl
  have o6 := ko.cell (i := 6) (v := .int .i64 0) rfl
  have o7 := ko.cell (i := 7) (v := .int .i64 0) rfl
  have o8 := ko.cell (i := 8) (v := .int .i64 0) rfl
  have o9 := ko.cell (i := 9) (v := .int .i64 0) rfl
  have o10 := ko.cell (i := 10) (v := .int .i64 0) rfl
  have of0 := ko.free 0
  have of1 := ko.free 1
  have of2 := ko.free 2
  have of3 := ko.free 3
  have of4 := ko.free 4
  have of5 := ko.free 5
  have of6 := ko.free 6
  have of7 := ko.free 7
  have of8 := ko.free 8
  have of9 := ko.free 9
  have of10 := ko.free 10
  clear hb kb ko
  go_wp2_with (go_at_call 30; refine (l1In_any _ _ _ _).mono ?_; rintro e w' ⟨rfl, h9⟩; subst w')
  go_quiet (first | exact Calls.quiet_of_same (specWeightOf_v (unhide Hx) _) | exact Calls.quiet_of (specShare_d (unhide Hok) (unhide Hn) (unhide Hl) _))
  have kb : Blk (w1.drewN nq) w.heap.size 25 #[.int .i64 st, .int .i64 be, .int .i64 rk, .int .i64 my, .int .i64 gu, .int .i64 lo, .int .i64 hi, .int .i64 hd, .int .i64 ca, .int .i64 ut, .int .i64 wk] := unhide Kb
  have ko : Blk (w1.drewN nq) (w.heap.size + 1) 25 #[.int .i64 0, .int .i64 0, .int .i64 0, .int .i64 0, .int .i64 0, .int .i64 0, .int .i64 0, .int .i64 0, .int .i64 0, .int .i64 0, .int .i64 0] := unhide Ko
  have b1 := drewN_below (unhide B1) nq
  clear c0 o0 of0 c1 o1 of1 c2 o2 of2 c3 o3 of3 c4 o4 of4 c5 o5 of5 c6 o6 of6 c7 o7 of7 c8 o8 of8 c9 o9 of9 c10 o10 of10 Kb Ko B1 hl0 hl1
  rw [show w1.heap.size = (w1.drewN nq).heap.size from rfl] at hsz
  generalize w1.drewN nq = W1 at *
  have hl0 : w.heap.size < W1.heap.size := by omega
  have hl1 : w.heap.size + 1 < W1.heap.size := by omega
  have Kb := hide kb
  have Ko := hide ko
  have B1 := hide b1
  have c0 := kb.cell (i := 0) (v := .int .i64 st) rfl
  have c1 := kb.cell (i := 1) (v := .int .i64 be) rfl
  have c2 := kb.cell (i := 2) (v := .int .i64 rk) rfl
  have c3 := kb.cell (i := 3) (v := .int .i64 my) rfl
  have c4 := kb.cell (i := 4) (v := .int .i64 gu) rfl
  have c5 := kb.cell (i := 5) (v := .int .i64 lo) rfl
  have c6 := kb.cell (i := 6) (v := .int .i64 hi) rfl
  have c7 := kb.cell (i := 7) (v := .int .i64 hd) rfl
  have c8 := kb.cell (i := 8) (v := .int .i64 ca) rfl
  have c9 := kb.cell (i := 9) (v := .int .i64 ut) rfl
  have c10 := kb.cell (i := 10) (v := .int .i64 wk) rfl
  have o0 := ko.cell (i := 0) (v := .int .i64 0) rfl
  have o1 := ko.cell (i := 1) (v := .int .i64 0) rfl
  have o2 := ko.cell (i := 2) (v := .int .i64 0) rfl
  have o3 := ko.cell (i := 3) (v := .int .i64 0) rfl
  have o4 := ko.cell (i := 4) (v := .int .i64 0) rfl
  have o5 := ko.cell (i := 5) (v := .int .i64 0) rfl
  have o6 := ko.cell (i := 6) (v := .int .i64 0) rfl
  have o7 := ko.cell (i := 7) (v := .int .i64 0) rfl
  have o8 := ko.cell (i := 8) (v := .int .i64 0) rfl
  have o9 := ko.cell (i := 9) (v := .int .i64 0) rfl
  have o10 := ko.cell (i := 10) (v := .int .i64 0) rfl
  have of0 := ko.free 0
  have of1 := ko.free 1
  have of2 := ko.free 2
  have of3 := ko.free 3
  have of4 := ko.free 4
  have of5 := ko.free 5
  have of6 := ko.free 6
  have of7 := ko.free 7
  have of8 := ko.free 8
  have of9 := ko.free 9
  have of10 := ko.free 10
  clear kb ko b1
  go_wp2_with fail
  refine (specSmithOk_any st be rk my gu lo hi (hd + n) l ut (wk + work) _).mono ?_
  rw [unhide H2]
  rintro e w2 ⟨rfl, hb⟩
  have kb : Blk w2 w.heap.size 25 #[.int .i64 st, .int .i64 be, .int .i64 rk, .int .i64 my, .int .i64 gu, .int .i64 lo, .int .i64 hi, .int .i64 hd, .int .i64 ca, .int .i64 ut, .int .i64 wk] := (hb.block w.heap.size (by simp; omega)).trans ((unhide Kb).alloc (.cells #[.int .i64 st, .int .i64 be, .int .i64 rk, .int .i64 my, .int .i64 gu, .int .i64 lo, .int .i64 hi, .int .i64 (hd + n), .int .i64 l, .int .i64 ut, .int .i64 (wk + work)] 25))
  have ko : Blk w2 (w.heap.size + 1) 25 #[.int .i64 0, .int .i64 0, .int .i64 0, .int .i64 0, .int .i64 0, .int .i64 0, .int .i64 0, .int .i64 0, .int .i64 0, .int .i64 0, .int .i64 0] := (hb.block (w.heap.size + 1) (by simp; omega)).trans ((unhide Ko).alloc (.cells #[.int .i64 st, .int .i64 be, .int .i64 rk, .int .i64 my, .int .i64 gu, .int .i64 lo, .int .i64 hi, .int .i64 (hd + n), .int .i64 l, .int .i64 ut, .int .i64 (wk + work)] 25))
  have kn : Blk w2 W1.heap.size 25 #[.int .i64 st, .int .i64 be, .int .i64 rk, .int .i64 my, .int .i64 gu, .int .i64 lo, .int .i64 hi, .int .i64 (hd + n), .int .i64 l, .int .i64 ut, .int .i64 (wk + work)] := (hb.block W1.heap.size (by simp)).trans (Blk.new W1 25 #[.int .i64 st, .int .i64 be, .int .i64 rk, .int .i64 my, .int .i64 gu, .int .i64 lo, .int .i64 hi, .int .i64 (hd + n), .int .i64 l, .int .i64 ut, .int .i64 (wk + work)])
  have B2 : Hid (Below w.heap.size w w2) := hide (((unhide B1).alloc (by omega) (.cells #[.int .i64 st, .int .i64 be, .int .i64 rk, .int .i64 my, .int .i64 gu, .int .i64 lo, .int .i64 hi, .int .i64 (hd + n), .int .i64 l, .int .i64 ut, .int .i64 (wk + work)] 25)).trans (hb.mono (by simp; omega)))
  clear c0 o0 of0 c1 o1 of1 c2 o2 of2 c3 o3 of3 c4 o4 of4 c5 o5 of5 c6 o6 of6 c7 o7 of7 c8 o8 of8 c9 o9 of9 c10 o10 of10 Kb Ko
  have p0 := kb.cell (i := 0) (v := .int .i64 st) rfl
  have p1 := kb.cell (i := 1) (v := .int .i64 be) rfl
  have p2 := kb.cell (i := 2) (v := .int .i64 rk) rfl
  have p3 := kb.cell (i := 3) (v := .int .i64 my) rfl
  have p4 := kb.cell (i := 4) (v := .int .i64 gu) rfl
  have p5 := kb.cell (i := 5) (v := .int .i64 lo) rfl
  have p6 := kb.cell (i := 6) (v := .int .i64 hi) rfl
  have p7 := kb.cell (i := 7) (v := .int .i64 hd) rfl
  have p8 := kb.cell (i := 8) (v := .int .i64 ca) rfl
  have p9 := kb.cell (i := 9) (v := .int .i64 ut) rfl
  have p10 := kb.cell (i := 10) (v := .int .i64 wk) rfl
  have o0 := ko.cell (i := 0) (v := .int .i64 0) rfl
  have o1 := ko.cell (i := 1) (v := .int .i64 0) rfl
  have o2 := ko.cell (i := 2) (v := .int .i64 0) rfl
  have o3 := ko.cell (i := 3) (v := .int .i64 0) rfl
  have o4 := ko.cell (i := 4) (v := .int .i64 0) rfl
  have o5 := ko.cell (i := 5) (v := .int .i64 0) rfl
  have o6 := ko.cell (i := 6) (v := .int .i64 0) rfl
  have o7 := ko.cell (i := 7) (v := .int .i64 0) rfl
  have o8 := ko.cell (i := 8) (v := .int .i64 0) rfl
  have o9 := ko.cell (i := 9) (v := .int .i64 0) rfl
  have o10 := ko.cell (i := 10) (v := .int .i64 0) rfl
  have of0 := ko.free 0
  have of1 := ko.free 1
  have of2 := ko.free 2
  have of3 := ko.free 3
  have of4 := ko.free 4
  have of5 := ko.free 5
  have of6 := ko.free 6
  have of7 := ko.free 7
  have of8 := ko.free 8
  have of9 := ko.free 9
  have of10 := ko.free 10
  clear hb kb ko kn
  go_wp2_with fail
  refine bodyPost_ret (v := .tuple #[.agg #[.int .i64 st, .int .i64 be, .int .i64 rk, .int .i64 my, .int .i64 gu, .int .i64 lo, .int .i64 hi, .int .i64 hd, .int .i64 ca, .int .i64 ut, .int .i64 wk], .bool false]) (by simp [results, Try.results12, go_sem, o0, o1, o2, o3, o4, o5, o6, o7, o8, o9, o10]) rfl ⟨rfl, ?_⟩
  iterate 11 (refine Below.setCell ?_ (by simp) _)
  exact unhide B2

end Go.Proofs.Ytkagjopogihnbaa
