/- The model's Charged and Reranked: contracts, by what is handed in. Conditions: those that each theorem names. -/
import Derived.Test.YtkagjopogihnbaaSmithSpec
import Derived.Test.YtkagjopogihnbaaSmithChg
import Derived.Deep.RegionWith
namespace Go.Proofs.Ytkagjopogihnbaa
open Go.ChangeShapes Go.WideShapes Go.ChangeAt Go.RowKit Go.Sort
set_option linter.unusedVariables false

set_option maxRecDepth 100000 in
set_option maxHeartbeats 2000000 in
theorem specC_gone (work : Int) (w : World) : Calls Try.prog 12 #[.agg #[.int .i64 0, .int .i64 0, .int .i64 0, .int .i64 0, .int .i64 0, .int .i64 0, .int .i64 0, .int .i64 0, .int .i64 0, .int .i64 0, .int .i64 0], .int .i64 work] w fun e w' => e = .returned (.tuple #[.agg #[.int .i64 0, .int .i64 0, .int .i64 0, .int .i64 0, .int .i64 0, .int .i64 0, .int .i64 0, .int .i64 0, .int .i64 0, .int .i64 0, .int .i64 0], .bool false]) ∧ Below w.heap.size w w' := by
  have Hs : Hid (smithB (0, 0, 0, 0, 0, 0, 0, 0, 0, 0, 0) = true) := hide rfl
  go_enter Try.func12, Try.ntmps12
  go_wp2_with fail
  refine (specSmithOk_any 0 0 0 0 0 0 0 0 0 0 0 _).mono ?_
  rw [unhide Hs]
  rintro e w1 ⟨rfl, hb⟩
  have kb : Blk w1 w.heap.size 25 #[.int .i64 0, .int .i64 0, .int .i64 0, .int .i64 0, .int .i64 0, .int .i64 0, .int .i64 0, .int .i64 0, .int .i64 0, .int .i64 0, .int .i64 0] := ((Blk.new w 25 #[.int .i64 0, .int .i64 0, .int .i64 0, .int .i64 0, .int .i64 0, .int .i64 0, .int .i64 0, .int .i64 0, .int .i64 0, .int .i64 0, .int .i64 0]).alloc _).below hb (by simp; omega)
  have ko : Blk w1 (w.heap.size + 1) 25 #[.int .i64 0, .int .i64 0, .int .i64 0, .int .i64 0, .int .i64 0, .int .i64 0, .int .i64 0, .int .i64 0, .int .i64 0, .int .i64 0, .int .i64 0] := by
    have k := Blk.new (w.alloc (.cells #[.int .i64 0, .int .i64 0, .int .i64 0, .int .i64 0, .int .i64 0, .int .i64 0, .int .i64 0, .int .i64 0, .int .i64 0, .int .i64 0, .int .i64 0] 25)) 25 #[.int .i64 0, .int .i64 0, .int .i64 0, .int .i64 0, .int .i64 0, .int .i64 0, .int .i64 0, .int .i64 0, .int .i64 0, .int .i64 0, .int .i64 0]
    rw [World.size_alloc] at k
    exact k.below hb (by simp)
  have hsz : w.heap.size + 2 ≤ w1.heap.size := by have := hb.size; simp at this; omega
  have hl0 : w.heap.size < w1.heap.size := by omega
  have hl1 : w.heap.size + 1 < w1.heap.size := by omega
  have B1 := hide ((((Below.refl w.heap.size w).alloc (Nat.le_refl _) _).alloc (by simp) _).trans (hb.mono (by simp; omega)))
  have Kb := hide kb
  have Ko := hide ko
  have c0 := kb.cell (i := 0) (v := .int .i64 0) rfl
  have c1 := kb.cell (i := 1) (v := .int .i64 0) rfl
  have c2 := kb.cell (i := 2) (v := .int .i64 0) rfl
  have c3 := kb.cell (i := 3) (v := .int .i64 0) rfl
  have c4 := kb.cell (i := 4) (v := .int .i64 0) rfl
  have c5 := kb.cell (i := 5) (v := .int .i64 0) rfl
  have c6 := kb.cell (i := 6) (v := .int .i64 0) rfl
  have c7 := kb.cell (i := 7) (v := .int .i64 0) rfl
  have c8 := kb.cell (i := 8) (v := .int .i64 0) rfl
  have c9 := kb.cell (i := 9) (v := .int .i64 0) rfl
  have c10 := kb.cell (i := 10) (v := .int .i64 0) rfl
  have o0 := ko.cell (i := 0) (v := .int .i64 0) rfl
  have o1 := ko.cell (i := 1) (v := .int .i64 0) rfl
  have o2 := ko.cell (i := 2) (v := .int .i64 0) rfl
  have o3 := ko.cell (i := 3) (v := .int .i64 0) rfl
  have o4 := ko.cell (i := 4) (v := .int .i64 0) rfl
  have o5 := ko.cell (i := 5) (v := .int .i64 0) rfl
  have o6 := ko.cell (i := 6) (v := .int .i64 0) rfl
  have o7 := ko.cell (i := 7) (v := .int .i64 0) rfl
  have o8 := ko.cell (i := 8) (v := .int .i64 0) rfl
  have o9 := ko.cell (i := 9) (v := .int .i64 0) rfl
  have o10 := ko.cell (i := 10) (v := .int .i64 0) rfl
  have of0 := ko.free 0
  have of1 := ko.free 1
  have of2 := ko.free 2
  have of3 := ko.free 3
  have of4 := ko.free 4
  have of5 := ko.free 5
  have of6 := ko.free 6
  have of7 := ko.free 7
  have of8 := ko.free 8
  have of9 := ko.free 9
  have of10 := ko.free 10
  clear hb kb ko
  go_wp2_with fail
  refine bodyPost_ret (v := .tuple #[.agg #[.int .i64 0, .int .i64 0, .int .i64 0, .int .i64 0, .int .i64 0, .int .i64 0, .int .i64 0, .int .i64 0, .int .i64 0, .int .i64 0, .int .i64 0], .bool false]) (by simp [results, Try.results12, go_sem, o0, o1, o2, o3, o4, o5, o6, o7, o8, o9, o10]) rfl ⟨rfl, ?_⟩
  iterate 11 (refine Below.setCell ?_ (by simp) _)
  exact unhide B1

set_option maxRecDepth 100000 in
set_option maxHeartbeats 2000000 in
theorem specC_wrong {st be rk my gu lo hi hd ca ut wk : Int} (work : Int) (w : World) (hs : smithB (st, be, rk, my, gu, lo, hi, hd, ca, ut, wk) = false) : Calls Try.prog 12 #[.agg #[.int .i64 st, .int .i64 be, .int .i64 rk, .int .i64 my, .int .i64 gu, .int .i64 lo, .int .i64 hi, .int .i64 hd, .int .i64 ca, .int .i64 ut, .int .i64 wk], .int .i64 work] w fun e w' => e = .returned (.tuple #[.agg #[.int .i64 0, .int .i64 0, .int .i64 0, .int .i64 0, .int .i64 0, .int .i64 0, .int .i64 0, .int .i64 0, .int .i64 0, .int .i64 0, .int .i64 0], .bool false]) ∧ Below w.heap.size w w' := by
  have Hs := hide hs
  clear hs
  go_enter Try.func12, Try.ntmps12
  go_wp2_with fail
  refine (specSmithOk_any st be rk my gu lo hi hd ca ut wk _).mono ?_
  rw [unhide Hs]
  rintro e w1 ⟨rfl, hb⟩
  have kb : Blk w1 w.heap.size 25 #[.int .i64 st, .int .i64 be, .int .i64 rk, .int .i64 my, .int .i64 gu, .int .i64 lo, .int .i64 hi, .int .i64 hd, .int .i64 ca, .int .i64 ut, .int .i64 wk] := ((Blk.new w 25 #[.int .i64 st, .int .i64 be, .int .i64 rk, .int .i64 my, .int .i64 gu, .int .i64 lo, .int .i64 hi, .int .i64 hd, .int .i64 ca, .int .i64 ut, .int .i64 wk]).alloc _).below hb (by simp; omega)
  have ko : Blk w1 (w.heap.size + 1) 25 #[.int .i64 0, .int .i64 0, .int .i64 0, .int .i64 0, .int .i64 0, .int .i64 0, .int .i64 0, .int .i64 0, .int .i64 0, .int .i64 0, .int .i64 0] := by
    have k := Blk.new (w.alloc (.cells #[.int .i64 st, .int .i64 be, .int .i64 rk, .int .i64 my, .int .i64 gu, .int .i64 lo, .int .i64 hi, .int .i64 hd, .int .i64 ca, .int .i64 ut, .int .i64 wk] 25)) 25 #[.int .i64 0, .int .i64 0, .int .i64 0, .int .i64 0, .int .i64 0, .int .i64 0, .int .i64 0, .int .i64 0, .int .i64 0, .int .i64 0, .int .i64 0]
    rw [World.size_alloc] at k
    exact k.below hb (by simp)
  have hsz : w.heap.size + 2 ≤ w1.heap.size := by have := hb.size; simp at this; omega
  have hl0 : w.heap.size < w1.heap.size := by omega
  have hl1 : w.heap.size + 1 < w1.heap.size := by omega
  have B1 := hide ((((Below.refl w.heap.size w).alloc (Nat.le_refl _) _).alloc (by simp) _).trans (hb.mono (by simp; omega)))
  have Kb := hide kb
  have Ko := hide ko
  have c0 := kb.cell (i := 0) (v := .int .i64 st) rfl
  have c1 := kb.cell (i := 1) (v := .int .i64 be) rfl
  have c2 := kb.cell (i := 2) (v := .int .i64 rk) rfl
  have c3 := kb.cell (i := 3) (v := .int .i64 my) rfl
  have c4 := kb.cell (i := 4) (v := .int .i64 gu) rfl
  have c5 := kb.cell (i := 5) (v := .int .i64 lo) rfl
  have c6 := kb.cell (i := 6) (v := .int .i64 hi) rfl
  have c7 := kb.cell (i := 7) (v := .int .i64 hd) rfl
  have c8 := kb.cell (i := 8) (v := .int .i64 ca) rfl
  have c9 := kb.cell (i := 9) (v := .int .i64 ut) rfl
  have c10 := kb.cell (i := 10) (v := .int .i64 wk) rfl
  have o0 := ko.cell (i := 0) (v := .int .i64 0) rfl
  have o1 := ko.cell (i := 1) (v := .int .i64 0) rfl
  have o2 := ko.cell (i := 2) (v := .int .i64 0) rfl
  have o3 := ko.cell (i := 3) (v := .int .i64 0) rfl
  have o4 := ko.cell (i := 4) (v := .int .i64 0) rfl
  have o5 := ko.cell (i := 5) (v := .int .i64 0) rfl
  have o6 := ko.cell (i := 6) (v := .int .i64 0) rfl
  have o7 := ko.cell (i := 7) (v := .int .i64 0) rfl
  have o8 := ko.cell (i := 8) (v := .int .i64 0) rfl
  have o9 := ko.cell (i := 9) (v := .int .i64 0) rfl
  have o10 := ko.cell (i := 10) (v := .int .i64 0) rfl
  have of0 := ko.free 0
  have of1 := ko.free 1
  have of2 := ko.free 2
  have of3 := ko.free 3
  have of4 := ko.free 4
  have of5 := ko.free 5
  have of6 := ko.free 6
  have of7 := ko.free 7
  have of8 := ko.free 8
  have of9 := ko.free 9
  have of10 := ko.free 10
  clear hb kb ko
  go_wp2_with fail
  refine bodyPost_ret (v := .tuple #[.agg #[.int .i64 0, .int .i64 0, .int .i64 0, .int .i64 0, .int .i64 0, .int .i64 0, .int .i64 0, .int .i64 0, .int .i64 0, .int .i64 0, .int .i64 0], .bool false]) (by simp [results, Try.results12, go_sem, o0, o1, o2, o3, o4, o5, o6, o7, o8, o9, o10]) rfl ⟨rfl, ?_⟩
  iterate 11 (refine Below.setCell ?_ (by simp) _)
  exact unhide B1

set_option maxRecDepth 100000 in
set_option maxHeartbeats 2000000 in
theorem specC_no {st be rk my gu lo hi hd ca ut wk : Int} (work : Int) (w : World) (hs : smithB (st, be, rk, my, gu, lo, hi, hd, ca, ut, wk) = true) (hst : (st == 0) = false) (hw : inB work 0 100000 = false) : Calls Try.prog 12 #[.agg #[.int .i64 st, .int .i64 be, .int .i64 rk, .int .i64 my, .int .i64 gu, .int .i64 lo, .int .i64 hi, .int .i64 hd, .int .i64 ca, .int .i64 ut, .int .i64 wk], .int .i64 work] w fun e w' => e = .returned (.tuple #[.agg #[.int .i64 st, .int .i64 be, .int .i64 rk, .int .i64 my, .int .i64 gu, .int .i64 lo, .int .i64 hi, .int .i64 hd, .int .i64 ca, .int .i64 ut, .int .i64 wk], .bool false]) ∧ Below w.heap.size w w' := by
  have Hs := hide hs
  clear hs
  go_enter Try.func12, Try.ntmps12
  go_wp2_with fail
  refine (specSmithOk_any st be rk my gu lo hi hd ca ut wk _).mono ?_
  rw [unhide Hs]
  rintro e w1 ⟨rfl, hb⟩
  have kb : Blk w1 w.heap.size 25 #[.int .i64 st, .int .i64 be, .int .i64 rk, .int .i64 my, .int .i64 gu, .int .i64 lo, .int .i64 hi, .int .i64 hd, .int .i64 ca, .int .i64 ut, .int .i64 wk] := ((Blk.new w 25 #[.int .i64 st, .int .i64 be, .int .i64 rk, .int .i64 my, .int .i64 gu, .int .i64 lo, .int .i64 hi, .int .i64 hd, .int .i64 ca, .int .i64 ut, .int .i64 wk]).alloc _).below hb (by simp; omega)
  have ko : Blk w1 (w.heap.size + 1) 25 #[.int .i64 0, .int .i64 0, .int .i64 0, .int .i64 0, .int .i64 0, .int .i64 0, .int .i64 0, .int .i64 0, .int .i64 0, .int .i64 0, .int .i64 0] := by
    have k := Blk.new (w.alloc (.cells #[.int .i64 st, .int .i64 be, .int .i64 rk, .int .i64 my, .int .i64 gu, .int .i64 lo, .int .i64 hi, .int .i64 hd, .int .i64 ca, .int .i64 ut, .int .i64 wk] 25)) 25 #[.int .i64 0, .int .i64 0, .int .i64 0, .int .i64 0, .int .i64 0, .int .i64 0, .int .i64 0, .int .i64 0, .int .i64 0, .int .i64 0, .int .i64 0]
    rw [World.size_alloc] at k
    exact k.below hb (by simp)
  have hsz : w.heap.size + 2 ≤ w1.heap.size := by have := hb.size; simp at this; omega
  have hl0 : w.heap.size < w1.heap.size := by omega
  have hl1 : w.heap.size + 1 < w1.heap.size := by omega
  have B1 := hide ((((Below.refl w.heap.size w).alloc (Nat.le_refl _) _).alloc (by simp) _).trans (hb.mono (by simp; omega)))
  have Kb := hide kb
  have Ko := hide ko
  have c0 := kb.cell (i := 0) (v := .int .i64 st) rfl
  have c1 := kb.cell (i := 1) (v := .int .i64 be) rfl
  have c2 := kb.cell (i := 2) (v := .int .i64 rk) rfl
  have c3 := kb.cell (i := 3) (v := .int .i64 my) rfl
  have c4 := kb.cell (i := 4) (v := .int .i64 gu) rfl
  have c5 := kb.cell (i := 5) (v := .int .i64 lo) rfl
  have c6 := kb.cell (i := 6) (v := .int .i64 hi) rfl
  have c7 := kb.cell (i := 7) (v := .int .i64 hd) rfl
  have c8 := kb.cell (i := 8) (v := .int .i64 ca) rfl
  have c9 := kb.cell (i := 9) (v := .int .i64 ut) rfl
  have c10 := kb.cell (i := 10) (v := .int .i64 wk) rfl
  have o0 := ko.cell (i := 0) (v := .int .i64 0) rfl
  have o1 := ko.cell (i := 1) (v := .int .i64 0) rfl
  have o2 := ko.cell (i := 2) (v := .int .i64 0) rfl
  have o3 := ko.cell (i := 3) (v := .int .i64 0) rfl
  have o4 := ko.cell (i := 4) (v := .int .i64 0) rfl
  have o5 := ko.cell (i := 5) (v := .int .i64 0) rfl
  have o6 := ko.cell (i := 6) (v := .int .i64 0) rfl
  have o7 := ko.cell (i := 7) (v := .int .i64 0) rfl
  have o8 := ko.cell (i := 8) (v := .int .i64 0) rfl
  have o9 := ko.cell (i := 9) (v := .int .i64 0) rfl
  have o10 := ko.cell (i := 10) (v := .int .i64 0) rfl
  have of0 := ko.free 0
  have of1 := ko.free 1
  have of2 := ko.free 2
  have of3 := ko.free 3
  have of4 := ko.free 4
  have of5 := ko.free 5
  have of6 := ko.free 6
  have of7 := ko.free 7
  have of8 := ko.free 8
  have of9 := ko.free 9
  have of10 := ko.free 10
  clear hb kb ko
  go_wp2_with (go_at_call 30; refine (l1In_any _ _ _ _).mono ?_; rintro e w' ⟨rfl, rfl⟩)
  refine bodyPost_ret (v := .tuple #[.agg #[.int .i64 st, .int .i64 be, .int .i64 rk, .int .i64 my, .int .i64 gu, .int .i64 lo, .int .i64 hi, .int .i64 hd, .int .i64 ca, .int .i64 ut, .int .i64 wk], .bool false]) (by simp [results, Try.results12, go_sem, o0, o1, o2, o3, o4, o5, o6, o7, o8, o9, o10]) rfl ⟨rfl, ?_⟩
  iterate 11 (refine Below.setCell ?_ (by simp) _)
  exact unhide B1

set_option maxRecDepth 100000 in
set_option maxHeartbeats 2000000 in
theorem specR_gone (rank : Int) (w : World) : Calls Try.prog 15 #[.agg #[.int .i64 0, .int .i64 0, .int .i64 0, .int .i64 0, .int .i64 0, .int .i64 0, .int .i64 0, .int .i64 0, .int .i64 0, .int .i64 0, .int .i64 0], .int .i64 rank] w fun e w' => e = .returned (.tuple #[.agg #[.int .i64 0, .int .i64 0, .int .i64 0, .int .i64 0, .int .i64 0, .int .i64 0, .int .i64 0, .int .i64 0, .int .i64 0, .int .i64 0, .int .i64 0], .bool false]) ∧ Below w.heap.size w w' := by
  have Hs : Hid (smithB (0, 0, 0, 0, 0, 0, 0, 0, 0, 0, 0) = true) := hide rfl
  go_enter Try.func15, Try.ntmps15
  go_wp2_with fail
  refine (specSmithOk_any 0 0 0 0 0 0 0 0 0 0 0 _).mono ?_
  rw [unhide Hs]
  rintro e w1 ⟨rfl, hb⟩
  have kb : Blk w1 w.heap.size 25 #[.int .i64 0, .int .i64 0, .int .i64 0, .int .i64 0, .int .i64 0, .int .i64 0, .int .i64 0, .int .i64 0, .int .i64 0, .int .i64 0, .int .i64 0] := ((Blk.new w 25 #[.int .i64 0, .int .i64 0, .int .i64 0, .int .i64 0, .int .i64 0, .int .i64 0, .int .i64 0, .int .i64 0, .int .i64 0, .int .i64 0, .int .i64 0]).alloc _).below hb (by simp; omega)
  have ko : Blk w1 (w.heap.size + 1) 25 #[.int .i64 0, .int .i64 0, .int .i64 0, .int .i64 0, .int .i64 0, .int .i64 0, .int .i64 0, .int .i64 0, .int .i64 0, .int .i64 0, .int .i64 0] := by
    have k := Blk.new (w.alloc (.cells #[.int .i64 0, .int .i64 0, .int .i64 0, .int .i64 0, .int .i64 0, .int .i64 0, .int .i64 0, .int .i64 0, .int .i64 0, .int .i64 0, .int .i64 0] 25)) 25 #[.int .i64 0, .int .i64 0, .int .i64 0, .int .i64 0, .int .i64 0, .int .i64 0, .int .i64 0, .int .i64 0, .int .i64 0, .int .i64 0, .int .i64 0]
    rw [World.size_alloc] at k
    exact k.below hb (by simp)
  have hsz : w.heap.size + 2 ≤ w1.heap.size := by have := hb.size; simp at this; omega
  have hl0 : w.heap.size < w1.heap.size := by omega
  have hl1 : w.heap.size + 1 < w1.heap.size := by omega
  have B1 := hide ((((Below.refl w.heap.size w).alloc (Nat.le_refl _) _).alloc (by simp) _).trans (hb.mono (by simp; omega)))
  have Kb := hide kb
  have Ko := hide ko
  have c0 := kb.cell (i := 0) (v := .int .i64 0) rfl
  have c1 := kb.cell (i := 1) (v := .int .i64 0) rfl
  have c2 := kb.cell (i := 2) (v := .int .i64 0) rfl
  have c3 := kb.cell (i := 3) (v := .int .i64 0) rfl
  have c4 := kb.cell (i := 4) (v := .int .i64 0) rfl
  have c5 := kb.cell (i := 5) (v := .int .i64 0) rfl
  have c6 := kb.cell (i := 6) (v := .int .i64 0) rfl
  have c7 := kb.cell (i := 7) (v := .int .i64 0) rfl
  have c8 := kb.cell (i := 8) (v := .int .i64 0) rfl
  have c9 := kb.cell (i := 9) (v := .int .i64 0) rfl
  have c10 := kb.cell (i := 10) (v := .int .i64 0) rfl
  have o0 := ko.cell (i := 0) (v := .int .i64 0) rfl
  have o1 := ko.cell (i := 1) (v := .int .i64 0) rfl
  have o2 := ko.cell (i := 2) (v := .int .i64 0) rfl
  have o3 := ko.cell (i := 3) (v := .int .i64 0) rfl
  have o4 := ko.cell (i := 4) (v := .int .i64 0) rfl
  have o5 := ko.cell (i := 5) (v := .int .i64 0) rfl
  have o6 := ko.cell (i := 6) (v := .int .i64 0) rfl
  have o7 := ko.cell (i := 7) (v := .int .i64 0) rfl
  have o8 := ko.cell (i := 8) (v := .int .i64 0) rfl
  have o9 := ko.cell (i := 9) (v := .int .i64 0) rfl
  have o10 := ko.cell (i := 10) (v := .int .i64 0) rfl
  have of0 := ko.free 0
  have of1 := ko.free 1
  have of2 := ko.free 2
  have of3 := ko.free 3
  have of4 := ko.free 4
  have of5 := ko.free 5
  have of6 := ko.free 6
  have of7 := ko.free 7
  have of8 := ko.free 8
  have of9 := ko.free 9
  have of10 := ko.free 10
  clear hb kb ko
  go_wp2_with fail
  refine bodyPost_ret (v := .tuple #[.agg #[.int .i64 0, .int .i64 0, .int .i64 0, .int .i64 0, .int .i64 0, .int .i64 0, .int .i64 0, .int .i64 0, .int .i64 0, .int .i64 0, .int .i64 0], .bool false]) (by simp [results, Try.results15, go_sem, o0, o1, o2, o3, o4, o5, o6, o7, o8, o9, o10]) rfl ⟨rfl, ?_⟩
  iterate 11 (refine Below.setCell ?_ (by simp) _)
  exact unhide B1

set_option maxRecDepth 100000 in
set_option maxHeartbeats 2000000 in
theorem specR_wrong {st be rk my gu lo hi hd ca ut wk : Int} (rank : Int) (w : World) (hs : smithB (st, be, rk, my, gu, lo, hi, hd, ca, ut, wk) = false) : Calls Try.prog 15 #[.agg #[.int .i64 st, .int .i64 be, .int .i64 rk, .int .i64 my, .int .i64 gu, .int .i64 lo, .int .i64 hi, .int .i64 hd, .int .i64 ca, .int .i64 ut, .int .i64 wk], .int .i64 rank] w fun e w' => e = .returned (.tuple #[.agg #[.int .i64 0, .int .i64 0, .int .i64 0, .int .i64 0, .int .i64 0, .int .i64 0, .int .i64 0, .int .i64 0, .int .i64 0, .int .i64 0, .int .i64 0], .bool false]) ∧ Below w.heap.size w w' := by
  have Hs := hide hs
  clear hs
  go_enter Try.func15, Try.ntmps15
  go_wp2_with fail
  refine (specSmithOk_any st be rk my gu lo hi hd ca ut wk _).mono ?_
  rw [unhide Hs]
  rintro e w1 ⟨rfl, hb⟩
  have kb : Blk w1 w.heap.size 25 #[.int .i64 st, .int .i64 be, .int .i64 rk, .int .i64 my, .int .i64 gu, .int .i64 lo, .int .i64 hi, .int .i64 hd, .int .i64 ca, .int .i64 ut, .int .i64 wk] := ((Blk.new w 25 #[.int .i64 st, .int .i64 be, .int .i64 rk, .int .i64 my, .int .i64 gu, .int .i64 lo, .int .i64 hi, .int .i64 hd, .int .i64 ca, .int .i64 ut, .int .i64 wk]).alloc _).below hb (by simp; omega)
  have ko : Blk w1 (w.heap.size + 1) 25 #[.int .i64 0, .int .i64 0, .int .i64 0, .int .i64 0, .int .i64 0, .int .i64 0, .int .i64 0, .int .i64 0, .int .i64 0, .int .i64 0, .int .i64 0] := by
    have k := Blk.new (w.alloc (.cells #[.int .i64 st, .int .i64 be, .int .i64 rk, .int .i64 my, .int .i64 gu, .int .i64 lo, .int .i64 hi, .int .i64 hd, .int .i64 ca, .int .i64 ut, .int .i64 wk] 25)) 25 #[.int .i64 0, .int .i64 0, .int .i64 0, .int .i64 0, .int .i64 0, .int .i64 0, .int .i64 0, .int .i64 0, .int .i64 0, .int .i64 0, .int .i64 0]
    rw [World.size_alloc] at k
    exact k.below hb (by simp)
  have hsz : w.heap.size + 2 ≤ w1.heap.size := by have := hb.size; simp at this; omega
  have hl0 : w.heap.size < w1.heap.size := by omega
  have hl1 : w.heap.size + 1 < w1.heap.size := by omega
  have B1 := hide ((((Below.refl w.heap.size w).alloc (Nat.le_refl _) _).alloc (by simp) _).trans (hb.mono (by simp; omega)))
  have Kb := hide kb
  have Ko := hide ko
  have c0 := kb.cell (i := 0) (v := .int .i64 st) rfl
  have c1 := kb.cell (i := 1) (v := .int .i64 be) rfl
  have c2 := kb.cell (i := 2) (v := .int .i64 rk) rfl
  have c3 := kb.cell (i := 3) (v := .int .i64 my) rfl
  have c4 := kb.cell (i := 4) (v := .int .i64 gu) rfl
  have c5 := kb.cell (i := 5) (v := .int .i64 lo) rfl
  have c6 := kb.cell (i := 6) (v := .int .i64 hi) rfl
  have c7 := kb.cell (i := 7) (v := .int .i64 hd) rfl
  have c8 := kb.cell (i := 8) (v := .int .i64 ca) rfl
  have c9 := kb.cell (i := 9) (v := .int .i64 ut) rfl
  have c10 := kb.cell (i := 10) (v := .int .i64 wk) rfl
  have o0 := ko.cell (i := 0) (v := .int .i64 0) rfl
  have o1 := ko.cell (i := 1) (v := .int .i64 0) rfl
  have o2 := ko.cell (i := 2) (v := .int .i64 0) rfl
  have o3 := ko.cell (i := 3) (v := .int .i64 0) rfl
  have o4 := ko.cell (i := 4) (v := .int .i64 0) rfl
  have o5 := ko.cell (i := 5) (v := .int .i64 0) rfl
  have o6 := ko.cell (i := 6) (v := .int .i64 0) rfl
  have o7 := ko.cell (i := 7) (v := .int .i64 0) rfl
  have o8 := ko.cell (i := 8) (v := .int .i64 0) rfl
  have o9 := ko.cell (i := 9) (v := .int .i64 0) rfl
  have o10 := ko.cell (i := 10) (v := .int .i64 0) rfl
  have of0 := ko.free 0
  have of1 := ko.free 1
  have of2 := ko.free 2
  have of3 := ko.free 3
  have of4 := ko.free 4
  have of5 := ko.free 5
  have of6 := ko.free 6
  have of7 := ko.free 7
  have of8 := ko.free 8
  have of9 := ko.free 9
  have of10 := ko.free 10
  clear hb kb ko
  go_wp2_with fail
  refine bodyPost_ret (v := .tuple #[.agg #[.int .i64 0, .int .i64 0, .int .i64 0, .int .i64 0, .int .i64 0, .int .i64 0, .int .i64 0, .int .i64 0, .int .i64 0, .int .i64 0, .int .i64 0], .bool false]) (by simp [results, Try.results15, go_sem, o0, o1, o2, o3, o4, o5, o6, o7, o8, o9, o10]) rfl ⟨rfl, ?_⟩
  iterate 11 (refine Below.setCell ?_ (by simp) _)
  exact unhide B1

set_option maxRecDepth 100000 in
set_option maxHeartbeats 2000000 in
theorem specR_no {st be rk my gu lo hi hd ca ut wk : Int} (rank : Int) (w : World) (hs : smithB (st, be, rk, my, gu, lo, hi, hd, ca, ut, wk) = true) (hst : (st == 0) = false) (hw : inB rank (-5) 5 = false) : Calls Try.prog 15 #[.agg #[.int .i64 st, .int .i64 be, .int .i64 rk, .int .i64 my, .int .i64 gu, .int .i64 lo, .int .i64 hi, .int .i64 hd, .int .i64 ca, .int .i64 ut, .int .i64 wk], .int .i64 rank] w fun e w' => e = .returned (.tuple #[.agg #[.int .i64 st, .int .i64 be, .int .i64 rk, .int .i64 my, .int .i64 gu, .int .i64 lo, .int .i64 hi, .int .i64 hd, .int .i64 ca, .int .i64 ut, .int .i64 wk], .bool false]) ∧ Below w.heap.size w w' := by
  have Hs := hide hs
  clear hs
  go_enter Try.func15, Try.ntmps15
  go_wp2_with fail
  refine (specSmithOk_any st be rk my gu lo hi hd ca ut wk _).mono ?_
  rw [unhide Hs]
  rintro e w1 ⟨rfl, hb⟩
  have kb : Blk w1 w.heap.size 25 #[.int .i64 st, .int .i64 be, .int .i64 rk, .int .i64 my, .int .i64 gu, .int .i64 lo, .int .i64 hi, .int .i64 hd, .int .i64 ca, .int .i64 ut, .int .i64 wk] := ((Blk.new w 25 #[.int .i64 st, .int .i64 be, .int .i64 rk, .int .i64 my, .int .i64 gu, .int .i64 lo, .int .i64 hi, .int .i64 hd, .int .i64 ca, .int .i64 ut, .int .i64 wk]).alloc _).below hb (by simp; omega)
  have ko : Blk w1 (w.heap.size + 1) 25 #[.int .i64 0, .int .i64 0, .int .i64 0, .int .i64 0, .int .i64 0, .int .i64 0, .int .i64 0, .int .i64 0, .int .i64 0, .int .i64 0, .int .i64 0] := by
    have k := Blk.new (w.alloc (.cells #[.int .i64 st, .int .i64 be, .int .i64 rk, .int .i64 my, .int .i64 gu, .int .i64 lo, .int .i64 hi, .int .i64 hd, .int .i64 ca, .int .i64 ut, .int .i64 wk] 25)) 25 #[.int .i64 0, .int .i64 0, .int .i64 0, .int .i64 0, .int .i64 0, .int .i64 0, .int .i64 0, .int .i64 0, .int .i64 0, .int .i64 0, .int .i64 0]
    rw [World.size_alloc] at k
    exact k.below hb (by simp)
  have hsz : w.heap.size + 2 ≤ w1.heap.size := by have := hb.size; simp at this; omega
  have hl0 : w.heap.size < w1.heap.size := by omega
  have hl1 : w.heap.size + 1 < w1.heap.size := by omega
  have B1 := hide ((((Below.refl w.heap.size w).alloc (Nat.le_refl _) _).alloc (by simp) _).trans (hb.mono (by simp; omega)))
  have Kb := hide kb
  have Ko := hide ko
  have c0 := kb.cell (i := 0) (v := .int .i64 st) rfl
  have c1 := kb.cell (i := 1) (v := .int .i64 be) rfl
  have c2 := kb.cell (i := 2) (v := .int .i64 rk) rfl
  have c3 := kb.cell (i := 3) (v := .int .i64 my) rfl
  have c4 := kb.cell (i := 4) (v := .int .i64 gu) rfl
  have c5 := kb.cell (i := 5) (v := .int .i64 lo) rfl
  have c6 := kb.cell (i := 6) (v := .int .i64 hi) rfl
  have c7 := kb.cell (i := 7) (v := .int .i64 hd) rfl
  have c8 := kb.cell (i := 8) (v := .int .i64 ca) rfl
  have c9 := kb.cell (i := 9) (v := .int .i64 ut) rfl
  have c10 := kb.cell (i := 10) (v := .int .i64 wk) rfl
  have o0 := ko.cell (i := 0) (v := .int .i64 0) rfl
  have o1 := ko.cell (i := 1) (v := .int .i64 0) rfl
  have o2 := ko.cell (i := 2) (v := .int .i64 0) rfl
  have o3 := ko.cell (i := 3) (v := .int .i64 0) rfl
  have o4 := ko.cell (i := 4) (v := .int .i64 0) rfl
  have o5 := ko.cell (i := 5) (v := .int .i64 0) rfl
  have o6 := ko.cell (i := 6) (v := .int .i64 0) rfl
  have o7 := ko.cell (i := 7) (v := .int .i64 0) rfl
  have o8 := ko.cell (i := 8) (v := .int .i64 0) rfl
  have o9 := ko.cell (i := 9) (v := .int .i64 0) rfl
  have o10 := ko.cell (i := 10) (v := .int .i64 0) rfl
  have of0 := ko.free 0
  have of1 := ko.free 1
  have of2 := ko.free 2
  have of3 := ko.free 3
  have of4 := ko.free 4
  have of5 := ko.free 5
  have of6 := ko.free 6
  have of7 := ko.free 7
  have of8 := ko.free 8
  have of9 := ko.free 9
  have of10 := ko.free 10
  clear hb kb ko
  go_wp2_with (go_at_call 33; refine (l3Rank_any _ _).mono ?_; rintro e w' ⟨rfl, rfl⟩)
  refine bodyPost_ret (v := .tuple #[.agg #[.int .i64 st, .int .i64 be, .int .i64 rk, .int .i64 my, .int .i64 gu, .int .i64 lo, .int .i64 hi, .int .i64 hd, .int .i64 ca, .int .i64 ut, .int .i64 wk], .bool false]) (by simp [results, Try.results15, go_sem, o0, o1, o2, o3, o4, o5, o6, o7, o8, o9, o10]) rfl ⟨rfl, ?_⟩
  iterate 11 (refine Below.setCell ?_ (by simp) _)
  exact unhide B1

end Go.Proofs.Ytkagjopogihnbaa
