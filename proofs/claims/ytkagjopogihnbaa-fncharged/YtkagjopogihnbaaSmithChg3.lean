/- The program's Charged and Reranked: contracts, by what is handed in. Conditions: those that each theorem names. -/
import Derived.Test.YtkagjopogihnbaaSmithChg4
import Derived.Deep.RegionWith
namespace Go.Proofs.Ytkagjopogihnbaa
open Go.ChangeShapes Go.WideShapes Go.ChangeAt Go.RowKit Go.Sort
set_option linter.unusedVariables false

theorem Blk.second (w : World) (a : Obj) (t : TypeId) (cs : Array Value) : Blk ((w.alloc a).alloc (.cells cs t)) (w.heap.size + 1) t cs := by
  have k := Blk.new (w.alloc a) t cs
  rw [World.size_alloc] at k
  exact k
theorem Blk.fourth (w : World) (a b c : Obj) (t : TypeId) (cs : Array Value) : Blk ((((w.alloc a).alloc b).alloc c).alloc (.cells cs t)) (w.heap.size + 1 + 1 + 1) t cs := by
  have k := Blk.new (((w.alloc a).alloc b).alloc c) t cs
  rw [World.size_alloc, World.size_alloc, World.size_alloc] at k
  exact k
theorem Blk.third (w : World) (a b : Obj) (t : TypeId) (cs : Array Value) : Blk (((w.alloc a).alloc b).alloc (.cells cs t)) (w.heap.size + 1 + 1) t cs := by
  have k := Blk.new ((w.alloc a).alloc b) t cs
  rw [World.size_alloc, World.size_alloc] at k
  exact k

set_option maxRecDepth 100000 in
set_option maxHeartbeats 2000000 in
theorem charged_of {st be rk my gu lo hi hd ca ut wk y0 y1 y2 y3 y4 y5 y6 y7 y8 y9 y10 work : Int} {q : Bool} (w : World)
    (hC : ∀ (R : Nat) (W : World), W.cell? ⟨R, 0, none⟩ = some (.int .i64 work) → Calls Try.prog 23 #[.agg #[.int .i64 st, .int .i64 be, .int .i64 rk, .int .i64 my, .int .i64 gu, .int .i64 lo, .int .i64 hi, .int .i64 hd, .int .i64 ca, .int .i64 ut, .int .i64 wk], .bool (inB work 0 100000), .func (.func 25) #[] #[.pointer (some ⟨R, 0, none⟩)]] W fun e w' => e = .returned (.tuple #[.agg #[.int .i64 y0, .int .i64 y1, .int .i64 y2, .int .i64 y3, .int .i64 y4, .int .i64 y5, .int .i64 y6, .int .i64 y7, .int .i64 y8, .int .i64 y9, .int .i64 y10], .bool q]) ∧ Below W.heap.size W w') :
    Calls Try.prog 9 #[.agg #[.int .i64 st, .int .i64 be, .int .i64 rk, .int .i64 my, .int .i64 gu, .int .i64 lo, .int .i64 hi, .int .i64 hd, .int .i64 ca, .int .i64 ut, .int .i64 wk], .int .i64 work] w fun e w' => e = .returned (.tuple #[.agg #[.int .i64 y0, .int .i64 y1, .int .i64 y2, .int .i64 y3, .int .i64 y4, .int .i64 y5, .int .i64 y6, .int .i64 y7, .int .i64 y8, .int .i64 y9, .int .i64 y10], .bool q]) ∧ Below w.heap.size w w' := by
  have HC := hide hC
  clear hC
  go_enter Try.func9, Try.ntmps9
  go_wp2_with fail
  go_region_with (first
    | (go_at_call 24; refine (liesFrom_any _ _ _ _).mono ?_; rintro e w' ⟨rfl, rfl⟩)
    | (go_at_call 23; refine Calls.mono (unhide HC (w.heap.size + 1) _ ?_) ?_; exact ((Blk.second w _ 2 #[.int .i64 work]).alloc _).cell rfl; rintro e w1 ⟨rfl, hb⟩; have ko : Blk w1 (w.heap.size + 1 + 1) 25 #[.int .i64 0, .int .i64 0, .int .i64 0, .int .i64 0, .int .i64 0, .int .i64 0, .int .i64 0, .int .i64 0, .int .i64 0, .int .i64 0, .int .i64 0] := (hb.block (w.heap.size + 1 + 1) (by simp)).trans (Blk.third w _ _ 25 #[.int .i64 0, .int .i64 0, .int .i64 0, .int .i64 0, .int .i64 0, .int .i64 0, .int .i64 0, .int .i64 0, .int .i64 0, .int .i64 0, .int .i64 0]); have hsz : w.heap.size + 3 ≤ w1.heap.size := (by have := hb.size; simp at this; omega); have B1 : Hid (Below w.heap.size w w1) := hide ((((((Below.refl w.heap.size w).alloc (Nat.le_refl _) _).alloc (by simp) _).alloc (by simp; omega) _).drew).trans (hb.mono (by simp; omega))); have o0 := ko.cell (i := 0) (v := .int .i64 0) rfl; have o1 := ko.cell (i := 1) (v := .int .i64 0) rfl; have o2 := ko.cell (i := 2) (v := .int .i64 0) rfl; have o3 := ko.cell (i := 3) (v := .int .i64 0) rfl; have o4 := ko.cell (i := 4) (v := .int .i64 0) rfl; have o5 := ko.cell (i := 5) (v := .int .i64 0) rfl; have o6 := ko.cell (i := 6) (v := .int .i64 0) rfl; have o7 := ko.cell (i := 7) (v := .int .i64 0) rfl; have o8 := ko.cell (i := 8) (v := .int .i64 0) rfl; have o9 := ko.cell (i := 9) (v := .int .i64 0) rfl; have o10 := ko.cell (i := 10) (v := .int .i64 0) rfl; have of0 := ko.free 0; have of1 := ko.free 1; have of2 := ko.free 2; have of3 := ko.free 3; have of4 := ko.free 4; have of5 := ko.free 5; have of6 := ko.free 6; have of7 := ko.free 7; have of8 := ko.free 8; have of9 := ko.free 9; have of10 := ko.free 10; clear hb ko))
  all_goals
    go_wp2_with fail
    refine bodyPost_ret (v := .tuple #[.agg #[.int .i64 y0, .int .i64 y1, .int .i64 y2, .int .i64 y3, .int .i64 y4, .int .i64 y5, .int .i64 y6, .int .i64 y7, .int .i64 y8, .int .i64 y9, .int .i64 y10], .bool q]) (by simp [results, Try.results9, go_sem, o0, o1, o2, o3, o4, o5, o6, o7, o8, o9, o10]) rfl ⟨rfl, ?_⟩
    iterate 11 (refine Below.setCell ?_ (by simp; omega) _)
    exact unhide B1

set_option maxRecDepth 100000 in
set_option maxHeartbeats 2000000 in
theorem reranked_of {st be rk my gu lo hi hd ca ut wk y0 y1 y2 y3 y4 y5 y6 y7 y8 y9 y10 rank x : Int} {q : Bool} (w : World) (hx : weightV rank = x)
    (hC : ∀ (R R' : Nat) (W : World), W.cell? ⟨R, 0, none⟩ = some (.int .i64 rank) → W.cell? ⟨R', 0, none⟩ = some (.int .i64 x) → Calls Try.prog 23 #[.agg #[.int .i64 st, .int .i64 be, .int .i64 rk, .int .i64 my, .int .i64 gu, .int .i64 lo, .int .i64 hi, .int .i64 hd, .int .i64 ca, .int .i64 ut, .int .i64 wk], .bool (x != 0), .func (.func 29) #[] #[.pointer (some ⟨R, 0, none⟩), .pointer (some ⟨R', 0, none⟩)]] W fun e w' => e = .returned (.tuple #[.agg #[.int .i64 y0, .int .i64 y1, .int .i64 y2, .int .i64 y3, .int .i64 y4, .int .i64 y5, .int .i64 y6, .int .i64 y7, .int .i64 y8, .int .i64 y9, .int .i64 y10], .bool q]) ∧ Below W.heap.size W w') :
    Calls Try.prog 11 #[.agg #[.int .i64 st, .int .i64 be, .int .i64 rk, .int .i64 my, .int .i64 gu, .int .i64 lo, .int .i64 hi, .int .i64 hd, .int .i64 ca, .int .i64 ut, .int .i64 wk], .int .i64 rank] w fun e w' => e = .returned (.tuple #[.agg #[.int .i64 y0, .int .i64 y1, .int .i64 y2, .int .i64 y3, .int .i64 y4, .int .i64 y5, .int .i64 y6, .int .i64 y7, .int .i64 y8, .int .i64 y9, .int .i64 y10], .bool q]) ∧ Below w.heap.size w w' := by
  have HC := hide hC
  have Hx := hide hx
  clear hC hx
  go_enter Try.func11, Try.ntmps11
  go_wp2_with (go_at_call 27; refine (implWeightOf_v (unhide Hx) _).mono ?_; rintro e w' ⟨rfl, rfl⟩)
  refine Calls.mono (unhide HC (w.heap.size + 1) (w.heap.size + 1 + 1 + 1) _ ?_ ?_) ?_
  · exact (((Blk.second w _ 2 #[.int .i64 rank]).alloc _).alloc _).cell rfl
  · exact (Blk.fourth w _ _ _ 2 #[.int .i64 x]).cell rfl
  rintro e w1 ⟨rfl, hb⟩
  have ko : Blk w1 (w.heap.size + 1 + 1) 25 #[.int .i64 0, .int .i64 0, .int .i64 0, .int .i64 0, .int .i64 0, .int .i64 0, .int .i64 0, .int .i64 0, .int .i64 0, .int .i64 0, .int .i64 0] := (hb.block (w.heap.size + 1 + 1) (by simp)).trans ((Blk.third w _ _ 25 #[.int .i64 0, .int .i64 0, .int .i64 0, .int .i64 0, .int .i64 0, .int .i64 0, .int .i64 0, .int .i64 0, .int .i64 0, .int .i64 0, .int .i64 0]).alloc _)
  have B1 : Hid (Below w.heap.size w w1) := hide ((((((Below.refl w.heap.size w).alloc (Nat.le_refl _) _).alloc (by simp) _).alloc (by simp; omega) _).alloc (by simp; omega) _).trans (hb.mono (by simp; omega)))
  have o0 := ko.cell (i := 0) (v := .int .i64 0) rfl
  have o1 := ko.cell (i := 1) (v := .int .i64 0) rfl
  have o2 := ko.cell (i := 2) (v := .int .i64 0) rfl
  have o3 := ko.cell (i := 3) (v := .int .i64 0) rfl
  have o4 := ko.cell (i := 4) (v := .int .i64 0) rfl
  have o5 := ko.cell (i := 5) (v := .int .i64 0) rfl
  have o6 := ko.cell (i := 6) (v := .int .i64 0) rfl
  have o7 := ko.cell (i := 7) (v := .int .i64 0) rfl
  have o8 := ko.cell (i := 8) (v := .int .i64 0) rfl
  have o9 := ko.cell (i := 9) (v := .int .i64 0) rfl
  have o10 := ko.cell (i := 10) (v := .int .i64 0) rfl
  have of0 := ko.free 0
  have of1 := ko.free 1
  have of2 := ko.free 2
  have of3 := ko.free 3
  have of4 := ko.free 4
  have of5 := ko.free 5
  have of6 := ko.free 6
  have of7 := ko.free 7
  have of8 := ko.free 8
  have of9 := ko.free 9
  have of10 := ko.free 10
  clear hb ko
  go_wp2_with fail
  refine bodyPost_ret (v := .tuple #[.agg #[.int .i64 y0, .int .i64 y1, .int .i64 y2, .int .i64 y3, .int .i64 y4, .int .i64 y5, .int .i64 y6, .int .i64 y7, .int .i64 y8, .int .i64 y9, .int .i64 y10], .bool q]) (by simp [results, Try.results11, go_sem, o0, o1, o2, o3, o4, o5, o6, o7, o8, o9, o10]) rfl ⟨rfl, ?_⟩
  iterate 11 (refine Below.setCell ?_ (by simp; omega) _)
  exact unhide B1

end Go.Proofs.Ytkagjopogihnbaa
