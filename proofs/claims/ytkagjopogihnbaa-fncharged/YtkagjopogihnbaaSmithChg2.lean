/- The program's 'changed': contracts, by the shape of the smith and by what is asked. Conditions: those that each theorem names. -/
import Derived.Test.YtkagjopogihnbaaSmithChg
namespace Go.Proofs.Ytkagjopogihnbaa
open Go.ChangeShapes Go.WideShapes Go.ChangeAt Go.RowKit Go.Sort
set_option linter.unusedVariables false

theorem as_gone_pres (v : Value) (w : World) : (Instr.typeAssert (.iface 61 v) 50 59 true).run Try.prog w = .ok (.tuple #[.agg #[.int .i64 0, .int .i64 0, .int .i64 0, .int .i64 0, .int .i64 0, .int .i64 0, .int .i64 0, .int .i64 0, .int .i64 0, .int .i64 0, .int .i64 0], .bool false]) w := by kernel_rfl
theorem as_gone_gone (v : Value) (w : World) : (Instr.typeAssert (.iface 61 v) 50 61 true).run Try.prog w = .ok (.tuple #[v, .bool true]) w := by kernel_rfl
theorem as_wrong_pres (v : Value) (w : World) : (Instr.typeAssert (.iface 62 v) 50 59 true).run Try.prog w = .ok (.tuple #[.agg #[.int .i64 0, .int .i64 0, .int .i64 0, .int .i64 0, .int .i64 0, .int .i64 0, .int .i64 0, .int .i64 0, .int .i64 0, .int .i64 0, .int .i64 0], .bool false]) w := by kernel_rfl
theorem as_wrong_gone (v : Value) (w : World) : (Instr.typeAssert (.iface 62 v) 50 61 true).run Try.prog w = .ok (.tuple #[.agg #[], .bool false]) w := by kernel_rfl
theorem as_pres_pres (v : Value) (w : World) : (Instr.typeAssert (.iface 59 v) 50 59 true).run Try.prog w = .ok (.tuple #[v, .bool true]) w := by kernel_rfl
attribute [local go_sem] as_gone_pres as_gone_gone as_wrong_pres as_wrong_gone as_pres_pres

set_option maxRecDepth 100000 in
set_option maxHeartbeats 2000000 in
theorem changed_gone (can : Bool) (f : Value) (w : World) : Calls Try.prog 23 #[.agg #[.int .i64 0, .int .i64 0, .int .i64 0, .int .i64 0, .int .i64 0, .int .i64 0, .int .i64 0, .int .i64 0, .int .i64 0, .int .i64 0, .int .i64 0], .bool can, f] w fun e w' => e = .returned (.tuple #[.agg #[.int .i64 0, .int .i64 0, .int .i64 0, .int .i64 0, .int .i64 0, .int .i64 0, .int .i64 0, .int .i64 0, .int .i64 0, .int .i64 0, .int .i64 0], .bool false]) ∧ Below w.heap.size w w' := by
  go_enter Try.func23, Try.ntmps23
  go_wp2_with fail
  refine (shapeOf_gone _).mono ?_
  rintro e w1 ⟨rfl, hb⟩
  have kb : Blk w1 w.heap.size 25 #[.int .i64 0, .int .i64 0, .int .i64 0, .int .i64 0, .int .i64 0, .int .i64 0, .int .i64 0, .int .i64 0, .int .i64 0, .int .i64 0, .int .i64 0] := ((Blk.new w 25 #[.int .i64 0, .int .i64 0, .int .i64 0, .int .i64 0, .int .i64 0, .int .i64 0, .int .i64 0, .int .i64 0, .int .i64 0, .int .i64 0, .int .i64 0]).alloc _).below hb (by simp; omega)
  have ko : Blk w1 (w.heap.size + 1) 25 #[.int .i64 0, .int .i64 0, .int .i64 0, .int .i64 0, .int .i64 0, .int .i64 0, .int .i64 0, .int .i64 0, .int .i64 0, .int .i64 0, .int .i64 0] := by
    have k := Blk.new (w.alloc (.cells #[.int .i64 0, .int .i64 0, .int .i64 0, .int .i64 0, .int .i64 0, .int .i64 0, .int .i64 0, .int .i64 0, .int .i64 0, .int .i64 0, .int .i64 0] 25)) 25 #[.int .i64 0, .int .i64 0, .int .i64 0, .int .i64 0, .int .i64 0, .int .i64 0, .int .i64 0, .int .i64 0, .int .i64 0, .int .i64 0, .int .i64 0]
    rw [World.size_alloc] at k
    exact k.below hb (by simp)
  have hsz : w.heap.size + 2 ≤ w1.heap.size := by have := hb.size; simp at this; omega
  have hl0 : w.heap.size < w1.heap.size := by omega
  have hl1 : w.heap.size + 1 < w1.heap.size := by omega
  have B1 := hide ((((Below.refl w.heap.size w).alloc (Nat.le_refl _) _).alloc (by simp) _).trans (hb.mono (by simp; omega)))
  have Kb := hide kb
  have Ko := hide ko
  have c0 := kb.cell (i := 0) (v := .int .i64 0) rfl
  have c1 := kb.cell (i := 1) (v := .int .i64 0) rfl
  have c2 := kb.cell (i := 2) (v := .int .i64 0) rfl
  have c3 := kb.cell (i := 3) (v := .int .i64 0) rfl
  have c4 := kb.cell (i := 4) (v := .int .i64 0) rfl
  have c5 := kb.cell (i := 5) (v := .int .i64 0) rfl
  have c6 := kb.cell (i := 6) (v := .int .i64 0) rfl
  have c7 := kb.cell (i := 7) (v := .int .i64 0) rfl
  have c8 := kb.cell (i := 8) (v := .int .i64 0) rfl
  have c9 := kb.cell (i := 9) (v := .int .i64 0) rfl
  have c10 := kb.cell (i := 10) (v := .int .i64 0) rfl
  have o0 := ko.cell (i := 0) (v := .int .i64 0) rfl
  have o1 := ko.cell (i := 1) (v := .int .i64 0) rfl
  have o2 := ko.cell (i := 2) (v := .int .i64 0) rfl
  have o3 := ko.cell (i := 3) (v := .int .i64 0) rfl
  have o4 := ko.cell (i := 4) (v := .int .i64 0) rfl
  have o5 := ko.cell (i := 5) (v := .int .i64 0) rfl
  have o6 := ko.cell (i := 6) (v := .int .i64 0) rfl
  have o7 := ko.cell (i := 7) (v := .int .i64 0) rfl
  have o8 := ko.cell (i := 8) (v := .int .i64 0) rfl
  have o9 := ko.cell (i := 9) (v := .int .i64 0) rfl
  have o10 := ko.cell (i := 10) (v := .int .i64 0) rfl
  have of0 := ko.free 0
  have of1 := ko.free 1
  have of2 := ko.free 2
  have of3 := ko.free 3
  have of4 := ko.free 4
  have of5 := ko.free 5
  have of6 := ko.free 6
  have of7 := ko.free 7
  have of8 := ko.free 8
  have of9 := ko.free 9
  have of10 := ko.free 10
  clear hb kb ko
  go_wp2_with fail
  refine bodyPost_ret (v := .tuple #[.agg #[.int .i64 0, .int .i64 0, .int .i64 0, .int .i64 0, .int .i64 0, .int .i64 0, .int .i64 0, .int .i64 0, .int .i64 0, .int .i64 0, .int .i64 0], .bool false]) (by simp [results, Try.results23, go_sem, o0, o1, o2, o3, o4, o5, o6, o7, o8, o9, o10, hl1]) rfl ⟨rfl, ?_⟩
  refine Below.alloc ?_ (by simp; omega) _
  iterate 11 (refine Below.setCell ?_ (by simp) _)
  exact unhide B1

set_option maxRecDepth 100000 in
set_option maxHeartbeats 2000000 in
theorem changed_wrong {st be rk my gu lo hi hd ca ut wk : Int} (hg : goneB (st, be, rk, my, gu, lo, hi, hd, ca, ut, wk) = false) (hp : presB (st, be, rk, my, gu, lo, hi, hd, ca, ut, wk) = false) (can : Bool) (f : Value) (w : World) : Calls Try.prog 23 #[.agg #[.int .i64 st, .int .i64 be, .int .i64 rk, .int .i64 my, .int .i64 gu, .int .i64 lo, .int .i64 hi, .int .i64 hd, .int .i64 ca, .int .i64 ut, .int .i64 wk], .bool can, f] w fun e w' => e = .returned (.tuple #[.agg #[.int .i64 0, .int .i64 0, .int .i64 0, .int .i64 0, .int .i64 0, .int .i64 0, .int .i64 0, .int .i64 0, .int .i64 0, .int .i64 0, .int .i64 0], .bool false]) ∧ Below w.heap.size w w' := by
  have Hg := hide hg
  have Hp := hide hp
  clear hg hp
  go_enter Try.func23, Try.ntmps23
  go_wp2_with fail
  refine (shapeOf_wrong (unhide Hg) (unhide Hp) _).mono ?_
  rintro e w1 ⟨rfl, hb⟩
  have kb : Blk w1 w.heap.size 25 #[.int .i64 st, .int .i64 be, .int .i64 rk, .int .i64 my, .int .i64 gu, .int .i64 lo, .int .i64 hi, .int .i64 hd, .int .i64 ca, .int .i64 ut, .int .i64 wk] := ((Blk.new w 25 #[.int .i64 st, .int .i64 be, .int .i64 rk, .int .i64 my, .int .i64 gu, .int .i64 lo, .int .i64 hi, .int .i64 hd, .int .i64 ca, .int .i64 ut, .int .i64 wk]).alloc _).below hb (by simp; omega)
  have ko : Blk w1 (w.heap.size + 1) 25 #[.int .i64 0, .int .i64 0, .int .i64 0, .int .i64 0, .int .i64 0, .int .i64 0, .int .i64 0, .int .i64 0, .int .i64 0, .int .i64 0, .int .i64 0] := by
    have k := Blk.new (w.alloc (.cells #[.int .i64 st, .int .i64 be, .int .i64 rk, .int .i64 my, .int .i64 gu, .int .i64 lo, .int .i64 hi, .int .i64 hd, .int .i64 ca, .int .i64 ut, .int .i64 wk] 25)) 25 #[.int .i64 0, .int .i64 0, .int .i64 0, .int .i64 0, .int .i64 0, .int .i64 0, .int .i64 0, .int .i64 0, .int .i64 0, .int .i64 0, .int .i64 0]
    rw [World.size_alloc] at k
    exact k.below hb (by simp)
  have hsz : w.heap.size + 2 ≤ w1.heap.size := by have := hb.size; simp at this; omega
  have hl0 : w.heap.size < w1.heap.size := by omega
  have hl1 : w.heap.size + 1 < w1.heap.size := by omega
  have B1 := hide ((((Below.refl w.heap.size w).alloc (Nat.le_refl _) _).alloc (by simp) _).trans (hb.mono (by simp; omega)))
  have Kb := hide kb
  have Ko := hide ko
  have c0 := kb.cell (i := 0) (v := .int .i64 st) rfl
  have c1 := kb.cell (i := 1) (v := .int .i64 be) rfl
  have c2 := kb.cell (i := 2) (v := .int .i64 rk) rfl
  have c3 := kb.cell (i := 3) (v := .int .i64 my) rfl
  have c4 := kb.cell (i := 4) (v := .int .i64 gu) rfl
  have c5 := kb.cell (i := 5) (v := .int .i64 lo) rfl
  have c6 := kb.cell (i := 6) (v := .int .i64 hi) rfl
  have c7 := kb.cell (i := 7) (v := .int .i64 hd) rfl
  have c8 := kb.cell (i := 8) (v := .int .i64 ca) rfl
  have c9 := kb.cell (i := 9) (v := .int .i64 ut) rfl
  have c10 := kb.cell (i := 10) (v := .int .i64 wk) rfl
  have o0 := ko.cell (i := 0) (v := .int .i64 0) rfl
  have o1 := ko.cell (i := 1) (v := .int .i64 0) rfl
  have o2 := ko.cell (i := 2) (v := .int .i64 0) rfl
  have o3 := ko.cell (i := 3) (v := .int .i64 0) rfl
  have o4 := ko.cell (i := 4) (v := .int .i64 0) rfl
  have o5 := ko.cell (i := 5) (v := .int .i64 0) rfl
  have o6 := ko.cell (i := 6) (v := .int .i64 0) rfl
  have o7 := ko.cell (i := 7) (v := .int .i64 0) rfl
  have o8 := ko.cell (i := 8) (v := .int .i64 0) rfl
  have o9 := ko.cell (i := 9) (v := .int .i64 0) rfl
  have o10 := ko.cell (i := 10) (v := .int .i64 0) rfl
  have of0 := ko.free 0
  have of1 := ko.free 1
  have of2 := ko.free 2
  have of3 := ko.free 3
  have of4 := ko.free 4
  have of5 := ko.free 5
  have of6 := ko.free 6
  have of7 := ko.free 7
  have of8 := ko.free 8
  have of9 := ko.free 9
  have of10 := ko.free 10
  clear hb kb ko
  go_wp2_with fail
  refine bodyPost_ret (v := .tuple #[.agg #[.int .i64 0, .int .i64 0, .int .i64 0, .int .i64 0, .int .i64 0, .int .i64 0, .int .i64 0, .int .i64 0, .int .i64 0, .int .i64 0, .int .i64 0], .bool false]) (by simp [results, Try.results23, go_sem, o0, o1, o2, o3, o4, o5, o6, o7, o8, o9, o10]) rfl ⟨rfl, ?_⟩
  iterate 11 (refine Below.setCell ?_ (by simp) _)
  exact unhide B1

set_option maxRecDepth 100000 in
set_option maxHeartbeats 2000000 in
theorem changed_no {st be rk my gu lo hi hd ca ut wk : Int} (hg : goneB (st, be, rk, my, gu, lo, hi, hd, ca, ut, wk) = false) (hp : presB (st, be, rk, my, gu, lo, hi, hd, ca, ut, wk) = true) (f : Value) (w : World) : Calls Try.prog 23 #[.agg #[.int .i64 st, .int .i64 be, .int .i64 rk, .int .i64 my, .int .i64 gu, .int .i64 lo, .int .i64 hi, .int .i64 hd, .int .i64 ca, .int .i64 ut, .int .i64 wk], .bool false, f] w fun e w' => e = .returned (.tuple #[.agg #[.int .i64 st, .int .i64 be, .int .i64 rk, .int .i64 my, .int .i64 gu, .int .i64 lo, .int .i64 hi, .int .i64 hd, .int .i64 ca, .int .i64 ut, .int .i64 wk], .bool false]) ∧ Below w.heap.size w w' := by
  have Hg := hide hg
  have Hp := hide hp
  clear hg hp
  go_enter Try.func23, Try.ntmps23
  go_wp2_with fail
  refine (shapeOf_pres (unhide Hg) (unhide Hp) _).mono ?_
  rintro e w1 ⟨rfl, hb⟩
  have kb : Blk w1 w.heap.size 25 #[.int .i64 st, .int .i64 be, .int .i64 rk, .int .i64 my, .int .i64 gu, .int .i64 lo, .int .i64 hi, .int .i64 hd, .int .i64 ca, .int .i64 ut, .int .i64 wk] := ((Blk.new w 25 #[.int .i64 st, .int .i64 be, .int .i64 rk, .int .i64 my, .int .i64 gu, .int .i64 lo, .int .i64 hi, .int .i64 hd, .int .i64 ca, .int .i64 ut, .int .i64 wk]).alloc _).below hb (by simp; omega)
  have ko : Blk w1 (w.heap.size + 1) 25 #[.int .i64 0, .int .i64 0, .int .i64 0, .int .i64 0, .int .i64 0, .int .i64 0, .int .i64 0, .int .i64 0, .int .i64 0, .int .i64 0, .int .i64 0] := by
    have k := Blk.new (w.alloc (.cells #[.int .i64 st, .int .i64 be, .int .i64 rk, .int .i64 my, .int .i64 gu, .int .i64 lo, .int .i64 hi, .int .i64 hd, .int .i64 ca, .int .i64 ut, .int .i64 wk] 25)) 25 #[.int .i64 0, .int .i64 0, .int .i64 0, .int .i64 0, .int .i64 0, .int .i64 0, .int .i64 0, .int .i64 0, .int .i64 0, .int .i64 0, .int .i64 0]
    rw [World.size_alloc] at k
    exact k.below hb (by simp)
  have hsz : w.heap.size + 2 ≤ w1.heap.size := by have := hb.size; simp at this; omega
  have hl0 : w.heap.size < w1.heap.size := by omega
  have hl1 : w.heap.size + 1 < w1.heap.size := by omega
  have B1 := hide ((((Below.refl w.heap.size w).alloc (Nat.le_refl _) _).alloc (by simp) _).trans (hb.mono (by simp; omega)))
  have Kb := hide kb
  have Ko := hide ko
  have c0 := kb.cell (i := 0) (v := .int .i64 st) rfl
  have c1 := kb.cell (i := 1) (v := .int .i64 be) rfl
  have c2 := kb.cell (i := 2) (v := .int .i64 rk) rfl
  have c3 := kb.cell (i := 3) (v := .int .i64 my) rfl
  have c4 := kb.cell (i := 4) (v := .int .i64 gu) rfl
  have c5 := kb.cell (i := 5) (v := .int .i64 lo) rfl
  have c6 := kb.cell (i := 6) (v := .int .i64 hi) rfl
  have c7 := kb.cell (i := 7) (v := .int .i64 hd) rfl
  have c8 := kb.cell (i := 8) (v := .int .i64 ca) rfl
  have c9 := kb.cell (i := 9) (v := .int .i64 ut) rfl
  have c10 := kb.cell (i := 10) (v := .int .i64 wk) rfl
  have o0 := ko.cell (i := 0) (v := .int .i64 0) rfl
  have o1 := ko.cell (i := 1) (v := .int .i64 0) rfl
  have o2 := ko.cell (i := 2) (v := .int .i64 0) rfl
  have o3 := ko.cell (i := 3) (v := .int .i64 0) rfl
  have o4 := ko.cell (i := 4) (v := .int .i64 0) rfl
  have o5 := ko.cell (i := 5) (v := .int .i64 0) rfl
  have o6 := ko.cell (i := 6) (v := .int .i64 0) rfl
  have o7 := ko.cell (i := 7) (v := .int .i64 0) rfl
  have o8 := ko.cell (i := 8) (v := .int .i64 0) rfl
  have o9 := ko.cell (i := 9) (v := .int .i64 0) rfl
  have o10 := ko.cell (i := 10) (v := .int .i64 0) rfl
  have of0 := ko.free 0
  have of1 := ko.free 1
  have of2 := ko.free 2
  have of3 := ko.free 3
  have of4 := ko.free 4
  have of5 := ko.free 5
  have of6 := ko.free 6
  have of7 := ko.free 7
  have of8 := ko.free 8
  have of9 := ko.free 9
  have of10 := ko.free 10
  clear hb kb ko
  go_wp2_with fail
  refine bodyPost_ret (v := .tuple #[.agg #[.int .i64 st, .int .i64 be, .int .i64 rk, .int .i64 my, .int .i64 gu, .int .i64 lo, .int .i64 hi, .int .i64 hd, .int .i64 ca, .int .i64 ut, .int .i64 wk], .bool false]) (by simp [results, Try.results23, go_sem, o0, o1, o2, o3, o4, o5, o6, o7, o8, o9, o10, hl1]) rfl ⟨rfl, ?_⟩
  refine Below.alloc ?_ (by simp; omega) _
  iterate 11 (refine Below.setCell ?_ (by simp) _)
  exact unhide B1

end Go.Proofs.Ytkagjopogihnbaa
