/- The program's 'changed': contracts, by the shape of the smith and by what is asked. Conditions: those that each theorem names. -/
import Derived.Test.YtkagjopogihnbaaSmithChg2
namespace Go.Proofs.Ytkagjopogihnbaa
open Go.ChangeShapes Go.WideShapes Go.ChangeAt Go.RowKit Go.Sort
set_option linter.unusedVariables false

attribute [local go_sem] as_gone_pres as_gone_gone as_wrong_pres as_wrong_gone as_pres_pres

set_option maxRecDepth 100000 in
set_option maxHeartbeats 2000000 in
theorem changed_c_yes {st be rk my gu lo hi hd ca ut wk : Int} {work x n l : Int} {R : Nat} {w : World} (hx : weightV rk = x) (hok : okShare work x ca = true) (hn : shareN work x ca = n) (hl : shareL work x ca = l) (n0 : 0 ≤ n) (n1 : n ≤ 400000)
    (d0 : -1000000000000 ≤ hd) (d1 : hd ≤ 1000000000000) (k0 : 0 ≤ wk) (k1 : wk ≤ 100000000000) (v0 : 0 ≤ work) (v1 : work ≤ 100000) (hR : w.cell? ⟨R, 0, none⟩ = some (.int .i64 work)) (hg : goneB (st, be, rk, my, gu, lo, hi, hd, ca, ut, wk) = false) (hp : presB (st, be, rk, my, gu, lo, hi, hd, ca, ut, wk) = true) (hs : smithB (st, be, rk, my, gu, lo, hi, (hd + n), l, ut, (wk + work)) = true) : Calls Try.prog 23 #[.agg #[.int .i64 st, .int .i64 be, .int .i64 rk, .int .i64 my, .int .i64 gu, .int .i64 lo, .int .i64 hi, .int .i64 hd, .int .i64 ca, .int .i64 ut, .int .i64 wk], .bool true, .func (.func 25) #[] #[.pointer (some ⟨R, 0, none⟩)]] w fun e w' => e = .returned (.tuple #[.agg #[.int .i64 st, .int .i64 be, .int .i64 rk, .int .i64 my, .int .i64 gu, .int .i64 lo, .int .i64 hi, .int .i64 (hd + n), .int .i64 l, .int .i64 ut, .int .i64 (wk + work)], .bool true]) ∧ Below w.heap.size w w' := by
  have Hg := hide hg
  have Hp := hide hp
  have Hs := hide hs
  clear hg hp hs
  have Hx := hide hx
  have Hok := hide hok
  have Hn := hide hn
  have Hl := hide hl
  clear hx hok hn hl
  have hRl : R < w.heap.size := block_lt_of_cell hR
  go_enter Try.func23, Try.ntmps23
  go_wp2_with fail
  refine (shapeOf_pres (unhide Hg) (unhide Hp) _).mono ?_
  rintro e w1 ⟨rfl, hb⟩
  have kb : Blk w1 w.heap.size 25 #[.int .i64 st, .int .i64 be, .int .i64 rk, .int .i64 my, .int .i64 gu, .int .i64 lo, .int .i64 hi, .int .i64 hd, .int .i64 ca, .int .i64 ut, .int .i64 wk] := ((Blk.new w 25 #[.int .i64 st, .int .i64 be, .int .i64 rk, .int .i64 my, .int .i64 gu, .int .i64 lo, .int .i64 hi, .int .i64 hd, .int .i64 ca, .int .i64 ut, .int .i64 wk]).alloc _).below hb (by simp; omega)
  have ko : Blk w1 (w.heap.size + 1) 25 #[.int .i64 0, .int .i64 0, .int .i64 0, .int .i64 0, .int .i64 0, .int .i64 0, .int .i64 0, .int .i64 0, .int .i64 0, .int .i64 0, .int .i64 0] := by
    have k := Blk.new (w.alloc (.cells #[.int .i64 st, .int .i64 be, .int .i64 rk, .int .i64 my, .int .i64 gu, .int .i64 lo, .int .i64 hi, .int .i64 hd, .int .i64 ca, .int .i64 ut, .int .i64 wk] 25)) 25 #[.int .i64 0, .int .i64 0, .int .i64 0, .int .i64 0, .int .i64 0, .int .i64 0, .int .i64 0, .int .i64 0, .int .i64 0, .int .i64 0, .int .i64 0]
    rw [World.size_alloc] at k
    exact k.below hb (by simp)
  have hsz : w.heap.size + 2 ≤ w1.heap.size := by have := hb.size; simp at this; omega
  have hl0 : w.heap.size < w1.heap.size := by omega
  have hl1 : w.heap.size + 1 < w1.heap.size := by omega
  have B1 := hide ((((Below.refl w.heap.size w).alloc (Nat.le_refl _) _).alloc (by simp) _).trans (hb.mono (by simp; omega)))
  have Kb := hide kb
  have Ko := hide ko
  have c0 := kb.cell (i := 0) (v := .int .i64 st) rfl
  have c1 := kb.cell (i := 1) (v := .int .i64 be) rfl
  have c2 := kb.cell (i := 2) (v := .int .i64 rk) rfl
  have c3 := kb.cell (i := 3) (v := .int .i64 my) rfl
  have c4 := kb.cell (i := 4) (v := .int .i64 gu) rfl
  have c5 := kb.cell (i := 5) (v := .int .i64 lo) rfl
  have c6 := kb.cell (i := 6) (v := .int .i64 hi) rfl
  have c7 := kb.cell (i := 7) (v := .int .i64 hd) rfl
  have c8 := kb.cell (i := 8) (v := .int .i64 ca) rfl
  have c9 := kb.cell (i := 9) (v := .int .i64 ut) rfl
  have c10 := kb.cell (i := 10) (v := .int .i64 wk) rfl
  have o0 := ko.cell (i := 0) (v := .int .i64 0) rfl
  have o1 := ko.cell (i := 1) (v := .int .i64 0) rfl
  have o2 := ko.cell (i := 2) (v := .int .i64 0) rfl
  have o3 := ko.cell (i := 3) (v := .int .i64 0) rfl
  have o4 := ko.cell (i := 4) (v := .int .i64 0) rfl
  have o5 := ko.cell (i := 5) (v := .int .i64 0) rfl
  have o6 := ko.cell (i := 6) (v := .int .i64 0) rfl
  have o7 := ko.cell (i := 7) (v := .int .i64 0) rfl
  have o8 := ko.cell (i := 8) (v := .int .i64 0) rfl
  have o9 := ko.cell (i := 9) (v := .int .i64 0) rfl
  have o10 := ko.cell (i := 10) (v := .int .i64 0) rfl
  have of0 := ko.free 0
  have of1 := ko.free 1
  have of2 := ko.free 2
  have of3 := ko.free 3
  have of4 := ko.free 4
  have of5 := ko.free 5
  have of6 := ko.free 6
  have of7 := ko.free 7
  have of8 := ko.free 8
  have of9 := ko.free 9
  have of10 := ko.free 10
  have hR1 : w1.cell? ⟨R, 0, none⟩ = some (.int .i64 work) := (hb.cell (p := ⟨R, 0, none⟩) (by simp; omega)).trans (((Below.refl w.heap.size w).alloc (Nat.le_refl _) _ |>.alloc (by simp) _ |>.cell (p := ⟨R, 0, none⟩) (block_lt_of_cell hR)).trans hR)
  clear hb kb ko
  go_wp2_with fail
  refine (charge1_any (unhide Hx) (unhide Hok) (unhide Hn) (unhide Hl) n0 n1 d0 d1 k0 k1 v0 v1 ((((Below.refl w1.heap.size w1).alloc (Nat.le_refl _) _).cell (p := ⟨R, 0, none⟩) (block_lt_of_cell hR1)).trans hR1)).mono ?_
  rintro e w2 ⟨rfl, hb⟩
  have kb := ((unhide Kb).alloc (.cells #[.int .i64 st, .int .i64 be, .int .i64 rk, .int .i64 my, .int .i64 gu, .int .i64 lo, .int .i64 hi, .int .i64 hd, .int .i64 ca, .int .i64 ut, .int .i64 wk] 59)).below hb (by simp; omega)
  have ko := ((unhide Ko).alloc (.cells #[.int .i64 st, .int .i64 be, .int .i64 rk, .int .i64 my, .int .i64 gu, .int .i64 lo, .int .i64 hi, .int .i64 hd, .int .i64 ca, .int .i64 ut, .int .i64 wk] 59)).below hb (by simp; omega)
  have hsz2 : w1.heap.size + 1 ≤ w2.heap.size := by have := hb.size; simp at this; omega
  have hm0 : w.heap.size < w2.heap.size := by omega
  have hm1 : w.heap.size + 1 < w2.heap.size := by omega
  have B2 := hide ((((unhide B1).alloc (by omega) (.cells #[.int .i64 st, .int .i64 be, .int .i64 rk, .int .i64 my, .int .i64 gu, .int .i64 lo, .int .i64 hi, .int .i64 hd, .int .i64 ca, .int .i64 ut, .int .i64 wk] 59))).trans (hb.mono (by simp; omega)))
  have Kb2 := hide kb
  have Ko2 := hide ko
  clear hb kb ko Kb Ko B1 c0 o0 of0 c1 o1 of1 c2 o2 of2 c3 o3 of3 c4 o4 of4 c5 o5 of5 c6 o6 of6 c7 o7 of7 c8 o8 of8 c9 o9 of9 c10 o10 of10 hR1
  go_wp2_with fail
  refine (implSmithOk_any st be rk my gu lo hi (hd + n) l ut (wk + work) _).mono ?_
  rw [unhide Hs]
  rintro e w3 ⟨rfl, hb⟩
  have kb := ((unhide Kb2).alloc (.cells #[.int .i64 st, .int .i64 be, .int .i64 rk, .int .i64 my, .int .i64 gu, .int .i64 lo, .int .i64 hi, .int .i64 (hd + n), .int .i64 l, .int .i64 ut, .int .i64 (wk + work)] 25)).below hb (by simp; omega)
  have ko := ((unhide Ko2).alloc (.cells #[.int .i64 st, .int .i64 be, .int .i64 rk, .int .i64 my, .int .i64 gu, .int .i64 lo, .int .i64 hi, .int .i64 (hd + n), .int .i64 l, .int .i64 ut, .int .i64 (wk + work)] 25)).below hb (by simp; omega)
  have kn := (Blk.new w2 25 #[.int .i64 st, .int .i64 be, .int .i64 rk, .int .i64 my, .int .i64 gu, .int .i64 lo, .int .i64 hi, .int .i64 (hd + n), .int .i64 l, .int .i64 ut, .int .i64 (wk + work)]).below hb (by simp)
  have B3 := hide ((((unhide B2).alloc (by omega) (.cells #[.int .i64 st, .int .i64 be, .int .i64 rk, .int .i64 my, .int .i64 gu, .int .i64 lo, .int .i64 hi, .int .i64 (hd + n), .int .i64 l, .int .i64 ut, .int .i64 (wk + work)] 25))).trans (hb.mono (by simp; omega)))
  have hsz3 : w2.heap.size + 1 ≤ w3.heap.size := by have := hb.size; simp at this; omega
  have hn0 : w.heap.size < w3.heap.size := by omega
  have hn1 : w.heap.size + 1 < w3.heap.size := by omega
  have p0 := kn.cell (i := 0) (v := .int .i64 st) rfl
  have p1 := kn.cell (i := 1) (v := .int .i64 be) rfl
  have p2 := kn.cell (i := 2) (v := .int .i64 rk) rfl
  have p3 := kn.cell (i := 3) (v := .int .i64 my) rfl
  have p4 := kn.cell (i := 4) (v := .int .i64 gu) rfl
  have p5 := kn.cell (i := 5) (v := .int .i64 lo) rfl
  have p6 := kn.cell (i := 6) (v := .int .i64 hi) rfl
  have p7 := kn.cell (i := 7) (v := .int .i64 (hd + n)) rfl
  have p8 := kn.cell (i := 8) (v := .int .i64 l) rfl
  have p9 := kn.cell (i := 9) (v := .int .i64 ut) rfl
  have p10 := kn.cell (i := 10) (v := .int .i64 (wk + work)) rfl
  have o0 := ko.cell (i := 0) (v := .int .i64 0) rfl
  have o1 := ko.cell (i := 1) (v := .int .i64 0) rfl
  have o2 := ko.cell (i := 2) (v := .int .i64 0) rfl
  have o3 := ko.cell (i := 3) (v := .int .i64 0) rfl
  have o4 := ko.cell (i := 4) (v := .int .i64 0) rfl
  have o5 := ko.cell (i := 5) (v := .int .i64 0) rfl
  have o6 := ko.cell (i := 6) (v := .int .i64 0) rfl
  have o7 := ko.cell (i := 7) (v := .int .i64 0) rfl
  have o8 := ko.cell (i := 8) (v := .int .i64 0) rfl
  have o9 := ko.cell (i := 9) (v := .int .i64 0) rfl
  have o10 := ko.cell (i := 10) (v := .int .i64 0) rfl
  have of0 := ko.free 0
  have of1 := ko.free 1
  have of2 := ko.free 2
  have of3 := ko.free 3
  have of4 := ko.free 4
  have of5 := ko.free 5
  have of6 := ko.free 6
  have of7 := ko.free 7
  have of8 := ko.free 8
  have of9 := ko.free 9
  have of10 := ko.free 10
  clear hb kb ko kn
  go_wp2_with fail
  refine bodyPost_ret (v := .tuple #[.agg #[.int .i64 st, .int .i64 be, .int .i64 rk, .int .i64 my, .int .i64 gu, .int .i64 lo, .int .i64 hi, .int .i64 (hd + n), .int .i64 l, .int .i64 ut, .int .i64 (wk + work)], .bool true]) (by simp [results, Try.results23, go_sem, o0, o1, o2, o3, o4, o5, o6, o7, o8, o9, o10]) rfl ⟨rfl, ?_⟩
  iterate 11 (refine Below.setCell ?_ (by simp) _)
  exact unhide B3

set_option maxRecDepth 100000 in
set_option maxHeartbeats 2000000 in
theorem changed_c_over {st be rk my gu lo hi hd ca ut wk : Int} {work x n l : Int} {R : Nat} {w : World} (hx : weightV rk = x) (hok : okShare work x ca = true) (hn : shareN work x ca = n) (hl : shareL work x ca = l) (n0 : 0 ≤ n) (n1 : n ≤ 400000)
    (d0 : -1000000000000 ≤ hd) (d1 : hd ≤ 1000000000000) (k0 : 0 ≤ wk) (k1 : wk ≤ 100000000000) (v0 : 0 ≤ work) (v1 : work ≤ 100000) (hR : w.cell? ⟨R, 0, none⟩ = some (.int .i64 work)) (hg : goneB (st, be, rk, my, gu, lo, hi, hd, ca, ut, wk) = false) (hp : presB (st, be, rk, my, gu, lo, hi, hd, ca, ut, wk) = true) (hs : smithB (st, be, rk, my, gu, lo, hi, (hd + n), l, ut, (wk + work)) = false) : Calls Try.prog 23 #[.agg #[.int .i64 st, .int .i64 be, .int .i64 rk, .int .i64 my, .int .i64 gu, .int .i64 lo, .int .i64 hi, .int .i64 hd, .int .i64 ca, .int .i64 ut, .int .i64 wk], .bool true, .func (.func 25) #[] #[.pointer (some ⟨R, 0, none⟩)]] w fun e w' => e = .returned (.tuple #[.agg #[.int .i64 st, .int .i64 be, .int .i64 rk, .int .i64 my, .int .i64 gu, .int .i64 lo, .int .i64 hi, .int .i64 hd, .int .i64 ca, .int .i64 ut, .int .i64 wk], .bool false]) ∧ Below w.heap.size w w' := by
  have Hg := hide hg
  have Hp := hide hp
  have Hs := hide hs
  clear hg hp hs
  have Hx := hide hx
  have Hok := hide hok
  have Hn := hide hn
  have Hl := hide hl
  clear hx hok hn hl
  have hRl : R < w.heap.size := block_lt_of_cell hR
  go_enter Try.func23, Try.ntmps23
  go_wp2_with fail
  refine (shapeOf_pres (unhide Hg) (unhide Hp) _).mono ?_
  rintro e w1 ⟨rfl, hb⟩
  have kb : Blk w1 w.heap.size 25 #[.int .i64 st, .int .i64 be, .int .i64 rk, .int .i64 my, .int .i64 gu, .int .i64 lo, .int .i64 hi, .int .i64 hd, .int .i64 ca, .int .i64 ut, .int .i64 wk] := ((Blk.new w 25 #[.int .i64 st, .int .i64 be, .int .i64 rk, .int .i64 my, .int .i64 gu, .int .i64 lo, .int .i64 hi, .int .i64 hd, .int .i64 ca, .int .i64 ut, .int .i64 wk]).alloc _).below hb (by simp; omega)
  have ko : Blk w1 (w.heap.size + 1) 25 #[.int .i64 0, .int .i64 0, .int .i64 0, .int .i64 0, .int .i64 0, .int .i64 0, .int .i64 0, .int .i64 0, .int .i64 0, .int .i64 0, .int .i64 0] := by
    have k := Blk.new (w.alloc (.cells #[.int .i64 st, .int .i64 be, .int .i64 rk, .int .i64 my, .int .i64 gu, .int .i64 lo, .int .i64 hi, .int .i64 hd, .int .i64 ca, .int .i64 ut, .int .i64 wk] 25)) 25 #[.int .i64 0, .int .i64 0, .int .i64 0, .int .i64 0, .int .i64 0, .int .i64 0, .int .i64 0, .int .i64 0, .int .i64 0, .int .i64 0, .int .i64 0]
    rw [World.size_alloc] at k
    exact k.below hb (by simp)
  have hsz : w.heap.size + 2 ≤ w1.heap.size := by have := hb.size; simp at this; omega
  have hl0 : w.heap.size < w1.heap.size := by omega
  have hl1 : w.heap.size + 1 < w1.heap.size := by omega
  have B1 := hide ((((Below.refl w.heap.size w).alloc (Nat.le_refl _) _).alloc (by simp) _).trans (hb.mono (by simp; omega)))
  have Kb := hide kb
  have Ko := hide ko
  have c0 := kb.cell (i := 0) (v := .int .i64 st) rfl
  have c1 := kb.cell (i := 1) (v := .int .i64 be) rfl
  have c2 := kb.cell (i := 2) (v := .int .i64 rk) rfl
  have c3 := kb.cell (i := 3) (v := .int .i64 my) rfl
  have c4 := kb.cell (i := 4) (v := .int .i64 gu) rfl
  have c5 := kb.cell (i := 5) (v := .int .i64 lo) rfl
  have c6 := kb.cell (i := 6) (v := .int .i64 hi) rfl
  have c7 := kb.cell (i := 7) (v := .int .i64 hd) rfl
  have c8 := kb.cell (i := 8) (v := .int .i64 ca) rfl
  have c9 := kb.cell (i := 9) (v := .int .i64 ut) rfl
  have c10 := kb.cell (i := 10) (v := .int .i64 wk) rfl
  have o0 := ko.cell (i := 0) (v := .int .i64 0) rfl
  have o1 := ko.cell (i := 1) (v := .int .i64 0) rfl
  have o2 := ko.cell (i := 2) (v := .int .i64 0) rfl
  have o3 := ko.cell (i := 3) (v := .int .i64 0) rfl
  have o4 := ko.cell (i := 4) (v := .int .i64 0) rfl
  have o5 := ko.cell (i := 5) (v := .int .i64 0) rfl
  have o6 := ko.cell (i := 6) (v := .int .i64 0) rfl
  have o7 := ko.cell (i := 7) (v := .int .i64 0) rfl
  have o8 := ko.cell (i := 8) (v := .int .i64 0) rfl
  have o9 := ko.cell (i := 9) (v := .int .i64 0) rfl
  have o10 := ko.cell (i := 10) (v := .int .i64 0) rfl
  have of0 := ko.free 0
  have of1 := ko.free 1
  have of2 := ko.free 2
  have of3 := ko.free 3
  have of4 := ko.free 4
  have of5 := ko.free 5
  have of6 := ko.free 6
  have of7 := ko.free 7
  have of8 := ko.free 8
  have of9 := ko.free 9
  have of10 := ko.free 10
  have hR1 : w1.cell? ⟨R, 0, none⟩ = some (.int .i64 work) := (hb.cell (p := ⟨R, 0, none⟩) (by simp; omega)).trans (((Below.refl w.heap.size w).alloc (Nat.le_refl _) _ |>.alloc (by simp) _ |>.cell (p := ⟨R, 0, none⟩) (block_lt_of_cell hR)).trans hR)
  clear hb kb ko
  go_wp2_with fail
  refine (charge1_any (unhide Hx) (unhide Hok) (unhide Hn) (unhide Hl) n0 n1 d0 d1 k0 k1 v0 v1 ((((Below.refl w1.heap.size w1).alloc (Nat.le_refl _) _).cell (p := ⟨R, 0, none⟩) (block_lt_of_cell hR1)).trans hR1)).mono ?_
  rintro e w2 ⟨rfl, hb⟩
  have kb := ((unhide Kb).alloc (.cells #[.int .i64 st, .int .i64 be, .int .i64 rk, .int .i64 my, .int .i64 gu, .int .i64 lo, .int .i64 hi, .int .i64 hd, .int .i64 ca, .int .i64 ut, .int .i64 wk] 59)).below hb (by simp; omega)
  have ko := ((unhide Ko).alloc (.cells #[.int .i64 st, .int .i64 be, .int .i64 rk, .int .i64 my, .int .i64 gu, .int .i64 lo, .int .i64 hi, .int .i64 hd, .int .i64 ca, .int .i64 ut, .int .i64 wk] 59)).below hb (by simp; omega)
  have hsz2 : w1.heap.size + 1 ≤ w2.heap.size := by have := hb.size; simp at this; omega
  have hm0 : w.heap.size < w2.heap.size := by omega
  have hm1 : w.heap.size + 1 < w2.heap.size := by omega
  have B2 := hide ((((unhide B1).alloc (by omega) (.cells #[.int .i64 st, .int .i64 be, .int .i64 rk, .int .i64 my, .int .i64 gu, .int .i64 lo, .int .i64 hi, .int .i64 hd, .int .i64 ca, .int .i64 ut, .int .i64 wk] 59))).trans (hb.mono (by simp; omega)))
  have Kb2 := hide kb
  have Ko2 := hide ko
  clear hb kb ko Kb Ko B1 c0 o0 of0 c1 o1 of1 c2 o2 of2 c3 o3 of3 c4 o4 of4 c5 o5 of5 c6 o6 of6 c7 o7 of7 c8 o8 of8 c9 o9 of9 c10 o10 of10 hR1
  go_wp2_with fail
  refine (implSmithOk_any st be rk my gu lo hi (hd + n) l ut (wk + work) _).mono ?_
  rw [unhide Hs]
  rintro e w3 ⟨rfl, hb⟩
  have kb := ((unhide Kb2).alloc (.cells #[.int .i64 st, .int .i64 be, .int .i64 rk, .int .i64 my, .int .i64 gu, .int .i64 lo, .int .i64 hi, .int .i64 (hd + n), .int .i64 l, .int .i64 ut, .int .i64 (wk + work)] 25)).below hb (by simp; omega)
  have ko := ((unhide Ko2).alloc (.cells #[.int .i64 st, .int .i64 be, .int .i64 rk, .int .i64 my, .int .i64 gu, .int .i64 lo, .int .i64 hi, .int .i64 (hd + n), .int .i64 l, .int .i64 ut, .int .i64 (wk + work)] 25)).below hb (by simp; omega)
  have kn := (Blk.new w2 25 #[.int .i64 st, .int .i64 be, .int .i64 rk, .int .i64 my, .int .i64 gu, .int .i64 lo, .int .i64 hi, .int .i64 (hd + n), .int .i64 l, .int .i64 ut, .int .i64 (wk + work)]).below hb (by simp)
  have B3 := hide ((((unhide B2).alloc (by omega) (.cells #[.int .i64 st, .int .i64 be, .int .i64 rk, .int .i64 my, .int .i64 gu, .int .i64 lo, .int .i64 hi, .int .i64 (hd + n), .int .i64 l, .int .i64 ut, .int .i64 (wk + work)] 25))).trans (hb.mono (by simp; omega)))
  have hsz3 : w2.heap.size + 1 ≤ w3.heap.size := by have := hb.size; simp at this; omega
  have hn0 : w.heap.size < w3.heap.size := by omega
  have hn1 : w.heap.size + 1 < w3.heap.size := by omega
  have p0 := kb.cell (i := 0) (v := .int .i64 st) rfl
  have p1 := kb.cell (i := 1) (v := .int .i64 be) rfl
  have p2 := kb.cell (i := 2) (v := .int .i64 rk) rfl
  have p3 := kb.cell (i := 3) (v := .int .i64 my) rfl
  have p4 := kb.cell (i := 4) (v := .int .i64 gu) rfl
  have p5 := kb.cell (i := 5) (v := .int .i64 lo) rfl
  have p6 := kb.cell (i := 6) (v := .int .i64 hi) rfl
  have p7 := kb.cell (i := 7) (v := .int .i64 hd) rfl
  have p8 := kb.cell (i := 8) (v := .int .i64 ca) rfl
  have p9 := kb.cell (i := 9) (v := .int .i64 ut) rfl
  have p10 := kb.cell (i := 10) (v := .int .i64 wk) rfl
  have o0 := ko.cell (i := 0) (v := .int .i64 0) rfl
  have o1 := ko.cell (i := 1) (v := .int .i64 0) rfl
  have o2 := ko.cell (i := 2) (v := .int .i64 0) rfl
  have o3 := ko.cell (i := 3) (v := .int .i64 0) rfl
  have o4 := ko.cell (i := 4) (v := .int .i64 0) rfl
  have o5 := ko.cell (i := 5) (v := .int .i64 0) rfl
  have o6 := ko.cell (i := 6) (v := .int .i64 0) rfl
  have o7 := ko.cell (i := 7) (v := .int .i64 0) rfl
  have o8 := ko.cell (i := 8) (v := .int .i64 0) rfl
  have o9 := ko.cell (i := 9) (v := .int .i64 0) rfl
  have o10 := ko.cell (i := 10) (v := .int .i64 0) rfl
  have of0 := ko.free 0
  have of1 := ko.free 1
  have of2 := ko.free 2
  have of3 := ko.free 3
  have of4 := ko.free 4
  have of5 := ko.free 5
  have of6 := ko.free 6
  have of7 := ko.free 7
  have of8 := ko.free 8
  have of9 := ko.free 9
  have of10 := ko.free 10
  clear hb kb ko kn
  go_wp2_with fail
  refine bodyPost_ret (v := .tuple #[.agg #[.int .i64 st, .int .i64 be, .int .i64 rk, .int .i64 my, .int .i64 gu, .int .i64 lo, .int .i64 hi, .int .i64 hd, .int .i64 ca, .int .i64 ut, .int .i64 wk], .bool false]) (by simp [results, Try.results23, go_sem, o0, o1, o2, o3, o4, o5, o6, o7, o8, o9, o10]) rfl ⟨rfl, ?_⟩
  iterate 11 (refine Below.setCell ?_ (by simp) _)
  exact unhide B3

set_option maxRecDepth 100000 in
set_option maxHeartbeats 2000000 in
theorem changed_r_yes {st be rk my gu lo hi hd ca ut wk : Int} {rank x : Int} {R R' : Nat} {w : World} (x0 : 335 ≤ x) (x1 : x ≤ 3125) (a0 : 0 ≤ ca) (a1 : ca ≤ 3125) (hR : w.cell? ⟨R, 0, none⟩ = some (.int .i64 rank)) (hS : w.cell? ⟨R', 0, none⟩ = some (.int .i64 x)) (hg : goneB (st, be, rk, my, gu, lo, hi, hd, ca, ut, wk) = false) (hp : presB (st, be, rk, my, gu, lo, hi, hd, ca, ut, wk) = true) (hs : smithB (st, be, rank, my, gu, lo, hi, hd, (ca % x), ut, wk) = true) : Calls Try.prog 23 #[.agg #[.int .i64 st, .int .i64 be, .int .i64 rk, .int .i64 my, .int .i64 gu, .int .i64 lo, .int .i64 hi, .int .i64 hd, .int .i64 ca, .int .i64 ut, .int .i64 wk], .bool true, .func (.func 29) #[] #[.pointer (some ⟨R, 0, none⟩), .pointer (some ⟨R', 0, none⟩)]] w fun e w' => e = .returned (.tuple #[.agg #[.int .i64 st, .int .i64 be, .int .i64 rank, .int .i64 my, .int .i64 gu, .int .i64 lo, .int .i64 hi, .int .i64 hd, .int .i64 (ca % x), .int .i64 ut, .int .i64 wk], .bool true]) ∧ Below w.heap.size w w' := by
  have Hg := hide hg
  have Hp := hide hp
  have Hs := hide hs
  clear hg hp hs
  have hRl : R < w.heap.size := block_lt_of_cell hR
  have hSl : R' < w.heap.size := block_lt_of_cell hS
  go_enter Try.func23, Try.ntmps23
  go_wp2_with fail
  refine (shapeOf_pres (unhide Hg) (unhide Hp) _).mono ?_
  rintro e w1 ⟨rfl, hb⟩
  have kb : Blk w1 w.heap.size 25 #[.int .i64 st, .int .i64 be, .int .i64 rk, .int .i64 my, .int .i64 gu, .int .i64 lo, .int .i64 hi, .int .i64 hd, .int .i64 ca, .int .i64 ut, .int .i64 wk] := ((Blk.new w 25 #[.int .i64 st, .int .i64 be, .int .i64 rk, .int .i64 my, .int .i64 gu, .int .i64 lo, .int .i64 hi, .int .i64 hd, .int .i64 ca, .int .i64 ut, .int .i64 wk]).alloc _).below hb (by simp; omega)
  have ko : Blk w1 (w.heap.size + 1) 25 #[.int .i64 0, .int .i64 0, .int .i64 0, .int .i64 0, .int .i64 0, .int .i64 0, .int .i64 0, .int .i64 0, .int .i64 0, .int .i64 0, .int .i64 0] := by
    have k := Blk.new (w.alloc (.cells #[.int .i64 st, .int .i64 be, .int .i64 rk, .int .i64 my, .int .i64 gu, .int .i64 lo, .int .i64 hi, .int .i64 hd, .int .i64 ca, .int .i64 ut, .int .i64 wk] 25)) 25 #[.int .i64 0, .int .i64 0, .int .i64 0, .int .i64 0, .int .i64 0, .int .i64 0, .int .i64 0, .int .i64 0, .int .i64 0, .int .i64 0, .int .i64 0]
    rw [World.size_alloc] at k
    exact k.below hb (by simp)
  have hsz : w.heap.size + 2 ≤ w1.heap.size := by have := hb.size; simp at this; omega
  have hl0 : w.heap.size < w1.heap.size := by omega
  have hl1 : w.heap.size + 1 < w1.heap.size := by omega
  have B1 := hide ((((Below.refl w.heap.size w).alloc (Nat.le_refl _) _).alloc (by simp) _).trans (hb.mono (by simp; omega)))
  have Kb := hide kb
  have Ko := hide ko
  have c0 := kb.cell (i := 0) (v := .int .i64 st) rfl
  have c1 := kb.cell (i := 1) (v := .int .i64 be) rfl
  have c2 := kb.cell (i := 2) (v := .int .i64 rk) rfl
  have c3 := kb.cell (i := 3) (v := .int .i64 my) rfl
  have c4 := kb.cell (i := 4) (v := .int .i64 gu) rfl
  have c5 := kb.cell (i := 5) (v := .int .i64 lo) rfl
  have c6 := kb.cell (i := 6) (v := .int .i64 hi) rfl
  have c7 := kb.cell (i := 7) (v := .int .i64 hd) rfl
  have c8 := kb.cell (i := 8) (v := .int .i64 ca) rfl
  have c9 := kb.cell (i := 9) (v := .int .i64 ut) rfl
  have c10 := kb.cell (i := 10) (v := .int .i64 wk) rfl
  have o0 := ko.cell (i := 0) (v := .int .i64 0) rfl
  have o1 := ko.cell (i := 1) (v := .int .i64 0) rfl
  have o2 := ko.cell (i := 2) (v := .int .i64 0) rfl
  have o3 := ko.cell (i := 3) (v := .int .i64 0) rfl
  have o4 := ko.cell (i := 4) (v := .int .i64 0) rfl
  have o5 := ko.cell (i := 5) (v := .int .i64 0) rfl
  have o6 := ko.cell (i := 6) (v := .int .i64 0) rfl
  have o7 := ko.cell (i := 7) (v := .int .i64 0) rfl
  have o8 := ko.cell (i := 8) (v := .int .i64 0) rfl
  have o9 := ko.cell (i := 9) (v := .int .i64 0) rfl
  have o10 := ko.cell (i := 10) (v := .int .i64 0) rfl
  have of0 := ko.free 0
  have of1 := ko.free 1
  have of2 := ko.free 2
  have of3 := ko.free 3
  have of4 := ko.free 4
  have of5 := ko.free 5
  have of6 := ko.free 6
  have of7 := ko.free 7
  have of8 := ko.free 8
  have of9 := ko.free 9
  have of10 := ko.free 10
  have hR1 : w1.cell? ⟨R, 0, none⟩ = some (.int .i64 rank) := (hb.cell (p := ⟨R, 0, none⟩) (by simp; omega)).trans (((Below.refl w.heap.size w).alloc (Nat.le_refl _) _ |>.alloc (by simp) _ |>.cell (p := ⟨R, 0, none⟩) (block_lt_of_cell hR)).trans hR)
  have hS1 : w1.cell? ⟨R', 0, none⟩ = some (.int .i64 x) := (hb.cell (p := ⟨R', 0, none⟩) (by simp; omega)).trans (((Below.refl w.heap.size w).alloc (Nat.le_refl _) _ |>.alloc (by simp) _ |>.cell (p := ⟨R', 0, none⟩) (block_lt_of_cell hS)).trans hS)
  clear hb kb ko
  go_wp2_with fail
  refine (rerank1_any x0 x1 a0 a1 ((((Below.refl w1.heap.size w1).alloc (Nat.le_refl _) _).cell (p := ⟨R, 0, none⟩) (block_lt_of_cell hR1)).trans hR1) ((((Below.refl w1.heap.size w1).alloc (Nat.le_refl _) _).cell (p := ⟨R', 0, none⟩) (block_lt_of_cell hS1)).trans hS1)).mono ?_
  rintro e w2 ⟨rfl, hb⟩
  have kb := ((unhide Kb).alloc (.cells #[.int .i64 st, .int .i64 be, .int .i64 rk, .int .i64 my, .int .i64 gu, .int .i64 lo, .int .i64 hi, .int .i64 hd, .int .i64 ca, .int .i64 ut, .int .i64 wk] 59)).below hb (by simp; omega)
  have ko := ((unhide Ko).alloc (.cells #[.int .i64 st, .int .i64 be, .int .i64 rk, .int .i64 my, .int .i64 gu, .int .i64 lo, .int .i64 hi, .int .i64 hd, .int .i64 ca, .int .i64 ut, .int .i64 wk] 59)).below hb (by simp; omega)
  have hsz2 : w1.heap.size + 1 ≤ w2.heap.size := by have := hb.size; simp at this; omega
  have hm0 : w.heap.size < w2.heap.size := by omega
  have hm1 : w.heap.size + 1 < w2.heap.size := by omega
  have B2 := hide ((((unhide B1).alloc (by omega) (.cells #[.int .i64 st, .int .i64 be, .int .i64 rk, .int .i64 my, .int .i64 gu, .int .i64 lo, .int .i64 hi, .int .i64 hd, .int .i64 ca, .int .i64 ut, .int .i64 wk] 59))).trans (hb.mono (by simp; omega)))
  have Kb2 := hide kb
  have Ko2 := hide ko
  clear hb kb ko Kb Ko B1 c0 o0 of0 c1 o1 of1 c2 o2 of2 c3 o3 of3 c4 o4 of4 c5 o5 of5 c6 o6 of6 c7 o7 of7 c8 o8 of8 c9 o9 of9 c10 o10 of10 hR1 hS1
  go_wp2_with fail
  refine (implSmithOk_any st be rank my gu lo hi hd (ca % x) ut wk _).mono ?_
  rw [unhide Hs]
  rintro e w3 ⟨rfl, hb⟩
  have kb := ((unhide Kb2).alloc (.cells #[.int .i64 st, .int .i64 be, .int .i64 rank, .int .i64 my, .int .i64 gu, .int .i64 lo, .int .i64 hi, .int .i64 hd, .int .i64 (ca % x), .int .i64 ut, .int .i64 wk] 25)).below hb (by simp; omega)
  have ko := ((unhide Ko2).alloc (.cells #[.int .i64 st, .int .i64 be, .int .i64 rank, .int .i64 my, .int .i64 gu, .int .i64 lo, .int .i64 hi, .int .i64 hd, .int .i64 (ca % x), .int .i64 ut, .int .i64 wk] 25)).below hb (by simp; omega)
  have kn := (Blk.new w2 25 #[.int .i64 st, .int .i64 be, .int .i64 rank, .int .i64 my, .int .i64 gu, .int .i64 lo, .int .i64 hi, .int .i64 hd, .int .i64 (ca % x), .int .i64 ut, .int .i64 wk]).below hb (by simp)
  have B3 := hide ((((unhide B2).alloc (by omega) (.cells #[.int .i64 st, .int .i64 be, .int .i64 rank, .int .i64 my, .int .i64 gu, .int .i64 lo, .int .i64 hi, .int .i64 hd, .int .i64 (ca % x), .int .i64 ut, .int .i64 wk] 25))).trans (hb.mono (by simp; omega)))
  have hsz3 : w2.heap.size + 1 ≤ w3.heap.size := by have := hb.size; simp at this; omega
  have hn0 : w.heap.size < w3.heap.size := by omega
  have hn1 : w.heap.size + 1 < w3.heap.size := by omega
  have p0 := kn.cell (i := 0) (v := .int .i64 st) rfl
  have p1 := kn.cell (i := 1) (v := .int .i64 be) rfl
  have p2 := kn.cell (i := 2) (v := .int .i64 rank) rfl
  have p3 := kn.cell (i := 3) (v := .int .i64 my) rfl
  have p4 := kn.cell (i := 4) (v := .int .i64 gu) rfl
  have p5 := kn.cell (i := 5) (v := .int .i64 lo) rfl
  have p6 := kn.cell (i := 6) (v := .int .i64 hi) rfl
  have p7 := kn.cell (i := 7) (v := .int .i64 hd) rfl
  have p8 := kn.cell (i := 8) (v := .int .i64 (ca % x)) rfl
  have p9 := kn.cell (i := 9) (v := .int .i64 ut) rfl
  have p10 := kn.cell (i := 10) (v := .int .i64 wk) rfl
  have o0 := ko.cell (i := 0) (v := .int .i64 0) rfl
  have o1 := ko.cell (i := 1) (v := .int .i64 0) rfl
  have o2 := ko.cell (i := 2) (v := .int .i64 0) rfl
  have o3 := ko.cell (i := 3) (v := .int .i64 0) rfl
  have o4 := ko.cell (i := 4) (v := .int .i64 0) rfl
  have o5 := ko.cell (i := 5) (v := .int .i64 0) rfl
  have o6 := ko.cell (i := 6) (v := .int .i64 0) rfl
  have o7 := ko.cell (i := 7) (v := .int .i64 0) rfl
  have o8 := ko.cell (i := 8) (v := .int .i64 0) rfl
  have o9 := ko.cell (i := 9) (v := .int .i64 0) rfl
  have o10 := ko.cell (i := 10) (v := .int .i64 0) rfl
  have of0 := ko.free 0
  have of1 := ko.free 1
  have of2 := ko.free 2
  have of3 := ko.free 3
  have of4 := ko.free 4
  have of5 := ko.free 5
  have of6 := ko.free 6
  have of7 := ko.free 7
  have of8 := ko.free 8
  have of9 := ko.free 9
  have of10 := ko.free 10
  clear hb kb ko kn
  go_wp2_with fail
  refine bodyPost_ret (v := .tuple #[.agg #[.int .i64 st, .int .i64 be, .int .i64 rank, .int .i64 my, .int .i64 gu, .int .i64 lo, .int .i64 hi, .int .i64 hd, .int .i64 (ca % x), .int .i64 ut, .int .i64 wk], .bool true]) (by simp [results, Try.results23, go_sem, o0, o1, o2, o3, o4, o5, o6, o7, o8, o9, o10]) rfl ⟨rfl, ?_⟩
  iterate 11 (refine Below.setCell ?_ (by simp) _)
  exact unhide B3

end Go.Proofs.Ytkagjopogihnbaa
