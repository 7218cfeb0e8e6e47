/- Part 16 of what the proof rests on. No condition but those that a theorem names. -/
import Derived.Test.YtffcgajndmhpkaaGreatDoorXe15
set_option maxHeartbeats 8000000
set_option maxRecDepth 100000
namespace Go.Proofs.YtffcgajndmhpkaaGreatDoor
open Go.ChangeShapes Go.WideShapes Go.ChangeAt Go.RowKit Go.Sort
set_option linter.unusedVariables false
theorem as_gone_pres (v : Value) (w : World) : (Instr.typeAssert (.iface 296 v) 279 294 true).run Tryz.prog w = .ok (.tuple #[.agg E11, .bool false]) w := by kernel_rfl
theorem as_gone_gone (v : Value) (w : World) : (Instr.typeAssert (.iface 296 v) 279 296 true).run Tryz.prog w = .ok (.tuple #[v, .bool true]) w := by kernel_rfl
theorem as_wrong_pres (v : Value) (w : World) : (Instr.typeAssert (.iface 297 v) 279 294 true).run Tryz.prog w = .ok (.tuple #[.agg E11, .bool false]) w := by kernel_rfl
theorem as_wrong_gone (v : Value) (w : World) : (Instr.typeAssert (.iface 297 v) 279 296 true).run Tryz.prog w = .ok (.tuple #[.agg #[], .bool false]) w := by kernel_rfl
theorem as_pres_pres (v : Value) (w : World) : (Instr.typeAssert (.iface 294 v) 279 294 true).run Tryz.prog w = .ok (.tuple #[v, .bool true]) w := by kernel_rfl
attribute [local go_sem] as_gone_pres as_gone_gone as_wrong_pres as_wrong_gone as_pres_pres
theorem changed_gone (can : Bool) (f : Value) (w : World) : Calls Tryz.prog 259 #[.agg E11, .bool can, f] w fun e w' => e = .returned (.tuple #[.agg E11, .bool false]) ∧ Below w.heap.size w w' := by
 go_enter Tryz.func259, Tryz.ntmps259
 go_wp2_with fail
 refine ck (shapeOf_gone _) fun w1 hb => ?_
 have kb : Blk w1 w.heap.size 39 E11 := ((Blk.new w 39 E11).alloc _).below hb (by simp; omega)
 have ko : Blk w1 (w.heap.size + 1) 39 E11 := by
  have k := Blk.new (w.alloc (.cells E11 39)) 39 E11
  rw [World.size_alloc] at k
  exact k.below hb (by simp)
 have hsz : w.heap.size + 2 ≤ w1.heap.size := by have := hb.size; simp at this; omega
 have hl0 : w.heap.size < w1.heap.size := by omega
 have hl1 : w.heap.size + 1 < w1.heap.size := by omega
 have B1 := hide ((((Below.refl w.heap.size w).alloc (Nat.le_refl _) _).alloc (by simp) _).trans (hb.mono (by simp; omega)))
 have Kb := hide kb
 have Ko := hide ko
 obtain ⟨c0, c1, c2, c3, c4, c5, c6, c7, c8, c9, c10⟩ := kb.c11
 obtain ⟨o0, o1, o2, o3, o4, o5, o6, o7, o8, o9, o10⟩ := ko.c11
 obtain ⟨of0, of1, of2, of3, of4, of5, of6, of7, of8, of9, of10⟩ := ko.f11
 clear hb kb ko
 go_wp2_with fail
 refine bodyPost_ret (v := .tuple #[.agg E11, .bool false]) (by simp [results, Tryz.results259, go_sem, o0, o1, o2, o3, o4, o5, o6, o7, o8, o9, o10, hl1]) rfl ⟨rfl, ?_⟩
 refine Below.alloc ?_ (by simp; omega) _
 iterate 11 (refine Below.setCell ?_ (by simp) _)
 exact uh B1
theorem changed_wrong {st be rk my gu lo hi hd ca ut wk : Int} (hg : goneB (st, be, rk, my, gu, lo, hi, hd, ca, ut, wk) = false) (hp : presB (st, be, rk, my, gu, lo, hi, hd, ca, ut, wk) = false) (can : Bool) (f : Value) (w : World) : Calls Tryz.prog 259 #[.agg (I11 st be rk my gu lo hi hd ca ut wk), .bool can, f] w fun e w' => e = .returned (.tuple #[.agg E11, .bool false]) ∧ Below w.heap.size w w' := by
 have Hg := hide hg
 have Hp := hide hp
 clear hg hp
 go_enter Tryz.func259, Tryz.ntmps259
 go_wp2_with fail
 refine ck (shapeOf_wrong (uh Hg) (uh Hp) _) fun w1 hb => ?_
 have kb : Blk w1 w.heap.size 39 (I11 st be rk my gu lo hi hd ca ut wk) := ((Blk.new w 39 (I11 st be rk my gu lo hi hd ca ut wk)).alloc _).below hb (by simp; omega)
 have ko : Blk w1 (w.heap.size + 1) 39 E11 := by
  have k := Blk.new (w.alloc (.cells (I11 st be rk my gu lo hi hd ca ut wk) 39)) 39 E11
  rw [World.size_alloc] at k
  exact k.below hb (by simp)
 have hsz : w.heap.size + 2 ≤ w1.heap.size := by have := hb.size; simp at this; omega
 have hl0 : w.heap.size < w1.heap.size := by omega
 have hl1 : w.heap.size + 1 < w1.heap.size := by omega
 have B1 := hide ((((Below.refl w.heap.size w).alloc (Nat.le_refl _) _).alloc (by simp) _).trans (hb.mono (by simp; omega)))
 have Kb := hide kb
 have Ko := hide ko
 obtain ⟨c0, c1, c2, c3, c4, c5, c6, c7, c8, c9, c10⟩ := kb.c11
 obtain ⟨o0, o1, o2, o3, o4, o5, o6, o7, o8, o9, o10⟩ := ko.c11
 obtain ⟨of0, of1, of2, of3, of4, of5, of6, of7, of8, of9, of10⟩ := ko.f11
 clear hb kb ko
 go_wp2_with fail
 refine bodyPost_ret (v := .tuple #[.agg E11, .bool false]) (by simp [results, Tryz.results259, go_sem, o0, o1, o2, o3, o4, o5, o6, o7, o8, o9, o10]) rfl ⟨rfl, ?_⟩
 iterate 11 (refine Below.setCell ?_ (by simp) _)
 exact uh B1
theorem changed_no {st be rk my gu lo hi hd ca ut wk : Int} (hg : goneB (st, be, rk, my, gu, lo, hi, hd, ca, ut, wk) = false) (hp : presB (st, be, rk, my, gu, lo, hi, hd, ca, ut, wk) = true) (f : Value) (w : World) : Calls Tryz.prog 259 #[.agg (I11 st be rk my gu lo hi hd ca ut wk), .bool false, f] w fun e w' => e = .returned (.tuple #[.agg (I11 st be rk my gu lo hi hd ca ut wk), .bool false]) ∧ Below w.heap.size w w' := by
 have Hg := hide hg
 have Hp := hide hp
 clear hg hp
 go_enter Tryz.func259, Tryz.ntmps259
 go_wp2_with fail
 refine ck (shapeOf_pres (uh Hg) (uh Hp) _) fun w1 hb => ?_
 have kb : Blk w1 w.heap.size 39 (I11 st be rk my gu lo hi hd ca ut wk) := ((Blk.new w 39 (I11 st be rk my gu lo hi hd ca ut wk)).alloc _).below hb (by simp; omega)
 have ko : Blk w1 (w.heap.size + 1) 39 E11 := by
  have k := Blk.new (w.alloc (.cells (I11 st be rk my gu lo hi hd ca ut wk) 39)) 39 E11
  rw [World.size_alloc] at k
  exact k.below hb (by simp)
 have hsz : w.heap.size + 2 ≤ w1.heap.size := by have := hb.size; simp at this; omega
 have hl0 : w.heap.size < w1.heap.size := by omega
 have hl1 : w.heap.size + 1 < w1.heap.size := by omega
 have B1 := hide ((((Below.refl w.heap.size w).alloc (Nat.le_refl _) _).alloc (by simp) _).trans (hb.mono (by simp; omega)))
 have Kb := hide kb
 have Ko := hide ko
 obtain ⟨c0, c1, c2, c3, c4, c5, c6, c7, c8, c9, c10⟩ := kb.c11
 obtain ⟨o0, o1, o2, o3, o4, o5, o6, o7, o8, o9, o10⟩ := ko.c11
 obtain ⟨of0, of1, of2, of3, of4, of5, of6, of7, of8, of9, of10⟩ := ko.f11
 clear hb kb ko
 go_wp2_with fail
 refine bodyPost_ret (v := .tuple #[.agg (I11 st be rk my gu lo hi hd ca ut wk), .bool false]) (by simp [results, Tryz.results259, go_sem, o0, o1, o2, o3, o4, o5, o6, o7, o8, o9, o10, hl1]) rfl ⟨rfl, ?_⟩
 refine Below.alloc ?_ (by simp; omega) _
 iterate 11 (refine Below.setCell ?_ (by simp) _)
 exact uh B1
end Go.Proofs.YtffcgajndmhpkaaGreatDoor
namespace Go.Proofs.YtffcgajndmhpkaaGreatDoor
open Go.ChangeShapes Go.WideShapes Go.ChangeAt Go.RowKit Go.Sort
set_option linter.unusedVariables false
attribute [local go_sem] as_gone_pres as_gone_gone as_wrong_pres as_wrong_gone as_pres_pres
theorem changed_c_yes {st be rk my gu lo hi hd ca ut wk : Int} {work x n l : Int} {R : Nat} {w : World} (hx : weightV rk = x) (hok : okShare work x ca = true) (hn : shareN work x ca = n) (hl : shareL work x ca = l) (n0 : 0 ≤ n) (n1 : n ≤ 400000)
  (d0 : -1000000000000 ≤ hd) (d1 : hd ≤ 1000000000000) (k0 : 0 ≤ wk) (k1 : wk ≤ 100000000000) (v0 : 0 ≤ work) (v1 : work ≤ 100000) (hR : w.cell? ⟨R, 0, none⟩ = some (.int .i64 work)) (hg : goneB (st, be, rk, my, gu, lo, hi, hd, ca, ut, wk) = false) (hp : presB (st, be, rk, my, gu, lo, hi, hd, ca, ut, wk) = true) (hs : smithB (st, be, rk, my, gu, lo, hi, (hd + n), l, ut, (wk + work)) = true) : Calls Tryz.prog 259 #[.agg (I11 st be rk my gu lo hi hd ca ut wk), .bool true, .func (.func 260) #[] #[.pointer (some ⟨R, 0, none⟩)]] w fun e w' => e = .returned (.tuple #[.agg (I11 st be rk my gu lo hi (hd + n) l ut (wk + work)), .bool true]) ∧ Below w.heap.size w w' := by
 have Hg := hide hg
 have Hp := hide hp
 have Hs := hide hs
 clear hg hp hs
 have Hx := hide hx
 have Hok := hide hok
 have Hn := hide hn
 have Hl := hide hl
 clear hx hok hn hl
 have hRl : R < w.heap.size := block_lt_of_cell hR
 go_enter Tryz.func259, Tryz.ntmps259
 go_wp2_with fail
 refine ck (shapeOf_pres (uh Hg) (uh Hp) _) fun w1 hb => ?_
 have kb : Blk w1 w.heap.size 39 (I11 st be rk my gu lo hi hd ca ut wk) := ((Blk.new w 39 (I11 st be rk my gu lo hi hd ca ut wk)).alloc _).below hb (by simp; omega)
 have ko : Blk w1 (w.heap.size + 1) 39 E11 := by
  have k := Blk.new (w.alloc (.cells (I11 st be rk my gu lo hi hd ca ut wk) 39)) 39 E11
  rw [World.size_alloc] at k
  exact k.below hb (by simp)
 have hsz : w.heap.size + 2 ≤ w1.heap.size := by have := hb.size; simp at this; omega
 have hl0 : w.heap.size < w1.heap.size := by omega
 have hl1 : w.heap.size + 1 < w1.heap.size := by omega
 have B1 := hide ((((Below.refl w.heap.size w).alloc (Nat.le_refl _) _).alloc (by simp) _).trans (hb.mono (by simp; omega)))
 have Kb := hide kb
 have Ko := hide ko
 obtain ⟨c0, c1, c2, c3, c4, c5, c6, c7, c8, c9, c10⟩ := kb.c11
 obtain ⟨o0, o1, o2, o3, o4, o5, o6, o7, o8, o9, o10⟩ := ko.c11
 obtain ⟨of0, of1, of2, of3, of4, of5, of6, of7, of8, of9, of10⟩ := ko.f11
 have hR1 : w1.cell? ⟨R, 0, none⟩ = some (.int .i64 work) := (hb.cell (p := ⟨R, 0, none⟩) (by simp; omega)).trans (((Below.refl w.heap.size w).alloc (Nat.le_refl _) _ |>.alloc (by simp) _ |>.cell (p := ⟨R, 0, none⟩) (block_lt_of_cell hR)).trans hR)
 clear hb kb ko
 go_wp2_with fail
 refine ck (charge1_any (uh Hx) (uh Hok) (uh Hn) (uh Hl) n0 n1 d0 d1 k0 k1 v0 v1 ((((Below.refl w1.heap.size w1).alloc (Nat.le_refl _) _).cell (p := ⟨R, 0, none⟩) (block_lt_of_cell hR1)).trans hR1)) fun w2 hb => ?_
 have kb := ((uh Kb).alloc (.cells (I11 st be rk my gu lo hi hd ca ut wk) 294)).below hb (by simp; omega)
 have ko := ((uh Ko).alloc (.cells (I11 st be rk my gu lo hi hd ca ut wk) 294)).below hb (by simp; omega)
 have hsz2 : w1.heap.size + 1 ≤ w2.heap.size := by have := hb.size; simp at this; omega
 have hm0 : w.heap.size < w2.heap.size := by omega
 have hm1 : w.heap.size + 1 < w2.heap.size := by omega
 have B2 := hide ((((uh B1).alloc (by omega) (.cells (I11 st be rk my gu lo hi hd ca ut wk) 294))).trans (hb.mono (by simp; omega)))
 have Kb2 := hide kb
 have Ko2 := hide ko
 clear hb kb ko Kb Ko B1 c0 o0 of0 c1 o1 of1 c2 o2 of2 c3 o3 of3 c4 o4 of4 c5 o5 of5 c6 o6 of6 c7 o7 of7 c8 o8 of8 c9 o9 of9 c10 o10 of10 hR1
 go_wp2_with fail
 refine (implSmithOk_any st be rk my gu lo hi (hd + n) l ut (wk + work) _).mono ?_
 rw [uh Hs]
 rintro e w3 ⟨rfl, hb⟩
 have kb := ((uh Kb2).alloc (.cells (I11 st be rk my gu lo hi (hd + n) l ut (wk + work)) 39)).below hb (by simp; omega)
 have ko := ((uh Ko2).alloc (.cells (I11 st be rk my gu lo hi (hd + n) l ut (wk + work)) 39)).below hb (by simp; omega)
 have kn := (Blk.new w2 39 (I11 st be rk my gu lo hi (hd + n) l ut (wk + work))).below hb (by simp)
 have B3 := hide ((((uh B2).alloc (by omega) (.cells (I11 st be rk my gu lo hi (hd + n) l ut (wk + work)) 39))).trans (hb.mono (by simp; omega)))
 have hsz3 : w2.heap.size + 1 ≤ w3.heap.size := by have := hb.size; simp at this; omega
 have hn0 : w.heap.size < w3.heap.size := by omega
 have hn1 : w.heap.size + 1 < w3.heap.size := by omega
 obtain ⟨p0, p1, p2, p3, p4, p5, p6, p7, p8, p9, p10⟩ := kn.c11
 obtain ⟨o0, o1, o2, o3, o4, o5, o6, o7, o8, o9, o10⟩ := ko.c11
 obtain ⟨of0, of1, of2, of3, of4, of5, of6, of7, of8, of9, of10⟩ := ko.f11
 clear hb kb ko kn
 go_wp2_with fail
 refine bodyPost_ret (v := .tuple #[.agg (I11 st be rk my gu lo hi (hd + n) l ut (wk + work)), .bool true]) (by simp [results, Tryz.results259, go_sem, o0, o1, o2, o3, o4, o5, o6, o7, o8, o9, o10]) rfl ⟨rfl, ?_⟩
 iterate 11 (refine Below.setCell ?_ (by simp) _)
 exact uh B3
theorem changed_c_over {st be rk my gu lo hi hd ca ut wk : Int} {work x n l : Int} {R : Nat} {w : World} (hx : weightV rk = x) (hok : okShare work x ca = true) (hn : shareN work x ca = n) (hl : shareL work x ca = l) (n0 : 0 ≤ n) (n1 : n ≤ 400000)
  (d0 : -1000000000000 ≤ hd) (d1 : hd ≤ 1000000000000) (k0 : 0 ≤ wk) (k1 : wk ≤ 100000000000) (v0 : 0 ≤ work) (v1 : work ≤ 100000) (hR : w.cell? ⟨R, 0, none⟩ = some (.int .i64 work)) (hg : goneB (st, be, rk, my, gu, lo, hi, hd, ca, ut, wk) = false) (hp : presB (st, be, rk, my, gu, lo, hi, hd, ca, ut, wk) = true) (hs : smithB (st, be, rk, my, gu, lo, hi, (hd + n), l, ut, (wk + work)) = false) : Calls Tryz.prog 259 #[.agg (I11 st be rk my gu lo hi hd ca ut wk), .bool true, .func (.func 260) #[] #[.pointer (some ⟨R, 0, none⟩)]] w fun e w' => e = .returned (.tuple #[.agg (I11 st be rk my gu lo hi hd ca ut wk), .bool false]) ∧ Below w.heap.size w w' := by
 have Hg := hide hg
 have Hp := hide hp
 have Hs := hide hs
 clear hg hp hs
 have Hx := hide hx
 have Hok := hide hok
 have Hn := hide hn
 have Hl := hide hl
 clear hx hok hn hl
 have hRl : R < w.heap.size := block_lt_of_cell hR
 go_enter Tryz.func259, Tryz.ntmps259
 go_wp2_with fail
 refine ck (shapeOf_pres (uh Hg) (uh Hp) _) fun w1 hb => ?_
 have kb : Blk w1 w.heap.size 39 (I11 st be rk my gu lo hi hd ca ut wk) := ((Blk.new w 39 (I11 st be rk my gu lo hi hd ca ut wk)).alloc _).below hb (by simp; omega)
 have ko : Blk w1 (w.heap.size + 1) 39 E11 := by
  have k := Blk.new (w.alloc (.cells (I11 st be rk my gu lo hi hd ca ut wk) 39)) 39 E11
  rw [World.size_alloc] at k
  exact k.below hb (by simp)
 have hsz : w.heap.size + 2 ≤ w1.heap.size := by have := hb.size; simp at this; omega
 have hl0 : w.heap.size < w1.heap.size := by omega
 have hl1 : w.heap.size + 1 < w1.heap.size := by omega
 have B1 := hide ((((Below.refl w.heap.size w).alloc (Nat.le_refl _) _).alloc (by simp) _).trans (hb.mono (by simp; omega)))
 have Kb := hide kb
 have Ko := hide ko
 obtain ⟨c0, c1, c2, c3, c4, c5, c6, c7, c8, c9, c10⟩ := kb.c11
 obtain ⟨o0, o1, o2, o3, o4, o5, o6, o7, o8, o9, o10⟩ := ko.c11
 obtain ⟨of0, of1, of2, of3, of4, of5, of6, of7, of8, of9, of10⟩ := ko.f11
 have hR1 : w1.cell? ⟨R, 0, none⟩ = some (.int .i64 work) := (hb.cell (p := ⟨R, 0, none⟩) (by simp; omega)).trans (((Below.refl w.heap.size w).alloc (Nat.le_refl _) _ |>.alloc (by simp) _ |>.cell (p := ⟨R, 0, none⟩) (block_lt_of_cell hR)).trans hR)
 clear hb kb ko
 go_wp2_with fail
 refine ck (charge1_any (uh Hx) (uh Hok) (uh Hn) (uh Hl) n0 n1 d0 d1 k0 k1 v0 v1 ((((Below.refl w1.heap.size w1).alloc (Nat.le_refl _) _).cell (p := ⟨R, 0, none⟩) (block_lt_of_cell hR1)).trans hR1)) fun w2 hb => ?_
 have kb := ((uh Kb).alloc (.cells (I11 st be rk my gu lo hi hd ca ut wk) 294)).below hb (by simp; omega)
 have ko := ((uh Ko).alloc (.cells (I11 st be rk my gu lo hi hd ca ut wk) 294)).below hb (by simp; omega)
 have hsz2 : w1.heap.size + 1 ≤ w2.heap.size := by have := hb.size; simp at this; omega
 have hm0 : w.heap.size < w2.heap.size := by omega
 have hm1 : w.heap.size + 1 < w2.heap.size := by omega
 have B2 := hide ((((uh B1).alloc (by omega) (.cells (I11 st be rk my gu lo hi hd ca ut wk) 294))).trans (hb.mono (by simp; omega)))
 have Kb2 := hide kb
 have Ko2 := hide ko
 clear hb kb ko Kb Ko B1 c0 o0 of0 c1 o1 of1 c2 o2 of2 c3 o3 of3 c4 o4 of4 c5 o5 of5 c6 o6 of6 c7 o7 of7 c8 o8 of8 c9 o9 of9 c10 o10 of10 hR1
 go_wp2_with fail
 refine (implSmithOk_any st be rk my gu lo hi (hd + n) l ut (wk + work) _).mono ?_
 rw [uh Hs]
 rintro e w3 ⟨rfl, hb⟩
 have kb := ((uh Kb2).alloc (.cells (I11 st be rk my gu lo hi (hd + n) l ut (wk + work)) 39)).below hb (by simp; omega)
 have ko := ((uh Ko2).alloc (.cells (I11 st be rk my gu lo hi (hd + n) l ut (wk + work)) 39)).below hb (by simp; omega)
 have kn := (Blk.new w2 39 (I11 st be rk my gu lo hi (hd + n) l ut (wk + work))).below hb (by simp)
 have B3 := hide ((((uh B2).alloc (by omega) (.cells (I11 st be rk my gu lo hi (hd + n) l ut (wk + work)) 39))).trans (hb.mono (by simp; omega)))
 have hsz3 : w2.heap.size + 1 ≤ w3.heap.size := by have := hb.size; simp at this; omega
 have hn0 : w.heap.size < w3.heap.size := by omega
 have hn1 : w.heap.size + 1 < w3.heap.size := by omega
 obtain ⟨p0, p1, p2, p3, p4, p5, p6, p7, p8, p9, p10⟩ := kb.c11
 obtain ⟨o0, o1, o2, o3, o4, o5, o6, o7, o8, o9, o10⟩ := ko.c11
 obtain ⟨of0, of1, of2, of3, of4, of5, of6, of7, of8, of9, of10⟩ := ko.f11
 clear hb kb ko kn
 go_wp2_with fail
 refine bodyPost_ret (v := .tuple #[.agg (I11 st be rk my gu lo hi hd ca ut wk), .bool false]) (by simp [results, Tryz.results259, go_sem, o0, o1, o2, o3, o4, o5, o6, o7, o8, o9, o10]) rfl ⟨rfl, ?_⟩
 iterate 11 (refine Below.setCell ?_ (by simp) _)
 exact uh B3
end Go.Proofs.YtffcgajndmhpkaaGreatDoor
namespace Go.Proofs.YtffcgajndmhpkaaGreatDoor
open Go.ChangeShapes Go.WideShapes Go.ChangeAt Go.RowKit Go.Sort
set_option linter.unusedVariables false
theorem Blk.second (w : World) (a : Obj) (t : TypeId) (cs : Array Value) : Blk ((w.alloc a).alloc (.cells cs t)) (w.heap.size + 1) t cs := by
 have k := Blk.new (w.alloc a) t cs
 rw [World.size_alloc] at k
 exact k
theorem Blk.third (w : World) (a b : Obj) (t : TypeId) (cs : Array Value) : Blk (((w.alloc a).alloc b).alloc (.cells cs t)) (w.heap.size + 1 + 1) t cs := by
 have k := Blk.new ((w.alloc a).alloc b) t cs
 rw [World.size_alloc, World.size_alloc] at k
 exact k
theorem charged_of {st be rk my gu lo hi hd ca ut wk y0 y1 y2 y3 y4 y5 y6 y7 y8 y9 y10 work : Int} {q : Bool} (w : World)
  (hC : ∀ (R : Nat) (W : World), W.cell? ⟨R, 0, none⟩ = some (.int .i64 work) → Calls Tryz.prog 259 #[.agg (I11 st be rk my gu lo hi hd ca ut wk), .bool (inB work 0 100000), .func (.func 260) #[] #[.pointer (some ⟨R, 0, none⟩)]] W fun e w' => e = .returned (.tuple #[.agg (I11 y0 y1 y2 y3 y4 y5 y6 y7 y8 y9 y10), .bool q]) ∧ Below W.heap.size W w') :
  Calls Tryz.prog 208 #[.agg (I11 st be rk my gu lo hi hd ca ut wk), .int .i64 work] w fun e w' => e = .returned (.tuple #[.agg (I11 y0 y1 y2 y3 y4 y5 y6 y7 y8 y9 y10), .bool q]) ∧ Below w.heap.size w w' := by
 have HC := hide hC
 clear hC
 go_enter Tryz.func208, Tryz.ntmps208
 go_wp2_with fail
 go_region_with (first
  | (go_at_call 117; refine (liesFrom_any _ _ _ _).mono ?_; rintro e w' ⟨rfl, rfl⟩)
  | (go_at_call 259; refine Calls.mono (uh HC (w.heap.size + 1) _ ?_) ?_; exact ((Blk.second w _ 2 #[.int .i64 work]).alloc _).cell rfl; rintro e w1 ⟨rfl, hb⟩; have ko : Blk w1 (w.heap.size + 1 + 1) 39 E11 := (hb.block (w.heap.size + 1 + 1) (by simp)).trans (Blk.third w _ _ 39 E11); have hsz : w.heap.size + 3 ≤ w1.heap.size := (by have := hb.size; simp at this; omega); have B1 : Hid (Below w.heap.size w w1) := hide ((((((Below.refl w.heap.size w).alloc (Nat.le_refl _) _).alloc (by simp) _).alloc (by simp; omega) _).drew).trans (hb.mono (by simp; omega))); have o0 := ko.cell (i := 0) (v := .int .i64 0) rfl; have o1 := ko.cell (i := 1) (v := .int .i64 0) rfl; have o2 := ko.cell (i := 2) (v := .int .i64 0) rfl; have o3 := ko.cell (i := 3) (v := .int .i64 0) rfl; have o4 := ko.cell (i := 4) (v := .int .i64 0) rfl; have o5 := ko.cell (i := 5) (v := .int .i64 0) rfl; have o6 := ko.cell (i := 6) (v := .int .i64 0) rfl; have o7 := ko.cell (i := 7) (v := .int .i64 0) rfl; have o8 := ko.cell (i := 8) (v := .int .i64 0) rfl; have o9 := ko.cell (i := 9) (v := .int .i64 0) rfl; have o10 := ko.cell (i := 10) (v := .int .i64 0) rfl; have of0 := ko.free 0; have of1 := ko.free 1; have of2 := ko.free 2; have of3 := ko.free 3; have of4 := ko.free 4; have of5 := ko.free 5; have of6 := ko.free 6; have of7 := ko.free 7; have of8 := ko.free 8; have of9 := ko.free 9; have of10 := ko.free 10; clear hb ko))
 all_goals
  go_wp2_with fail
  refine bodyPost_ret (v := .tuple #[.agg (I11 y0 y1 y2 y3 y4 y5 y6 y7 y8 y9 y10), .bool q]) (by simp [results, Tryz.results208, go_sem, o0, o1, o2, o3, o4, o5, o6, o7, o8, o9, o10]) rfl ⟨rfl, ?_⟩
  iterate 11 (refine Below.setCell ?_ (by simp; omega) _)
  exact uh B1
theorem smithB_stK {x : SmithV} (h : x.1 ≠ 0) : smithB x = presB x := by unfold smithB; rw [goneB_st h, Bool.false_or]
theorem chargedV_goneK {x : SmithV} (work : Int) (hg : goneB x = true) : chargedV x work = (zeroS, false) := by
 have e := goneB_of hg
 subst e
 rfl
theorem chargedV_wrongK {x : SmithV} (work : Int) (hg : goneB x = false) (hp : presB x = false) : chargedV x work = (zeroS, false) := by unfold chargedV; rw [hp, hg]; rfl
theorem chargedV_noK {x : SmithV} {work : Int} (hp : presB x = true) (hw : inB work 0 100000 = false) : chargedV x work = (x, false) := by unfold chargedV; rw [hp, hw]; rfl
theorem chargedV_inK {x : SmithV} {work : Int} {q : Bool} (hp : presB x = true) (hw : inB work 0 100000 = true) (hq : presB (putOn x work) = q) : chargedV x work = (if q then putOn x work else x, q) := by unfold chargedV; rw [hp, hw, hq]; cases q <;> rfl
theorem implCharged_w {x y : SmithV} {work : Int} {q : Bool} (h : chargedV x work = (y, q)) (w : World) : Calls Tryz.prog 208 #[.agg (encSmith x).toArray, .int .i64 work] w fun e w' => e = .returned (.tuple #[.agg (encSmith y).toArray, .bool q]) ∧ Below w.heap.size w w' := by
 obtain ⟨st, be, rk, my, gu, lo, hi, hd, ca, ut, wk⟩ := x
 cases hg : goneB (st, be, rk, my, gu, lo, hi, hd, ca, ut, wk)
 ·cases hp : presB (st, be, rk, my, gu, lo, hi, hd, ca, ut, wk)
  ·rw [chargedV_wrongK work hg hp] at h
   obtain ⟨rfl, rfl⟩ := Prod.mk.inj h
   exact charged_of w fun R W hR => changed_wrong hg hp _ _ _
  ·cases hw : inB work 0 100000
   ·rw [chargedV_noK hp hw] at h
    obtain ⟨rfl, rfl⟩ := Prod.mk.inj h
    exact charged_of w fun R W hR => by rw [hw]; exact changed_no hg hp _ _
   ·obtain ⟨v0, v1⟩ := inB_of hw
    obtain ⟨⟨s0, s1⟩, _, hr, _, _, _, ⟨d0, d1⟩, ⟨a0, a1⟩, _, ⟨k0, k1⟩⟩ := presB_of hp
    have hr0 := weight_pos hr
    have hr1 := (weight_in rk).2
    have a2 : ca ≤ 3125 := by omega
    obtain ⟨hok, n0, n1, _, _, _⟩ := share_in v0 v1 hr0 hr1 a0 a1
    cases hq : presB (putOn (st, be, rk, my, gu, lo, hi, hd, ca, ut, wk) work)
    ·rw [chargedV_inK hp hw hq] at h
     obtain ⟨rfl, rfl⟩ := Prod.mk.inj h
     exact charged_of w fun R W hR => by rw [hw]; exact changed_c_over rfl hok rfl rfl n0 n1 d0 d1 k0 k1 v0 v1 hR hg hp ((smithB_stK (x := putOn (st, be, rk, my, gu, lo, hi, hd, ca, ut, wk) work) (show st ≠ 0 by omega)).trans hq)
    ·rw [chargedV_inK hp hw hq] at h
     obtain ⟨rfl, rfl⟩ := Prod.mk.inj h
     exact charged_of w fun R W hR => by rw [hw]; exact changed_c_yes rfl hok rfl rfl n0 n1 d0 d1 k0 k1 v0 v1 hR hg hp ((smithB_stK (x := putOn (st, be, rk, my, gu, lo, hi, hd, ca, ut, wk) work) (show st ≠ 0 by omega)).trans hq)
 ·rw [chargedV_goneK work hg] at h
  obtain ⟨rfl, rfl⟩ := Prod.mk.inj h
  cases goneB_of hg
  exact charged_of w fun R W hR => changed_gone _ _ _
set_option maxRecDepth 100000
def openD1 (d : DeskV) : Bool := d.1
theorem hasDesk_any (a : Option Addr) (n cap : Nat) (i : Int) (w : World) : Calls Tryz.prog 171 #[.slice a n cap, .int .i64 i] w fun e w' => e = .returned (.bool (hasB n i)) ∧ w' = w := by
 by_cases h0 : 0 ≤ i
 ·by_cases h1 : i < (n : Int)
  all_goals
   go_enter Tryz.func171, Tryz.ntmps171
   go_wp2_with fail
   go_ret
   exact ⟨ret_bool (by unfold hasB; simp [h0, h1]), rfl⟩
 ·go_enter Tryz.func171, Tryz.ntmps171
  go_wp2_with fail
  go_ret
  exact ⟨ret_bool (by unfold hasB; simp; omega), rfl⟩
theorem hasGuild_any (a : Option Addr) (n cap : Nat) (i : Int) (w : World) : Calls Tryz.prog 271 #[.slice a n cap, .int .i64 i] w fun e w' => e = .returned (.bool (hasB n i)) ∧ w' = w := by
 by_cases h0 : 0 ≤ i
 ·by_cases h1 : i < (n : Int)
  all_goals
   go_enter Tryz.func271, Tryz.ntmps271
   go_wp2_with fail
   go_ret
   exact ⟨ret_bool (by unfold hasB; simp [h0, h1]), rfl⟩
 ·go_enter Tryz.func271, Tryz.ntmps271
  go_wp2_with fail
  go_ret
  exact ⟨ret_bool (by unfold hasB; simp; omega), rfl⟩
theorem hasPace_any (a : Option Addr) (n cap : Nat) (i : Int) (w : World) : Calls Tryz.prog 119 #[.slice a n cap, .int .i64 i] w fun e w' => e = .returned (.bool (hasB n i)) ∧ w' = w := by
 by_cases h0 : 0 ≤ i
 ·by_cases h1 : i < (n : Int)
  all_goals
   go_enter Tryz.func119, Tryz.ntmps119
   go_wp2_with fail
   go_ret
   exact ⟨ret_bool (by unfold hasB; simp [h0, h1]), rfl⟩
 ·go_enter Tryz.func119, Tryz.ntmps119
  go_wp2_with fail
  go_ret
  exact ⟨ret_bool (by unfold hasB; simp; omega), rfl⟩
theorem isGone_any (st be rk my gu lo hi hd ca ut wk : Int) (w : World) : Calls Tryz.prog 170 #[.agg (I11 st be rk my gu lo hi hd ca ut wk)] w fun e w' => e = .returned (.bool (st == 0)) ∧ Below w.heap.size w w' := by
 go_enter Tryz.func170, Tryz.ntmps170
 go_wp2_with fail
 go_ret
 exact ⟨rfl, (ba _ _)⟩
theorem isAway_any (st be rk my gu lo hi hd ca ut wk : Int) (w : World) : Calls Tryz.prog 172 #[.agg (I11 st be rk my gu lo hi hd ca ut wk)] w fun e w' => e = .returned (.bool (st == 1)) ∧ Below w.heap.size w w' := by
 go_enter Tryz.func172, Tryz.ntmps172
 go_wp2_with fail
 go_ret
 exact ⟨rfl, (ba _ _)⟩
theorem isOpen_any (op : Bool) (who mk : Int) (w : World) : Calls Tryz.prog 173 #[.agg #[.bool op, .int .i64 who, .int .i64 mk]] w fun e w' => e = .returned (.bool op) ∧ Below w.heap.size w w' := by
 go_enter Tryz.func173, Tryz.ntmps173
 go_wp2_with fail
 go_ret
 exact ⟨rfl, (ba _ _)⟩
theorem hasMark_any (op : Bool) (who mk : Int) (w : World) : Calls Tryz.prog 218 #[.agg #[.bool op, .int .i64 who, .int .i64 mk]] w fun e w' => e = .returned (.bool (deskB (op, who, mk))) ∧ Below w.heap.size w w' := by
 go_enter Tryz.func218, Tryz.ntmps218
 go_wp2_with fail
 refine (liesFrom_any _ _ _ _).mono ?_
 rintro e w' ⟨rfl, h9⟩
 subst w'
 go_wp2_with fail
 go_ret
 exact ⟨rfl, (ba _ _)⟩
theorem isAt_any (st be rk my gu lo hi hd ca ut wk b : Int) (w : World) : Calls Tryz.prog 227 #[.agg (I11 st be rk my gu lo hi hd ca ut wk), .int .i64 b] w fun e w' => e = .returned (.bool (atB b (st, be, rk, my, gu, lo, hi, hd, ca, ut, wk))) ∧ Below w.heap.size w w' := by
 by_cases h2 : st = 2
 ·subst h2
  go_enter Tryz.func227, Tryz.ntmps227
  go_wp2_with fail
  go_ret
  exact ⟨ret_bool (by unfold atB; simp), (ba _ _)⟩
 have n2 : (st == 2) = false := by simpa using h2
 by_cases h3 : st = 3
 ·subst h3
  go_enter Tryz.func227, Tryz.ntmps227
  go_wp2_with fail
  go_ret
  exact ⟨ret_bool (by unfold atB; simp), (ba _ _)⟩
 have n3 : (st == 3) = false := by simpa using h3
 go_enter Tryz.func227, Tryz.ntmps227
 go_wp2_with fail
 go_ret
 exact ⟨ret_bool (by unfold atB; simp [n2, n3]), (ba _ _)⟩
theorem worksAt_any (st be rk my gu lo hi hd ca ut wk b : Int) (w : World) : Calls Tryz.prog 229 #[.agg (I11 st be rk my gu lo hi hd ca ut wk), .int .i64 b] w fun e w' => e = .returned (.bool (worksB b (st, be, rk, my, gu, lo, hi, hd, ca, ut, wk))) ∧ Below w.heap.size w w' := by
 by_cases h3 : st = 3
 ·subst h3
  go_enter Tryz.func229, Tryz.ntmps229
  go_wp2_with fail
  go_ret
  exact ⟨ret_bool (by unfold worksB; simp), (ba _ _)⟩
 have n3 : (st == 3) = false := by simpa using h3
 go_enter Tryz.func229, Tryz.ntmps229
 go_wp2_with fail
 go_ret
 exact ⟨ret_bool (by unfold worksB; simp [n3]), (ba _ _)⟩
theorem whoIsAt1_any (st be rk my gu lo hi hd ca ut wk b : Int) (R : Nat) (w : World) (hc : w.cell? ⟨R, 0, none⟩ = some (.int .i64 b)) (hR : R < w.heap.size) : Calls Tryz.prog 226 #[.agg (I11 st be rk my gu lo hi hd ca ut wk), .pointer (some ⟨R, 0, none⟩)] w fun e w' => e = .returned (.bool (atB b (st, be, rk, my, gu, lo, hi, hd, ca, ut, wk))) ∧ Below w.heap.size w w' := by
 have hne : R ≠ w.heap.size := Nat.ne_of_lt hR
 go_enter Tryz.func226, Tryz.ntmps226
 go_wp2_with fail
 refine ck (isAt_any st be rk my gu lo hi hd ca ut wk b _) fun w1 hb => ?_
 have Hb := hide (((Below.refl w.heap.size w).alloc (Nat.le_refl _) _).trans (hb.mono (by simp)))
 clear hb
 go_wp2_with fail
 go_ret
 exact ⟨rfl, uh Hb⟩
theorem whoWorksAt1_any (st be rk my gu lo hi hd ca ut wk b : Int) (R : Nat) (w : World) (hc : w.cell? ⟨R, 0, none⟩ = some (.int .i64 b)) (hR : R < w.heap.size) : Calls Tryz.prog 228 #[.agg (I11 st be rk my gu lo hi hd ca ut wk), .pointer (some ⟨R, 0, none⟩)] w fun e w' => e = .returned (.bool (worksB b (st, be, rk, my, gu, lo, hi, hd, ca, ut, wk))) ∧ Below w.heap.size w w' := by
 have hne : R ≠ w.heap.size := Nat.ne_of_lt hR
 go_enter Tryz.func228, Tryz.ntmps228
 go_wp2_with fail
 refine ck (worksAt_any st be rk my gu lo hi hd ca ut wk b _) fun w1 hb => ?_
 have Hb := hide (((Below.refl w.heap.size w).alloc (Nat.le_refl _) _).trans (hb.mono (by simp)))
 clear hb
 go_wp2_with fail
 go_ret
 exact ⟨rfl, uh Hb⟩
theorem guildIsThere_any (st be rk my gu lo hi hd ca ut wk : Int) (a : Option Addr) (n cap : Nat) (w : World) : Calls Tryz.prog 216 #[.agg (I11 st be rk my gu lo hi hd ca ut wk), .slice a n cap] w fun e w' => e = .returned (.bool (thereB n (st, be, rk, my, gu, lo, hi, hd, ca, ut, wk))) ∧ Below w.heap.size w w' := by
 have hx : ∀ q : Bool, Calls Tryz.prog 216 #[.agg (I11 st be rk my gu lo hi hd ca ut wk), .slice a n cap] w (fun e w' => e = .returned (.bool q) ∧ Below w.heap.size w w') → q = thereB n (st, be, rk, my, gu, lo, hi, hd, ca, ut, wk) → Calls Tryz.prog 216 #[.agg (I11 st be rk my gu lo hi hd ca ut wk), .slice a n cap] w fun e w' => e = .returned (.bool (thereB n (st, be, rk, my, gu, lo, hi, hd, ca, ut, wk))) ∧ Below w.heap.size w w' := fun q h e => by rw [← e]; exact h
 by_cases h0 : st = 0
 ·subst h0
  refine hx true ?_ (by unfold thereB; simp)
  go_enter Tryz.func216, Tryz.ntmps216
  go_wp2_with fail
  refine ck (isGone_any 0 be rk my gu lo hi hd ca ut wk _) fun w1 hb => ?_
  have Hb := hide (((Below.refl w.heap.size w).alloc (Nat.le_refl _) _).trans (hb.mono (by simp)))
  clear hb
  go_wp2_with fail
  go_ret
  exact ⟨rfl, uh Hb⟩
 have n0 : (st == 0) = false := by simpa using h0
 by_cases h1 : gu = -1
 ·subst h1
  refine hx true ?_ (by unfold thereB; simp)
  go_enter Tryz.func216, Tryz.ntmps216
  go_wp2_with fail
  refine (isGone_any st be rk my (-1) lo hi hd ca ut wk _).mono ?_
  rw [n0]
  rintro e w1 ⟨rfl, hb⟩
  have c4 : w1.cell? ⟨w.heap.size, 4, none⟩ = some (.int .i64 (-1)) := (hb.cell (p := ⟨w.heap.size, 4, none⟩) (by simp)).trans (cell_new _ rfl)
  have Hb := hide (((Below.refl w.heap.size w).alloc (Nat.le_refl _) _).trans (hb.mono (by simp)))
  clear hb
  go_wp2_with fail
  go_ret
  exact ⟨rfl, uh Hb⟩
 have n1 : (gu == -1) = false := by simpa using h1
 refine hx (hasB n gu) ?_ (by unfold thereB; simp [n0, n1])
 go_enter Tryz.func216, Tryz.ntmps216
 go_wp2_with fail
 refine (isGone_any st be rk my gu lo hi hd ca ut wk _).mono ?_
 rw [n0]
 rintro e w1 ⟨rfl, hb⟩
 have c4 : w1.cell? ⟨w.heap.size, 4, none⟩ = some (.int .i64 gu) := (hb.cell (p := ⟨w.heap.size, 4, none⟩) (by simp)).trans (cell_new _ rfl)
 have Hb := hide (((Below.refl w.heap.size w).alloc (Nat.le_refl _) _).trans (hb.mono (by simp)))
 clear hb
 go_wp2_with fail
 refine ck (hasGuild_any a n cap gu _) fun w2 h9 => ?_
 subst w2
 go_wp2_with fail
 go_ret
 exact ⟨rfl, uh Hb⟩
theorem smithsOk1_any (st be rk my gu lo hi hd ca ut wk : Int) (R : Nat) (a : Option Addr) (n cap : Nat) (w : World) (hc : w.cell? ⟨R, 0, none⟩ = some (.slice a n cap)) (hR : R < w.heap.size) : Calls Tryz.prog 215 #[.agg (I11 st be rk my gu lo hi hd ca ut wk), .pointer (some ⟨R, 0, none⟩)] w fun e w' => e = .returned (.bool (thereB n (st, be, rk, my, gu, lo, hi, hd, ca, ut, wk))) ∧ Below w.heap.size w w' := by
 have hne : R ≠ w.heap.size := Nat.ne_of_lt hR
 go_enter Tryz.func215, Tryz.ntmps215
 go_wp2_with fail
 refine ck (guildIsThere_any st be rk my gu lo hi hd ca ut wk a n cap _) fun w1 hb => ?_
 have Hb := hide (((Below.refl w.heap.size w).alloc (Nat.le_refl _) _).trans (hb.mono (by simp)))
 clear hb
 go_wp2_with fail
 go_ret
 exact ⟨rfl, uh Hb⟩
theorem Calls.bool_of {P : Program} {f : FuncId} {args : Array Value} {w : World} {q q' : Bool} (h : Calls P f args w fun e w' => e = .returned (.bool q) ∧ Below w.heap.size w w') (e : q = q') : Calls P f args w fun e w' => e = .returned (.bool q') ∧ Below w.heap.size w w' := by rw [← e]; exact h
theorem isInPlace_any (st be rk my gu lo hi hd ca ut wk : Int) {v : Value} {ds : List DeskV} {w : World} (h : IsDesks w v ds) : Calls Tryz.prog 112 #[.agg (I11 st be rk my gu lo hi hd ca ut wk), v] w fun e w' => e = .returned (.bool (placeB ds (st, be, rk, my, gu, lo, hi, hd, ca, ut, wk))) ∧ Below w.heap.size w w' := by
 obtain ⟨a, cap, rfl, hc, hm, hr⟩ := h
 have Hr := hide hr
 clear hr
 by_cases h0 : st = 0
 ·subst h0
  refine Calls.bool_of (q := true) ?_ (by unfold placeB; simp)
  go_enter Tryz.func112, Tryz.ntmps112
  go_wp2_with fail
  refine ck (isGone_any 0 be rk my gu lo hi hd ca ut wk _) fun w1 hb => ?_
  have Hb := hide (((Below.refl w.heap.size w).alloc (Nat.le_refl _) _).trans (hb.mono (by simp)))
  clear hb
  go_wp2_with fail
  go_ret
  exact ⟨rfl, uh Hb⟩
 have n0 : (st == 0) = false := by simpa using h0
 cases hh : hasB ds.length be
 ·refine Calls.bool_of (q := false) ?_ (by unfold placeB; simp only [n0, hh]; rfl)
  have Hh := hide hh
  clear hh
  go_enter Tryz.func112, Tryz.ntmps112
  go_wp2_with fail
  refine (isGone_any st be rk my gu lo hi hd ca ut wk _).mono ?_
  rw [n0]
  rintro e w1 ⟨rfl, hb⟩
  have c1 : w1.cell? ⟨w.heap.size, 1, none⟩ = some (.int .i64 be) := (hb.cell (p := ⟨w.heap.size, 1, none⟩) (by simp)).trans (cell_new _ rfl)
  have Hb := hide (((Below.refl w.heap.size w).alloc (Nat.le_refl _) _).trans (hb.mono (by simp)))
  clear hb
  go_wp2_with fail
  refine (hasDesk_any a ds.length cap be _).mono ?_
  rw [uh Hh]
  rintro e w2 ⟨rfl, h9⟩
  subst w2
  go_wp2_with fail
  go_ret
  exact ⟨rfl, uh Hb⟩
 have hbe : 0 ≤ be ∧ be < (ds.length : Int) := by unfold hasB at hh; simpa using hh
 obtain ⟨j, rfl⟩ : ∃ j : Nat, be = j := ⟨be.toNat, by omega⟩
 have hj : j < ds.length := by omega
 have hj1 : (j : Int) < (ds.length : Int) := by omega
 rcases uh Hr with e0 | ⟨b, off, rfl, hbw, hcl⟩
 ·rw [e0] at hj; simp at hj
 obtain ⟨t0, t1, t2⟩ := desk_cells hcl hj
 have hD : placeB ds (st, (j : Int), rk, my, gu, lo, hi, hd, ca, ut, wk) = (st == 1 || ((recAt ds j).1 && (memB my j && inBandB hd (recAt ds j).2.2))) := by
  unfold placeB
  simp only [n0, hh, Int.toNat_natCast, Bool.false_or, Bool.true_and]
 have HD := hide hD
 have Hh := hide hh
 clear hD hh hcl Hr
 generalize recAt ds j = d at *
 obtain ⟨op, who, mk⟩ := d
 simp only at t0 t1 t2
 obtain ⟨qm, hqm⟩ : ∃ q, memB my j = q := ⟨_, rfl⟩
 have Hm := hide hqm
 obtain ⟨qb, hqb⟩ : ∃ q, inBandB hd mk = q := ⟨_, rfl⟩
 have Hbd := hide hqb
 clear hqm hqb
 refine Calls.bool_of (q := (st == 1 || (op && (qm && qb)))) ?_ (by rw [uh HD, uh Hm, uh Hbd])
 clear HD
 go_enter Tryz.func112, Tryz.ntmps112
 go_wp2_with fail
 refine (isGone_any st (j : Int) rk my gu lo hi hd ca ut wk _).mono ?_
 rw [n0]
 rintro e w1 ⟨rfl, hb⟩
 have SB : Hid (Blk w1 w.heap.size 39 (I11 st j rk my gu lo hi hd ca ut wk)) := hide ((Blk.new w _ _).below hb (by simp))
 have Hb := hide (((Below.refl w.heap.size w).alloc (Nat.le_refl _) _).trans (hb.mono (by simp)))
 rw [← (uh Hb).cell (p := ⟨b, off + j * 3, none⟩) hbw] at t0
 rw [← (uh Hb).cell (p := ⟨b, off + j * 3 + 1, none⟩) hbw] at t1
 rw [← (uh Hb).cell (p := ⟨b, off + j * 3 + 2, none⟩) hbw] at t2
 clear hb
 have s1 := (uh SB).cell (i := 1) (v := .int .i64 j) rfl
 go_wp2_with fail
 refine (hasDesk_any _ ds.length cap (j : Int) _).mono ?_
 rw [uh Hh]
 rintro e w2 ⟨rfl, h9⟩
 subst w2
 clear s1
 have s1 := (uh SB).cell (i := 1) (v := .int .i64 j) rfl
 have hbw1 : b < w1.heap.size := Nat.lt_of_lt_of_le hbw (uh Hb).size
 have hl0 := (uh SB).lt
 go_upto_region 6 with fail
 clear t0 t1 t2 s1
 replace SB : Hid (Blk (w1.alloc (.cells #[.bool op, .int .i64 who, .int .i64 mk] 53)) w.heap.size 39 (I11 st j rk my gu lo hi hd ca ut wk)) := hide ((uh SB).alloc _)
 have DB : Hid (Blk (w1.alloc (.cells #[.bool op, .int .i64 who, .int .i64 mk] 53)) w1.heap.size 53 #[.bool op, .int .i64 who, .int .i64 mk]) := hide (Blk.new w1 _ _)
 replace Hb : Hid (Below w.heap.size w (w1.alloc (.cells #[.bool op, .int .i64 who, .int .i64 mk] 53))) := hide ((uh Hb).alloc (uh Hb).size _)
 generalize w1.alloc (.cells #[.bool op, .int .i64 who, .int .i64 mk] 53) = W at *
 generalize w1.heap.size = db at *
 obtain ⟨s0, s1, s2, s3, s4, s5, s6, s7, s8, s9, s10⟩ := (uh SB).c11
 go_wp2_with fail
 refine ck (isAway_any st (j : Int) rk my gu lo hi hd ca ut wk _) fun w3 hb => ?_
 replace SB := bl SB hb
 replace DB := bl DB hb
 replace Hb := hide ((uh Hb).trans (hb.mono (uh Hb).size))
 clear hb s0 s1 s2 s3 s4 s5 s6 s7 s8 s9 s10
 by_cases h1 : st = 1
 ·subst h1
  go_wp2_with fail
  go_ret
  exact ⟨ret_bool (by simp), uh Hb⟩
 have n1 : (st == 1) = false := by simpa using h1
 rw [n1]
 have g0 := (uh DB).cell (i := 0) (v := .bool op) rfl
 have g1 := (uh DB).cell (i := 1) (v := .int .i64 who) rfl
 have g2 := (uh DB).cell (i := 2) (v := .int .i64 mk) rfl
 go_wp2_with fail
 refine ck (isOpen_any op who mk _) fun w4 hb => ?_
 replace SB := bl SB hb
 replace DB := bl DB hb
 replace Hb := hide ((uh Hb).trans (hb.mono (uh Hb).size))
 clear hb g0 g1 g2
 cases op
 ·go_wp2_with fail
  go_ret
  exact ⟨ret_bool (by simp [h1]), uh Hb⟩
 have s1 := (uh SB).cell (i := 1) (v := .int .i64 j) rfl
 have s3 := (uh SB).cell (i := 3) (v := .int .i64 my) rfl
 have s7 := (uh SB).cell (i := 7) (v := .int .i64 hd) rfl
 have g2 := (uh DB).cell (i := 2) (v := .int .i64 mk) rfl
 go_wp2_with fail
 refine (implInSet_any my (j : Int) _).mono ?_
 rw [uh Hm]
 rintro e w5 ⟨rfl, h9⟩
 subst w5
 cases qm
 ·go_wp2_with fail
  go_ret
  exact ⟨ret_bool (by simp [h1]), uh Hb⟩
 go_wp2_with fail
 refine (implInBand_any hd mk _).mono ?_
 rw [uh Hbd]
 rintro e w6 ⟨rfl, hb⟩
 replace Hb := hide ((uh Hb).trans (hb.mono (uh Hb).size))
 clear hb
 go_wp2_with fail
 go_ret
 exact ⟨ret_bool (by simp [h1]), uh Hb⟩
theorem allOk_any {w : World} {v : Value} {ss : List SmithV} (h : IsSmiths w v ss) : Calls Tryz.prog 110 #[v, .func (Fn.func 214) #[] #[]] w fun e w' => e = .returned (.bool (allTo smithB ss ss.length)) ∧ Below w.heap.size w w' := by
 obtain ⟨a, cap, rfl, hc, hm, hr⟩ := h
 have Hr := hide hr
 clear hr
 go_enter Tryz.func110, Tryz.ntmps110
 go_wp2_with fail
 go_loopw [9] (fun i wr => ∃ k : Nat, k ≤ ss.length ∧ i = .int .i64 k ∧ allTo smithB ss k = true ∧ Below w.heap.size w wr) (fun i _ => ss.length - (intOf i).toNat)
 case atStart => exact ⟨0, Nat.zero_le _, rfl, rfl, Below.refl _ _⟩
 case round =>
  obtain ⟨k, hk, rfl, hst, hb0⟩ := hrel
  have Hst := hide hst
  have BB := hide hb0
  by_cases hlt : k < ss.length
  ·have hlt1 : (k : Int) < (ss.length : Int) := by omega
   rcases uh Hr with e0 | ⟨b, off, rfl, hbw, hcl⟩
   ·rw [e0] at hlt; simp at hlt
   obtain ⟨d0, d1, d2, d3, d4, d5, d6, d7, d8, d9, d10⟩ := smith_cells hcl hlt
   rw [← hb0.cell (p := ⟨b, off + k * 11, none⟩) hbw] at d0
   rw [← hb0.cell (p := ⟨b, off + k * 11 + 1, none⟩) hbw] at d1
   rw [← hb0.cell (p := ⟨b, off + k * 11 + 2, none⟩) hbw] at d2
   rw [← hb0.cell (p := ⟨b, off + k * 11 + 3, none⟩) hbw] at d3
   rw [← hb0.cell (p := ⟨b, off + k * 11 + 4, none⟩) hbw] at d4
   rw [← hb0.cell (p := ⟨b, off + k * 11 + 5, none⟩) hbw] at d5
   rw [← hb0.cell (p := ⟨b, off + k * 11 + 6, none⟩) hbw] at d6
   rw [← hb0.cell (p := ⟨b, off + k * 11 + 7, none⟩) hbw] at d7
   rw [← hb0.cell (p := ⟨b, off + k * 11 + 8, none⟩) hbw] at d8
   rw [← hb0.cell (p := ⟨b, off + k * 11 + 9, none⟩) hbw] at d9
   rw [← hb0.cell (p := ⟨b, off + k * 11 + 10, none⟩) hbw] at d10
   have HU := hide (fun hh => allTo_up (p := smithB) (xs := ss) (k := k) hst hh)
   have HN := hide (fun hh => allTo_no (p := smithB) (xs := ss) hlt hh)
   clear hcl hst hb0
   generalize recAt ss k = s at *
   obtain ⟨st, be, rk, my, gu, lo, hi, hd, ca, ut, wk⟩ := s
   simp only at d0 d1 d2 d3 d4 d5 d6 d7 d8 d9 d10
   have hbr : b < wr.heap.size := Nat.lt_of_lt_of_le hbw (uh BB).size
   go_wp2_with fail
   clear d0 d1 d2 d3 d4 d5 d6 d7 d8 d9 d10
   obtain ⟨q, hq⟩ : ∃ q, smithB (st, be, rk, my, gu, lo, hi, hd, ca, ut, wk) = q := ⟨_, rfl⟩
   have Hq := hide hq
   clear hq
   have hba : Below wr.heap.size wr (wr.alloc (.cells (I11 st be rk my gu lo hi hd ca ut wk) 39)) := ba _ _
   replace BB := bt BB hba
   clear hba
   refine (implSmithOk_any st be rk my gu lo hi hd ca ut wk _).mono ?_
   rw [uh Hq]
   rintro e w1 ⟨rfl, hb⟩
   replace BB := bt BB hb
   clear hb
   cases q
   ·go_wp2_with fail
    go_ret
    exact ⟨ret_bool (uh HN (uh Hq)).symm, uh BB⟩
   ·go_wp2_with fail
    go_roundw
    case rel => exact ⟨k + 1, by omega, by go_num, uh HU (uh Hq), uh BB⟩
    case measure => exact ms
  ·obtain rfl : k = ss.length := by omega
   go_wp2_with fail
   go_ret
   exact ⟨ret_bool (uh Hst).symm, uh BB⟩
theorem allThere_any {w : World} {v : Value} {ss : List SmithV} {R n gc : Nat} {ga : Option Addr} (h : IsSmiths w v ss) (hc0 : w.cell? ⟨R, 0, none⟩ = some (.slice ga n gc)) (hR : R < w.heap.size) : Calls Tryz.prog 110 #[v, .func (Fn.func 215) #[] #[.pointer (some ⟨R, 0, none⟩)]] w fun e w' => e = .returned (.bool (allTo (thereB n) ss ss.length)) ∧ Below w.heap.size w w' := by
 obtain ⟨a, cap, rfl, hc, hm, hr⟩ := h
 have Hr := hide hr
 clear hr
 have HC := hide hc0
 clear hc0
 go_enter Tryz.func110, Tryz.ntmps110
 go_wp2_with fail
 go_loopw [9] (fun i wr => ∃ k : Nat, k ≤ ss.length ∧ i = .int .i64 k ∧ allTo (thereB n) ss k = true ∧ Below w.heap.size w wr) (fun i _ => ss.length - (intOf i).toNat)
 case atStart => exact ⟨0, Nat.zero_le _, rfl, rfl, Below.refl _ _⟩
 case round =>
  obtain ⟨k, hk, rfl, hst, hb0⟩ := hrel
  have Hst := hide hst
  have BB := hide hb0
  by_cases hlt : k < ss.length
  ·have hlt1 : (k : Int) < (ss.length : Int) := by omega
   rcases uh Hr with e0 | ⟨b, off, rfl, hbw, hcl⟩
   ·rw [e0] at hlt; simp at hlt
   obtain ⟨d0, d1, d2, d3, d4, d5, d6, d7, d8, d9, d10⟩ := smith_cells hcl hlt
   rw [← hb0.cell (p := ⟨b, off + k * 11, none⟩) hbw] at d0
   rw [← hb0.cell (p := ⟨b, off + k * 11 + 1, none⟩) hbw] at d1
   rw [← hb0.cell (p := ⟨b, off + k * 11 + 2, none⟩) hbw] at d2
   rw [← hb0.cell (p := ⟨b, off + k * 11 + 3, none⟩) hbw] at d3
   rw [← hb0.cell (p := ⟨b, off + k * 11 + 4, none⟩) hbw] at d4
   rw [← hb0.cell (p := ⟨b, off + k * 11 + 5, none⟩) hbw] at d5
   rw [← hb0.cell (p := ⟨b, off + k * 11 + 6, none⟩) hbw] at d6
   rw [← hb0.cell (p := ⟨b, off + k * 11 + 7, none⟩) hbw] at d7
   rw [← hb0.cell (p := ⟨b, off + k * 11 + 8, none⟩) hbw] at d8
   rw [← hb0.cell (p := ⟨b, off + k * 11 + 9, none⟩) hbw] at d9
   rw [← hb0.cell (p := ⟨b, off + k * 11 + 10, none⟩) hbw] at d10
   have HU := hide (fun hh => allTo_up (p := (thereB n)) (xs := ss) (k := k) hst hh)
   have HN := hide (fun hh => allTo_no (p := (thereB n)) (xs := ss) hlt hh)
   clear hcl hst hb0
   generalize recAt ss k = s at *
   obtain ⟨st, be, rk, my, gu, lo, hi, hd, ca, ut, wk⟩ := s
   simp only at d0 d1 d2 d3 d4 d5 d6 d7 d8 d9 d10
   have hbr : b < wr.heap.size := Nat.lt_of_lt_of_le hbw (uh BB).size
   go_wp2_with fail
   clear d0 d1 d2 d3 d4 d5 d6 d7 d8 d9 d10
   obtain ⟨q, hq⟩ : ∃ q, (thereB n) (st, be, rk, my, gu, lo, hi, hd, ca, ut, wk) = q := ⟨_, rfl⟩
   have Hq := hide hq
   clear hq
   have hba : Below wr.heap.size wr (wr.alloc (.cells (I11 st be rk my gu lo hi hd ca ut wk) 39)) := ba _ _
   replace BB := bt BB hba
   clear hba
   refine (smithsOk1_any st be rk my gu lo hi hd ca ut wk R ga n gc _ (((uh BB).cell (p := ⟨R, 0, none⟩) hR).trans (uh HC)) (Nat.lt_of_lt_of_le hR (uh BB).size)).mono ?_
   rw [uh Hq]
   rintro e w1 ⟨rfl, hb⟩
   replace BB := bt BB hb
   clear hb
   cases q
   ·go_wp2_with fail
    go_ret
    exact ⟨ret_bool (uh HN (uh Hq)).symm, uh BB⟩
   ·go_wp2_with fail
    go_roundw
    case rel => exact ⟨k + 1, by omega, by go_num, uh HU (uh Hq), uh BB⟩
    case measure => exact ms
  ·obtain rfl : k = ss.length := by omega
   go_wp2_with fail
   go_ret
   exact ⟨ret_bool (uh Hst).symm, uh BB⟩
theorem allMark_any {w : World} {v : Value} {ss : List DeskV} (h : IsDesks w v ss) : Calls Tryz.prog 217 #[v, .func (Fn.func 218) #[] #[]] w fun e w' => e = .returned (.bool (allTo deskB ss ss.length)) ∧ Below w.heap.size w w' := by
 obtain ⟨a, cap, rfl, hc, hm, hr⟩ := h
 have Hr := hide hr
 clear hr
 go_enter Tryz.func217, Tryz.ntmps217
 go_wp2_with fail
 go_loopw [9] (fun i wr => ∃ k : Nat, k ≤ ss.length ∧ i = .int .i64 k ∧ allTo deskB ss k = true ∧ Below w.heap.size w wr) (fun i _ => ss.length - (intOf i).toNat)
 case atStart => exact ⟨0, Nat.zero_le _, rfl, rfl, Below.refl _ _⟩
 case round =>
  obtain ⟨k, hk, rfl, hst, hb0⟩ := hrel
  have Hst := hide hst
  have BB := hide hb0
  by_cases hlt : k < ss.length
  ·have hlt1 : (k : Int) < (ss.length : Int) := by omega
   rcases uh Hr with e0 | ⟨b, off, rfl, hbw, hcl⟩
   ·rw [e0] at hlt; simp at hlt
   obtain ⟨d0, d1, d2⟩ := desk_cells hcl hlt
   rw [← hb0.cell (p := ⟨b, off + k * 3, none⟩) hbw] at d0
   rw [← hb0.cell (p := ⟨b, off + k * 3 + 1, none⟩) hbw] at d1
   rw [← hb0.cell (p := ⟨b, off + k * 3 + 2, none⟩) hbw] at d2
   have HU := hide (fun hh => allTo_up (p := deskB) (xs := ss) (k := k) hst hh)
   have HN := hide (fun hh => allTo_no (p := deskB) (xs := ss) hlt hh)
   clear hcl hst hb0
   generalize recAt ss k = s at *
   obtain ⟨op, who, mk⟩ := s
   simp only at d0 d1 d2
   have hbr : b < wr.heap.size := Nat.lt_of_lt_of_le hbw (uh BB).size
   go_wp2_with fail
   clear d0 d1 d2
   obtain ⟨q, hq⟩ : ∃ q, deskB (op, who, mk) = q := ⟨_, rfl⟩
   have Hq := hide hq
   clear hq
   have hba : Below wr.heap.size wr (wr.alloc (.cells #[.bool op, .int .i64 who, .int .i64 mk] 53)) := ba _ _
   replace BB := bt BB hba
   clear hba
   refine (hasMark_any op who mk _).mono ?_
   rw [uh Hq]
   rintro e w1 ⟨rfl, hb⟩
   replace BB := bt BB hb
   clear hb
   cases q
   ·go_wp2_with fail
    go_ret
    exact ⟨ret_bool (uh HN (uh Hq)).symm, uh BB⟩
   ·go_wp2_with fail
    go_roundw
    case rel => exact ⟨k + 1, by omega, by go_num, uh HU (uh Hq), uh BB⟩
    case measure => exact ms
  ·obtain rfl : k = ss.length := by omega
   go_wp2_with fail
   go_ret
   exact ⟨ret_bool (uh Hst).symm, uh BB⟩
theorem whereAt_any {w : World} {v : Value} {ss : List SmithV} {R : Nat} {bn : Int} (h : IsSmiths w v ss) (hl : ss.length ≤ 1000) (hc0 : w.cell? ⟨R, 0, none⟩ = some (.int .i64 bn)) (hR : R < w.heap.size) : Calls Tryz.prog 225 #[v, .func (Fn.func 226) #[] #[.pointer (some ⟨R, 0, none⟩)]] w fun e w' => ∃ v', e = .returned v' ∧ NumsAt w.heap.size w' v' (whereTo (atB bn) ss ss.length) ∧ Below w.heap.size w w' := by
 obtain ⟨a, cap, rfl, hc, hm, hr⟩ := h
 have Hr := hide hr
 clear hr
 have HC := hide hc0
 clear hc0
 go_enter Tryz.func225, Tryz.ntmps225
 go_wp2_with fail
 go_loopw [5, 11] (fun l i wr => ∃ k : Nat, k ≤ ss.length ∧ i = .int .i64 k ∧ NumsAt w.heap.size wr l (whereTo (atB bn) ss k) ∧ Below w.heap.size w wr) (fun _ i _ => ss.length - (intOf i).toNat)
 case atStart => exact ⟨0, Nat.zero_le _, rfl, recs_empty rfl (Nat.le_refl _), (ba _ _)⟩
 case round =>
  obtain ⟨k, hk, rfl, hln, hb0⟩ := hrel
  obtain ⟨la, lc, rfl⟩ := RecAt.shape hln
  have HL := hide hln
  have BB := hide hb0
  have hfl := whereTo_len (atB bn) ss k
  clear hln
  by_cases hlt : k < ss.length
  ·have hlt1 : (k : Int) < (ss.length : Int) := by omega
   rcases uh Hr with e0 | ⟨b, off, rfl, hbw, hcl⟩
   ·rw [e0] at hlt; simp at hlt
   obtain ⟨d0, d1, d2, d3, d4, d5, d6, d7, d8, d9, d10⟩ := smith_cells hcl hlt
   rw [← hb0.cell (p := ⟨b, off + k * 11, none⟩) hbw] at d0
   rw [← hb0.cell (p := ⟨b, off + k * 11 + 1, none⟩) hbw] at d1
   rw [← hb0.cell (p := ⟨b, off + k * 11 + 2, none⟩) hbw] at d2
   rw [← hb0.cell (p := ⟨b, off + k * 11 + 3, none⟩) hbw] at d3
   rw [← hb0.cell (p := ⟨b, off + k * 11 + 4, none⟩) hbw] at d4
   rw [← hb0.cell (p := ⟨b, off + k * 11 + 5, none⟩) hbw] at d5
   rw [← hb0.cell (p := ⟨b, off + k * 11 + 6, none⟩) hbw] at d6
   rw [← hb0.cell (p := ⟨b, off + k * 11 + 7, none⟩) hbw] at d7
   rw [← hb0.cell (p := ⟨b, off + k * 11 + 8, none⟩) hbw] at d8
   rw [← hb0.cell (p := ⟨b, off + k * 11 + 9, none⟩) hbw] at d9
   rw [← hb0.cell (p := ⟨b, off + k * 11 + 10, none⟩) hbw] at d10
   have HY := hide (fun hh => whereTo_yes (p := (atB bn)) (xs := ss) (k := k) hh)
   have HN := hide (fun hh => whereTo_no (p := (atB bn)) (xs := ss) (k := k) hh)
   clear hcl hb0
   generalize recAt ss k = s at *
   obtain ⟨st, be, rk, my, gu, lo, hi, hd, ca, ut, wk⟩ := s
   simp only at d0 d1 d2 d3 d4 d5 d6 d7 d8 d9 d10
   have hbr : b < wr.heap.size := Nat.lt_of_lt_of_le hbw (uh BB).size
   go_wp2_with fail
   clear d0 d1 d2 d3 d4 d5 d6 d7 d8 d9 d10
   obtain ⟨q, hq⟩ : ∃ q, (atB bn) (st, be, rk, my, gu, lo, hi, hd, ca, ut, wk) = q := ⟨_, rfl⟩
   have Hq := hide hq
   clear hq
   have hba : Below wr.heap.size wr (wr.alloc (.cells (I11 st be rk my gu lo hi hd ca ut wk) 39)) := ba _ _
   replace BB := bt BB hba
   replace HL := hide (RecAt.later (uh HL) hba)
   clear hba
   refine (whoIsAt1_any st be rk my gu lo hi hd ca ut wk bn R _ (((uh BB).cell (p := ⟨R, 0, none⟩) hR).trans (uh HC)) (Nat.lt_of_lt_of_le hR (uh BB).size)).mono ?_
   rw [uh Hq]
   rintro e w1 ⟨rfl, hb⟩
   replace BB := bt BB hb
   replace HL := hide (RecAt.later (uh HL) hb)
   clear hb
   cases q
   ·go_wp2_with fail
    go_roundw
    case rel => exact ⟨k + 1, by omega, by go_num, by rw [uh HN (uh Hq)]; exact uh HL, uh BB⟩
    case measure => exact ms
   ·have hsx := (uh BB).size
    go_wp2_with (at_builtin; refine wpList_append_recs tyN rfl (.tmp 19) (.tmp 21) 192 Tryz.underlying192 rfl w.heap.size _ _ (whereTo (atB bn) ss k) [(k : Int)] rfl rfl (RecAt.later (uh HL) ((ba _ _))) (recs_one (k : Int) rfl (Nat.le_refl _) (by omega)) (by simp; omega) (by simp; omega) ?_; intro u9 w9 hp9 hg9 hat9; have HP9 := hide hp9; have HG9 := hide hg9; clear hp9 hg9 hat9)
    have hgo : ∀ i, (Value.slice la (whereTo (atB bn) ss k).length lc).ownBlock = some i → w.heap.size ≤ i := fun i e => (RecAt.lt (uh HL) e).1
    have hb9 : Below w.heap.size w1 w9 := ((Below.refl _ _).alloc hsx _).trans ((Below.refl _ _).grown (uh HG9) (by simp; omega) hgo)
    have hb8 := (uh BB).trans hb9
    go_wp2_with fail
    go_roundw
    case rel => exact ⟨k + 1, by omega, by go_num, by rw [uh HY (uh Hq)]; exact uh HP9, hb8⟩
    case measure => exact ms
  ·obtain rfl : k = ss.length := by omega
   go_wp2_with fail
   go_ret
   exact ⟨_, rfl, uh HL, uh BB⟩
theorem whereWorks_any {w : World} {v : Value} {ss : List SmithV} {R : Nat} {bn : Int} (h : IsSmiths w v ss) (hl : ss.length ≤ 1000) (hc0 : w.cell? ⟨R, 0, none⟩ = some (.int .i64 bn)) (hR : R < w.heap.size) : Calls Tryz.prog 225 #[v, .func (Fn.func 228) #[] #[.pointer (some ⟨R, 0, none⟩)]] w fun e w' => ∃ v', e = .returned v' ∧ NumsAt w.heap.size w' v' (whereTo (worksB bn) ss ss.length) ∧ Below w.heap.size w w' := by
 obtain ⟨a, cap, rfl, hc, hm, hr⟩ := h
 have Hr := hide hr
 clear hr
 have HC := hide hc0
 clear hc0
 go_enter Tryz.func225, Tryz.ntmps225
 go_wp2_with fail
 go_loopw [5, 11] (fun l i wr => ∃ k : Nat, k ≤ ss.length ∧ i = .int .i64 k ∧ NumsAt w.heap.size wr l (whereTo (worksB bn) ss k) ∧ Below w.heap.size w wr) (fun _ i _ => ss.length - (intOf i).toNat)
 case atStart => exact ⟨0, Nat.zero_le _, rfl, recs_empty rfl (Nat.le_refl _), (ba _ _)⟩
 case round =>
  obtain ⟨k, hk, rfl, hln, hb0⟩ := hrel
  obtain ⟨la, lc, rfl⟩ := RecAt.shape hln
  have HL := hide hln
  have BB := hide hb0
  have hfl := whereTo_len (worksB bn) ss k
  clear hln
  by_cases hlt : k < ss.length
  ·have hlt1 : (k : Int) < (ss.length : Int) := by omega
   rcases uh Hr with e0 | ⟨b, off, rfl, hbw, hcl⟩
   ·rw [e0] at hlt; simp at hlt
   obtain ⟨d0, d1, d2, d3, d4, d5, d6, d7, d8, d9, d10⟩ := smith_cells hcl hlt
   rw [← hb0.cell (p := ⟨b, off + k * 11, none⟩) hbw] at d0
   rw [← hb0.cell (p := ⟨b, off + k * 11 + 1, none⟩) hbw] at d1
   rw [← hb0.cell (p := ⟨b, off + k * 11 + 2, none⟩) hbw] at d2
   rw [← hb0.cell (p := ⟨b, off + k * 11 + 3, none⟩) hbw] at d3
   rw [← hb0.cell (p := ⟨b, off + k * 11 + 4, none⟩) hbw] at d4
   rw [← hb0.cell (p := ⟨b, off + k * 11 + 5, none⟩) hbw] at d5
   rw [← hb0.cell (p := ⟨b, off + k * 11 + 6, none⟩) hbw] at d6
   rw [← hb0.cell (p := ⟨b, off + k * 11 + 7, none⟩) hbw] at d7
   rw [← hb0.cell (p := ⟨b, off + k * 11 + 8, none⟩) hbw] at d8
   rw [← hb0.cell (p := ⟨b, off + k * 11 + 9, none⟩) hbw] at d9
   rw [← hb0.cell (p := ⟨b, off + k * 11 + 10, none⟩) hbw] at d10
   have HY := hide (fun hh => whereTo_yes (p := (worksB bn)) (xs := ss) (k := k) hh)
   have HN := hide (fun hh => whereTo_no (p := (worksB bn)) (xs := ss) (k := k) hh)
   clear hcl hb0
   generalize recAt ss k = s at *
   obtain ⟨st, be, rk, my, gu, lo, hi, hd, ca, ut, wk⟩ := s
   simp only at d0 d1 d2 d3 d4 d5 d6 d7 d8 d9 d10
   have hbr : b < wr.heap.size := Nat.lt_of_lt_of_le hbw (uh BB).size
   go_wp2_with fail
   clear d0 d1 d2 d3 d4 d5 d6 d7 d8 d9 d10
   obtain ⟨q, hq⟩ : ∃ q, (worksB bn) (st, be, rk, my, gu, lo, hi, hd, ca, ut, wk) = q := ⟨_, rfl⟩
   have Hq := hide hq
   clear hq
   have hba : Below wr.heap.size wr (wr.alloc (.cells (I11 st be rk my gu lo hi hd ca ut wk) 39)) := ba _ _
   replace BB := bt BB hba
   replace HL := hide (RecAt.later (uh HL) hba)
   clear hba
   refine (whoWorksAt1_any st be rk my gu lo hi hd ca ut wk bn R _ (((uh BB).cell (p := ⟨R, 0, none⟩) hR).trans (uh HC)) (Nat.lt_of_lt_of_le hR (uh BB).size)).mono ?_
   rw [uh Hq]
   rintro e w1 ⟨rfl, hb⟩
   replace BB := bt BB hb
   replace HL := hide (RecAt.later (uh HL) hb)
   clear hb
   cases q
   ·go_wp2_with fail
    go_roundw
    case rel => exact ⟨k + 1, by omega, by go_num, by rw [uh HN (uh Hq)]; exact uh HL, uh BB⟩
    case measure => exact ms
   ·have hsx := (uh BB).size
    go_wp2_with (at_builtin; refine wpList_append_recs tyN rfl (.tmp 19) (.tmp 21) 192 Tryz.underlying192 rfl w.heap.size _ _ (whereTo (worksB bn) ss k) [(k : Int)] rfl rfl (RecAt.later (uh HL) ((ba _ _))) (recs_one (k : Int) rfl (Nat.le_refl _) (by omega)) (by simp; omega) (by simp; omega) ?_; intro u9 w9 hp9 hg9 hat9; have HP9 := hide hp9; have HG9 := hide hg9; clear hp9 hg9 hat9)
    have hgo : ∀ i, (Value.slice la (whereTo (worksB bn) ss k).length lc).ownBlock = some i → w.heap.size ≤ i := fun i e => (RecAt.lt (uh HL) e).1
    have hb9 : Below w.heap.size w1 w9 := ((Below.refl _ _).alloc hsx _).trans ((Below.refl _ _).grown (uh HG9) (by simp; omega) hgo)
    have hb8 := (uh BB).trans hb9
    go_wp2_with fail
    go_roundw
    case rel => exact ⟨k + 1, by omega, by go_num, by rw [uh HY (uh Hq)]; exact uh HP9, hb8⟩
    case measure => exact ms
  ·obtain rfl : k = ss.length := by omega
   go_wp2_with fail
   go_ret
   exact ⟨_, rfl, uh HL, uh BB⟩
theorem whereOpen_any {w : World} {v : Value} {ss : List DeskV} (h : IsDesks w v ss) (hl : ss.length ≤ 1000) : Calls Tryz.prog 219 #[v, .func (Fn.func 173) #[] #[]] w fun e w' => ∃ v', e = .returned v' ∧ NumsAt w.heap.size w' v' (whereTo openD1 ss ss.length) ∧ Below w.heap.size w w' := by
 obtain ⟨a, cap, rfl, hc, hm, hr⟩ := h
 have Hr := hide hr
 clear hr
 go_enter Tryz.func219, Tryz.ntmps219
 go_wp2_with fail
 go_loopw [5, 11] (fun l i wr => ∃ k : Nat, k ≤ ss.length ∧ i = .int .i64 k ∧ NumsAt w.heap.size wr l (whereTo openD1 ss k) ∧ Below w.heap.size w wr) (fun _ i _ => ss.length - (intOf i).toNat)
 case atStart => exact ⟨0, Nat.zero_le _, rfl, recs_empty rfl (Nat.le_refl _), (ba _ _)⟩
 case round =>
  obtain ⟨k, hk, rfl, hln, hb0⟩ := hrel
  obtain ⟨la, lc, rfl⟩ := RecAt.shape hln
  have HL := hide hln
  have BB := hide hb0
  have hfl := whereTo_len openD1 ss k
  clear hln
  by_cases hlt : k < ss.length
  ·have hlt1 : (k : Int) < (ss.length : Int) := by omega
   rcases uh Hr with e0 | ⟨b, off, rfl, hbw, hcl⟩
   ·rw [e0] at hlt; simp at hlt
   obtain ⟨d0, d1, d2⟩ := desk_cells hcl hlt
   rw [← hb0.cell (p := ⟨b, off + k * 3, none⟩) hbw] at d0
   rw [← hb0.cell (p := ⟨b, off + k * 3 + 1, none⟩) hbw] at d1
   rw [← hb0.cell (p := ⟨b, off + k * 3 + 2, none⟩) hbw] at d2
   have HY := hide (fun hh => whereTo_yes (p := openD1) (xs := ss) (k := k) hh)
   have HN := hide (fun hh => whereTo_no (p := openD1) (xs := ss) (k := k) hh)
   clear hcl hb0
   generalize recAt ss k = s at *
   obtain ⟨op, who, mk⟩ := s
   simp only at d0 d1 d2
   have hbr : b < wr.heap.size := Nat.lt_of_lt_of_le hbw (uh BB).size
   go_wp2_with fail
   clear d0 d1 d2
   obtain ⟨q, hq⟩ : ∃ q, openD1 (op, who, mk) = q := ⟨_, rfl⟩
   have Hq := hide hq
   clear hq
   have hba : Below wr.heap.size wr (wr.alloc (.cells #[.bool op, .int .i64 who, .int .i64 mk] 53)) := ba _ _
   replace BB := bt BB hba
   replace HL := hide (RecAt.later (uh HL) hba)
   clear hba
   refine ck (Calls.bool_of (isOpen_any op who mk _) (uh Hq)) fun w1 hb => ?_
   replace BB := bt BB hb
   replace HL := hide (RecAt.later (uh HL) hb)
   clear hb
   cases q
   ·go_wp2_with fail
    go_roundw
    case rel => exact ⟨k + 1, by omega, by go_num, by rw [uh HN (uh Hq)]; exact uh HL, uh BB⟩
    case measure => exact ms
   ·have hsx := (uh BB).size
    go_wp2_with (at_builtin; refine wpList_append_recs tyN rfl (.tmp 19) (.tmp 21) 192 Tryz.underlying192 rfl w.heap.size _ _ (whereTo openD1 ss k) [(k : Int)] rfl rfl (RecAt.later (uh HL) ((ba _ _))) (recs_one (k : Int) rfl (Nat.le_refl _) (by omega)) (by simp; omega) (by simp; omega) ?_; intro u9 w9 hp9 hg9 hat9; have HP9 := hide hp9; have HG9 := hide hg9; clear hp9 hg9 hat9)
    have hgo : ∀ i, (Value.slice la (whereTo openD1 ss k).length lc).ownBlock = some i → w.heap.size ≤ i := fun i e => (RecAt.lt (uh HL) e).1
    have hb9 : Below w.heap.size w1 w9 := ((Below.refl _ _).alloc hsx _).trans ((Below.refl _ _).grown (uh HG9) (by simp; omega) hgo)
    have hb8 := (uh BB).trans hb9
    go_wp2_with fail
    go_roundw
    case rel => exact ⟨k + 1, by omega, by go_num, by rw [uh HY (uh Hq)]; exact uh HP9, hb8⟩
    case measure => exact ms
  ·obtain rfl : k = ss.length := by omega
   go_wp2_with fail
   go_ret
   exact ⟨_, rfl, uh HL, uh BB⟩
end Go.Proofs.YtffcgajndmhpkaaGreatDoor
