/- Contracts of the draws of chapter 9's arguments: a smith and a number; only the draw's own memory is written. Condition: the bytes of the draw can be read and are at most 4096. -/
import Derived.Test.YtkagjopogihnbaaSmithDraw
import Derived.Deep.RegionWith
namespace Go.Proofs.Ytkagjopogihnbaa
open Go.ChangeShapes Go.WideShapes Go.ChangeAt Go.RowKit Go.Sort
open Draw (St Off Row Cur)
set_option linter.unusedVariables false

set_option maxRecDepth 100000 in
set_option maxHeartbeats 2000000 in
theorem l9DrawAny_any (a : Option Addr) (len cap bc : Nat) (w : World) (hs : St a len cap bc w) :
    Calls Try.prog 20 #[.pointer (some ⟨bc, 0, none⟩)] w fun e w' => ∃ x : SmithV, e = .returned (.agg (encSmith x).toArray) ∧ St a len cap bc w' ∧ Off bc w w' := by
  have Hs := hide hs
  have hbc := st_lt hs
  clear hs
  go_enter Try.func20, Try.ntmps20
  go_wp2_with fail
  refine (l9Draw_any a len cap bc _ ((unhide Hs).alloc _)).mono ?_
  rintro e w1 ⟨⟨x0, x1, x2, x3, x4, x5, x6, x7, x8, x9, x10⟩, rfl, s1, p1⟩
  have ko1 : Blk w1 w.heap.size 25 #[.int .i64 0, .int .i64 0, .int .i64 0, .int .i64 0, .int .i64 0, .int .i64 0, .int .i64 0, .int .i64 0, .int .i64 0, .int .i64 0, .int .i64 0] := (Blk.new w 25 #[.int .i64 0, .int .i64 0, .int .i64 0, .int .i64 0, .int .i64 0, .int .i64 0, .int .i64 0, .int .i64 0, .int .i64 0, .int .i64 0, .int .i64 0]).same (p1.block w.heap.size (by simp) (by omega))
  have hz1 : w.heap.size < w1.heap.size := ko1.lt
  have H1 : Hid (Sbox a len cap bc w w.heap.size w1.heap.size #[.int .i64 x0, .int .i64 x1, .int .i64 x2, .int .i64 x3, .int .i64 x4, .int .i64 x5, .int .i64 x6, .int .i64 x7, .int .i64 x8, .int .i64 x9, .int .i64 x10] (w1.alloc (.cells #[.int .i64 x0, .int .i64 x1, .int .i64 x2, .int .i64 x3, .int .i64 x4, .int .i64 x5, .int .i64 x6, .int .i64 x7, .int .i64 x8, .int .i64 x9, .int .i64 x10] 25))) := hide ⟨s1.alloc _, (((Off.refl _ _).alloc _).trans p1).alloc _, hbc, Nat.le_refl _, by omega, by omega, ko1.alloc _, Blk.new _ _ _⟩
  clear s1 p1 Hs ko1
  simp only [encSmith]
  go_wp2_with fail
  generalize w1.alloc (.cells #[.int .i64 x0, .int .i64 x1, .int .i64 x2, .int .i64 x3, .int .i64 x4, .int .i64 x5, .int .i64 x6, .int .i64 x7, .int .i64 x8, .int .i64 x9, .int .i64 x10] 25) = W at *
  generalize w1.heap.size = S at *
  refine (Draw.once_any a len cap bc 6 (by omega) (by omega) _ (unhide H1).st).mono ?_
  rintro e w2 ⟨b, rfl, s9, p9⟩
  have X := (unhide H1).step s9 p9
  have H2 := hide X
  cases b
  · have c0 := X.kb.cell (i := 0) (v := .int .i64 x0) rfl
    have c1 := X.kb.cell (i := 1) (v := .int .i64 x1) rfl
    have c2 := X.kb.cell (i := 2) (v := .int .i64 x2) rfl
    have c3 := X.kb.cell (i := 3) (v := .int .i64 x3) rfl
    have c4 := X.kb.cell (i := 4) (v := .int .i64 x4) rfl
    have c5 := X.kb.cell (i := 5) (v := .int .i64 x5) rfl
    have c6 := X.kb.cell (i := 6) (v := .int .i64 x6) rfl
    have c7 := X.kb.cell (i := 7) (v := .int .i64 x7) rfl
    have c8 := X.kb.cell (i := 8) (v := .int .i64 x8) rfl
    have c9 := X.kb.cell (i := 9) (v := .int .i64 x9) rfl
    have c10 := X.kb.cell (i := 10) (v := .int .i64 x10) rfl
    have o0 := X.ko.cell (i := 0) (v := .int .i64 0) rfl
    have of0 := X.ko.free 0
    have o1 := X.ko.cell (i := 1) (v := .int .i64 0) rfl
    have of1 := X.ko.free 1
    have o2 := X.ko.cell (i := 2) (v := .int .i64 0) rfl
    have of2 := X.ko.free 2
    have o3 := X.ko.cell (i := 3) (v := .int .i64 0) rfl
    have of3 := X.ko.free 3
    have o4 := X.ko.cell (i := 4) (v := .int .i64 0) rfl
    have of4 := X.ko.free 4
    have o5 := X.ko.cell (i := 5) (v := .int .i64 0) rfl
    have of5 := X.ko.free 5
    have o6 := X.ko.cell (i := 6) (v := .int .i64 0) rfl
    have of6 := X.ko.free 6
    have o7 := X.ko.cell (i := 7) (v := .int .i64 0) rfl
    have of7 := X.ko.free 7
    have o8 := X.ko.cell (i := 8) (v := .int .i64 0) rfl
    have of8 := X.ko.free 8
    have o9 := X.ko.cell (i := 9) (v := .int .i64 0) rfl
    have of9 := X.ko.free 9
    have o10 := X.ko.cell (i := 10) (v := .int .i64 0) rfl
    have of10 := X.ko.free 10
    have hne : ¬ w.heap.size = S := X.ne
    have hne2 : ¬ S = w.heap.size := fun h => X.ne h.symm
    have hS9 := X.hS
    clear s9 p9 X H1
    go_wp2_with fail
    refine bodyPost_ret (v := .agg #[.int .i64 x0, .int .i64 x1, .int .i64 x2, .int .i64 x3, .int .i64 x4, .int .i64 x5, .int .i64 x6, .int .i64 x7, .int .i64 x8, .int .i64 x9, .int .i64 x10]) (by simp [results, Try.results20, go_sem, o0, o1, o2, o3, o4, o5, o6, o7, o8, o9, o10]) rfl ⟨(x0, x1, x2, x3, x4, x5, x6, x7, x8, x9, x10), rfl, ?_⟩
    refine (unhide H2).fin ?_
    iterate 11 (refine Below.setCell ?_ (by first | (simp; done) | (simp; omega)) _)
    exact Below.refl _ _
  · have H := H2
    clear s9 p9 X H1 H2
    go_wp2_with fail
    refine (Draw.below_any a len cap bc 8 (by omega) (by omega) _ (unhide H).st).mono ?_
    rintro e w3 ⟨y, rfl, y0, y1, s9, p9⟩
    have H3 := hide ((unhide H).step s9 p9)
    clear s9 p9 H
    have H := H3
    clear H3
    rcases (show y = 0 ∨ y = 1 ∨ y = 2 ∨ y = 3 ∨ y = 4 ∨ y = 5 ∨ y = 6 ∨ y = 7 by omega) with rfl | rfl | rfl | rfl | rfl | rfl | rfl | rfl
    · clear y0 y1
      go_wp2_with fail
      refine (Draw.from_any a len cap bc (-1) 4 (by omega) (by omega) (by omega) _ (unhide H).st).mono ?_
      rintro e w4 ⟨v, rfl, v0, v1, s9, p9⟩
      have X := (unhide H).step s9 p9
      have H2 := hide X
      have c0 := X.kb.cell (i := 0) (v := .int .i64 x0) rfl
      have c1 := X.kb.cell (i := 1) (v := .int .i64 x1) rfl
      have c2 := X.kb.cell (i := 2) (v := .int .i64 x2) rfl
      have c3 := X.kb.cell (i := 3) (v := .int .i64 x3) rfl
      have c4 := X.kb.cell (i := 4) (v := .int .i64 x4) rfl
      have c5 := X.kb.cell (i := 5) (v := .int .i64 x5) rfl
      have c6 := X.kb.cell (i := 6) (v := .int .i64 x6) rfl
      have c7 := X.kb.cell (i := 7) (v := .int .i64 x7) rfl
      have c8 := X.kb.cell (i := 8) (v := .int .i64 x8) rfl
      have c9 := X.kb.cell (i := 9) (v := .int .i64 x9) rfl
      have c10 := X.kb.cell (i := 10) (v := .int .i64 x10) rfl
      have f0 := X.kb.free 0
      have o0 := X.ko.cell (i := 0) (v := .int .i64 0) rfl
      have of0 := X.ko.free 0
      have o1 := X.ko.cell (i := 1) (v := .int .i64 0) rfl
      have of1 := X.ko.free 1
      have o2 := X.ko.cell (i := 2) (v := .int .i64 0) rfl
      have of2 := X.ko.free 2
      have o3 := X.ko.cell (i := 3) (v := .int .i64 0) rfl
      have of3 := X.ko.free 3
      have o4 := X.ko.cell (i := 4) (v := .int .i64 0) rfl
      have of4 := X.ko.free 4
      have o5 := X.ko.cell (i := 5) (v := .int .i64 0) rfl
      have of5 := X.ko.free 5
      have o6 := X.ko.cell (i := 6) (v := .int .i64 0) rfl
      have of6 := X.ko.free 6
      have o7 := X.ko.cell (i := 7) (v := .int .i64 0) rfl
      have of7 := X.ko.free 7
      have o8 := X.ko.cell (i := 8) (v := .int .i64 0) rfl
      have of8 := X.ko.free 8
      have o9 := X.ko.cell (i := 9) (v := .int .i64 0) rfl
      have of9 := X.ko.free 9
      have o10 := X.ko.cell (i := 10) (v := .int .i64 0) rfl
      have of10 := X.ko.free 10
      have hne : ¬ w.heap.size = S := X.ne
      have hne2 : ¬ S = w.heap.size := fun h => X.ne h.symm
      have hS9 := X.hS
      clear s9 p9 X H
      go_wp2_with fail
      refine bodyPost_ret (v := .agg #[.int .i64 v, .int .i64 x1, .int .i64 x2, .int .i64 x3, .int .i64 x4, .int .i64 x5, .int .i64 x6, .int .i64 x7, .int .i64 x8, .int .i64 x9, .int .i64 x10]) (by simp [results, Try.results20, go_sem, o0, o1, o2, o3, o4, o5, o6, o7, o8, o9, o10]) rfl ⟨(v, x1, x2, x3, x4, x5, x6, x7, x8, x9, x10), rfl, ?_⟩
      refine (unhide H2).fin ?_
      iterate 12 (refine Below.setCell ?_ (by first | (simp; done) | (simp; omega)) _)
      exact Below.refl _ _
    · clear y0 y1
      go_wp2_with fail
      refine (Draw.below_any a len cap bc 3 (by omega) (by omega) _ ((unhide H).alloc (.cells #[.int .i64 (-1), .int .i64 7, .int .i64 8] 2)).st).mono ?_
      rintro e w4 ⟨j, rfl, j0, j1, s9, p9⟩
      have X := ((unhide H).alloc (.cells #[.int .i64 (-1), .int .i64 7, .int .i64 8] 2)).step s9 p9
      have H2 := hide X
      have hb3 := st_lt (unhide H).st
      obtain ⟨v, hv⟩ := Draw.pick_any #[.int .i64 (-1), .int .i64 7, .int .i64 8] j.toNat (by simp; omega) rfl
      have hcell : w4.cell? ⟨w3.heap.size, j.toNat, none⟩ = some (.int .i64 v) := by
        rw [p9.cell (p := ⟨w3.heap.size, j.toNat, none⟩) (by simp) (by simp; omega), World.cell?_alloc_at _ _ _ _ rfl]; exact hv
      clear hv
      have c0 := X.kb.cell (i := 0) (v := .int .i64 x0) rfl
      have c1 := X.kb.cell (i := 1) (v := .int .i64 x1) rfl
      have c2 := X.kb.cell (i := 2) (v := .int .i64 x2) rfl
      have c3 := X.kb.cell (i := 3) (v := .int .i64 x3) rfl
      have c4 := X.kb.cell (i := 4) (v := .int .i64 x4) rfl
      have c5 := X.kb.cell (i := 5) (v := .int .i64 x5) rfl
      have c6 := X.kb.cell (i := 6) (v := .int .i64 x6) rfl
      have c7 := X.kb.cell (i := 7) (v := .int .i64 x7) rfl
      have c8 := X.kb.cell (i := 8) (v := .int .i64 x8) rfl
      have c9 := X.kb.cell (i := 9) (v := .int .i64 x9) rfl
      have c10 := X.kb.cell (i := 10) (v := .int .i64 x10) rfl
      have f1 := X.kb.free 1
      have o0 := X.ko.cell (i := 0) (v := .int .i64 0) rfl
      have of0 := X.ko.free 0
      have o1 := X.ko.cell (i := 1) (v := .int .i64 0) rfl
      have of1 := X.ko.free 1
      have o2 := X.ko.cell (i := 2) (v := .int .i64 0) rfl
      have of2 := X.ko.free 2
      have o3 := X.ko.cell (i := 3) (v := .int .i64 0) rfl
      have of3 := X.ko.free 3
      have o4 := X.ko.cell (i := 4) (v := .int .i64 0) rfl
      have of4 := X.ko.free 4
      have o5 := X.ko.cell (i := 5) (v := .int .i64 0) rfl
      have of5 := X.ko.free 5
      have o6 := X.ko.cell (i := 6) (v := .int .i64 0) rfl
      have of6 := X.ko.free 6
      have o7 := X.ko.cell (i := 7) (v := .int .i64 0) rfl
      have of7 := X.ko.free 7
      have o8 := X.ko.cell (i := 8) (v := .int .i64 0) rfl
      have of8 := X.ko.free 8
      have o9 := X.ko.cell (i := 9) (v := .int .i64 0) rfl
      have of9 := X.ko.free 9
      have o10 := X.ko.cell (i := 10) (v := .int .i64 0) rfl
      have of10 := X.ko.free 10
      have hne : ¬ w.heap.size = S := X.ne
      have hne2 : ¬ S = w.heap.size := fun h => X.ne h.symm
      have hS9 := X.hS
      clear s9 p9 X H
      go_wp2_with fail
      refine bodyPost_ret (v := .agg #[.int .i64 x0, .int .i64 v, .int .i64 x2, .int .i64 x3, .int .i64 x4, .int .i64 x5, .int .i64 x6, .int .i64 x7, .int .i64 x8, .int .i64 x9, .int .i64 x10]) (by simp [results, Try.results20, go_sem, o0, o1, o2, o3, o4, o5, o6, o7, o8, o9, o10]) rfl ⟨(x0, v, x2, x3, x4, x5, x6, x7, x8, x9, x10), rfl, ?_⟩
      refine (unhide H2).fin ?_
      iterate 12 (refine Below.setCell ?_ (by first | (simp; done) | (simp; omega)) _)
      exact Below.refl _ _
    · clear y0 y1
      go_wp2_with fail
      refine (Draw.below_any a len cap bc 2 (by omega) (by omega) _ ((unhide H).alloc (.cells #[.int .i64 (-6), .int .i64 6] 2)).st).mono ?_
      rintro e w4 ⟨j, rfl, j0, j1, s9, p9⟩
      have X := ((unhide H).alloc (.cells #[.int .i64 (-6), .int .i64 6] 2)).step s9 p9
      have H2 := hide X
      have hb3 := st_lt (unhide H).st
      obtain ⟨v, hv⟩ := Draw.pick_any #[.int .i64 (-6), .int .i64 6] j.toNat (by simp; omega) rfl
      have hcell : w4.cell? ⟨w3.heap.size, j.toNat, none⟩ = some (.int .i64 v) := by
        rw [p9.cell (p := ⟨w3.heap.size, j.toNat, none⟩) (by simp) (by simp; omega), World.cell?_alloc_at _ _ _ _ rfl]; exact hv
      clear hv
      have c0 := X.kb.cell (i := 0) (v := .int .i64 x0) rfl
      have c1 := X.kb.cell (i := 1) (v := .int .i64 x1) rfl
      have c2 := X.kb.cell (i := 2) (v := .int .i64 x2) rfl
      have c3 := X.kb.cell (i := 3) (v := .int .i64 x3) rfl
      have c4 := X.kb.cell (i := 4) (v := .int .i64 x4) rfl
      have c5 := X.kb.cell (i := 5) (v := .int .i64 x5) rfl
      have c6 := X.kb.cell (i := 6) (v := .int .i64 x6) rfl
      have c7 := X.kb.cell (i := 7) (v := .int .i64 x7) rfl
      have c8 := X.kb.cell (i := 8) (v := .int .i64 x8) rfl
      have c9 := X.kb.cell (i := 9) (v := .int .i64 x9) rfl
      have c10 := X.kb.cell (i := 10) (v := .int .i64 x10) rfl
      have f2 := X.kb.free 2
      have o0 := X.ko.cell (i := 0) (v := .int .i64 0) rfl
      have of0 := X.ko.free 0
      have o1 := X.ko.cell (i := 1) (v := .int .i64 0) rfl
      have of1 := X.ko.free 1
      have o2 := X.ko.cell (i := 2) (v := .int .i64 0) rfl
      have of2 := X.ko.free 2
      have o3 := X.ko.cell (i := 3) (v := .int .i64 0) rfl
      have of3 := X.ko.free 3
      have o4 := X.ko.cell (i := 4) (v := .int .i64 0) rfl
      have of4 := X.ko.free 4
      have o5 := X.ko.cell (i := 5) (v := .int .i64 0) rfl
      have of5 := X.ko.free 5
      have o6 := X.ko.cell (i := 6) (v := .int .i64 0) rfl
      have of6 := X.ko.free 6
      have o7 := X.ko.cell (i := 7) (v := .int .i64 0) rfl
      have of7 := X.ko.free 7
      have o8 := X.ko.cell (i := 8) (v := .int .i64 0) rfl
      have of8 := X.ko.free 8
      have o9 := X.ko.cell (i := 9) (v := .int .i64 0) rfl
      have of9 := X.ko.free 9
      have o10 := X.ko.cell (i := 10) (v := .int .i64 0) rfl
      have of10 := X.ko.free 10
      have hne : ¬ w.heap.size = S := X.ne
      have hne2 : ¬ S = w.heap.size := fun h => X.ne h.symm
      have hS9 := X.hS
      clear s9 p9 X H
      go_wp2_with fail
      refine bodyPost_ret (v := .agg #[.int .i64 x0, .int .i64 x1, .int .i64 v, .int .i64 x3, .int .i64 x4, .int .i64 x5, .int .i64 x6, .int .i64 x7, .int .i64 x8, .int .i64 x9, .int .i64 x10]) (by simp [results, Try.results20, go_sem, o0, o1, o2, o3, o4, o5, o6, o7, o8, o9, o10]) rfl ⟨(x0, x1, v, x3, x4, x5, x6, x7, x8, x9, x10), rfl, ?_⟩
      refine (unhide H2).fin ?_
      iterate 12 (refine Below.setCell ?_ (by first | (simp; done) | (simp; omega)) _)
      exact Below.refl _ _
    · clear y0 y1
      go_wp2_with fail
      refine (Draw.below_any a len cap bc 2 (by omega) (by omega) _ ((unhide H).alloc (.cells #[.int .i64 0, .int .i64 256] 2)).st).mono ?_
      rintro e w4 ⟨j, rfl, j0, j1, s9, p9⟩
      have X := ((unhide H).alloc (.cells #[.int .i64 0, .int .i64 256] 2)).step s9 p9
      have H2 := hide X
      have hb3 := st_lt (unhide H).st
      obtain ⟨v, hv⟩ := Draw.pick_any #[.int .i64 0, .int .i64 256] j.toNat (by simp; omega) rfl
      have hcell : w4.cell? ⟨w3.heap.size, j.toNat, none⟩ = some (.int .i64 v) := by
        rw [p9.cell (p := ⟨w3.heap.size, j.toNat, none⟩) (by simp) (by simp; omega), World.cell?_alloc_at _ _ _ _ rfl]; exact hv
      clear hv
      have c0 := X.kb.cell (i := 0) (v := .int .i64 x0) rfl
      have c1 := X.kb.cell (i := 1) (v := .int .i64 x1) rfl
      have c2 := X.kb.cell (i := 2) (v := .int .i64 x2) rfl
      have c3 := X.kb.cell (i := 3) (v := .int .i64 x3) rfl
      have c4 := X.kb.cell (i := 4) (v := .int .i64 x4) rfl
      have c5 := X.kb.cell (i := 5) (v := .int .i64 x5) rfl
      have c6 := X.kb.cell (i := 6) (v := .int .i64 x6) rfl
      have c7 := X.kb.cell (i := 7) (v := .int .i64 x7) rfl
      have c8 := X.kb.cell (i := 8) (v := .int .i64 x8) rfl
      have c9 := X.kb.cell (i := 9) (v := .int .i64 x9) rfl
      have c10 := X.kb.cell (i := 10) (v := .int .i64 x10) rfl
      have f3 := X.kb.free 3
      have o0 := X.ko.cell (i := 0) (v := .int .i64 0) rfl
      have of0 := X.ko.free 0
      have o1 := X.ko.cell (i := 1) (v := .int .i64 0) rfl
      have of1 := X.ko.free 1
      have o2 := X.ko.cell (i := 2) (v := .int .i64 0) rfl
      have of2 := X.ko.free 2
      have o3 := X.ko.cell (i := 3) (v := .int .i64 0) rfl
      have of3 := X.ko.free 3
      have o4 := X.ko.cell (i := 4) (v := .int .i64 0) rfl
      have of4 := X.ko.free 4
      have o5 := X.ko.cell (i := 5) (v := .int .i64 0) rfl
      have of5 := X.ko.free 5
      have o6 := X.ko.cell (i := 6) (v := .int .i64 0) rfl
      have of6 := X.ko.free 6
      have o7 := X.ko.cell (i := 7) (v := .int .i64 0) rfl
      have of7 := X.ko.free 7
      have o8 := X.ko.cell (i := 8) (v := .int .i64 0) rfl
      have of8 := X.ko.free 8
      have o9 := X.ko.cell (i := 9) (v := .int .i64 0) rfl
      have of9 := X.ko.free 9
      have o10 := X.ko.cell (i := 10) (v := .int .i64 0) rfl
      have of10 := X.ko.free 10
      have hne : ¬ w.heap.size = S := X.ne
      have hne2 : ¬ S = w.heap.size := fun h => X.ne h.symm
      have hS9 := X.hS
      clear s9 p9 X H
      go_wp2_with fail
      refine bodyPost_ret (v := .agg #[.int .i64 x0, .int .i64 x1, .int .i64 x2, .int .i64 v, .int .i64 x4, .int .i64 x5, .int .i64 x6, .int .i64 x7, .int .i64 x8, .int .i64 x9, .int .i64 x10]) (by simp [results, Try.results20, go_sem, o0, o1, o2, o3, o4, o5, o6, o7, o8, o9, o10]) rfl ⟨(x0, x1, x2, v, x4, x5, x6, x7, x8, x9, x10), rfl, ?_⟩
      refine (unhide H2).fin ?_
      iterate 12 (refine Below.setCell ?_ (by first | (simp; done) | (simp; omega)) _)
      exact Below.refl _ _
    · clear y0 y1
      go_wp2_with fail
      refine (Draw.below_any a len cap bc 2 (by omega) (by omega) _ ((unhide H).alloc (.cells #[.int .i64 1000000000000, .int .i64 1000000000001] 2)).st).mono ?_
      rintro e w4 ⟨j, rfl, j0, j1, s9, p9⟩
      have X := ((unhide H).alloc (.cells #[.int .i64 1000000000000, .int .i64 1000000000001] 2)).step s9 p9
      have H2 := hide X
      have hb3 := st_lt (unhide H).st
      obtain ⟨v, hv⟩ := Draw.pick_any #[.int .i64 1000000000000, .int .i64 1000000000001] j.toNat (by simp; omega) rfl
      have hcell : w4.cell? ⟨w3.heap.size, j.toNat, none⟩ = some (.int .i64 v) := by
        rw [p9.cell (p := ⟨w3.heap.size, j.toNat, none⟩) (by simp) (by simp; omega), World.cell?_alloc_at _ _ _ _ rfl]; exact hv
      clear hv
      have c0 := X.kb.cell (i := 0) (v := .int .i64 x0) rfl
      have c1 := X.kb.cell (i := 1) (v := .int .i64 x1) rfl
      have c2 := X.kb.cell (i := 2) (v := .int .i64 x2) rfl
      have c3 := X.kb.cell (i := 3) (v := .int .i64 x3) rfl
      have c4 := X.kb.cell (i := 4) (v := .int .i64 x4) rfl
      have c5 := X.kb.cell (i := 5) (v := .int .i64 x5) rfl
      have c6 := X.kb.cell (i := 6) (v := .int .i64 x6) rfl
      have c7 := X.kb.cell (i := 7) (v := .int .i64 x7) rfl
      have c8 := X.kb.cell (i := 8) (v := .int .i64 x8) rfl
      have c9 := X.kb.cell (i := 9) (v := .int .i64 x9) rfl
      have c10 := X.kb.cell (i := 10) (v := .int .i64 x10) rfl
      have f7 := X.kb.free 7
      have o0 := X.ko.cell (i := 0) (v := .int .i64 0) rfl
      have of0 := X.ko.free 0
      have o1 := X.ko.cell (i := 1) (v := .int .i64 0) rfl
      have of1 := X.ko.free 1
      have o2 := X.ko.cell (i := 2) (v := .int .i64 0) rfl
      have of2 := X.ko.free 2
      have o3 := X.ko.cell (i := 3) (v := .int .i64 0) rfl
      have of3 := X.ko.free 3
      have o4 := X.ko.cell (i := 4) (v := .int .i64 0) rfl
      have of4 := X.ko.free 4
      have o5 := X.ko.cell (i := 5) (v := .int .i64 0) rfl
      have of5 := X.ko.free 5
      have o6 := X.ko.cell (i := 6) (v := .int .i64 0) rfl
      have of6 := X.ko.free 6
      have o7 := X.ko.cell (i := 7) (v := .int .i64 0) rfl
      have of7 := X.ko.free 7
      have o8 := X.ko.cell (i := 8) (v := .int .i64 0) rfl
      have of8 := X.ko.free 8
      have o9 := X.ko.cell (i := 9) (v := .int .i64 0) rfl
      have of9 := X.ko.free 9
      have o10 := X.ko.cell (i := 10) (v := .int .i64 0) rfl
      have of10 := X.ko.free 10
      have hne : ¬ w.heap.size = S := X.ne
      have hne2 : ¬ S = w.heap.size := fun h => X.ne h.symm
      have hS9 := X.hS
      clear s9 p9 X H
      go_wp2_with fail
      refine bodyPost_ret (v := .agg #[.int .i64 x0, .int .i64 x1, .int .i64 x2, .int .i64 x3, .int .i64 x4, .int .i64 x5, .int .i64 x6, .int .i64 v, .int .i64 x8, .int .i64 x9, .int .i64 x10]) (by simp [results, Try.results20, go_sem, o0, o1, o2, o3, o4, o5, o6, o7, o8, o9, o10]) rfl ⟨(x0, x1, x2, x3, x4, x5, x6, v, x8, x9, x10), rfl, ?_⟩
      refine (unhide H2).fin ?_
      iterate 12 (refine Below.setCell ?_ (by first | (simp; done) | (simp; omega)) _)
      exact Below.refl _ _
    · clear y0 y1
      go_wp2_with fail
      refine (Draw.below_any a len cap bc 3 (by omega) (by omega) _ ((unhide H).alloc (.cells #[.int .i64 (-1), .int .i64 400, .int .i64 4000] 2)).st).mono ?_
      rintro e w4 ⟨j, rfl, j0, j1, s9, p9⟩
      have X := ((unhide H).alloc (.cells #[.int .i64 (-1), .int .i64 400, .int .i64 4000] 2)).step s9 p9
      have H2 := hide X
      have hb3 := st_lt (unhide H).st
      obtain ⟨v, hv⟩ := Draw.pick_any #[.int .i64 (-1), .int .i64 400, .int .i64 4000] j.toNat (by simp; omega) rfl
      have hcell : w4.cell? ⟨w3.heap.size, j.toNat, none⟩ = some (.int .i64 v) := by
        rw [p9.cell (p := ⟨w3.heap.size, j.toNat, none⟩) (by simp) (by simp; omega), World.cell?_alloc_at _ _ _ _ rfl]; exact hv
      clear hv
      have c0 := X.kb.cell (i := 0) (v := .int .i64 x0) rfl
      have c1 := X.kb.cell (i := 1) (v := .int .i64 x1) rfl
      have c2 := X.kb.cell (i := 2) (v := .int .i64 x2) rfl
      have c3 := X.kb.cell (i := 3) (v := .int .i64 x3) rfl
      have c4 := X.kb.cell (i := 4) (v := .int .i64 x4) rfl
      have c5 := X.kb.cell (i := 5) (v := .int .i64 x5) rfl
      have c6 := X.kb.cell (i := 6) (v := .int .i64 x6) rfl
      have c7 := X.kb.cell (i := 7) (v := .int .i64 x7) rfl
      have c8 := X.kb.cell (i := 8) (v := .int .i64 x8) rfl
      have c9 := X.kb.cell (i := 9) (v := .int .i64 x9) rfl
      have c10 := X.kb.cell (i := 10) (v := .int .i64 x10) rfl
      have f8 := X.kb.free 8
      have o0 := X.ko.cell (i := 0) (v := .int .i64 0) rfl
      have of0 := X.ko.free 0
      have o1 := X.ko.cell (i := 1) (v := .int .i64 0) rfl
      have of1 := X.ko.free 1
      have o2 := X.ko.cell (i := 2) (v := .int .i64 0) rfl
      have of2 := X.ko.free 2
      have o3 := X.ko.cell (i := 3) (v := .int .i64 0) rfl
      have of3 := X.ko.free 3
      have o4 := X.ko.cell (i := 4) (v := .int .i64 0) rfl
      have of4 := X.ko.free 4
      have o5 := X.ko.cell (i := 5) (v := .int .i64 0) rfl
      have of5 := X.ko.free 5
      have o6 := X.ko.cell (i := 6) (v := .int .i64 0) rfl
      have of6 := X.ko.free 6
      have o7 := X.ko.cell (i := 7) (v := .int .i64 0) rfl
      have of7 := X.ko.free 7
      have o8 := X.ko.cell (i := 8) (v := .int .i64 0) rfl
      have of8 := X.ko.free 8
      have o9 := X.ko.cell (i := 9) (v := .int .i64 0) rfl
      have of9 := X.ko.free 9
      have o10 := X.ko.cell (i := 10) (v := .int .i64 0) rfl
      have of10 := X.ko.free 10
      have hne : ¬ w.heap.size = S := X.ne
      have hne2 : ¬ S = w.heap.size := fun h => X.ne h.symm
      have hS9 := X.hS
      clear s9 p9 X H
      go_wp2_with fail
      refine bodyPost_ret (v := .agg #[.int .i64 x0, .int .i64 x1, .int .i64 x2, .int .i64 x3, .int .i64 x4, .int .i64 x5, .int .i64 x6, .int .i64 x7, .int .i64 v, .int .i64 x9, .int .i64 x10]) (by simp [results, Try.results20, go_sem, o0, o1, o2, o3, o4, o5, o6, o7, o8, o9, o10]) rfl ⟨(x0, x1, x2, x3, x4, x5, x6, x7, v, x9, x10), rfl, ?_⟩
      refine (unhide H2).fin ?_
      iterate 12 (refine Below.setCell ?_ (by first | (simp; done) | (simp; omega)) _)
      exact Below.refl _ _
    · clear y0 y1
      go_wp2_with fail
      refine (Draw.below_any a len cap bc 3 (by omega) (by omega) _ ((unhide H).alloc (.cells #[.int .i64 100000000000, .int .i64 100000000001, .int .i64 (-1)] 2)).st).mono ?_
      rintro e w4 ⟨j, rfl, j0, j1, s9, p9⟩
      have X := ((unhide H).alloc (.cells #[.int .i64 100000000000, .int .i64 100000000001, .int .i64 (-1)] 2)).step s9 p9
      have H2 := hide X
      have hb3 := st_lt (unhide H).st
      obtain ⟨v, hv⟩ := Draw.pick_any #[.int .i64 100000000000, .int .i64 100000000001, .int .i64 (-1)] j.toNat (by simp; omega) rfl
      have hcell : w4.cell? ⟨w3.heap.size, j.toNat, none⟩ = some (.int .i64 v) := by
        rw [p9.cell (p := ⟨w3.heap.size, j.toNat, none⟩) (by simp) (by simp; omega), World.cell?_alloc_at _ _ _ _ rfl]; exact hv
      clear hv
      have c0 := X.kb.cell (i := 0) (v := .int .i64 x0) rfl
      have c1 := X.kb.cell (i := 1) (v := .int .i64 x1) rfl
      have c2 := X.kb.cell (i := 2) (v := .int .i64 x2) rfl
      have c3 := X.kb.cell (i := 3) (v := .int .i64 x3) rfl
      have c4 := X.kb.cell (i := 4) (v := .int .i64 x4) rfl
      have c5 := X.kb.cell (i := 5) (v := .int .i64 x5) rfl
      have c6 := X.kb.cell (i := 6) (v := .int .i64 x6) rfl
      have c7 := X.kb.cell (i := 7) (v := .int .i64 x7) rfl
      have c8 := X.kb.cell (i := 8) (v := .int .i64 x8) rfl
      have c9 := X.kb.cell (i := 9) (v := .int .i64 x9) rfl
      have c10 := X.kb.cell (i := 10) (v := .int .i64 x10) rfl
      have f10 := X.kb.free 10
      have o0 := X.ko.cell (i := 0) (v := .int .i64 0) rfl
      have of0 := X.ko.free 0
      have o1 := X.ko.cell (i := 1) (v := .int .i64 0) rfl
      have of1 := X.ko.free 1
      have o2 := X.ko.cell (i := 2) (v := .int .i64 0) rfl
      have of2 := X.ko.free 2
      have o3 := X.ko.cell (i := 3) (v := .int .i64 0) rfl
      have of3 := X.ko.free 3
      have o4 := X.ko.cell (i := 4) (v := .int .i64 0) rfl
      have of4 := X.ko.free 4
      have o5 := X.ko.cell (i := 5) (v := .int .i64 0) rfl
      have of5 := X.ko.free 5
      have o6 := X.ko.cell (i := 6) (v := .int .i64 0) rfl
      have of6 := X.ko.free 6
      have o7 := X.ko.cell (i := 7) (v := .int .i64 0) rfl
      have of7 := X.ko.free 7
      have o8 := X.ko.cell (i := 8) (v := .int .i64 0) rfl
      have of8 := X.ko.free 8
      have o9 := X.ko.cell (i := 9) (v := .int .i64 0) rfl
      have of9 := X.ko.free 9
      have o10 := X.ko.cell (i := 10) (v := .int .i64 0) rfl
      have of10 := X.ko.free 10
      have hne : ¬ w.heap.size = S := X.ne
      have hne2 : ¬ S = w.heap.size := fun h => X.ne h.symm
      have hS9 := X.hS
      clear s9 p9 X H
      go_wp2_with fail
      refine bodyPost_ret (v := .agg #[.int .i64 x0, .int .i64 x1, .int .i64 x2, .int .i64 x3, .int .i64 x4, .int .i64 x5, .int .i64 x6, .int .i64 x7, .int .i64 x8, .int .i64 x9, .int .i64 v]) (by simp [results, Try.results20, go_sem, o0, o1, o2, o3, o4, o5, o6, o7, o8, o9, o10]) rfl ⟨(x0, x1, x2, x3, x4, x5, x6, x7, x8, x9, v), rfl, ?_⟩
      refine (unhide H2).fin ?_
      iterate 12 (refine Below.setCell ?_ (by first | (simp; done) | (simp; omega)) _)
      exact Below.refl _ _
    · clear y0 y1
      go_wp2_with fail
      refine (Draw.drawForce_any a len cap bc _ (unhide H).st).mono ?_
      rintro e w4 ⟨v, rfl, s9, p9⟩
      have X := (unhide H).step s9 p9
      have H2 := hide X
      have c0 := X.kb.cell (i := 0) (v := .int .i64 x0) rfl
      have c1 := X.kb.cell (i := 1) (v := .int .i64 x1) rfl
      have c2 := X.kb.cell (i := 2) (v := .int .i64 x2) rfl
      have c3 := X.kb.cell (i := 3) (v := .int .i64 x3) rfl
      have c4 := X.kb.cell (i := 4) (v := .int .i64 x4) rfl
      have c5 := X.kb.cell (i := 5) (v := .int .i64 x5) rfl
      have c6 := X.kb.cell (i := 6) (v := .int .i64 x6) rfl
      have c7 := X.kb.cell (i := 7) (v := .int .i64 x7) rfl
      have c8 := X.kb.cell (i := 8) (v := .int .i64 x8) rfl
      have c9 := X.kb.cell (i := 9) (v := .int .i64 x9) rfl
      have c10 := X.kb.cell (i := 10) (v := .int .i64 x10) rfl
      have f5 := X.kb.free 5
      have o0 := X.ko.cell (i := 0) (v := .int .i64 0) rfl
      have of0 := X.ko.free 0
      have o1 := X.ko.cell (i := 1) (v := .int .i64 0) rfl
      have of1 := X.ko.free 1
      have o2 := X.ko.cell (i := 2) (v := .int .i64 0) rfl
      have of2 := X.ko.free 2
      have o3 := X.ko.cell (i := 3) (v := .int .i64 0) rfl
      have of3 := X.ko.free 3
      have o4 := X.ko.cell (i := 4) (v := .int .i64 0) rfl
      have of4 := X.ko.free 4
      have o5 := X.ko.cell (i := 5) (v := .int .i64 0) rfl
      have of5 := X.ko.free 5
      have o6 := X.ko.cell (i := 6) (v := .int .i64 0) rfl
      have of6 := X.ko.free 6
      have o7 := X.ko.cell (i := 7) (v := .int .i64 0) rfl
      have of7 := X.ko.free 7
      have o8 := X.ko.cell (i := 8) (v := .int .i64 0) rfl
      have of8 := X.ko.free 8
      have o9 := X.ko.cell (i := 9) (v := .int .i64 0) rfl
      have of9 := X.ko.free 9
      have o10 := X.ko.cell (i := 10) (v := .int .i64 0) rfl
      have of10 := X.ko.free 10
      have hne : ¬ w.heap.size = S := X.ne
      have hne2 : ¬ S = w.heap.size := fun h => X.ne h.symm
      have hS9 := X.hS
      clear s9 p9 X H
      go_wp2_with fail
      refine bodyPost_ret (v := .agg #[.int .i64 x0, .int .i64 x1, .int .i64 x2, .int .i64 x3, .int .i64 x4, .int .i64 v, .int .i64 x6, .int .i64 x7, .int .i64 x8, .int .i64 x9, .int .i64 x10]) (by simp [results, Try.results20, go_sem, o0, o1, o2, o3, o4, o5, o6, o7, o8, o9, o10]) rfl ⟨(x0, x1, x2, x3, x4, v, x6, x7, x8, x9, x10), rfl, ?_⟩
      refine (unhide H2).fin ?_
      iterate 12 (refine Below.setCell ?_ (by first | (simp; done) | (simp; omega)) _)
      exact Below.refl _ _

end Go.Proofs.Ytkagjopogihnbaa
