/- Contracts of the draws of chapter 9's arguments: a smith and a number; only the draw's own memory is written. Condition: the bytes of the draw can be read and are at most 4096. -/
import Derived.Test.YtkagjopogihnbaaSmithDraw2
import Derived.Deep.RegionWith
namespace Go.Proofs.Ytkagjopogihnbaa
open Go.ChangeShapes Go.WideShapes Go.ChangeAt Go.RowKit Go.Sort
open Draw (St Off Row Cur)
set_option linter.unusedVariables false


set_option maxRecDepth 100000 in
set_option maxHeartbeats 2000000 in
theorem drawCharged_any (a : Option Addr) (len cap : Nat) (w : World) (hr : Row w.heap.size w a len) :
    Calls Try.prog 8 #[.slice a len cap] w fun e w' => ∃ (x : SmithV) (n : Int), e = .returned (.tuple #[.agg (encSmith x).toArray, .int .i64 n]) ∧ Below w.heap.size w w' := by
  have Hr := hide hr
  clear hr
  go_enter Try.func8, Try.ntmps8
  go_wp2_with fail
  refine (Draw.new_any a len cap _ (Draw.row_later (unhide Hr) ((Below.refl _ _).alloc (Nat.le_refl _) _))).mono ?_
  rintro e w1 ⟨rfl, s1, p1⟩
  simp only [World.size_alloc] at s1 p1 ⊢
  have ko1 : Hid (Blk w1 w.heap.size 25 #[.int .i64 0, .int .i64 0, .int .i64 0, .int .i64 0, .int .i64 0, .int .i64 0, .int .i64 0, .int .i64 0, .int .i64 0, .int .i64 0, .int .i64 0]) := hide ((Blk.new w 25 #[.int .i64 0, .int .i64 0, .int .i64 0, .int .i64 0, .int .i64 0, .int .i64 0, .int .i64 0, .int .i64 0, .int .i64 0, .int .i64 0, .int .i64 0]).same (p1.block w.heap.size (by simp) (by omega)))
  have B1 : Hid (Below w.heap.size w w1) := hide (((Below.refl _ _).alloc (Nat.le_refl _) _).trans (p1.below (by omega) (by simp)))
  have Hs1 := hide s1
  clear s1 p1
  go_wp2_with fail
  refine (l9DrawAny_any a len cap (w.heap.size + 1) _ (unhide Hs1)).mono ?_
  rintro e w2 ⟨⟨x0, x1, x2, x3, x4, x5, x6, x7, x8, x9, x10⟩, rfl, s2, p2⟩
  have ko2 := (unhide ko1).same (p2.block w.heap.size (unhide ko1).lt (by omega))
  have B2 : Hid (Below w.heap.size w w2) := hide ((unhide B1).trans (p2.below (by omega) (unhide B1).size))
  have hz2 : w.heap.size + 1 < w2.heap.size := st_lt s2
  have Hs2 := hide s2
  have Ko2 := hide ko2
  clear s2 p2 ko1 B1 Hs1 ko2
  simp only [encSmith]
  go_wp2_with fail
  have H2 : Hid (St a len cap (w.heap.size + 1) (w2.alloc (.cells #[.int .i64 x0, .int .i64 x1, .int .i64 x2, .int .i64 x3, .int .i64 x4, .int .i64 x5, .int .i64 x6, .int .i64 x7, .int .i64 x8, .int .i64 x9, .int .i64 x10] 25)) ∧ Blk (w2.alloc (.cells #[.int .i64 x0, .int .i64 x1, .int .i64 x2, .int .i64 x3, .int .i64 x4, .int .i64 x5, .int .i64 x6, .int .i64 x7, .int .i64 x8, .int .i64 x9, .int .i64 x10] 25)) w.heap.size 25 #[.int .i64 0, .int .i64 0, .int .i64 0, .int .i64 0, .int .i64 0, .int .i64 0, .int .i64 0, .int .i64 0, .int .i64 0, .int .i64 0, .int .i64 0] ∧ Blk (w2.alloc (.cells #[.int .i64 x0, .int .i64 x1, .int .i64 x2, .int .i64 x3, .int .i64 x4, .int .i64 x5, .int .i64 x6, .int .i64 x7, .int .i64 x8, .int .i64 x9, .int .i64 x10] 25)) w2.heap.size 25 #[.int .i64 x0, .int .i64 x1, .int .i64 x2, .int .i64 x3, .int .i64 x4, .int .i64 x5, .int .i64 x6, .int .i64 x7, .int .i64 x8, .int .i64 x9, .int .i64 x10] ∧ Below w.heap.size w (w2.alloc (.cells #[.int .i64 x0, .int .i64 x1, .int .i64 x2, .int .i64 x3, .int .i64 x4, .int .i64 x5, .int .i64 x6, .int .i64 x7, .int .i64 x8, .int .i64 x9, .int .i64 x10] 25)) ∧ w.heap.size + 1 < (w2.alloc (.cells #[.int .i64 x0, .int .i64 x1, .int .i64 x2, .int .i64 x3, .int .i64 x4, .int .i64 x5, .int .i64 x6, .int .i64 x7, .int .i64 x8, .int .i64 x9, .int .i64 x10] 25)).heap.size) := hide ⟨(unhide Hs2).alloc _, (unhide Ko2).alloc _, Blk.new _ _ _, (unhide B2).alloc (by omega) _, by simp; omega⟩
  clear Hs2 Ko2 B2
  generalize w2.alloc (.cells #[.int .i64 x0, .int .i64 x1, .int .i64 x2, .int .i64 x3, .int .i64 x4, .int .i64 x5, .int .i64 x6, .int .i64 x7, .int .i64 x8, .int .i64 x9, .int .i64 x10] 25) = W at *
  have hS : w.heap.size + 1 < w2.heap.size := hz2
  clear hz2
  generalize w2.heap.size = S at *
  refine (Draw.below_any a len cap _ 20000 (by omega) (by omega) _ (unhide H2).1).mono ?_
  rintro e w3 ⟨n, rfl, n0, n1, s9, p9⟩
  have K : Hid (St a len cap (w.heap.size + 1) w3 ∧ Blk w3 w.heap.size 25 #[.int .i64 0, .int .i64 0, .int .i64 0, .int .i64 0, .int .i64 0, .int .i64 0, .int .i64 0, .int .i64 0, .int .i64 0, .int .i64 0, .int .i64 0] ∧ Blk w3 S 25 #[.int .i64 x0, .int .i64 x1, .int .i64 x2, .int .i64 x3, .int .i64 x4, .int .i64 x5, .int .i64 x6, .int .i64 x7, .int .i64 x8, .int .i64 x9, .int .i64 x10] ∧ Below w.heap.size w w3 ∧ w.heap.size + 1 < w3.heap.size) := hide (by
    obtain ⟨h1, h2, h3, h4, h5⟩ := unhide H2
    exact ⟨s9, (h2).same (p9.block _ (h2).lt (by omega)), (h3).same (p9.block _ (h3).lt (by omega)), (h4).trans (p9.below (by omega) (h4).size), Nat.lt_of_lt_of_le (by first | exact h5 | (simp; omega)) p9.size⟩)
  have H3 := K
  clear s9 p9 H2 K
  go_wp2_with fail
  refine (Draw.once_any a len cap _ 10 (by omega) (by omega) _ (unhide H3).1).mono ?_
  rintro e w4 ⟨b, rfl, s9, p9⟩
  have K : Hid (St a len cap (w.heap.size + 1) w4 ∧ Blk w4 w.heap.size 25 #[.int .i64 0, .int .i64 0, .int .i64 0, .int .i64 0, .int .i64 0, .int .i64 0, .int .i64 0, .int .i64 0, .int .i64 0, .int .i64 0, .int .i64 0] ∧ Blk w4 S 25 #[.int .i64 x0, .int .i64 x1, .int .i64 x2, .int .i64 x3, .int .i64 x4, .int .i64 x5, .int .i64 x6, .int .i64 x7, .int .i64 x8, .int .i64 x9, .int .i64 x10] ∧ Below w.heap.size w w4 ∧ w.heap.size + 1 < w4.heap.size) := hide (by
    obtain ⟨h1, h2, h3, h4, h5⟩ := unhide H3
    exact ⟨s9, (h2).same (p9.block _ (h2).lt (by omega)), (h3).same (p9.block _ (h3).lt (by omega)), (h4).trans (p9.below (by omega) (h4).size), Nat.lt_of_lt_of_le (by first | exact h5 | (simp; omega)) p9.size⟩)
  clear s9 p9 H3
  cases b
  · obtain ⟨_, ko, kb, b9, hl⟩ := unhide K
    have c0 := kb.cell (i := 0) (v := .int .i64 x0) rfl
    have c1 := kb.cell (i := 1) (v := .int .i64 x1) rfl
    have c2 := kb.cell (i := 2) (v := .int .i64 x2) rfl
    have c3 := kb.cell (i := 3) (v := .int .i64 x3) rfl
    have c4 := kb.cell (i := 4) (v := .int .i64 x4) rfl
    have c5 := kb.cell (i := 5) (v := .int .i64 x5) rfl
    have c6 := kb.cell (i := 6) (v := .int .i64 x6) rfl
    have c7 := kb.cell (i := 7) (v := .int .i64 x7) rfl
    have c8 := kb.cell (i := 8) (v := .int .i64 x8) rfl
    have c9 := kb.cell (i := 9) (v := .int .i64 x9) rfl
    have c10 := kb.cell (i := 10) (v := .int .i64 x10) rfl
    have o0 := ko.cell (i := 0) (v := .int .i64 0) rfl
    have of0 := ko.free 0
    have o1 := ko.cell (i := 1) (v := .int .i64 0) rfl
    have of1 := ko.free 1
    have o2 := ko.cell (i := 2) (v := .int .i64 0) rfl
    have of2 := ko.free 2
    have o3 := ko.cell (i := 3) (v := .int .i64 0) rfl
    have of3 := ko.free 3
    have o4 := ko.cell (i := 4) (v := .int .i64 0) rfl
    have of4 := ko.free 4
    have o5 := ko.cell (i := 5) (v := .int .i64 0) rfl
    have of5 := ko.free 5
    have o6 := ko.cell (i := 6) (v := .int .i64 0) rfl
    have of6 := ko.free 6
    have o7 := ko.cell (i := 7) (v := .int .i64 0) rfl
    have of7 := ko.free 7
    have o8 := ko.cell (i := 8) (v := .int .i64 0) rfl
    have of8 := ko.free 8
    have o9 := ko.cell (i := 9) (v := .int .i64 0) rfl
    have of9 := ko.free 9
    have o10 := ko.cell (i := 10) (v := .int .i64 0) rfl
    have of10 := ko.free 10
    have hne : ¬ w.heap.size = S := by omega
    have hne2 : ¬ S = w.heap.size := by omega
    have B9 := hide b9
    clear ko kb b9 K
    go_wp2_with fail
    refine bodyPost_ret (v := .tuple #[.agg #[.int .i64 x0, .int .i64 x1, .int .i64 x2, .int .i64 x3, .int .i64 x4, .int .i64 x5, .int .i64 x6, .int .i64 x7, .int .i64 x8, .int .i64 x9, .int .i64 x10], .int .i64 n]) (by simp [results, Try.results8, go_sem, o0, o1, o2, o3, o4, o5, o6, o7, o8, o9, o10]) rfl ⟨(x0, x1, x2, x3, x4, x5, x6, x7, x8, x9, x10), n, rfl, ?_⟩
    iterate 11 (refine Below.setCell ?_ (by simp) _)
    exact unhide B9
  · have H4 := K
    clear K
    go_wp2_with fail
    refine (Draw.below_any a len cap _ 3 (by omega) (by omega) _ ((unhide H4).1.alloc (.cells #[.int .i64 (-1), .int .i64 100000, .int .i64 100001] 2))).mono ?_
    rintro e w5 ⟨j, rfl, j0, j1, s9, p9⟩
    have hb4 := (unhide H4).2.2.2.2
    obtain ⟨v, hv⟩ := Draw.pick_any #[.int .i64 (-1), .int .i64 100000, .int .i64 100001] j.toNat (by simp; omega) rfl
    have hcell : w5.cell? ⟨w4.heap.size, j.toNat, none⟩ = some (.int .i64 v) := by
      rw [p9.cell (p := ⟨w4.heap.size, j.toNat, none⟩) (by simp) (by simp; omega), World.cell?_alloc_at _ _ _ _ rfl]; exact hv
    have K : Hid (St a len cap (w.heap.size + 1) w5 ∧ Blk w5 w.heap.size 25 #[.int .i64 0, .int .i64 0, .int .i64 0, .int .i64 0, .int .i64 0, .int .i64 0, .int .i64 0, .int .i64 0, .int .i64 0, .int .i64 0, .int .i64 0] ∧ Blk w5 S 25 #[.int .i64 x0, .int .i64 x1, .int .i64 x2, .int .i64 x3, .int .i64 x4, .int .i64 x5, .int .i64 x6, .int .i64 x7, .int .i64 x8, .int .i64 x9, .int .i64 x10] ∧ Below w.heap.size w w5 ∧ w.heap.size + 1 < w5.heap.size) := hide (by
      obtain ⟨h1, h2, h3, h4, h5⟩ := unhide H4
      exact ⟨s9, (h2.alloc _).same (p9.block _ (h2.alloc _).lt (by omega)), (h3.alloc _).same (p9.block _ (h3.alloc _).lt (by omega)), (h4.alloc (by omega) _).trans (p9.below (by omega) (h4.alloc (by omega) _).size), Nat.lt_of_lt_of_le (by first | exact h5 | (simp; omega)) p9.size⟩)
    clear s9 p9 H4 hv
    obtain ⟨_, ko, kb, b9, hl⟩ := unhide K
    have c0 := kb.cell (i := 0) (v := .int .i64 x0) rfl
    have c1 := kb.cell (i := 1) (v := .int .i64 x1) rfl
    have c2 := kb.cell (i := 2) (v := .int .i64 x2) rfl
    have c3 := kb.cell (i := 3) (v := .int .i64 x3) rfl
    have c4 := kb.cell (i := 4) (v := .int .i64 x4) rfl
    have c5 := kb.cell (i := 5) (v := .int .i64 x5) rfl
    have c6 := kb.cell (i := 6) (v := .int .i64 x6) rfl
    have c7 := kb.cell (i := 7) (v := .int .i64 x7) rfl
    have c8 := kb.cell (i := 8) (v := .int .i64 x8) rfl
    have c9 := kb.cell (i := 9) (v := .int .i64 x9) rfl
    have c10 := kb.cell (i := 10) (v := .int .i64 x10) rfl
    have o0 := ko.cell (i := 0) (v := .int .i64 0) rfl
    have of0 := ko.free 0
    have o1 := ko.cell (i := 1) (v := .int .i64 0) rfl
    have of1 := ko.free 1
    have o2 := ko.cell (i := 2) (v := .int .i64 0) rfl
    have of2 := ko.free 2
    have o3 := ko.cell (i := 3) (v := .int .i64 0) rfl
    have of3 := ko.free 3
    have o4 := ko.cell (i := 4) (v := .int .i64 0) rfl
    have of4 := ko.free 4
    have o5 := ko.cell (i := 5) (v := .int .i64 0) rfl
    have of5 := ko.free 5
    have o6 := ko.cell (i := 6) (v := .int .i64 0) rfl
    have of6 := ko.free 6
    have o7 := ko.cell (i := 7) (v := .int .i64 0) rfl
    have of7 := ko.free 7
    have o8 := ko.cell (i := 8) (v := .int .i64 0) rfl
    have of8 := ko.free 8
    have o9 := ko.cell (i := 9) (v := .int .i64 0) rfl
    have of9 := ko.free 9
    have o10 := ko.cell (i := 10) (v := .int .i64 0) rfl
    have of10 := ko.free 10
    have hne : ¬ w.heap.size = S := by omega
    have hne2 : ¬ S = w.heap.size := by omega
    have B9 := hide b9
    clear ko kb b9 K
    go_wp2_with fail
    refine bodyPost_ret (v := .tuple #[.agg #[.int .i64 x0, .int .i64 x1, .int .i64 x2, .int .i64 x3, .int .i64 x4, .int .i64 x5, .int .i64 x6, .int .i64 x7, .int .i64 x8, .int .i64 x9, .int .i64 x10], .int .i64 v]) (by simp [results, Try.results8, go_sem, o0, o1, o2, o3, o4, o5, o6, o7, o8, o9, o10]) rfl ⟨(x0, x1, x2, x3, x4, x5, x6, x7, x8, x9, x10), v, rfl, ?_⟩
    iterate 11 (refine Below.setCell ?_ (by simp) _)
    exact unhide B9

end Go.Proofs.Ytkagjopogihnbaa
