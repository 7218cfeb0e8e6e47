/- Contracts of the draws of chapter 9's arguments: a smith and a number; only the draw's own memory is written. Condition: the bytes of the draw can be read and are at most 4096. -/
import Derived.Test.YtkagjopogihnbaaSmithDraw3
import Derived.Deep.RegionWith
namespace Go.Proofs.Ytkagjopogihnbaa
open Go.ChangeShapes Go.WideShapes Go.ChangeAt Go.RowKit Go.Sort
open Draw (St Off Row Cur)
set_option linter.unusedVariables false


set_option maxRecDepth 100000 in
set_option maxHeartbeats 2000000 in
theorem drawReranked_any (a : Option Addr) (len cap : Nat) (w : World) (hr : Row w.heap.size w a len) :
    Calls Try.prog 10 #[.slice a len cap] w fun e w' => ∃ (x : SmithV) (n : Int), e = .returned (.tuple #[.agg (encSmith x).toArray, .int .i64 n]) ∧ Below w.heap.size w w' := by
  have Hr := hide hr
  clear hr
  go_enter Try.func10, Try.ntmps10
  go_wp2_with fail
  refine (Draw.new_any a len cap _ (Draw.row_later (unhide Hr) ((Below.refl _ _).alloc (Nat.le_refl _) _))).mono ?_
  rintro e w1 ⟨rfl, s1, p1⟩
  simp only [World.size_alloc] at s1 p1 ⊢
  have ko1 : Hid (Blk w1 w.heap.size 25 #[.int .i64 0, .int .i64 0, .int .i64 0, .int .i64 0, .int .i64 0, .int .i64 0, .int .i64 0, .int .i64 0, .int .i64 0, .int .i64 0, .int .i64 0]) := hide ((Blk.new w 25 #[.int .i64 0, .int .i64 0, .int .i64 0, .int .i64 0, .int .i64 0, .int .i64 0, .int .i64 0, .int .i64 0, .int .i64 0, .int .i64 0, .int .i64 0]).same (p1.block w.heap.size (by simp) (by omega)))
  have B1 : Hid (Below w.heap.size w w1) := hide (((Below.refl _ _).alloc (Nat.le_refl _) _).trans (p1.below (by omega) (by simp)))
  have Hs1 := hide s1
  clear s1 p1
  go_wp2_with fail
  refine (l9DrawAny_any a len cap (w.heap.size + 1) _ (unhide Hs1)).mono ?_
  rintro e w2 ⟨⟨x0, x1, x2, x3, x4, x5, x6, x7, x8, x9, x10⟩, rfl, s2, p2⟩
  have ko2 := (unhide ko1).same (p2.block w.heap.size (unhide ko1).lt (by omega))
  have B2 : Hid (Below w.heap.size w w2) := hide ((unhide B1).trans (p2.below (by omega) (unhide B1).size))
  have hz2 : w.heap.size + 1 < w2.heap.size := st_lt s2
  have Hs2 := hide s2
  have Ko2 := hide ko2
  clear s2 p2 ko1 B1 Hs1 ko2
  simp only [encSmith]
  go_wp2_with fail
  have H2 : Hid (St a len cap (w.heap.size + 1) (w2.alloc (.cells #[.int .i64 x0, .int .i64 x1, .int .i64 x2, .int .i64 x3, .int .i64 x4, .int .i64 x5, .int .i64 x6, .int .i64 x7, .int .i64 x8, .int .i64 x9, .int .i64 x10] 25)) ∧ Blk (w2.alloc (.cells #[.int .i64 x0, .int .i64 x1, .int .i64 x2, .int .i64 x3, .int .i64 x4, .int .i64 x5, .int .i64 x6, .int .i64 x7, .int .i64 x8, .int .i64 x9, .int .i64 x10] 25)) w.heap.size 25 #[.int .i64 0, .int .i64 0, .int .i64 0, .int .i64 0, .int .i64 0, .int .i64 0, .int .i64 0, .int .i64 0, .int .i64 0, .int .i64 0, .int .i64 0] ∧ Blk (w2.alloc (.cells #[.int .i64 x0, .int .i64 x1, .int .i64 x2, .int .i64 x3, .int .i64 x4, .int .i64 x5, .int .i64 x6, .int .i64 x7, .int .i64 x8, .int .i64 x9, .int .i64 x10] 25)) w2.heap.size 25 #[.int .i64 x0, .int .i64 x1, .int .i64 x2, .int .i64 x3, .int .i64 x4, .int .i64 x5, .int .i64 x6, .int .i64 x7, .int .i64 x8, .int .i64 x9, .int .i64 x10] ∧ Below w.heap.size w (w2.alloc (.cells #[.int .i64 x0, .int .i64 x1, .int .i64 x2, .int .i64 x3, .int .i64 x4, .int .i64 x5, .int .i64 x6, .int .i64 x7, .int .i64 x8, .int .i64 x9, .int .i64 x10] 25)) ∧ w.heap.size + 1 < (w2.alloc (.cells #[.int .i64 x0, .int .i64 x1, .int .i64 x2, .int .i64 x3, .int .i64 x4, .int .i64 x5, .int .i64 x6, .int .i64 x7, .int .i64 x8, .int .i64 x9, .int .i64 x10] 25)).heap.size) := hide ⟨(unhide Hs2).alloc _, (unhide Ko2).alloc _, Blk.new _ _ _, (unhide B2).alloc (by omega) _, by simp; omega⟩
  clear Hs2 Ko2 B2
  generalize w2.alloc (.cells #[.int .i64 x0, .int .i64 x1, .int .i64 x2, .int .i64 x3, .int .i64 x4, .int .i64 x5, .int .i64 x6, .int .i64 x7, .int .i64 x8, .int .i64 x9, .int .i64 x10] 25) = W at *
  have hS : w.heap.size + 1 < w2.heap.size := hz2
  clear hz2
  generalize w2.heap.size = S at *
  obtain ⟨_, _, kW, _, _⟩ := unhide H2
  have c0 := kW.cell (i := 0) (v := .int .i64 x0) rfl
  have c1 := kW.cell (i := 1) (v := .int .i64 x1) rfl
  have c2 := kW.cell (i := 2) (v := .int .i64 x2) rfl
  have c3 := kW.cell (i := 3) (v := .int .i64 x3) rfl
  have c4 := kW.cell (i := 4) (v := .int .i64 x4) rfl
  have c5 := kW.cell (i := 5) (v := .int .i64 x5) rfl
  have c6 := kW.cell (i := 6) (v := .int .i64 x6) rfl
  have c7 := kW.cell (i := 7) (v := .int .i64 x7) rfl
  have c8 := kW.cell (i := 8) (v := .int .i64 x8) rfl
  have c9 := kW.cell (i := 9) (v := .int .i64 x9) rfl
  have c10 := kW.cell (i := 10) (v := .int .i64 x10) rfl
  clear kW
  have hne : ¬ w.heap.size = S := by omega
  have hne2 : ¬ S = w.heap.size := by omega
  go_region_with (go_at_call 28; refine (Draw.from_any a len cap _ (-6) 6 (by omega) (by omega) (by omega) _ ?_).mono ?_; (exact st_drew (unhide H2).1); rintro e w3 ⟨n, rfl, n0, n1, s9, p8⟩; have p9 := off_drew p8; have K : Hid (St a len cap (w.heap.size + 1) w3 ∧ Blk w3 w.heap.size 25 #[.int .i64 0, .int .i64 0, .int .i64 0, .int .i64 0, .int .i64 0, .int .i64 0, .int .i64 0, .int .i64 0, .int .i64 0, .int .i64 0, .int .i64 0] ∧ Blk w3 S 25 #[.int .i64 x0, .int .i64 x1, .int .i64 x2, .int .i64 x3, .int .i64 x4, .int .i64 x5, .int .i64 x6, .int .i64 x7, .int .i64 x8, .int .i64 x9, .int .i64 x10] ∧ Below w.heap.size w w3 ∧ w.heap.size + 1 < w3.heap.size) := hide (by obtain ⟨h1, h2, h3, h4, h5⟩ := unhide H2; exact ⟨s9, (h2).same (p9.block _ (h2).lt (by omega)), (h3).same (p9.block _ (h3).lt (by omega)), (h4).trans (p9.below (by omega) (h4).size), Nat.lt_of_lt_of_le (by first | exact h5 | (simp; omega)) p9.size⟩); clear s9 p8 p9; obtain ⟨_, ko, kb, b9, hl⟩ := unhide K; have d0 := kb.cell (i := 0) (v := .int .i64 x0) rfl; have d1 := kb.cell (i := 1) (v := .int .i64 x1) rfl; have d2 := kb.cell (i := 2) (v := .int .i64 x2) rfl; have d3 := kb.cell (i := 3) (v := .int .i64 x3) rfl; have d4 := kb.cell (i := 4) (v := .int .i64 x4) rfl; have d5 := kb.cell (i := 5) (v := .int .i64 x5) rfl; have d6 := kb.cell (i := 6) (v := .int .i64 x6) rfl; have d7 := kb.cell (i := 7) (v := .int .i64 x7) rfl; have d8 := kb.cell (i := 8) (v := .int .i64 x8) rfl; have d9 := kb.cell (i := 9) (v := .int .i64 x9) rfl; have d10 := kb.cell (i := 10) (v := .int .i64 x10) rfl; have o0 := ko.cell (i := 0) (v := .int .i64 0) rfl; have of0 := ko.free 0; have o1 := ko.cell (i := 1) (v := .int .i64 0) rfl; have of1 := ko.free 1; have o2 := ko.cell (i := 2) (v := .int .i64 0) rfl; have of2 := ko.free 2; have o3 := ko.cell (i := 3) (v := .int .i64 0) rfl; have of3 := ko.free 3; have o4 := ko.cell (i := 4) (v := .int .i64 0) rfl; have of4 := ko.free 4; have o5 := ko.cell (i := 5) (v := .int .i64 0) rfl; have of5 := ko.free 5; have o6 := ko.cell (i := 6) (v := .int .i64 0) rfl; have of6 := ko.free 6; have o7 := ko.cell (i := 7) (v := .int .i64 0) rfl; have of7 := ko.free 7; have o8 := ko.cell (i := 8) (v := .int .i64 0) rfl; have of8 := ko.free 8; have o9 := ko.cell (i := 9) (v := .int .i64 0) rfl; have of9 := ko.free 9; have o10 := ko.cell (i := 10) (v := .int .i64 0) rfl; have of10 := ko.free 10; have B9 := hide b9; clear ko kb b9 K)
  all_goals
    go_wp2_with fail
    refine bodyPost_ret (v := .tuple #[.agg #[.int .i64 x0, .int .i64 x1, .int .i64 x2, .int .i64 x3, .int .i64 x4, .int .i64 x5, .int .i64 x6, .int .i64 x7, .int .i64 x8, .int .i64 x9, .int .i64 x10], .int .i64 n]) (by simp [results, Try.results10, go_sem, o0, o1, o2, o3, o4, o5, o6, o7, o8, o9, o10]) rfl ⟨(x0, x1, x2, x3, x4, x5, x6, x7, x8, x9, x10), n, rfl, ?_⟩
    iterate 11 (refine Below.setCell ?_ (by simp) _)
    exact unhide B9

end Go.Proofs.Ytkagjopogihnbaa
