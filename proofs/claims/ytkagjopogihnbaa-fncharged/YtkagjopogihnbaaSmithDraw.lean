/- Contracts of the draws of a smith: each returns a smith, and of the memory that was there writes the cursor's block alone. Condition: the bytes of the draw can be read and are at most 4096. -/
import Derived.Test.YtkagjopogihnbaaDrawKit
import Derived.Test.YtkagjopogihnbaaDraw1
import Derived.Test.YtkagjopogihnbaaBoxKit
import Derived.Test.YtkagjopogihnbaaSmithFn
namespace Go.Proofs.Ytkagjopogihnbaa
open Go.ChangeShapes Go.WideShapes Go.ChangeAt Go.RowKit Go.Sort
open Draw (St Off Row Cur)
set_option linter.unusedVariables false

/-- What is carried along between the draws: the cursor, the answer's box R, and the box S of the smith that is drawn. -/
structure Sbox (a : Option Addr) (len cap bc : Nat) (w0 : World) (R S : Nat) (cs : Array Value) (w : World) : Prop where
  st : St a len cap bc w
  off : Off bc w0 w
  gt : bc < w0.heap.size
  hR : w0.heap.size ≤ R
  hS : w0.heap.size ≤ S
  ne : R ≠ S
  ko : Blk w R 25 #[.int .i64 0, .int .i64 0, .int .i64 0, .int .i64 0, .int .i64 0, .int .i64 0, .int .i64 0, .int .i64 0, .int .i64 0, .int .i64 0, .int .i64 0]
  kb : Blk w S 25 cs
section
variable {a : Option Addr} {len cap bc : Nat} {w0 w w' : World} {R S : Nat} {cs : Array Value}
theorem Sbox.step (h : Sbox a len cap bc w0 R S cs w) (hs : St a len cap bc w') (ho : Off bc w w') : Sbox a len cap bc w0 R S cs w' := by
  have h1 := h.gt
  have h2 := h.hR
  have h3 := h.hS
  exact ⟨hs, h.off.trans ho, h.gt, h.hR, h.hS, h.ne, h.ko.same (ho.block R h.ko.lt (by omega)), h.kb.same (ho.block S h.kb.lt (by omega))⟩
theorem Sbox.alloc (h : Sbox a len cap bc w0 R S cs w) (o : Obj) : Sbox a len cap bc w0 R S cs (w.alloc o) := h.step (h.st.alloc _) ((Off.refl _ _).alloc _)
theorem Sbox.fin (h : Sbox a len cap bc w0 R S cs w) (hb : Below w0.heap.size w w') : St a len cap bc w' ∧ Off bc w0 w' := by
  have h1 := h.gt
  exact ⟨st_below h.st (hb.mono (by omega)), off_below h.off hb⟩
theorem Sbox.put (h : Sbox a len cap bc w0 R S cs w) (i : Nat) (v : Value) : Sbox a len cap bc w0 R S (cs.setIfInBounds i v) (w.setCell ⟨S, i, none⟩ v) := by
  have hb : Below w0.heap.size w (w.setCell ⟨S, i, none⟩ v) := (Below.refl _ _).setCell (p := ⟨S, i, none⟩) h.hS v
  obtain ⟨h1, h2⟩ := h.fin hb
  exact ⟨h1, h2, h.gt, h.hR, h.hS, h.ne, h.ko.other (a := ⟨S, i, none⟩) h.ne v, h.kb.set i v⟩
theorem fin_of (hs : St a len cap bc w) (ho : Off bc w0 w) (hbc : bc < w0.heap.size) (hb : Below w0.heap.size w w') : St a len cap bc w' ∧ Off bc w0 w' := ⟨st_below hs (hb.mono (by omega)), off_below ho hb⟩
end

set_option maxRecDepth 100000 in
set_option maxHeartbeats 2000000 in
theorem l9Draw_any (a : Option Addr) (len cap bc : Nat) (w : World) (hs : St a len cap bc w) :
    Calls Try.prog 37 #[.pointer (some ⟨bc, 0, none⟩)] w fun e w' => ∃ x : SmithV, e = .returned (.agg (encSmith x).toArray) ∧ St a len cap bc w' ∧ Off bc w w' := by
  have Hs := hide hs
  have hbc := st_lt hs
  clear hs
  go_enter Try.func37, Try.ntmps37
  go_wp2_with fail
  refine (Draw.from_any a len cap bc 0 3 (by omega) (by omega) (by omega) _ ((unhide Hs).alloc _)).mono ?_
  rintro e w1 ⟨st, rfl, t0, t1, s1, p1⟩
  have ko1 : Blk w1 w.heap.size 25 #[.int .i64 0, .int .i64 0, .int .i64 0, .int .i64 0, .int .i64 0, .int .i64 0, .int .i64 0, .int .i64 0, .int .i64 0, .int .i64 0, .int .i64 0] := (Blk.new w 25 #[.int .i64 0, .int .i64 0, .int .i64 0, .int .i64 0, .int .i64 0, .int .i64 0, .int .i64 0, .int .i64 0, .int .i64 0, .int .i64 0, .int .i64 0]).same (p1.block w.heap.size (by simp) (by omega))
  have hz1 : w.heap.size < w1.heap.size := ko1.lt
  have H1 : Hid (Sbox a len cap bc w w.heap.size w1.heap.size #[.int .i64 st, .int .i64 0, .int .i64 0, .int .i64 0, .int .i64 0, .int .i64 0, .int .i64 0, .int .i64 0, .int .i64 0, .int .i64 0, .int .i64 0] (w1.alloc (.cells #[.int .i64 st, .int .i64 0, .int .i64 0, .int .i64 0, .int .i64 0, .int .i64 0, .int .i64 0, .int .i64 0, .int .i64 0, .int .i64 0, .int .i64 0] 25))) := hide ⟨s1.alloc _, (((Off.refl _ _).alloc _).trans p1).alloc _, hbc, Nat.le_refl _, by omega, by omega, ko1.alloc _, Blk.new _ _ _⟩
  have Hw1 := hide (And.intro s1 (((Off.refl bc w).alloc (.cells #[.int .i64 0, .int .i64 0, .int .i64 0, .int .i64 0, .int .i64 0, .int .i64 0, .int .i64 0, .int .i64 0, .int .i64 0, .int .i64 0, .int .i64 0] 25)).trans p1))
  clear s1 p1 Hs
  by_cases hst : st = 0
  · subst hst
    have o0 := ko1.cell (i := 0) (v := .int .i64 0) rfl
    have of0 := ko1.free 0
    have o1 := ko1.cell (i := 1) (v := .int .i64 0) rfl
    have of1 := ko1.free 1
    have o2 := ko1.cell (i := 2) (v := .int .i64 0) rfl
    have of2 := ko1.free 2
    have o3 := ko1.cell (i := 3) (v := .int .i64 0) rfl
    have of3 := ko1.free 3
    have o4 := ko1.cell (i := 4) (v := .int .i64 0) rfl
    have of4 := ko1.free 4
    have o5 := ko1.cell (i := 5) (v := .int .i64 0) rfl
    have of5 := ko1.free 5
    have o6 := ko1.cell (i := 6) (v := .int .i64 0) rfl
    have of6 := ko1.free 6
    have o7 := ko1.cell (i := 7) (v := .int .i64 0) rfl
    have of7 := ko1.free 7
    have o8 := ko1.cell (i := 8) (v := .int .i64 0) rfl
    have of8 := ko1.free 8
    have o9 := ko1.cell (i := 9) (v := .int .i64 0) rfl
    have of9 := ko1.free 9
    have o10 := ko1.cell (i := 10) (v := .int .i64 0) rfl
    have of10 := ko1.free 10
    clear ko1
    go_wp2_with fail
    refine bodyPost_ret (v := .agg #[.int .i64 0, .int .i64 0, .int .i64 0, .int .i64 0, .int .i64 0, .int .i64 0, .int .i64 0, .int .i64 0, .int .i64 0, .int .i64 0, .int .i64 0]) (by simp [results, Try.results37, go_sem, o0, o1, o2, o3, o4, o5, o6, o7, o8, o9, o10, hz1]) rfl ⟨(0, 0, 0, 0, 0, 0, 0, 0, 0, 0, 0), rfl, ?_⟩
    obtain ⟨s1, p1⟩ := unhide Hw1
    refine fin_of s1 p1 hbc ?_
    refine Below.alloc ?_ (by simp; omega) _
    iterate 11 (refine Below.setCell ?_ (by simp) _)
    exact Below.refl _ _
  · have hst2 : (st == 0) = false := by simpa using hst
    clear Hw1 ko1
    go_wp2_with fail
    generalize w1.alloc (.cells #[.int .i64 st, .int .i64 0, .int .i64 0, .int .i64 0, .int .i64 0, .int .i64 0, .int .i64 0, .int .i64 0, .int .i64 0, .int .i64 0, .int .i64 0] 25) = W at *
    generalize w1.heap.size = S at *
    have H := H1
    clear H1
    refine (Draw.below_any a len cap bc 4 (by omega) (by omega) _ (unhide H).st).mono ?_
    rintro e w2 ⟨be, rfl, be0, be1, s9, p9⟩
    have X := (unhide H).step s9 p9
    have H2 := hide X
    have c1 := X.kb.cell (i := 1) (v := .int .i64 0) rfl
    have f1 := X.kb.free 1
    clear s9 p9 X H
    go_wp2_with fail
    have H3 : Hid (Sbox a len cap bc w w.heap.size S #[.int .i64 st, .int .i64 be, .int .i64 0, .int .i64 0, .int .i64 0, .int .i64 0, .int .i64 0, .int .i64 0, .int .i64 0, .int .i64 0, .int .i64 0] (w2.setCell ⟨S, 1, none⟩ (.int .i64 be))) := hide ((unhide H2).put 1 (.int .i64 be))
    clear H2 c1 f1
    generalize (w2.setCell ⟨S, 1, none⟩ (.int .i64 be)) = W9 at *
    obtain ⟨W, rfl⟩ : ∃ W, W = W9 := ⟨W9, rfl⟩
    have H := H3
    clear H3
    refine (Draw.from_any a len cap bc (-5) 5 (by omega) (by omega) (by omega) _ (unhide H).st).mono ?_
    rintro e w2 ⟨rk, rfl, rk0, rk1, s9, p9⟩
    have X := (unhide H).step s9 p9
    have H2 := hide X
    have c2 := X.kb.cell (i := 2) (v := .int .i64 0) rfl
    have f2 := X.kb.free 2
    clear s9 p9 X H
    go_wp2_with fail
    have H3 : Hid (Sbox a len cap bc w w.heap.size S #[.int .i64 st, .int .i64 be, .int .i64 rk, .int .i64 0, .int .i64 0, .int .i64 0, .int .i64 0, .int .i64 0, .int .i64 0, .int .i64 0, .int .i64 0] (w2.setCell ⟨S, 2, none⟩ (.int .i64 rk))) := hide ((unhide H2).put 2 (.int .i64 rk))
    clear H2 c2 f2
    generalize (w2.setCell ⟨S, 2, none⟩ (.int .i64 rk)) = W9 at *
    obtain ⟨W, rfl⟩ : ∃ W, W = W9 := ⟨W9, rfl⟩
    have H := H3
    clear H3
    refine (Draw.below_any a len cap bc 255 (by omega) (by omega) _ (unhide H).st).mono ?_
    rintro e w2 ⟨my, rfl, my0, my1, s9, p9⟩
    have X := (unhide H).step s9 p9
    have H2 := hide X
    have c3 := X.kb.cell (i := 3) (v := .int .i64 0) rfl
    have f3 := X.kb.free 3
    clear s9 p9 X H
    go_wp2_with fail
    have H3 : Hid (Sbox a len cap bc w w.heap.size S #[.int .i64 st, .int .i64 be, .int .i64 rk, .int .i64 (1 + my), .int .i64 0, .int .i64 0, .int .i64 0, .int .i64 0, .int .i64 0, .int .i64 0, .int .i64 0] (w2.setCell ⟨S, 3, none⟩ (.int .i64 (1 + my)))) := hide ((unhide H2).put 3 (.int .i64 (1 + my)))
    clear H2 c3 f3
    generalize (w2.setCell ⟨S, 3, none⟩ (.int .i64 (1 + my))) = W9 at *
    obtain ⟨W, rfl⟩ : ∃ W, W = W9 := ⟨W9, rfl⟩
    have H := H3
    clear H3
    refine (Draw.from_any a len cap bc (-1) 1 (by omega) (by omega) (by omega) _ (unhide H).st).mono ?_
    rintro e w2 ⟨gu, rfl, gu0, gu1, s9, p9⟩
    have X := (unhide H).step s9 p9
    have H2 := hide X
    have c4 := X.kb.cell (i := 4) (v := .int .i64 0) rfl
    have f4 := X.kb.free 4
    have c6 := X.kb.cell (i := 6) (v := .int .i64 0) rfl
    have f6 := X.kb.free 6
    clear s9 p9 X H
    go_wp2_with fail
    have H3 : Hid (Sbox a len cap bc w w.heap.size S #[.int .i64 st, .int .i64 be, .int .i64 rk, .int .i64 (1 + my), .int .i64 gu, .int .i64 0, .int .i64 1024, .int .i64 0, .int .i64 0, .int .i64 0, .int .i64 0] ((w2.setCell ⟨S, 4, none⟩ (.int .i64 gu)).setCell ⟨S, 6, none⟩ (.int .i64 1024))) := hide (((unhide H2).put 4 (.int .i64 gu)).put 6 (.int .i64 1024))
    clear H2 c4 f4 c6 f6
    generalize ((w2.setCell ⟨S, 4, none⟩ (.int .i64 gu)).setCell ⟨S, 6, none⟩ (.int .i64 1024)) = W9 at *
    obtain ⟨W, rfl⟩ : ∃ W, W = W9 := ⟨W9, rfl⟩
    have H := H3
    clear H3
    refine (Draw.once_any a len cap bc 3 (by omega) (by omega) _ (unhide H).st).mono ?_
    rintro e w6 ⟨b, rfl, s9, p9⟩
    have H6 := hide ((unhide H).step s9 p9)
    clear s9 p9 H
    have hr : inB rk (-5) 5 = true := inB_t rk0 rk1
    have x0 := weight_pos hr
    have x1 := (weight_in rk).2
    obtain ⟨x, hx⟩ : ∃ x, weightV rk = x := ⟨_, rfl⟩
    rw [hx] at x0 x1
    have Hx := hide hx
    clear hx hr
    have H := H6
    clear H6
    cases b
    · go_wp2_with fail
      refine (Draw.below_any a len cap bc 100000 (by omega) (by omega) _ (unhide H).st).mono ?_
      rintro e w2 ⟨hd, rfl, hd0, hd1, s9, p9⟩
      have X := (unhide H).step s9 p9
      have H2 := hide X
      have c7 := X.kb.cell (i := 7) (v := .int .i64 0) rfl
      have f7 := X.kb.free 7
      have c2 := X.kb.cell (i := 2) (v := .int .i64 rk) rfl
      clear s9 p9 X H
      go_wp2_with fail
      have H3 : Hid (Sbox a len cap bc w w.heap.size S #[.int .i64 st, .int .i64 be, .int .i64 rk, .int .i64 (1 + my), .int .i64 gu, .int .i64 0, .int .i64 1024, .int .i64 (hd - 20000), .int .i64 0, .int .i64 0, .int .i64 0] (w2.setCell ⟨S, 7, none⟩ (.int .i64 (hd - 20000)))) := hide ((unhide H2).put 7 (.int .i64 (hd - 20000)))
      clear H2 c7 f7 c2
      generalize (w2.setCell ⟨S, 7, none⟩ (.int .i64 (hd - 20000))) = W9 at *
      obtain ⟨W, rfl⟩ : ∃ W, W = W9 := ⟨W9, rfl⟩
      have H := H3
      clear H3
      refine (specWeightOf_v (unhide Hx) _).mono ?_
      rintro e w9 ⟨rfl, h9⟩
      subst w9
      go_wp2_with fail
      refine (Draw.below_any a len cap bc x (by omega) (by omega) _ (unhide H).st).mono ?_
      rintro e w2 ⟨ca, rfl, ca0, ca1, s9, p9⟩
      have X := (unhide H).step s9 p9
      have H2 := hide X
      have c8 := X.kb.cell (i := 8) (v := .int .i64 0) rfl
      have f8 := X.kb.free 8
      clear s9 p9 X H
      go_wp2_with fail
      have H3 : Hid (Sbox a len cap bc w w.heap.size S #[.int .i64 st, .int .i64 be, .int .i64 rk, .int .i64 (1 + my), .int .i64 gu, .int .i64 0, .int .i64 1024, .int .i64 (hd - 20000), .int .i64 ca, .int .i64 0, .int .i64 0] (w2.setCell ⟨S, 8, none⟩ (.int .i64 ca))) := hide ((unhide H2).put 8 (.int .i64 ca))
      clear H2 c8 f8
      generalize (w2.setCell ⟨S, 8, none⟩ (.int .i64 ca)) = W9 at *
      obtain ⟨W, rfl⟩ : ∃ W, W = W9 := ⟨W9, rfl⟩
      have H := H3
      clear H3
      refine (Draw.below_any a len cap bc 1025 (by omega) (by omega) _ (unhide H).st).mono ?_
      rintro e w2 ⟨ut, rfl, ut0, ut1, s9, p9⟩
      have X := (unhide H).step s9 p9
      have H2 := hide X
      have c9 := X.kb.cell (i := 9) (v := .int .i64 0) rfl
      have f9 := X.kb.free 9
      clear s9 p9 X H
      go_wp2_with fail
      have H3 : Hid (Sbox a len cap bc w w.heap.size S #[.int .i64 st, .int .i64 be, .int .i64 rk, .int .i64 (1 + my), .int .i64 gu, .int .i64 0, .int .i64 1024, .int .i64 (hd - 20000), .int .i64 ca, .int .i64 ut, .int .i64 0] (w2.setCell ⟨S, 9, none⟩ (.int .i64 ut))) := hide ((unhide H2).put 9 (.int .i64 ut))
      clear H2 c9 f9
      generalize (w2.setCell ⟨S, 9, none⟩ (.int .i64 ut)) = W9 at *
      obtain ⟨W, rfl⟩ : ∃ W, W = W9 := ⟨W9, rfl⟩
      have H := H3
      clear H3
      refine (Draw.below_any a len cap bc 1000000 (by omega) (by omega) _ (unhide H).st).mono ?_
      rintro e w8 ⟨wk, rfl, wk0, wk1, s9, p9⟩
      have X := (unhide H).step s9 p9
      have H2 := hide X
      have c0 := X.kb.cell (i := 0) (v := .int .i64 st) rfl
      have c1 := X.kb.cell (i := 1) (v := .int .i64 be) rfl
      have c2 := X.kb.cell (i := 2) (v := .int .i64 rk) rfl
      have c3 := X.kb.cell (i := 3) (v := .int .i64 (1 + my)) rfl
      have c4 := X.kb.cell (i := 4) (v := .int .i64 gu) rfl
      have c5 := X.kb.cell (i := 5) (v := .int .i64 0) rfl
      have c6 := X.kb.cell (i := 6) (v := .int .i64 1024) rfl
      have c7 := X.kb.cell (i := 7) (v := .int .i64 (hd - 20000)) rfl
      have c8 := X.kb.cell (i := 8) (v := .int .i64 ca) rfl
      have c9 := X.kb.cell (i := 9) (v := .int .i64 ut) rfl
      have c10 := X.kb.cell (i := 10) (v := .int .i64 0) rfl
      have f10 := X.kb.free 10
      have o0 := X.ko.cell (i := 0) (v := .int .i64 0) rfl
      have of0 := X.ko.free 0
      have o1 := X.ko.cell (i := 1) (v := .int .i64 0) rfl
      have of1 := X.ko.free 1
      have o2 := X.ko.cell (i := 2) (v := .int .i64 0) rfl
      have of2 := X.ko.free 2
      have o3 := X.ko.cell (i := 3) (v := .int .i64 0) rfl
      have of3 := X.ko.free 3
      have o4 := X.ko.cell (i := 4) (v := .int .i64 0) rfl
      have of4 := X.ko.free 4
      have o5 := X.ko.cell (i := 5) (v := .int .i64 0) rfl
      have of5 := X.ko.free 5
      have o6 := X.ko.cell (i := 6) (v := .int .i64 0) rfl
      have of6 := X.ko.free 6
      have o7 := X.ko.cell (i := 7) (v := .int .i64 0) rfl
      have of7 := X.ko.free 7
      have o8 := X.ko.cell (i := 8) (v := .int .i64 0) rfl
      have of8 := X.ko.free 8
      have o9 := X.ko.cell (i := 9) (v := .int .i64 0) rfl
      have of9 := X.ko.free 9
      have o10 := X.ko.cell (i := 10) (v := .int .i64 0) rfl
      have of10 := X.ko.free 10
      have hne : ¬ w.heap.size = S := X.ne
      have hne2 : ¬ S = w.heap.size := fun h => X.ne h.symm
      have hS9 := X.hS
      clear s9 p9 X H
      go_wp2_with fail
      refine bodyPost_ret (v := .agg #[.int .i64 st, .int .i64 be, .int .i64 rk, .int .i64 (1 + my), .int .i64 gu, .int .i64 0, .int .i64 1024, .int .i64 (hd - 20000), .int .i64 ca, .int .i64 ut, .int .i64 wk]) (by simp [results, Try.results37, go_sem, o0, o1, o2, o3, o4, o5, o6, o7, o8, o9, o10]) rfl ⟨(st, be, rk, (1 + my), gu, 0, 1024, (hd - 20000), ca, ut, wk), rfl, ?_⟩
      refine (unhide H2).fin ?_
      iterate 12 (refine Below.setCell ?_ (by first | (simp; done) | (simp; omega)) _)
      exact Below.refl _ _
    · go_wp2_with fail
      refine (Draw.below_any a len cap bc 500 (by omega) (by omega) _ (unhide H).st).mono ?_
      rintro e w2 ⟨lo, rfl, lo0, lo1, s9, p9⟩
      have X := (unhide H).step s9 p9
      have H2 := hide X
      have c5 := X.kb.cell (i := 5) (v := .int .i64 0) rfl
      have f5 := X.kb.free 5
      clear s9 p9 X H
      go_wp2_with fail
      have H3 : Hid (Sbox a len cap bc w w.heap.size S #[.int .i64 st, .int .i64 be, .int .i64 rk, .int .i64 (1 + my), .int .i64 gu, .int .i64 lo, .int .i64 1024, .int .i64 0, .int .i64 0, .int .i64 0, .int .i64 0] (w2.setCell ⟨S, 5, none⟩ (.int .i64 lo))) := hide ((unhide H2).put 5 (.int .i64 lo))
      clear H2 c5 f5
      generalize (w2.setCell ⟨S, 5, none⟩ (.int .i64 lo)) = W9 at *
      obtain ⟨W, rfl⟩ : ∃ W, W = W9 := ⟨W9, rfl⟩
      have H := H3
      clear H3
      refine (Draw.below_any a len cap bc 100000 (by omega) (by omega) _ (unhide H).st).mono ?_
      rintro e w2 ⟨hd, rfl, hd0, hd1, s9, p9⟩
      have X := (unhide H).step s9 p9
      have H2 := hide X
      have c7 := X.kb.cell (i := 7) (v := .int .i64 0) rfl
      have f7 := X.kb.free 7
      have c2 := X.kb.cell (i := 2) (v := .int .i64 rk) rfl
      clear s9 p9 X H
      go_wp2_with fail
      have H3 : Hid (Sbox a len cap bc w w.heap.size S #[.int .i64 st, .int .i64 be, .int .i64 rk, .int .i64 (1 + my), .int .i64 gu, .int .i64 lo, .int .i64 1024, .int .i64 (hd - 20000), .int .i64 0, .int .i64 0, .int .i64 0] (w2.setCell ⟨S, 7, none⟩ (.int .i64 (hd - 20000)))) := hide ((unhide H2).put 7 (.int .i64 (hd - 20000)))
      clear H2 c7 f7 c2
      generalize (w2.setCell ⟨S, 7, none⟩ (.int .i64 (hd - 20000))) = W9 at *
      obtain ⟨W, rfl⟩ : ∃ W, W = W9 := ⟨W9, rfl⟩
      have H := H3
      clear H3
      refine (specWeightOf_v (unhide Hx) _).mono ?_
      rintro e w9 ⟨rfl, h9⟩
      subst w9
      go_wp2_with fail
      refine (Draw.below_any a len cap bc x (by omega) (by omega) _ (unhide H).st).mono ?_
      rintro e w2 ⟨ca, rfl, ca0, ca1, s9, p9⟩
      have X := (unhide H).step s9 p9
      have H2 := hide X
      have c8 := X.kb.cell (i := 8) (v := .int .i64 0) rfl
      have f8 := X.kb.free 8
      clear s9 p9 X H
      go_wp2_with fail
      have H3 : Hid (Sbox a len cap bc w w.heap.size S #[.int .i64 st, .int .i64 be, .int .i64 rk, .int .i64 (1 + my), .int .i64 gu, .int .i64 lo, .int .i64 1024, .int .i64 (hd - 20000), .int .i64 ca, .int .i64 0, .int .i64 0] (w2.setCell ⟨S, 8, none⟩ (.int .i64 ca))) := hide ((unhide H2).put 8 (.int .i64 ca))
      clear H2 c8 f8
      generalize (w2.setCell ⟨S, 8, none⟩ (.int .i64 ca)) = W9 at *
      obtain ⟨W, rfl⟩ : ∃ W, W = W9 := ⟨W9, rfl⟩
      have H := H3
      clear H3
      refine (Draw.below_any a len cap bc 1025 (by omega) (by omega) _ (unhide H).st).mono ?_
      rintro e w2 ⟨ut, rfl, ut0, ut1, s9, p9⟩
      have X := (unhide H).step s9 p9
      have H2 := hide X
      have c9 := X.kb.cell (i := 9) (v := .int .i64 0) rfl
      have f9 := X.kb.free 9
      clear s9 p9 X H
      go_wp2_with fail
      have H3 : Hid (Sbox a len cap bc w w.heap.size S #[.int .i64 st, .int .i64 be, .int .i64 rk, .int .i64 (1 + my), .int .i64 gu, .int .i64 lo, .int .i64 1024, .int .i64 (hd - 20000), .int .i64 ca, .int .i64 ut, .int .i64 0] (w2.setCell ⟨S, 9, none⟩ (.int .i64 ut))) := hide ((unhide H2).put 9 (.int .i64 ut))
      clear H2 c9 f9
      generalize (w2.setCell ⟨S, 9, none⟩ (.int .i64 ut)) = W9 at *
      obtain ⟨W, rfl⟩ : ∃ W, W = W9 := ⟨W9, rfl⟩
      have H := H3
      clear H3
      refine (Draw.below_any a len cap bc 1000000 (by omega) (by omega) _ (unhide H).st).mono ?_
      rintro e w8 ⟨wk, rfl, wk0, wk1, s9, p9⟩
      have X := (unhide H).step s9 p9
      have H2 := hide X
      have c0 := X.kb.cell (i := 0) (v := .int .i64 st) rfl
      have c1 := X.kb.cell (i := 1) (v := .int .i64 be) rfl
      have c2 := X.kb.cell (i := 2) (v := .int .i64 rk) rfl
      have c3 := X.kb.cell (i := 3) (v := .int .i64 (1 + my)) rfl
      have c4 := X.kb.cell (i := 4) (v := .int .i64 gu) rfl
      have c5 := X.kb.cell (i := 5) (v := .int .i64 lo) rfl
      have c6 := X.kb.cell (i := 6) (v := .int .i64 1024) rfl
      have c7 := X.kb.cell (i := 7) (v := .int .i64 (hd - 20000)) rfl
      have c8 := X.kb.cell (i := 8) (v := .int .i64 ca) rfl
      have c9 := X.kb.cell (i := 9) (v := .int .i64 ut) rfl
      have c10 := X.kb.cell (i := 10) (v := .int .i64 0) rfl
      have f10 := X.kb.free 10
      have o0 := X.ko.cell (i := 0) (v := .int .i64 0) rfl
      have of0 := X.ko.free 0
      have o1 := X.ko.cell (i := 1) (v := .int .i64 0) rfl
      have of1 := X.ko.free 1
      have o2 := X.ko.cell (i := 2) (v := .int .i64 0) rfl
      have of2 := X.ko.free 2
      have o3 := X.ko.cell (i := 3) (v := .int .i64 0) rfl
      have of3 := X.ko.free 3
      have o4 := X.ko.cell (i := 4) (v := .int .i64 0) rfl
      have of4 := X.ko.free 4
      have o5 := X.ko.cell (i := 5) (v := .int .i64 0) rfl
      have of5 := X.ko.free 5
      have o6 := X.ko.cell (i := 6) (v := .int .i64 0) rfl
      have of6 := X.ko.free 6
      have o7 := X.ko.cell (i := 7) (v := .int .i64 0) rfl
      have of7 := X.ko.free 7
      have o8 := X.ko.cell (i := 8) (v := .int .i64 0) rfl
      have of8 := X.ko.free 8
      have o9 := X.ko.cell (i := 9) (v := .int .i64 0) rfl
      have of9 := X.ko.free 9
      have o10 := X.ko.cell (i := 10) (v := .int .i64 0) rfl
      have of10 := X.ko.free 10
      have hne : ¬ w.heap.size = S := X.ne
      have hne2 : ¬ S = w.heap.size := fun h => X.ne h.symm
      have hS9 := X.hS
      clear s9 p9 X H
      go_wp2_with fail
      refine bodyPost_ret (v := .agg #[.int .i64 st, .int .i64 be, .int .i64 rk, .int .i64 (1 + my), .int .i64 gu, .int .i64 lo, .int .i64 1024, .int .i64 (hd - 20000), .int .i64 ca, .int .i64 ut, .int .i64 wk]) (by simp [results, Try.results37, go_sem, o0, o1, o2, o3, o4, o5, o6, o7, o8, o9, o10]) rfl ⟨(st, be, rk, (1 + my), gu, lo, 1024, (hd - 20000), ca, ut, wk), rfl, ?_⟩
      refine (unhide H2).fin ?_
      iterate 12 (refine Below.setCell ?_ (by first | (simp; done) | (simp; omega)) _)
      exact Below.refl _ _

end Go.Proofs.Ytkagjopogihnbaa
