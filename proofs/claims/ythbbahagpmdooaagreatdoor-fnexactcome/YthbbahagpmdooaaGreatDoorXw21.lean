/- Part 21 of what the proof rests on. No condition but those that a theorem names. -/
import Derived.Test.YthbbahagpmdooaaGreatDoorXw10
import Derived.ChangeKeysEq
import Derived.Laws.StructEq
import Derived.WalkMore
import Derived.Below
namespace Go.Proofs.YthbbahagpmdooaaGreatDoor
open Go.ChangeShapes Go.WideShapes Go.ChangeAt Go.RowKit Go.Sort
set_option linter.unusedVariables false
set_option maxRecDepth 100000
theorem band_equal (a b c d : Int) (w : World) : (Op.equalIn 10000 202 (.agg #[.int .i64 a, .int .i64 b]) (.agg #[.int .i64 c, .int .i64 d])).run Tryz.prog w = .ok (a == c && b == d) w := by
 have u := Tryz.underlying2
 have ag := Tryz.isAgg2
 have z := Tryz.sizeOf2
 have hc : Tryz.prog.cellsOf 2 = 1 := by kernel_rfl
 obtain ⟨i, hi⟩ := Option.isSome_iff_exists.1 (show (Tryz.prog.info? 2).isSome = true by kernel_rfl)
 rw [show (10000 : Nat) = 9999 + 1 from rfl, run_equalIn_array w 9999 _ _ Tryz.underlying202 hi, hc]
 simp only [show List.range 2 = [0, 1] from rfl, Op.eqItems]
 go_simp
 by_cases h : a = c
 ·subst h
  by_cases h2 : b = d
  ·subst h2; simp
  ·simp [h2]
 ·simp [h]
theorem band_eql (a b c d : Int) (w : World) : (binOp .eql 202 (.agg #[.int .i64 a, .int .i64 b]) (.agg #[.int .i64 c, .int .i64 d])).run Tryz.prog w = .ok (.bool (a == c && b == d)) w := by
 rw [run_eql_struct, band_equal]; rfl
theorem bandStretched_any (lo hi n : Int) (w : World) : Calls Tryz.prog 243 #[.agg #[.int .i64 lo, .int .i64 hi], .int .i64 n] w fun e w' => e = .returned (.agg #[.int .i64 (min lo n), .int .i64 (max hi n)]) ∧ Below w.heap.size w w' := by
 by_cases h1 : lo ≤ n
 all_goals
  by_cases h2 : hi < n
  all_goals
   go_enter Tryz.func243, Tryz.ntmps243
   go_wp2_with fail
   exact bodyPost_ret (v := .agg #[.int .i64 (min lo n), .int .i64 (max hi n)]) (by simp [results, Tryz.results243, go_sem]; omega) rfl ⟨rfl, ((Below.refl _ _).alloc (Nat.le_refl _) _).alloc (by simp) _⟩
theorem bandOf_any (m : Int) (w : World) (m0 : -1000000000000 ≤ m) (m1 : m ≤ 1000000000000) : Calls Tryz.prog 197 #[.int .i64 m] w fun e w' => e = .returned (.agg #[.int .i64 (m - 20000), .int .i64 (m + 63000)]) ∧ Below w.heap.size w w' := by
 go_enter Tryz.func197, Tryz.ntmps197
 go_wp2_with fail
 exact bodyPost_ret (v := .agg #[.int .i64 (m - 20000), .int .i64 (m + 63000)]) (by simp [results, Tryz.results197, go_sem]) rfl ⟨rfl, (Below.refl _ _).alloc (Nat.le_refl _) _⟩
theorem bandLeast_any (lo hi : Int) (w : World) : Calls Tryz.prog 198 #[.agg #[.int .i64 lo, .int .i64 hi]] w fun e w' => e = .returned (.int .i64 lo) ∧ Below w.heap.size w w' := by
 go_enter Tryz.func198, Tryz.ntmps198
 go_wp2_with fail
 go_ret
 exact ⟨rfl, (Below.refl _ _).alloc (Nat.le_refl _) _⟩
def loL (lo : Int) (zs : List Int) : Int := zs.foldl min lo
def hiL (hi : Int) (zs : List Int) : Int := zs.foldl max hi
theorem loL_le (zs : List Int) : ∀ lo, loL lo zs ≤ lo := by
 induction zs with
 | nil => intro lo; exact Int.le_refl _
 | cons z zs ih => intro lo; exact Int.le_trans (ih (min lo z)) (Int.min_le_left _ _)
theorem hiL_ge (zs : List Int) : ∀ hi, hi ≤ hiL hi zs := by
 induction zs with
 | nil => intro hi; exact Int.le_refl _
 | cons z zs ih => intro hi; exact Int.le_trans (Int.le_max_left _ _) (ih (max hi z))
theorem stretched_is (zs : List Int) : ∀ lo hi, (loL lo zs == lo && hiL hi zs == hi) = zs.all fun z => inB z lo hi := by
 induction zs with
 | nil => intro lo hi; simp [loL, hiL]
 | cons z zs ih =>
  intro lo hi
  show (loL (min lo z) zs == lo && hiL (max hi z) zs == hi) = (inB z lo hi && zs.all fun z => inB z lo hi)
  cases hz : inB z lo hi
  ·have hn : ¬ (lo ≤ z ∧ z ≤ hi) := of_decide_eq_false hz
   have h1 := loL_le zs (min lo z)
   have h2 := hiL_ge zs (max hi z)
   simp only [Bool.false_and, Bool.and_eq_false_iff, beq_eq_false_iff_ne]
   omega
  ·obtain ⟨h1, h2⟩ := inB_of hz
   rw [show min lo z = lo by omega, show max hi z = hi by omega, ih]; rfl
theorem loL_snoc {lo : Int} {zs : List Int} {k : Nat} (hk : k < zs.length) : loL lo (zs.take (k + 1)) = min (loL lo (zs.take k)) (zs.getD k 0) := by
 unfold loL; rw [List.take_succ_eq_append_getElem hk, List.foldl_append]; simp [List.getD, List.getElem?_eq_getElem hk]
theorem hiL_snoc {hi : Int} {zs : List Int} {k : Nat} (hk : k < zs.length) : hiL hi (zs.take (k + 1)) = max (hiL hi (zs.take k)) (zs.getD k 0) := by
 unfold hiL; rw [List.take_succ_eq_append_getElem hk, List.foldl_append]; simp [List.getD, List.getElem?_eq_getElem hk]
attribute [local go_sem ↓] band_eql
set_option maxHeartbeats 400000 in
theorem bandHolds_any (lo hi : Int) (b cap : Nat) (zs : List Int) (w : World) (hl : zs.length ≤ 1000) (hb : b < w.heap.size) (hc : ∀ k, k < zs.length → w.cell? ⟨b, k, none⟩ = some (.int .i64 (zs.getD k 0))) :
  Calls Tryz.prog 199 #[.agg #[.int .i64 lo, .int .i64 hi], .slice (some ⟨b, 0, none⟩) zs.length cap] w fun e w' => e = .returned (.bool (zs.all fun z => inB z lo hi)) ∧ Below w.heap.size w w' := by
 have Hc := hide hc
 clear hc
 go_enter Tryz.func199, Tryz.ntmps199
 go_wp2_with fail
 go_loopw [11] (fun i wr => ∃ k : Nat, k ≤ zs.length ∧ i = .int .i64 k ∧ Blk wr (w.heap.size + 1) 202 #[.int .i64 (loL lo (zs.take k)), .int .i64 (hiL hi (zs.take k))] ∧ Blk wr w.heap.size 202 #[.int .i64 lo, .int .i64 hi] ∧ Below w.heap.size w wr) (fun i _ => zs.length - (intOf i).toNat)
 case atStart =>
  refine ⟨0, Nat.zero_le _, rfl, ?_, (Blk.new w _ _).alloc _, ((Below.refl _ _).alloc (Nat.le_refl _) _).alloc (by simp) _⟩
  have := Blk.new (w.alloc (.cells #[.int .i64 lo, .int .i64 hi] 202)) 202 #[.int .i64 lo, .int .i64 hi]
  simpa [loL, hiL] using this
 case round =>
  obtain ⟨k, hk, rfl, hs, ho, hbl⟩ := hrel
  have Hs := hide hs
  have Ho := hide ho
  have Hb := hide hbl
  by_cases hlt : k < zs.length
  ·have c0 := uh Hc k hlt
   rw [← hbl.cell (p := ⟨b, k, none⟩) hb] at c0
   have e1 := loL_snoc (lo := lo) hlt
   have e2 := hiL_snoc (hi := hi) hlt
   have s0 := hs.cell (i := 0) rfl
   have s1 := hs.cell (i := 1) rfl
   have g0 := hs.free 0
   have g1 := hs.free 1
   generalize zs.getD k 0 = z at *
   generalize loL lo (zs.take k) = x at *
   generalize hiL hi (zs.take k) = y at *
   have E1 := hide e1
   have E2 := hide e2
   clear e1 e2 hs ho hbl
   go_wp2_with fail
   refine (bandStretched_any x y z _).mono ?_
   rintro e w1 ⟨rfl, hb1⟩
   have hs1 := (uh Hs).below hb1 (uh Hs).lt
   have Hs1 := hide hs1
   have Ho1 : Hid (Blk w1 w.heap.size 202 #[.int .i64 lo, .int .i64 hi]) := hide ((uh Ho).below hb1 (uh Ho).lt)
   have B1 : Hid (Below w.heap.size w w1) := hide ((uh Hb).trans (hb1.mono (uh Hb).size))
   have s0 := hs1.cell (i := 0) rfl
   have s1 := hs1.cell (i := 1) rfl
   have g0 := hs1.free 0
   have g1 := hs1.free 1
   clear hs1 hb1
   go_wp2_with fail
   go_roundw
   case rel =>
    refine ⟨k + 1, by omega, by go_num, ?_, ?_, ?_⟩
    ·rw [uh E1, uh E2]
     simpa using ((uh Hs1).set 0 (.int .i64 (min x z))).set 1 (.int .i64 (max y z))
    ·exact ((uh Ho1).other (by simp) _).other (by simp) _
    ·exact ((uh B1).setCell (by simp) _).setCell (by simp) _
   case measure => simp [intOf]; omega
  ·obtain rfl : k = zs.length := by omega
   rw [List.take_length] at hs
   have e3 := stretched_is zs lo hi
   have s0 := hs.cell (i := 0) rfl
   have s1 := hs.cell (i := 1) rfl
   have o0 := ho.cell (i := 0) rfl
   have o1 := ho.cell (i := 1) rfl
   generalize loL lo zs = x at *
   generalize hiL hi zs = y at *
   have E3 := hide e3
   clear e3 hs ho hbl Hs
   go_wp2_with fail
   go_ret
   exact ⟨ret_bool (uh E3), uh Hb⟩
theorem areHads_any (b cap : Nat) (zs : List Int) (w : World) (hl : zs.length ≤ 1000) (hb : b < w.heap.size) (hc : ∀ k, k < zs.length → w.cell? ⟨b, k, none⟩ = some (.int .i64 (zs.getD k 0))) :
  Calls Tryz.prog 196 #[.slice (some ⟨b, 0, none⟩) zs.length cap] w fun e w' => e = .returned (.bool (zs.all fun z => inB z (-1000000000000) 1000000000000)) ∧ Below w.heap.size w w' := by
 have Hc := hide hc
 clear hc
 go_enter Tryz.func196, Tryz.ntmps196
 go_wp2_with fail
 refine (bandHolds_any _ _ b cap zs _ hl hb (uh Hc)).mono ?_
 rintro e w1 ⟨rfl, hb1⟩
 have B1 := hide hb1
 clear hb1
 go_wp2_with fail
 go_ret
 exact ⟨rfl, uh B1⟩
theorem implInBand_any (h m : Int) (w : World) : Calls Tryz.prog 136 #[.int .i64 h, .int .i64 m] w fun e w' => e = .returned (.bool (inBandB h m)) ∧ Below w.heap.size w w' := by
 cases hh : hadB h && hadB m
 ·have hs : inBandB h m = false := by unfold inBandB; rw [hh]; rfl
  have Hs := hide hs
  clear hs
  go_enter Tryz.func136, Tryz.ntmps136
  go_wp2_with fail
  refine (areHads_any _ _ [h, m] _ (by simp) (by simp) ?_).mono ?_
  ·intro k hk
   simp at hk
   match k, hk with
   | 0, _ => simp
   | 1, _ => simp
  rintro e w1 ⟨rfl, hb⟩
  rw [hads2, hh]
  have B1 : Hid (Below w.heap.size w w1) := hide (((Below.refl _ _).alloc (Nat.le_refl _) _).trans (hb.mono (by simp)))
  clear hb
  go_wp2_with fail
  go_ret
  exact ⟨ret_bool (uh Hs).symm, uh B1⟩
 ·have hs : inBandB h m = inB (h - m) (-20000) 63000 := by unfold inBandB; rw [hh]; rfl
  have Hs := hide hs
  have h' := hh
  simp only [Bool.and_eq_true] at h'
  obtain ⟨m0, m1⟩ := had_of h'.2
  clear hs h'
  go_enter Tryz.func136, Tryz.ntmps136
  go_wp2_with fail
  refine (areHads_any _ _ [h, m] _ (by simp) (by simp) ?_).mono ?_
  ·intro k hk
   simp at hk
   match k, hk with
   | 0, _ => simp
   | 1, _ => simp
  rintro e w1 ⟨rfl, hb⟩
  rw [hads2, hh]
  have B1 : Hid (Below w.heap.size w w1) := hide (((Below.refl _ _).alloc (Nat.le_refl _) _).trans (hb.mono (by simp)))
  clear hb
  go_wp2_with fail
  refine (bandOf_any m _ m0 m1).mono ?_
  rintro e w2 ⟨rfl, hb⟩
  have B2 : Hid (Below w.heap.size w w2) := hide ((uh B1).trans (hb.mono (uh B1).size))
  clear hb B1
  go_wp2_with fail
  refine (bandHolds_any _ _ _ _ [h] _ (by simp) (by simp) ?_).mono ?_
  ·intro k hk
   simp at hk
   subst hk
   simp
  rintro e w3 ⟨rfl, hb⟩
  rw [band_at]
  have B3 : Hid (Below w.heap.size w w3) := hide (((uh B2).alloc (uh B2).size _).trans (hb.mono (by have := (uh B2).size; simp; omega)))
  clear hb B2
  go_wp2_with fail
  go_ret
  exact ⟨ret_bool (uh Hs).symm, uh B3⟩
theorem implPlaced_any (h m : Int) (w : World) : Calls Tryz.prog 134 #[.int .i64 h, .int .i64 m] w fun e w' => e = .returned (.int .i64 (placedV h m)) ∧ Below w.heap.size w w' := by
 cases hh : hadB m
 ·have hs : placedV h m = h := by unfold placedV; rw [hh]; rfl
  have Hs := hide hs
  clear hs
  go_enter Tryz.func134, Tryz.ntmps134
  go_wp2_with fail
  refine (areHads_any _ _ [m] _ (by simp) (by simp) ?_).mono ?_
  ·intro k hk
   simp at hk
   subst hk
   simp
  rintro e w1 ⟨rfl, hb⟩
  rw [hads1, hh]
  have B1 : Hid (Below w.heap.size w w1) := hide (((Below.refl _ _).alloc (Nat.le_refl _) _).trans (hb.mono (by simp)))
  clear hb
  go_wp2_with fail
  go_ret
  exact ⟨ret_int (uh Hs).symm, uh B1⟩
 ·have hs : placedV h m = max h (m - 20000) := by unfold placedV; rw [hh]; rfl
  obtain ⟨m0, m1⟩ := had_of hh
  have Hs := hide hs
  clear hs
  by_cases hc : h < m - 20000
  all_goals
   go_enter Tryz.func134, Tryz.ntmps134
   go_wp2_with fail
   refine (areHads_any _ _ [m] _ (by simp) (by simp) ?_).mono ?_
   ·intro k hk
    simp at hk
    subst hk
    simp
   rintro e w1 ⟨rfl, hb⟩
   rw [hads1, hh]
   have B1 : Hid (Below w.heap.size w w1) := hide (((Below.refl _ _).alloc (Nat.le_refl _) _).trans (hb.mono (by simp)))
   clear hb
   go_wp2_with fail
   refine (bandOf_any m _ m0 m1).mono ?_
   rintro e w2 ⟨rfl, hb⟩
   have B2 : Hid (Below w.heap.size w w2) := hide ((uh B1).trans (hb.mono (uh B1).size))
   clear hb B1
   go_wp2_with fail
   refine (bandLeast_any _ _ _).mono ?_
   rintro e w3 ⟨rfl, hb⟩
   have B3 : Hid (Below w.heap.size w w3) := hide ((uh B2).trans (hb.mono (uh B2).size))
   clear hb B2
   go_wp2_with fail
   go_ret
   exact ⟨ret_int (by rw [uh Hs]; omega), uh B3⟩
theorem implMoved_any (h f t : Int) (w : World) : Calls Tryz.prog 135 #[.int .i64 h, .int .i64 f, .int .i64 t] w fun e w' => e = .returned (.int .i64 (movedV h f t)) ∧ Below w.heap.size w w' := by
 cases hh : hadB h && (hadB f && hadB t)
 ·have hs : movedV h f t = h := by unfold movedV; rw [hh]; rfl
  have Hs := hide hs
  clear hs
  go_enter Tryz.func135, Tryz.ntmps135
  go_wp2_with fail
  refine (areHads_any _ _ [h, f, t] _ (by simp) (by simp) ?_).mono ?_
  ·intro k hk
   simp at hk
   match k, hk with
   | 0, _ => simp
   | 1, _ => simp
   | 2, _ => simp
  rintro e w1 ⟨rfl, hb⟩
  rw [hads3, hh]
  have B1 : Hid (Below w.heap.size w w1) := hide (((Below.refl _ _).alloc (Nat.le_refl _) _).trans (hb.mono (by simp)))
  clear hb
  go_wp2_with fail
  go_ret
  exact ⟨ret_int (uh Hs).symm, uh B1⟩
 ·have hs : movedV h f t = h - f + t := by unfold movedV; rw [hh]; rfl
  have Hs := hide hs
  have h' := hh
  simp only [Bool.and_eq_true] at h'
  obtain ⟨h0, h1⟩ := had_of h'.1
  obtain ⟨f0, f1⟩ := had_of h'.2.1
  obtain ⟨t0, t1⟩ := had_of h'.2.2
  clear hs h'
  go_enter Tryz.func135, Tryz.ntmps135
  go_wp2_with fail
  refine (areHads_any _ _ [h, f, t] _ (by simp) (by simp) ?_).mono ?_
  ·intro k hk
   simp at hk
   match k, hk with
   | 0, _ => simp
   | 1, _ => simp
   | 2, _ => simp
  rintro e w1 ⟨rfl, hb⟩
  rw [hads3, hh]
  have B1 : Hid (Below w.heap.size w w1) := hide (((Below.refl _ _).alloc (Nat.le_refl _) _).trans (hb.mono (by simp)))
  clear hb
  go_wp2_with fail
  go_ret
  exact ⟨ret_int (uh Hs).symm, uh B1⟩
theorem implMarked_any (m f : Int) (w : World) : Calls Tryz.prog 216 #[.int .i64 m, .int .i64 f] w fun e w' => e = .returned (.int .i64 (markedV m f)) ∧ Below w.heap.size w w' := by
 cases hh : hadB m && hadB f
 ·have hs : markedV m f = m := by unfold markedV; rw [hh]; rfl
  have Hs := hide hs
  clear hs
  go_enter Tryz.func216, Tryz.ntmps216
  go_wp2_with fail
  refine (areHads_any _ _ [m, f] _ (by simp) (by simp) ?_).mono ?_
  ·intro k hk
   simp at hk
   match k, hk with
   | 0, _ => simp
   | 1, _ => simp
  rintro e w1 ⟨rfl, hb⟩
  rw [hads2, hh]
  have B1 : Hid (Below w.heap.size w w1) := hide (((Below.refl _ _).alloc (Nat.le_refl _) _).trans (hb.mono (by simp)))
  clear hb
  go_wp2_with fail
  go_ret
  exact ⟨ret_int (uh Hs).symm, uh B1⟩
 ·have hs : markedV m f = min (max m f) 900000000000 := by unfold markedV; rw [hh]; rfl
  have Hs := hide hs
  clear hs
  go_enter Tryz.func216, Tryz.ntmps216
  go_wp2_with fail
  refine (areHads_any _ _ [m, f] _ (by simp) (by simp) ?_).mono ?_
  ·intro k hk
   simp at hk
   match k, hk with
   | 0, _ => simp
   | 1, _ => simp
  rintro e w1 ⟨rfl, hb⟩
  rw [hads2, hh]
  have B1 : Hid (Below w.heap.size w w1) := hide (((Below.refl _ _).alloc (Nat.le_refl _) _).trans (hb.mono (by simp)))
  clear hb
  go_wp2_with fail
  refine (implClamped_any m f 900000000000 _).mono ?_
  rintro e w2 ⟨rfl, hw2⟩
  subst w2
  go_wp2_with fail
  go_ret
  exact ⟨ret_int (uh Hs).symm, uh B1⟩
theorem bandHad_any (x : Int) (w : World) : Calls Tryz.prog 110 #[.int .i64 x] w fun e w' => e = .returned (.bool (hadB x)) ∧ w' = w := by
 go_enter Tryz.func110, Tryz.ntmps110
 go_wp2_with (go_at_call 56; refine (l1In_any _ _ _ _).mono ?_; rintro e w' ⟨rfl, rfl⟩)
 go_ret
 exact ⟨rfl, rfl⟩
theorem bandHad_v {x : Int} {r : Bool} (h : hadB x = r) (w : World) : Calls Tryz.prog 110 #[.int .i64 x] w fun e w' => e = .returned (.bool r) ∧ w' = w := by
 rw [← h]; exact bandHad_any x w
theorem specPlaced_any (h m : Int) (w : World) : Calls Tryz.prog 62 #[.int .i64 h, .int .i64 m] w fun e w' => e = .returned (.int .i64 (placedV h m)) ∧ w' = w := by
 cases h2 : hadB m
 ·have hs : placedV h m = h := by unfold placedV; rw [h2]; rfl
  have Hs := hide hs
  have H2 := hide h2
  clear hs h2
  go_enter Tryz.func62, Tryz.ntmps62
  go_wp2_with (go_at_call 110; refine (bandHad_v (uh H2) _).mono ?_; rintro e w' ⟨rfl, rfl⟩)
  go_ret
  exact ⟨ret_int (uh Hs).symm, rfl⟩
 have hs : placedV h m = max h (m - 20000) := by unfold placedV; rw [h2]; rfl
 obtain ⟨b0, b1⟩ := had_of h2
 have Hs := hide hs
 have H2 := hide h2
 clear hs h2
 go_enter Tryz.func62, Tryz.ntmps62
 go_wp2_with (first | (go_at_call 131; refine (l1Max_any _ _ _).mono ?_; rintro e w' ⟨rfl, rfl⟩) | (go_at_call 110; refine (bandHad_v (uh H2) _).mono ?_; rintro e w' ⟨rfl, rfl⟩))
 go_ret
 exact ⟨ret_int (uh Hs).symm, rfl⟩
theorem specMoved_any (h f t : Int) (w : World) : Calls Tryz.prog 63 #[.int .i64 h, .int .i64 f, .int .i64 t] w fun e w' => e = .returned (.int .i64 (movedV h f t)) ∧ w' = w := by
 cases h1 : hadB h
 ·have hs : movedV h f t = h := by unfold movedV; rw [h1]; rfl
  have Hs := hide hs
  have H1 := hide h1
  clear hs h1
  go_enter Tryz.func63, Tryz.ntmps63
  go_wp2_with (go_at_call 110; refine (bandHad_v (uh H1) _).mono ?_; rintro e w' ⟨rfl, rfl⟩)
  go_ret
  exact ⟨ret_int (uh Hs).symm, rfl⟩
 cases h2 : hadB f
 ·have hs : movedV h f t = h := by unfold movedV; rw [h1, h2]; rfl
  have Hs := hide hs
  have H1 := hide h1
  have H2 := hide h2
  clear hs h1 h2
  go_enter Tryz.func63, Tryz.ntmps63
  go_wp2_with (go_at_call 110; first | (refine (bandHad_v (uh H1) _).mono ?_; rintro e w' ⟨rfl, rfl⟩) | (refine (bandHad_v (uh H2) _).mono ?_; rintro e w' ⟨rfl, rfl⟩))
  go_ret
  exact ⟨ret_int (uh Hs).symm, rfl⟩
 cases h3 : hadB t
 ·have hs : movedV h f t = h := by unfold movedV; rw [h1, h2, h3]; rfl
  have Hs := hide hs
  have H1 := hide h1
  have H2 := hide h2
  have H3 := hide h3
  clear hs h1 h2 h3
  go_enter Tryz.func63, Tryz.ntmps63
  go_wp2_with (go_at_call 110; first | (refine (bandHad_v (uh H1) _).mono ?_; rintro e w' ⟨rfl, rfl⟩) | (refine (bandHad_v (uh H2) _).mono ?_; rintro e w' ⟨rfl, rfl⟩) | (refine (bandHad_v (uh H3) _).mono ?_; rintro e w' ⟨rfl, rfl⟩))
  go_ret
  exact ⟨ret_int (uh Hs).symm, rfl⟩
 have hs : movedV h f t = h - f + t := by unfold movedV; rw [h1, h2, h3]; rfl
 obtain ⟨a0, a1⟩ := had_of h1
 obtain ⟨b0, b1⟩ := had_of h2
 obtain ⟨c0, c1⟩ := had_of h3
 have Hs := hide hs
 have H1 := hide h1
 have H2 := hide h2
 have H3 := hide h3
 clear hs h1 h2 h3
 go_enter Tryz.func63, Tryz.ntmps63
 go_wp2_with (go_at_call 110; first | (refine (bandHad_v (uh H1) _).mono ?_; rintro e w' ⟨rfl, rfl⟩) | (refine (bandHad_v (uh H2) _).mono ?_; rintro e w' ⟨rfl, rfl⟩) | (refine (bandHad_v (uh H3) _).mono ?_; rintro e w' ⟨rfl, rfl⟩))
 go_ret
 exact ⟨ret_int (uh Hs).symm, rfl⟩
theorem specMarked_any (m f : Int) (w : World) : Calls Tryz.prog 181 #[.int .i64 m, .int .i64 f] w fun e w' => e = .returned (.int .i64 (markedV m f)) ∧ w' = w := by
 cases h1 : hadB m
 ·have hs : markedV m f = m := by unfold markedV; rw [h1]; rfl
  have Hs := hide hs
  have H1 := hide h1
  clear hs h1
  go_enter Tryz.func181, Tryz.ntmps181
  go_wp2_with (go_at_call 110; refine (bandHad_v (uh H1) _).mono ?_; rintro e w' ⟨rfl, rfl⟩)
  go_ret
  exact ⟨ret_int (uh Hs).symm, rfl⟩
 cases h2 : hadB f
 ·have hs : markedV m f = m := by unfold markedV; rw [h1, h2]; rfl
  have Hs := hide hs
  have H1 := hide h1
  have H2 := hide h2
  clear hs h1 h2
  go_enter Tryz.func181, Tryz.ntmps181
  go_wp2_with (go_at_call 110; first | (refine (bandHad_v (uh H1) _).mono ?_; rintro e w' ⟨rfl, rfl⟩) | (refine (bandHad_v (uh H2) _).mono ?_; rintro e w' ⟨rfl, rfl⟩))
  go_ret
  exact ⟨ret_int (uh Hs).symm, rfl⟩
 have hs : markedV m f = min (max m f) 900000000000 := by unfold markedV; rw [h1, h2]; rfl
 have Hs := hide hs
 have H1 := hide h1
 have H2 := hide h2
 clear hs h1 h2
 go_enter Tryz.func181, Tryz.ntmps181
 go_wp2_with (first | (go_at_call 131; refine (l1Max_any _ _ _).mono ?_; rintro e w' ⟨rfl, rfl⟩) | (go_at_call 227; refine (l1Min_any _ _ _).mono ?_; rintro e w' ⟨rfl, rfl⟩) | (go_at_call 110; first | (refine (bandHad_v (uh H1) _).mono ?_; rintro e w' ⟨rfl, rfl⟩) | (refine (bandHad_v (uh H2) _).mono ?_; rintro e w' ⟨rfl, rfl⟩)))
 go_ret
 exact ⟨ret_int (uh Hs).symm, rfl⟩
end Go.Proofs.YthbbahagpmdooaaGreatDoor
