/- Contracts of the draws of chapter 3's arguments: each returns int64s (within the bounds named) and writes into no memory that was there. Condition: the bytes can be read and are at most 4096. -/
import Derived.Test.YtbpjjjagalldgaaDraw1
import Derived.Test.YtbpjjjagalldgaaWeights
namespace Go.Proofs.Ytbpjjjagalldgaa.Draw
open Go.ChangeShapes Go.WideShapes Go.ChangeAt Go.RowKit
set_option linter.unusedVariables false

theorem weight_bd (r : Int) : 0 ≤ weightV r ∧ weightV r ≤ 3125 := by
  cases h : inB r (-5) 5
  · rw [weightV_none h]; omega
  · rcases ranks h with rfl | rfl | rfl | rfl | rfl | rfl | rfl | rfl | rfl | rfl | rfl <;> decide

set_option maxHeartbeats 400000 in
theorem drawWeightOf_any (a : Option Addr) (len cap : Nat) (w : World) (hr : Row w.heap.size w a len) :
    Calls Try.prog 9 #[.slice a len cap] w fun e w' => ∃ x : Int, e = .returned (.int .i64 x) ∧ -6 ≤ x ∧ x ≤ 6 ∧ Below w.heap.size w w' := by
  have Hr := hide hr
  clear hr
  go_enter Try.func9, Try.ntmps9
  go_wp2_with fail
  refine (new_any a len cap _ (unhide Hr)).mono ?_
  rintro e w1 ⟨rfl, s1, o1⟩
  have Hs1 := hide s1
  have Ho1 := hide o1
  clear s1 o1
  go_wp2_with fail
  refine (from_any a len cap _ (-6) 6 (by omega) (by omega) (by omega) _ (unhide Hs1)).mono ?_
  rintro e w2 ⟨x, rfl, x0, x1, s2, o2⟩
  have Ho2 := hide o2
  clear s2 o2
  go_wp2_with fail
  go_ret
  exact ⟨_, rfl, x0, x1, ((unhide Ho1).trans (unhide Ho2)).below (Nat.le_refl _) (Nat.le_refl _)⟩

set_option maxHeartbeats 400000 in
theorem drawRankFor_any (a : Option Addr) (len cap : Nat) (w : World) (hr : Row w.heap.size w a len) :
    Calls Try.prog 11 #[.slice a len cap] w fun e w' => ∃ x : Int, e = .returned (.int .i64 x) ∧ Below w.heap.size w w' := by
  have Hr := hide hr
  clear hr
  go_enter Try.func11, Try.ntmps11
  go_wp2_with fail
  refine (new_any a len cap _ (unhide Hr)).mono ?_
  rintro e w1 ⟨rfl, s1, o1⟩
  have Hs1 := hide s1
  have Ho1 := hide o1
  clear s1 o1
  go_wp2_with fail
  refine (from_any a len cap _ (-5) 5 (by omega) (by omega) (by omega) _ (unhide Hs1)).mono ?_
  rintro e w2 ⟨x, rfl, x0, x1, s2, o2⟩
  have Hs2 := hide s2
  have Ho2 := hide o2
  clear s2 o2
  go_wp2_with fail
  refine (specWeightOf_any x _).mono ?_
  obtain ⟨k0, k1⟩ := weight_bd x
  generalize weightV x = k at *
  rintro e w' ⟨rfl, hw⟩
  subst w'
  go_wp2_with fail
  refine (from_any a len cap _ (-1) 1 (by omega) (by omega) (by omega) _ (unhide Hs2)).mono ?_
  rintro e w3 ⟨y, rfl, y0, y1, s3, o3⟩
  have Hs3 := hide s3
  have Ho3 := hide o3
  clear s3 o3
  go_wp2_with fail
  refine (once_any a len cap _ 6 (by omega) (by omega) _ (unhide Hs3)).mono ?_
  rintro e w4 ⟨b, rfl, s4, o4⟩
  have Hs4 := hide s4
  have Ho4 := hide o4
  clear s4 o4
  cases b
  · go_wp2_with fail
    go_ret
    exact ⟨_, rfl, ((((unhide Ho1).trans (unhide Ho2)).trans (unhide Ho3)).trans (unhide Ho4)).below (Nat.le_refl _) (Nat.le_refl _)⟩
  · go_wp2_with fail
    refine (drawBig_any a len cap _ _ (unhide Hs4)).mono ?_
    rintro e w5 ⟨z, rfl, s5, o5⟩
    have Ho5 := hide o5
    clear s5 o5
    go_wp2_with fail
    go_ret
    exact ⟨_, rfl, (((((unhide Ho1).trans (unhide Ho2)).trans (unhide Ho3)).trans (unhide Ho4)).trans (unhide Ho5)).below (Nat.le_refl _) (Nat.le_refl _)⟩

/-- One of two, one of four. -/
theorem pick4 (j : Nat) (hj : j < 4) : ∃ v : Int, 0 ≤ v ∧ v ≤ 100001 ∧ (#[.int .i64 0, .int .i64 1, .int .i64 100000, .int .i64 100001] : Array Value)[j]? = some (.int .i64 v) := by
  match j, hj with
  | 0, _ => exact ⟨0, by omega, by omega, rfl⟩
  | 1, _ => exact ⟨1, by omega, by omega, rfl⟩
  | 2, _ => exact ⟨100000, by omega, by omega, rfl⟩
  | 3, _ => exact ⟨100001, by omega, by omega, rfl⟩

set_option maxHeartbeats 1000000 in
theorem drawShare_any (a : Option Addr) (len cap : Nat) (w : World) (hr : Row w.heap.size w a len) :
    Calls Try.prog 15 #[.slice a len cap] w fun e w' => ∃ x y z : Int, e = .returned (.tuple #[.int .i64 x, .int .i64 y, .int .i64 z]) ∧ Below w.heap.size w w' := by
  have Hr := hide hr
  clear hr
  go_enter Try.func15, Try.ntmps15
  go_wp2_with fail
  refine (new_any a len cap _ (unhide Hr)).mono ?_
  rintro e w1 ⟨rfl, s1, o1⟩
  have Hs1 := hide s1
  have Ho1 := hide o1
  clear s1 o1
  go_wp2_with fail
  refine (drawBig_any a len cap _ _ (unhide Hs1)).mono ?_
  rintro e w2 ⟨x, rfl, s2, o2⟩
  have Hs2 := hide s2
  have Ho2 := hide ((unhide Ho1).trans o2)
  clear s2 o2 Ho1 Hs1
  go_wp2_with fail
  refine (from_any a len cap _ (-5) 5 (by omega) (by omega) (by omega) _ (unhide Hs2)).mono ?_
  rintro e w3 ⟨r, rfl, r0, r1, s3, o3⟩
  have Hs3 := hide s3
  have Ho3 := hide ((unhide Ho2).trans o3)
  clear s3 o3 Ho2 Hs2
  go_wp2_with fail
  refine (specWeightOf_any r _).mono ?_
  obtain ⟨k0, k1⟩ := weight_bd r
  generalize weightV r = kk at *
  rintro e w' ⟨rfl, hw⟩
  subst w'
  go_wp2_with fail
  refine (once_any a len cap _ 6 (by omega) (by omega) _ (unhide Hs3)).mono ?_
  rintro e w4 ⟨b, rfl, s4, o4⟩
  have Hs4 := hide s4
  have Ho4 := hide ((unhide Ho3).trans o4)
  clear s4 o4 Ho3 Hs3
  cases b
  · go_wp2_with fail
    have k2 : kk ≤ 100001 := by omega
    clear k1
    generalize kk = k at *
    have Hs5 := Hs4
    have Ho5 := Ho4
    clear Hs4 Ho4
    refine (l1Max_any 1 k _).mono ?_
    have m0 : 1 ≤ max 1 k := by omega
    have m1 : max 1 k ≤ 100001 := by omega
    generalize max 1 k = m at *
    rintro e w' ⟨rfl, hw⟩
    subst w'
    go_wp2_with fail
    refine (below_any a len cap _ m (by omega) (by omega) _ (unhide Hs5)).mono ?_
    rintro e w6 ⟨z, rfl, z0, z1, s6, o6⟩
    have Hs6 := hide s6
    have Ho6 := hide ((unhide Ho5).trans o6)
    clear s6 o6 Hs5 Ho5
    go_wp2_with fail
    refine (once_any a len cap _ 10 (by omega) (by omega) _ (unhide Hs6)).mono ?_
    rintro e w7 ⟨b', rfl, s7, o7⟩
    have Hs7 := hide s7
    have Ho7 := hide ((unhide Ho6).trans o7)
    clear s7 o7 Hs6 Ho6
    cases b'
    · go_wp2_with fail
      go_ret3
      exact ⟨_, _, _, rfl, (unhide Ho7).below (Nat.le_refl _) (Nat.le_refl _)⟩
    · have hb := (unhide Hs7).cur.1
      go_wp2_with fail
      refine (below_any a len cap _ 2 (by omega) (by omega) _ ((unhide Hs7).alloc _)).mono ?_
      rintro e w8 ⟨y, rfl, y0, y1, s8, o8⟩
      have hsz : w7.heap.size < w8.heap.size := by have := o8.size; simp at this; omega
      obtain ⟨v, hv⟩ := pick_any #[.int .i64 (-1), .int .i64 k] y.toNat (by simp; omega) rfl
      have hcell : w8.cell? ⟨w7.heap.size, y.toNat, none⟩ = some (.int .i64 v) := by
        rw [o8.cell (p := ⟨w7.heap.size, y.toNat, none⟩) (by simp) (by simp; omega), World.cell?_alloc_at _ _ _ _ rfl]; exact hv
      clear hv
      have Ho8 := hide (((unhide Ho7).alloc _).trans o8)
      clear s8 o8
      go_wp2_with fail
      go_ret3
      exact ⟨_, _, _, rfl, (unhide Ho8).below (Nat.le_refl _) (Nat.le_refl _)⟩
  · have hb := (unhide Hs4).cur.1
    go_wp2_with fail
    refine (below_any a len cap _ 4 (by omega) (by omega) _ ((unhide Hs4).alloc _)).mono ?_
    rintro e w5 ⟨y, rfl, y0, y1, s5, o5⟩
    have hsz : w4.heap.size < w5.heap.size := by have := o5.size; simp at this; omega
    obtain ⟨k, k3, k2, hv⟩ := pick4 y.toNat (by omega)
    have hcell : w5.cell? ⟨w4.heap.size, y.toNat, none⟩ = some (.int .i64 k) := by
      rw [o5.cell (p := ⟨w4.heap.size, y.toNat, none⟩) (by simp) (by simp; omega), World.cell?_alloc_at _ _ _ _ rfl]; exact hv
    clear hv k0 k1
    have k0 := k3
    clear k3
    have Hs5 := hide s5
    have Ho5 := hide (((unhide Ho4).alloc _).trans o5)
    clear s5 o5 Hs4 Ho4
    go_wp2_with fail
    clear hcell hsz hb y0 y1
    refine (l1Max_any 1 k _).mono ?_
    have m0 : 1 ≤ max 1 k := by omega
    have m1 : max 1 k ≤ 100001 := by omega
    generalize max 1 k = m at *
    rintro e w' ⟨rfl, hw⟩
    subst w'
    go_wp2_with fail
    refine (below_any a len cap _ m (by omega) (by omega) _ (unhide Hs5)).mono ?_
    rintro e w6 ⟨z, rfl, z0, z1, s6, o6⟩
    have Hs6 := hide s6
    have Ho6 := hide ((unhide Ho5).trans o6)
    clear s6 o6 Hs5 Ho5
    go_wp2_with fail
    refine (once_any a len cap _ 10 (by omega) (by omega) _ (unhide Hs6)).mono ?_
    rintro e w7 ⟨b', rfl, s7, o7⟩
    have Hs7 := hide s7
    have Ho7 := hide ((unhide Ho6).trans o7)
    clear s7 o7 Hs6 Ho6
    cases b'
    · go_wp2_with fail
      go_ret3
      exact ⟨_, _, _, rfl, (unhide Ho7).below (Nat.le_refl _) (Nat.le_refl _)⟩
    · have hb := (unhide Hs7).cur.1
      go_wp2_with fail
      refine (below_any a len cap _ 2 (by omega) (by omega) _ ((unhide Hs7).alloc _)).mono ?_
      rintro e w8 ⟨y, rfl, y0, y1, s8, o8⟩
      have hsz : w7.heap.size < w8.heap.size := by have := o8.size; simp at this; omega
      obtain ⟨v, hv⟩ := pick_any #[.int .i64 (-1), .int .i64 k] y.toNat (by simp; omega) rfl
      have hcell : w8.cell? ⟨w7.heap.size, y.toNat, none⟩ = some (.int .i64 v) := by
        rw [o8.cell (p := ⟨w7.heap.size, y.toNat, none⟩) (by simp) (by simp; omega), World.cell?_alloc_at _ _ _ _ rfl]; exact hv
      clear hv
      have Ho8 := hide (((unhide Ho7).alloc _).trans o8)
      clear s8 o8
      go_wp2_with fail
      go_ret3
      exact ⟨_, _, _, rfl, (unhide Ho8).below (Nat.le_refl _) (Nat.le_refl _)⟩

end Go.Proofs.Ytbpjjjagalldgaa.Draw
