/- Contracts of the draws of chapter 10's arguments: two numbers, or three, whose sums lie far within 64 bits; only the draw's own memory is written. Condition: the bytes of the draw can be read and are at most 4096. -/
import Derived.Test.YtnlonncfnlacdaaDraw
namespace Go.Proofs.Ytnlonncfnlacdaa.Draw
open Go.ChangeShapes Go.WideShapes Go.ChangeAt Go.RowKit
set_option linter.unusedVariables false

theorem markThree (j : Nat) (hj : j < 3) : ∃ v : Int, -1000000000000 ≤ v ∧ v ≤ 1000000000001 ∧ (#[.int .i64 1000000000000, .int .i64 (-1000000000000), .int .i64 1000000000001] : Array Value)[j]? = some (.int .i64 v) := by
  match j, hj with
  | 0, _ => exact ⟨_, by omega, by omega, rfl⟩
  | 1, _ => exact ⟨_, by omega, by omega, rfl⟩
  | 2, _ => exact ⟨_, by omega, by omega, rfl⟩
theorem bandFour (j : Nat) (hj : j < 4) : ∃ v : Int, -20001 ≤ v ∧ v ≤ 63001 ∧ (#[.int .i64 (-20001), .int .i64 (-20000), .int .i64 63000, .int .i64 63001] : Array Value)[j]? = some (.int .i64 v) := by
  match j, hj with
  | 0, _ => exact ⟨_, by omega, by omega, rfl⟩
  | 1, _ => exact ⟨_, by omega, by omega, rfl⟩
  | 2, _ => exact ⟨_, by omega, by omega, rfl⟩
  | 3, _ => exact ⟨_, by omega, by omega, rfl⟩

set_option maxHeartbeats 400000 in
theorem drawMark_any (a : Option Addr) (len cap bc : Nat) (w : World) (hs : St a len cap bc w) :
    Calls Try.prog 23 #[.pointer (some ⟨bc, 0, none⟩)] w fun e w' => ∃ x : Int, e = .returned (.int .i64 x) ∧ -1000000000000 ≤ x ∧ x ≤ 1000000000001 ∧ St a len cap bc w' ∧ Off bc w w' := by
  have Hs := hide hs
  clear hs
  go_enter Try.func23, Try.ntmps23
  go_wp2_with fail
  refine (once_any a len cap bc 10 (by omega) (by omega) _ (unhide Hs)).mono ?_
  rintro e w1 ⟨b, rfl, s1, o1⟩
  have Hs1 := hide s1
  have Ho1 := hide o1
  have hb := s1.cur.1
  clear s1 o1
  cases b
  · go_wp2_with fail
    refine (below_any a len cap bc 100000 (by omega) (by omega) _ (unhide Hs1)).mono ?_
    rintro e w2 ⟨x, rfl, x0, x1, s2, o2⟩
    have Hs2 := hide s2
    have Ho2 := hide o2
    clear s2 o2
    go_wp2_with fail
    go_ret
    exact ⟨_, rfl, by omega, by omega, unhide Hs2, (unhide Ho1).trans (unhide Ho2)⟩
  · go_wp2_with fail
    refine (below_any a len cap bc 3 (by omega) (by omega) _ ((unhide Hs1).alloc _)).mono ?_
    rintro e w2 ⟨x, rfl, x0, x1, s2, o2⟩
    have hsz : w1.heap.size < w2.heap.size := by have := o2.size; simp at this; omega
    obtain ⟨v, v0, v1, hv⟩ := markThree x.toNat (by omega)
    have hcell : w2.cell? ⟨w1.heap.size, x.toNat, none⟩ = some (.int .i64 v) := by
      rw [o2.cell (p := ⟨w1.heap.size, x.toNat, none⟩) (by simp) (by simp; omega), World.cell?_alloc_at _ _ _ _ rfl]; exact hv
    clear hv
    have Hs2 := hide s2
    have Ho2 := hide o2
    clear s2 o2
    go_wp2_with fail
    go_ret
    exact ⟨_, rfl, v0, v1, unhide Hs2, (unhide Ho1).trans (((Off.refl _ _).alloc _).trans (unhide Ho2))⟩

set_option maxHeartbeats 1000000 in
theorem drawInBand_any (a : Option Addr) (len cap : Nat) (w : World) (hr : Row w.heap.size w a len) :
    Calls Try.prog 9 #[.slice a len cap] w fun e w' => ∃ (h m : Int), e = .returned (.tuple #[.int .i64 h, .int .i64 m]) ∧ -1000000030000 ≤ h ∧ h ≤ 1000000080001 ∧ -1000000000000 ≤ m ∧ m ≤ 1000000000001 ∧ Below w.heap.size w w' := by
  have Hr := hide hr
  clear hr
  go_enter Try.func9, Try.ntmps9
  go_wp2_with fail
  refine (new_any a len cap _ (unhide Hr)).mono ?_
  rintro e w1 ⟨rfl, hs1, ho1⟩
  have B1 : Hid (Below w.heap.size w w1) := hide (ho1.below (Nat.le_refl _) (Nat.le_refl _))
  have Hs1 := hide hs1
  clear hs1 ho1
  go_wp2_with fail
  refine (drawMark_any a len cap w.heap.size _ (unhide Hs1)).mono ?_
  rintro e w2 ⟨m, rfl, m0, m1, hs2, ho2⟩
  have B2 : Hid (Below w.heap.size w w2) := hide ((unhide B1).trans (ho2.below (Nat.le_refl _) (unhide B1).size))
  have Hs2 := hide hs2
  clear hs2 ho2 B1 Hs1
  go_wp2_with fail
  refine (once_any a len cap w.heap.size 3 (by omega) (by omega) _ (unhide Hs2)).mono ?_
  rintro e w3 ⟨o, rfl, hs3, ho3⟩
  have B3 : Hid (Below w.heap.size w w3) := hide ((unhide B2).trans (ho3.below (Nat.le_refl _) (unhide B2).size))
  have hb3 := hs3.cur.1
  have Hs3 := hide hs3
  clear hs3 ho3 B2 Hs2
  cases o
  · go_wp2_with fail
    refine (from_any a len cap w.heap.size (-30000) 80000 (by omega) (by omega) (by omega) _ (unhide Hs3)).mono ?_
    rintro e w4 ⟨y, rfl, y0, y1, hs4, ho4⟩
    have B4 : Hid (Below w.heap.size w w4) := hide ((unhide B3).trans (ho4.below (Nat.le_refl _) (unhide B3).size))
    clear hs4 ho4 B3 Hs3
    go_wp2_with fail
    go_ret2
    exact ⟨m + y, m, rfl, by omega, by omega, m0, m1, unhide B4⟩
  · go_wp2_with fail
    refine (below_any a len cap w.heap.size 4 (by omega) (by omega) _ ((unhide Hs3).alloc _)).mono ?_
    rintro e w4 ⟨x, rfl, x0, x1, s4, o4⟩
    have hsz : w3.heap.size < w4.heap.size := by have := o4.size; simp at this; omega
    obtain ⟨v, v0, v1, hv⟩ := bandFour x.toNat (by omega)
    have hcell : w4.cell? ⟨w3.heap.size, x.toNat, none⟩ = some (.int .i64 v) := by
      rw [o4.cell (p := ⟨w3.heap.size, x.toNat, none⟩) (by simp) (by simp; omega), World.cell?_alloc_at _ _ _ _ rfl]; exact hv
    have B4 : Hid (Below w.heap.size w w4) := hide (((unhide B3).alloc (unhide B3).size _).trans (o4.below (Nat.le_refl _) (by simp; omega)))
    clear hv s4 o4 B3 Hs3
    go_wp2_with fail
    go_ret2
    exact ⟨m + v, m, rfl, by omega, by omega, m0, m1, unhide B4⟩

theorem drawPlaced_any (a : Option Addr) (len cap : Nat) (w : World) (hr : Row w.heap.size w a len) :
    Calls Try.prog 11 #[.slice a len cap] w fun e w' => ∃ (h m : Int), e = .returned (.tuple #[.int .i64 h, .int .i64 m]) ∧ -1000000030000 ≤ h ∧ h ≤ 1000000080001 ∧ -1000000000000 ≤ m ∧ m ≤ 1000000000001 ∧ Below w.heap.size w w' := by
  have Hr := hide hr
  clear hr
  go_enter Try.func11, Try.ntmps11
  go_wp2_with fail
  refine (drawInBand_any a len cap _ (unhide Hr)).mono ?_
  rintro e w1 ⟨h, m, rfl, h0, h1, m0, m1, hb⟩
  have Hb := hide hb
  clear hb
  go_wp2_with fail
  go_ret2
  exact ⟨h, m, rfl, h0, h1, m0, m1, unhide Hb⟩

theorem drawMarked_any (a : Option Addr) (len cap : Nat) (w : World) (hr : Row w.heap.size w a len) :
    Calls Try.prog 15 #[.slice a len cap] w fun e w' => ∃ (h m : Int), e = .returned (.tuple #[.int .i64 h, .int .i64 m]) ∧ -1000000030000 ≤ h ∧ h ≤ 1000000080001 ∧ -1000000000000 ≤ m ∧ m ≤ 1000000000001 ∧ Below w.heap.size w w' := by
  have Hr := hide hr
  clear hr
  go_enter Try.func15, Try.ntmps15
  go_wp2_with fail
  refine (drawInBand_any a len cap _ (unhide Hr)).mono ?_
  rintro e w1 ⟨h, m, rfl, h0, h1, m0, m1, hb⟩
  have Hb := hide hb
  clear hb
  go_wp2_with fail
  go_ret2
  exact ⟨h, m, rfl, h0, h1, m0, m1, unhide Hb⟩

set_option maxHeartbeats 1000000 in
theorem drawMoved_any (a : Option Addr) (len cap : Nat) (w : World) (hr : Row w.heap.size w a len) :
    Calls Try.prog 13 #[.slice a len cap] w fun e w' => ∃ (x y z : Int), e = .returned (.tuple #[.int .i64 x, .int .i64 y, .int .i64 z]) ∧ -1000000000000 ≤ x ∧ x ≤ 1000000000001 ∧ -1000000000000 ≤ y ∧ y ≤ 1000000000001 ∧ -1000000000000 ≤ z ∧ z ≤ 1000000000001 ∧ Below w.heap.size w w' := by
  have Hr := hide hr
  clear hr
  go_enter Try.func13, Try.ntmps13
  go_wp2_with fail
  refine (new_any a len cap _ (unhide Hr)).mono ?_
  rintro e w1 ⟨rfl, hs1, ho1⟩
  have B1 : Hid (Below w.heap.size w w1) := hide (ho1.below (Nat.le_refl _) (Nat.le_refl _))
  have Hs1 := hide hs1
  clear hs1 ho1
  go_wp2_with fail
  refine (drawMark_any a len cap w.heap.size _ (unhide Hs1)).mono ?_
  rintro e w2 ⟨x, rfl, x0, x1, hs2, ho2⟩
  have B2 : Hid (Below w.heap.size w w2) := hide ((unhide B1).trans (ho2.below (Nat.le_refl _) (unhide B1).size))
  have Hs2 := hide hs2
  clear hs2 ho2 B1 Hs1
  go_wp2_with fail
  refine (drawMark_any a len cap w.heap.size _ (unhide Hs2)).mono ?_
  rintro e w3 ⟨y, rfl, y0, y1, hs3, ho3⟩
  have B3 : Hid (Below w.heap.size w w3) := hide ((unhide B2).trans (ho3.below (Nat.le_refl _) (unhide B2).size))
  have Hs3 := hide hs3
  clear hs3 ho3 B2 Hs2
  go_wp2_with fail
  refine (drawMark_any a len cap w.heap.size _ (unhide Hs3)).mono ?_
  rintro e w4 ⟨z, rfl, z0, z1, hs4, ho4⟩
  have B4 : Hid (Below w.heap.size w w4) := hide ((unhide B3).trans (ho4.below (Nat.le_refl _) (unhide B3).size))
  clear hs4 ho4 B3 Hs3
  go_wp2_with fail
  go_ret3
  exact ⟨x, y, z, rfl, x0, x1, y0, y1, z0, z1, unhide B4⟩

end Go.Proofs.Ytnlonncfnlacdaa.Draw
