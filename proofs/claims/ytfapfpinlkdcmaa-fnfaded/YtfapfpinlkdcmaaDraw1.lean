/- Contracts of the draws of chapter 1's arguments: each returns int64s and writes into no memory that was there. Condition: the bytes can be read and are at most 4096. -/
import Derived.Test.YtfapfpinlkdcmaaDraw
namespace Go.Proofs.Ytfapfpinlkdcmaa.Draw
open Go.ChangeShapes Go.WideShapes Go.ChangeAt Go.RowKit
set_option linter.unusedVariables false

theorem six (p q r s t u : Value) (k : IntKind) (j : Nat) (hj : j < 6) (hp : ∃ v : Int, p = .int k v) (hq : ∃ v : Int, q = .int k v) (hr : ∃ v : Int, r = .int k v) (hs : ∃ v : Int, s = .int k v) (ht : ∃ v : Int, t = .int k v) (hu : ∃ v : Int, u = .int k v) :
    ∃ v : Int, (#[p, q, r, s, t, u] : Array Value)[j]? = some (.int k v) := by
  obtain ⟨_, rfl⟩ := hp; obtain ⟨_, rfl⟩ := hq; obtain ⟨_, rfl⟩ := hr; obtain ⟨_, rfl⟩ := hs; obtain ⟨_, rfl⟩ := ht; obtain ⟨_, rfl⟩ := hu
  match j, hj with
  | 0, _ => exact ⟨_, rfl⟩
  | 1, _ => exact ⟨_, rfl⟩
  | 2, _ => exact ⟨_, rfl⟩
  | 3, _ => exact ⟨_, rfl⟩
  | 4, _ => exact ⟨_, rfl⟩
  | 5, _ => exact ⟨_, rfl⟩
theorem three (p q r : Value) (k : IntKind) (j : Nat) (hj : j < 3) (hp : ∃ v : Int, p = .int k v) (hq : ∃ v : Int, q = .int k v) (hr : ∃ v : Int, r = .int k v) :
    ∃ v : Int, (#[p, q, r] : Array Value)[j]? = some (.int k v) := by
  obtain ⟨_, rfl⟩ := hp; obtain ⟨_, rfl⟩ := hq; obtain ⟨_, rfl⟩ := hr
  match j, hj with
  | 0, _ => exact ⟨_, rfl⟩
  | 1, _ => exact ⟨_, rfl⟩
  | 2, _ => exact ⟨_, rfl⟩

set_option maxHeartbeats 400000 in
theorem drawBig_any (a : Option Addr) (len cap bc : Nat) (w : World) (hs : St a len cap bc w) :
    Calls Try.prog 23 #[.pointer (some ⟨bc, 0, none⟩)] w fun e w' => ∃ x : Int, e = .returned (.int .i64 x) ∧ St a len cap bc w' ∧ Off bc w w' := by
  have Hs := hide hs
  clear hs
  go_enter Try.func23, Try.ntmps23
  go_wp2_with fail
  refine (once_any a len cap bc 6 (by omega) (by omega) _ (unhide Hs)).mono ?_
  rintro e w1 ⟨b, rfl, s1, o1⟩
  have Hs1 := hide s1
  have Ho1 := hide o1
  have hb := s1.cur.1
  clear s1 o1
  cases b
  · go_wp2_with fail
    refine (below_any a len cap bc 1000000 (by omega) (by omega) _ (unhide Hs1)).mono ?_
    rintro e w2 ⟨x, rfl, x0, x1, s2, o2⟩
    have Hs2 := hide s2
    have Ho2 := hide o2
    clear s2 o2
    go_wp2_with fail
    go_ret
    exact ⟨_, rfl, unhide Hs2, (unhide Ho1).trans (unhide Ho2)⟩
  · go_wp2_with fail
    refine (below_any a len cap bc 6 (by omega) (by omega) _ ((unhide Hs1).alloc _)).mono ?_
    rintro e w2 ⟨x, rfl, x0, x1, s2, o2⟩
    have hsz : w1.heap.size < w2.heap.size := by have := o2.size; simp at this; omega
    obtain ⟨v, hv⟩ := six (.int .i64 (-1)) (.int .i64 0) (.int .i64 1) (.int .i64 1000000000) (.int .i64 1000000001) (.int .i64 4611686018427387904) .i64 x.toNat (by omega) ⟨_, rfl⟩ ⟨_, rfl⟩ ⟨_, rfl⟩ ⟨_, rfl⟩ ⟨_, rfl⟩ ⟨_, rfl⟩
    have hcell : w2.cell? ⟨w1.heap.size, x.toNat, none⟩ = some (.int .i64 v) := by
      rw [o2.cell (p := ⟨w1.heap.size, x.toNat, none⟩) (by simp) (by simp; omega), World.cell?_alloc_at _ _ _ _ rfl]; exact hv
    clear hv
    have Hs2 := hide s2
    have Ho2 := hide o2
    clear s2 o2
    go_wp2_with fail
    go_ret
    exact ⟨_, rfl, unhide Hs2, (unhide Ho1).trans (((Off.refl _ _).alloc _).trans (unhide Ho2))⟩

set_option maxHeartbeats 400000 in
theorem drawForce_any (a : Option Addr) (len cap bc : Nat) (w : World) (hs : St a len cap bc w) :
    Calls Try.prog 33 #[.pointer (some ⟨bc, 0, none⟩)] w fun e w' => ∃ x : Int, e = .returned (.int .i64 x) ∧ St a len cap bc w' ∧ Off bc w w' := by
  have Hs := hide hs
  clear hs
  go_enter Try.func33, Try.ntmps33
  go_wp2_with fail
  refine (once_any a len cap bc 8 (by omega) (by omega) _ (unhide Hs)).mono ?_
  rintro e w1 ⟨b, rfl, s1, o1⟩
  have Hs1 := hide s1
  have Ho1 := hide o1
  have hb := s1.cur.1
  clear s1 o1
  cases b
  · go_wp2_with fail
    refine (below_any a len cap bc 1025 (by omega) (by omega) _ (unhide Hs1)).mono ?_
    rintro e w2 ⟨x, rfl, x0, x1, s2, o2⟩
    have Hs2 := hide s2
    have Ho2 := hide o2
    clear s2 o2
    go_wp2_with fail
    go_ret
    exact ⟨_, rfl, unhide Hs2, (unhide Ho1).trans (unhide Ho2)⟩
  · go_wp2_with fail
    refine (below_any a len cap bc 3 (by omega) (by omega) _ ((unhide Hs1).alloc _)).mono ?_
    rintro e w2 ⟨x, rfl, x0, x1, s2, o2⟩
    have hsz : w1.heap.size < w2.heap.size := by have := o2.size; simp at this; omega
    obtain ⟨v, hv⟩ := three (.int .i64 (-1)) (.int .i64 1024) (.int .i64 1025) .i64 x.toNat (by omega) ⟨_, rfl⟩ ⟨_, rfl⟩ ⟨_, rfl⟩
    have hcell : w2.cell? ⟨w1.heap.size, x.toNat, none⟩ = some (.int .i64 v) := by
      rw [o2.cell (p := ⟨w1.heap.size, x.toNat, none⟩) (by simp) (by simp; omega), World.cell?_alloc_at _ _ _ _ rfl]; exact hv
    clear hv
    have Hs2 := hide s2
    have Ho2 := hide o2
    clear s2 o2
    go_wp2_with fail
    go_ret
    exact ⟨_, rfl, unhide Hs2, (unhide Ho1).trans (((Off.refl _ _).alloc _).trans (unhide Ho2))⟩

set_option maxHeartbeats 400000 in
theorem DrawMulDiv_any (a : Option Addr) (len cap : Nat) (w : World) (hr : Row w.heap.size w a len) :
    Calls Try.prog 10 #[.slice a len cap] w fun e w' => ∃ x0 x1 x2 : Int, e = .returned (.tuple #[.int .i64 x0, .int .i64 x1, .int .i64 x2]) ∧ Below w.heap.size w w' := by
  have Hr := hide hr
  clear hr
  go_enter Try.func10, Try.ntmps10
  go_wp2_with fail
  refine (new_any a len cap _ (unhide Hr)).mono ?_
  rintro e w0 ⟨rfl, s0, o0⟩
  have Hs0 := hide s0
  have Ho0 := hide o0
  clear s0 o0
  go_wp2_with fail
  refine (drawBig_any a len cap _ _ (unhide Hs0)).mono ?_
  rintro e w1 ⟨x, rfl, s1, o1⟩
  have Hs1 := hide s1
  have Ho1 := hide o1
  clear s1 o1
  go_wp2_with fail
  refine (drawBig_any a len cap _ _ (unhide Hs1)).mono ?_
  rintro e w2 ⟨y, rfl, s2, o2⟩
  have Hs2 := hide s2
  have Ho2 := hide o2
  clear s2 o2
  go_wp2_with fail
  refine (drawBig_any a len cap _ _ (unhide Hs2)).mono ?_
  rintro e w3 ⟨z, rfl, s3, o3⟩
  have Hs3 := hide s3
  have Ho3 := hide o3
  clear s3 o3
  go_wp2_with fail
  go_ret3
  exact ⟨_, _, _, rfl, ((((unhide Ho0).trans (unhide Ho1)).trans (unhide Ho2)).trans (unhide Ho3)).below (Nat.le_refl _) (Nat.le_refl _)⟩

set_option maxHeartbeats 400000 in
theorem DrawClamped_any (a : Option Addr) (len cap : Nat) (w : World) (hr : Row w.heap.size w a len) :
    Calls Try.prog 12 #[.slice a len cap] w fun e w' => ∃ x0 x1 x2 : Int, e = .returned (.tuple #[.int .i64 x0, .int .i64 x1, .int .i64 x2]) ∧ Below w.heap.size w w' := by
  have Hr := hide hr
  clear hr
  go_enter Try.func12, Try.ntmps12
  go_wp2_with fail
  refine (new_any a len cap _ (unhide Hr)).mono ?_
  rintro e w0 ⟨rfl, s0, o0⟩
  have Hs0 := hide s0
  have Ho0 := hide o0
  clear s0 o0
  go_wp2_with fail
  refine (from_any a len cap _ (-5) 20 (by omega) (by omega) (by omega) _ (unhide Hs0)).mono ?_
  rintro e w1 ⟨x, rfl, x0, x1, s1, o1⟩
  have Hs1 := hide s1
  have Ho1 := hide o1
  clear s1 o1
  go_wp2_with fail
  refine (from_any a len cap _ (-5) 20 (by omega) (by omega) (by omega) _ (unhide Hs1)).mono ?_
  rintro e w2 ⟨y, rfl, y0, y1, s2, o2⟩
  have Hs2 := hide s2
  have Ho2 := hide o2
  clear s2 o2
  go_wp2_with fail
  refine (from_any a len cap _ (-5) 20 (by omega) (by omega) (by omega) _ (unhide Hs2)).mono ?_
  rintro e w3 ⟨z, rfl, z0, z1, s3, o3⟩
  have Hs3 := hide s3
  have Ho3 := hide o3
  clear s3 o3
  go_wp2_with fail
  go_ret3
  exact ⟨_, _, _, rfl, ((((unhide Ho0).trans (unhide Ho1)).trans (unhide Ho2)).trans (unhide Ho3)).below (Nat.le_refl _) (Nat.le_refl _)⟩

set_option maxHeartbeats 400000 in
theorem DrawFaded_any (a : Option Addr) (len cap : Nat) (w : World) (hr : Row w.heap.size w a len) :
    Calls Try.prog 16 #[.slice a len cap] w fun e w' => ∃ x0 x1 : Int, e = .returned (.tuple #[.int .i64 x0, .int .i64 x1]) ∧ Below w.heap.size w w' := by
  have Hr := hide hr
  clear hr
  go_enter Try.func16, Try.ntmps16
  go_wp2_with fail
  refine (new_any a len cap _ (unhide Hr)).mono ?_
  rintro e w0 ⟨rfl, s0, o0⟩
  have Hs0 := hide s0
  have Ho0 := hide o0
  clear s0 o0
  go_wp2_with fail
  refine (drawForce_any a len cap _ _ (unhide Hs0)).mono ?_
  rintro e w1 ⟨x, rfl, s1, o1⟩
  have Hs1 := hide s1
  have Ho1 := hide o1
  clear s1 o1
  go_wp2_with fail
  refine (drawForce_any a len cap _ _ (unhide Hs1)).mono ?_
  rintro e w2 ⟨y, rfl, s2, o2⟩
  have Hs2 := hide s2
  have Ho2 := hide o2
  clear s2 o2
  go_wp2_with fail
  go_ret2
  exact ⟨_, _, rfl, (((unhide Ho0).trans (unhide Ho1)).trans (unhide Ho2)).below (Nat.le_refl _) (Nat.le_refl _)⟩

set_option maxHeartbeats 400000 in
theorem DrawFadedMany_any (a : Option Addr) (len cap : Nat) (w : World) (hr : Row w.heap.size w a len) :
    Calls Try.prog 18 #[.slice a len cap] w fun e w' => ∃ x0 x1 x2 : Int, e = .returned (.tuple #[.int .i64 x0, .int .i64 x1, .int .i64 x2]) ∧ Below w.heap.size w w' := by
  have Hr := hide hr
  clear hr
  go_enter Try.func18, Try.ntmps18
  go_wp2_with fail
  refine (new_any a len cap _ (unhide Hr)).mono ?_
  rintro e w0 ⟨rfl, s0, o0⟩
  have Hs0 := hide s0
  have Ho0 := hide o0
  clear s0 o0
  go_wp2_with fail
  refine (drawForce_any a len cap _ _ (unhide Hs0)).mono ?_
  rintro e w1 ⟨x, rfl, s1, o1⟩
  have Hs1 := hide s1
  have Ho1 := hide o1
  clear s1 o1
  go_wp2_with fail
  refine (drawForce_any a len cap _ _ (unhide Hs1)).mono ?_
  rintro e w2 ⟨y, rfl, s2, o2⟩
  have Hs2 := hide s2
  have Ho2 := hide o2
  clear s2 o2
  go_wp2_with fail
  refine (below_any a len cap _ 25 (by omega) (by omega) _ (unhide Hs2)).mono ?_
  rintro e w3 ⟨z, rfl, z0, z1, s3, o3⟩
  have Hs3 := hide s3
  have Ho3 := hide o3
  clear s3 o3
  go_wp2_with fail
  refine (once_any a len cap _ 10 (by omega) (by omega) _ (unhide Hs3)).mono ?_
  rintro e w4 ⟨b, rfl, s4, o4⟩
  have Hs4 := hide s4
  have Ho4 := hide o4
  have hb := s4.cur.1
  clear s4 o4
  cases b
  · go_wp2_with fail
    go_ret3
    exact ⟨_, _, _, rfl, ((((unhide Ho0).trans (unhide Ho1)).trans (unhide Ho2)).trans (unhide Ho3)).trans (unhide Ho4) |>.below (Nat.le_refl _) (Nat.le_refl _)⟩
  · go_wp2_with fail
    refine (below_any a len cap _ 3 (by omega) (by omega) _ ((unhide Hs4).alloc _)).mono ?_
    rintro e w5 ⟨u, rfl, u0, u1, s5, o5⟩
    have hsz : w4.heap.size < w5.heap.size := by have := o5.size; simp at this; omega
    obtain ⟨v, hv⟩ := three (.int .i64 (-1)) (.int .i64 1000) (.int .i64 1001) .i64 u.toNat (by omega) ⟨_, rfl⟩ ⟨_, rfl⟩ ⟨_, rfl⟩
    have hcell : w5.cell? ⟨w4.heap.size, u.toNat, none⟩ = some (.int .i64 v) := by
      rw [o5.cell (p := ⟨w4.heap.size, u.toNat, none⟩) (by simp) (by simp; omega), World.cell?_alloc_at _ _ _ _ rfl]; exact hv
    clear hv
    have Hs5 := hide s5
    have Ho5 := hide o5
    clear s5 o5
    go_wp2_with fail
    go_ret3
    exact ⟨_, _, _, rfl, (((((unhide Ho0).trans (unhide Ho1)).trans (unhide Ho2)).trans (unhide Ho3)).trans (unhide Ho4)).trans (((Off.refl _ _).alloc _).trans (unhide Ho5)) |>.below (Nat.le_refl _) (Nat.le_refl _)⟩

end Go.Proofs.Ytfapfpinlkdcmaa.Draw
