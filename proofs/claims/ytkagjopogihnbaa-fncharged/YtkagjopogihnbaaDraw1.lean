/- Contracts of the draws of chapter 1's arguments: each returns int64s and writes into no memory that was there. Condition: the bytes can be read and are at most 4096. -/
import Derived.Test.YtkagjopogihnbaaDraw
namespace Go.Proofs.Ytkagjopogihnbaa.Draw
open Go.ChangeShapes Go.WideShapes Go.ChangeAt Go.RowKit
set_option linter.unusedVariables false

theorem six (p q r s t u : Value) (k : IntKind) (j : Nat) (hj : j < 6) (hp : ∃ v : Int, p = .int k v) (hq : ∃ v : Int, q = .int k v) (hr : ∃ v : Int, r = .int k v) (hs : ∃ v : Int, s = .int k v) (ht : ∃ v : Int, t = .int k v) (hu : ∃ v : Int, u = .int k v) :
    ∃ v : Int, (#[p, q, r, s, t, u] : Array Value)[j]? = some (.int k v) := by
  obtain ⟨_, rfl⟩ := hp; obtain ⟨_, rfl⟩ := hq; obtain ⟨_, rfl⟩ := hr; obtain ⟨_, rfl⟩ := hs; obtain ⟨_, rfl⟩ := ht; obtain ⟨_, rfl⟩ := hu
  match j, hj with
  | 0, _ => exact ⟨_, rfl⟩
  | 1, _ => exact ⟨_, rfl⟩
  | 2, _ => exact ⟨_, rfl⟩
  | 3, _ => exact ⟨_, rfl⟩
  | 4, _ => exact ⟨_, rfl⟩
  | 5, _ => exact ⟨_, rfl⟩
theorem three (p q r : Value) (k : IntKind) (j : Nat) (hj : j < 3) (hp : ∃ v : Int, p = .int k v) (hq : ∃ v : Int, q = .int k v) (hr : ∃ v : Int, r = .int k v) :
    ∃ v : Int, (#[p, q, r] : Array Value)[j]? = some (.int k v) := by
  obtain ⟨_, rfl⟩ := hp; obtain ⟨_, rfl⟩ := hq; obtain ⟨_, rfl⟩ := hr
  match j, hj with
  | 0, _ => exact ⟨_, rfl⟩
  | 1, _ => exact ⟨_, rfl⟩
  | 2, _ => exact ⟨_, rfl⟩


set_option maxHeartbeats 400000 in
theorem drawForce_any (a : Option Addr) (len cap bc : Nat) (w : World) (hs : St a len cap bc w) :
    Calls Try.prog 38 #[.pointer (some ⟨bc, 0, none⟩)] w fun e w' => ∃ x : Int, e = .returned (.int .i64 x) ∧ St a len cap bc w' ∧ Off bc w w' := by
  have Hs := hide hs
  clear hs
  go_enter Try.func38, Try.ntmps38
  go_wp2_with fail
  refine (once_any a len cap bc 8 (by omega) (by omega) _ (unhide Hs)).mono ?_
  rintro e w1 ⟨b, rfl, s1, o1⟩
  have Hs1 := hide s1
  have Ho1 := hide o1
  have hb := s1.cur.1
  clear s1 o1
  cases b
  · go_wp2_with fail
    refine (below_any a len cap bc 1025 (by omega) (by omega) _ (unhide Hs1)).mono ?_
    rintro e w2 ⟨x, rfl, x0, x1, s2, o2⟩
    have Hs2 := hide s2
    have Ho2 := hide o2
    clear s2 o2
    go_wp2_with fail
    go_ret
    exact ⟨_, rfl, unhide Hs2, (unhide Ho1).trans (unhide Ho2)⟩
  · go_wp2_with fail
    refine (below_any a len cap bc 3 (by omega) (by omega) _ ((unhide Hs1).alloc _)).mono ?_
    rintro e w2 ⟨x, rfl, x0, x1, s2, o2⟩
    have hsz : w1.heap.size < w2.heap.size := by have := o2.size; simp at this; omega
    obtain ⟨v, hv⟩ := three (.int .i64 (-1)) (.int .i64 1024) (.int .i64 1025) .i64 x.toNat (by omega) ⟨_, rfl⟩ ⟨_, rfl⟩ ⟨_, rfl⟩
    have hcell : w2.cell? ⟨w1.heap.size, x.toNat, none⟩ = some (.int .i64 v) := by
      rw [o2.cell (p := ⟨w1.heap.size, x.toNat, none⟩) (by simp) (by simp; omega), World.cell?_alloc_at _ _ _ _ rfl]; exact hv
    clear hv
    have Hs2 := hide s2
    have Ho2 := hide o2
    clear s2 o2
    go_wp2_with fail
    go_ret
    exact ⟨_, rfl, unhide Hs2, (unhide Ho1).trans (((Off.refl _ _).alloc _).trans (unhide Ho2))⟩





end Go.Proofs.Ytkagjopogihnbaa.Draw
