/- Contracts of the draws of chapter 2's arguments: each returns int64s and writes into no memory that was there. Condition: the bytes can be read and are at most 4096. -/
import Derived.Test.YtijacdjhpdoflaaDraw
namespace Go.Proofs.Ytijacdjhpdoflaa.Draw
open Go.ChangeShapes Go.WideShapes Go.ChangeAt Go.RowKit
set_option linter.unusedVariables false

def isI64 : Value → Bool
  | .int .i64 _ => true
  | _ => false
theorem pick_any (cs : Array Value) (j : Nat) (hj : j < cs.size) (h : cs.toList.all isI64 = true) : ∃ v : Int, cs[j]? = some (.int .i64 v) := by
  rw [Array.all_toList, Array.all_eq_true] at h
  have := h j hj
  rw [Array.getElem?_eq_getElem hj]
  generalize cs[j] = c at *
  unfold isI64 at this
  split at this
  · exact ⟨_, rfl⟩
  · cases this

set_option maxHeartbeats 400000 in
theorem l2Draw_any (a : Option Addr) (len cap bc : Nat) (w : World) (hs : St a len cap bc w) :
    Calls Try.prog 25 #[.pointer (some ⟨bc, 0, none⟩)] w fun e w' => ∃ x : Int, e = .returned (.int .i64 x) ∧ St a len cap bc w' ∧ Off bc w w' := by
  have Hs := hide hs
  clear hs
  go_enter Try.func25, Try.ntmps25
  go_wp2_with fail
  refine (once_any a len cap bc 8 (by omega) (by omega) _ (unhide Hs)).mono ?_
  rintro e w1 ⟨b, rfl, s1, o1⟩
  have Hs1 := hide s1
  have Ho1 := hide o1
  have hb := s1.cur.1
  clear s1 o1
  cases b
  · go_wp2_with fail
    refine (below_any a len cap bc 256 (by omega) (by omega) _ (unhide Hs1)).mono ?_
    rintro e w2 ⟨x, rfl, x0, x1, s2, o2⟩
    have Hs2 := hide s2
    have Ho2 := hide o2
    clear s2 o2
    go_wp2_with fail
    go_ret
    exact ⟨_, rfl, unhide Hs2, (unhide Ho1).trans (unhide Ho2)⟩
  · go_wp2_with fail
    refine (below_any a len cap bc 5 (by omega) (by omega) _ ((unhide Hs1).alloc _)).mono ?_
    rintro e w2 ⟨x, rfl, x0, x1, s2, o2⟩
    have hsz : w1.heap.size < w2.heap.size := by have := o2.size; simp at this; omega
    obtain ⟨v, hv⟩ := pick_any #[.int .i64 (-1), .int .i64 255, .int .i64 256, .int .i64 0, .int .i64 1099511627776] x.toNat (by simp; omega) rfl
    have hcell : w2.cell? ⟨w1.heap.size, x.toNat, none⟩ = some (.int .i64 v) := by
      rw [o2.cell (p := ⟨w1.heap.size, x.toNat, none⟩) (by simp) (by simp; omega), World.cell?_alloc_at _ _ _ _ rfl]; exact hv
    clear hv
    have Hs2 := hide s2
    have Ho2 := hide o2
    clear s2 o2
    go_wp2_with fail
    go_ret
    exact ⟨_, rfl, unhide Hs2, (((unhide Ho1)).alloc _).trans (unhide Ho2)⟩

set_option maxHeartbeats 400000 in
theorem drawInSet_any (a : Option Addr) (len cap : Nat) (w : World) (hr : Row w.heap.size w a len) :
    Calls Try.prog 9 #[.slice a len cap] w fun e w' => ∃ x y : Int, e = .returned (.tuple #[.int .i64 x, .int .i64 y]) ∧ -1 ≤ y ∧ y ≤ 8 ∧ Below w.heap.size w w' := by
  have Hr := hide hr
  clear hr
  go_enter Try.func9, Try.ntmps9
  go_wp2_with fail
  refine (new_any a len cap _ (unhide Hr)).mono ?_
  rintro e w1 ⟨rfl, s1, o1⟩
  have Hs1 := hide s1
  have Ho1 := hide o1
  clear s1 o1
  go_wp2_with fail
  refine (l2Draw_any a len cap _ _ (unhide Hs1)).mono ?_
  rintro e w2 ⟨x, rfl, s2, o2⟩
  have Hs2 := hide s2
  have Ho2 := hide o2
  clear s2 o2
  go_wp2_with fail
  refine (from_any a len cap _ (-1) 8 (by omega) (by omega) (by omega) _ (unhide Hs2)).mono ?_
  rintro e w3 ⟨y, rfl, y0, y1, s3, o3⟩
  have Ho3 := hide o3
  clear s3 o3
  go_wp2_with fail
  go_ret2
  exact ⟨_, _, rfl, y0, y1, (((unhide Ho1).trans (unhide Ho2)).trans (unhide Ho3)).below (Nat.le_refl _) (Nat.le_refl _)⟩

end Go.Proofs.Ytijacdjhpdoflaa.Draw
