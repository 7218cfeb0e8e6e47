/- Contracts of the draws of a work and of a number below another: what is returned lies between, the cursor goes on, and nothing else is written. Condition: the cursor is one. -/
import Derived.Test.YtbekkdneldcehaaDrawKit
namespace Go.Proofs.Ytbekkdneldcehaa
open Go.ChangeShapes Go.WideShapes Go.ChangeAt Go.RowKit Go.Sort
open Draw (St Off Row Cur)
set_option linter.unusedVariables false

set_option maxHeartbeats 1000000 in
theorem l5DrawWork_any (a : Option Addr) (len cap bc : Nat) (w : World) (hs : St a len cap bc w) :
    Calls Try.prog 32 #[.pointer (some ⟨bc, 0, none⟩)] w fun e w' => ∃ x : Int, e = .returned (.int .i64 x) ∧ -1 ≤ x ∧ x ≤ 1000001 ∧ St a len cap bc w' ∧ Off bc w w' := by
  have Hs := hide hs
  clear hs
  go_enter Try.func32, Try.ntmps32
  go_wp2_with fail
  refine (Draw.once_any a len cap bc 8 (by omega) (by omega) _ (unhide Hs)).mono ?_
  rintro e w1 ⟨b, rfl, s1, o1⟩
  have hlt := st_lt s1
  have Hs1 := hide s1
  have Ho1 := hide o1
  clear s1 o1
  cases b
  · go_wp2_with fail
    refine (Draw.below_any a len cap bc 1400 (by omega) (by omega) _ (unhide Hs1)).mono ?_
    rintro e w2 ⟨x, rfl, x0, x1, s2, o2⟩
    have Hs2 := hide s2
    have Ho2 := hide o2
    clear s2 o2
    go_wp2_with fail
    go_ret
    exact ⟨_, rfl, by omega, by omega, unhide Hs2, (unhide Ho1).trans (unhide Ho2)⟩
  · go_wp2_with fail
    refine (Draw.below_any a len cap bc 3 (by omega) (by omega) _ ((unhide Hs1).alloc _)).mono ?_
    rintro e w2 ⟨x, rfl, x0, x1, s2, o2⟩
    have c0 : w2.cell? ⟨w1.heap.size, 0, none⟩ = some (.int .i64 (-1)) := (o2.cell (p := ⟨w1.heap.size, 0, none⟩) (by simp) (show w1.heap.size ≠ bc by omega)).trans (by simp)
    have c1 : w2.cell? ⟨w1.heap.size, 1, none⟩ = some (.int .i64 1000000) := (o2.cell (p := ⟨w1.heap.size, 1, none⟩) (by simp) (show w1.heap.size ≠ bc by omega)).trans (by simp)
    have c2 : w2.cell? ⟨w1.heap.size, 2, none⟩ = some (.int .i64 1000001) := (o2.cell (p := ⟨w1.heap.size, 2, none⟩) (by simp) (show w1.heap.size ≠ bc by omega)).trans (by simp)
    have Hs2 := hide s2
    have Ho2 : Hid (Off bc w1 w2) := hide (((Off.refl bc w1).alloc _).trans o2)
    clear s2 o2
    rcases (show x = 0 ∨ x = 1 ∨ x = 2 by omega) with rfl | rfl | rfl
    all_goals
      go_wp2_with fail
      go_ret
      exact ⟨_, rfl, by omega, by omega, unhide Hs2, (unhide Ho1).trans (unhide Ho2)⟩

set_option maxHeartbeats 1000000 in
theorem below_all (a : Option Addr) (len cap bc : Nat) (n : Int) (hn : 0 < n) (hm : n ≤ 9223372036854775807) (w : World) (hs : St a len cap bc w) :
    Calls Try.prog 34 #[.pointer (some ⟨bc, 0, none⟩), .int .i64 n] w fun e w' => ∃ x : Int, e = .returned (.int .i64 x) ∧ 0 ≤ x ∧ x < n ∧ St a len cap bc w' ∧ Off bc w w' := by
  by_cases hs4 : n ≤ 4611686018427387904
  · exact Draw.below_any a len cap bc n hn hs4 w hs
  have h256 : ¬ n ≤ 256 := by omega
  have Hs := hide hs
  clear hs
  go_enter Try.func34, Try.ntmps34
  go_wp2_with fail
  refine (Draw.byte_any a len cap bc _ (unhide Hs)).mono ?_
  rintro e w1 ⟨x, rfl, x0, x1, s1, o1⟩
  have Hs1 := hide s1
  have Ho1 := hide o1
  clear s1 o1
  go_wp2_with fail
  refine (Draw.byte_any a len cap bc _ (unhide Hs1)).mono ?_
  rintro e w2 ⟨y, rfl, y0, y1, s2, o2⟩
  have Hs2 := hide s2
  have Ho2 := hide o2
  clear s2 o2
  go_wp2_with fail
  refine (Draw.byte_any a len cap bc _ (unhide Hs2)).mono ?_
  rintro e w3 ⟨z, rfl, z0, z1, s3, o3⟩
  have Hs3 := hide s3
  have Ho3 := hide o3
  clear s3 o3
  go_wp2_with fail
  refine (Draw.byte_any a len cap bc _ (unhide Hs3)).mono ?_
  rintro e w4 ⟨v, rfl, v0, v1, s4, o4⟩
  have Hs4 := hide s4
  have Ho4 := hide o4
  clear s4 o4
  go_wp2_with fail
  go_ret
  exact ⟨_, rfl, Int.emod_nonneg _ (by omega), Int.emod_lt_of_pos _ hn, unhide Hs4, (((unhide Ho1).trans (unhide Ho2)).trans (unhide Ho3)).trans (unhide Ho4)⟩

end Go.Proofs.Ytbekkdneldcehaa
