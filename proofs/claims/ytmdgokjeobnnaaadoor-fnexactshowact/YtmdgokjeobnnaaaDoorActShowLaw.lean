/- ShowAct answers as its model. Conditions: the numbers are int64; the library's table of powers of ten lies as its text lays it. -/
import Derived.Test.YtmdgokjeobnnaaaDoorActShow
import Derived.Test.YtmdgokjeobnnaaaDoorActSpec
import Derived.Test.YtmdgokjeobnnaaaDoorActRec
namespace Go.Proofs.YtmdgokjeobnnaaaDoor
open Go.ChangeShapes Go.WideShapes Go.ChangeAt Go.RowKit Go.Sort
open Go.Lib (decDigits itoa join joinTail)
set_option linter.unusedVariables false
set_option linter.unusedSimpArgs false
set_option maxRecDepth 100000

theorem str_same (l : Txt) : ((bs l).toList == (bs l).toList) = true := by simp
set_option maxHeartbeats 8000000 in
theorem walkFnExactShowAct (x : ActV) (W : World) (hx : (-9223372036854775808 ≤ x.1 ∧ x.1 ≤ 9223372036854775807) ∧ (-9223372036854775808 ≤ x.2.1 ∧ x.2.1 ≤ 9223372036854775807) ∧ (-9223372036854775808 ≤ x.2.2.1 ∧ x.2.2.1 ≤ 9223372036854775807) ∧ (-9223372036854775808 ≤ x.2.2.2 ∧ x.2.2.2 ≤ 9223372036854775807)) (ht : Tab W) : Calls Tryd.prog 3 #[.agg (encAct x).toArray] W fun e w' => e = .returned (.bool true) ∧ Below W.heap.size W w' := by
  obtain ⟨a0, a1, a2, a3⟩ := x
  have Ha : Hid (fitA (a0, a1, a2, a3)) := hide (fun i hi => by
    rcases (show i = 0 ∨ i = 1 ∨ i = 2 by omega) with rfl | rfl | rfl
    · exact hx.2.1
    · exact hx.2.2.1
    · exact hx.2.2.2)
  have W1 : Hid (Below W.heap.size W (W.alloc (.cells #[.int .i64 a0, .int .i64 a1, .int .i64 a2, .int .i64 a3] 23))) := hide ((Below.refl _ _).alloc (Nat.le_refl _) _)
  have k1 : Hid (Blk (W.alloc (.cells #[.int .i64 a0, .int .i64 a1, .int .i64 a2, .int .i64 a3] 23)) W.heap.size 23 #[.int .i64 a0, .int .i64 a1, .int .i64 a2, .int .i64 a3]) := hide (Blk.new W _ _)
  have Ht := hide ht
  obtain ⟨Z, hZ⟩ : ∃ z, showAct (a0, a1, a2, a3) = z := ⟨_, rfl⟩
  have HS := hide (fun w => specShowAct_any (w := w) (a0, a1, a2, a3) (unhide Ha))
  have HI := hide (fun w h => implShowAct_any (w := w) (a0, a1, a2, a3) (unhide Ha) h)
  rw [hZ] at HS HI
  have hstr := str_same Z
  show Calls Tryd.prog 3 #[.agg #[.int .i64 a0, .int .i64 a1, .int .i64 a2, .int .i64 a3]] W _
  clear hx ht hZ Ha
  go_enter Tryd.func3, Tryd.ntmps3
  go_upto_region 1 with fail
  generalize W.alloc (.cells #[.int .i64 a0, .int .i64 a1, .int .i64 a2, .int .i64 a3] 23) = W2 at *
  obtain ⟨y0, y1, y2, y3⟩ : W2.cell? ⟨W.heap.size, 0, none⟩ = some (.int .i64 a0) ∧ W2.cell? ⟨W.heap.size, 1, none⟩ = some (.int .i64 a1) ∧ W2.cell? ⟨W.heap.size, 2, none⟩ = some (.int .i64 a2) ∧ W2.cell? ⟨W.heap.size, 3, none⟩ = some (.int .i64 a3) := ⟨(unhide k1).cell (i := 0) rfl, (unhide k1).cell (i := 1) rfl, (unhide k1).cell (i := 2) rfl, (unhide k1).cell (i := 3) rfl⟩
  go_wp2_with fail
  refine (toAct_any a0 a1 a2 a3 W2).mono ?_
  rintro e w1 ⟨rfl, hb⟩
  replace k1 := bl k1 hb
  replace W1 := hide ((unhide W1).trans (hb.mono (unhide W1).size))
  clear hb y0 y1 y2 y3
  go_wp2_with fail
  refine (unhide HS w1).mono ?_
  rintro e w2 ⟨rfl, hb⟩
  replace k1 := bl k1 hb
  replace W1 := hide ((unhide W1).trans (hb.mono (unhide W1).size))
  clear hb
  obtain ⟨y0, y1, y2, y3⟩ : w2.cell? ⟨W.heap.size, 0, none⟩ = some (.int .i64 a0) ∧ w2.cell? ⟨W.heap.size, 1, none⟩ = some (.int .i64 a1) ∧ w2.cell? ⟨W.heap.size, 2, none⟩ = some (.int .i64 a2) ∧ w2.cell? ⟨W.heap.size, 3, none⟩ = some (.int .i64 a3) := ⟨(unhide k1).cell (i := 0) rfl, (unhide k1).cell (i := 1) rfl, (unhide k1).cell (i := 2) rfl, (unhide k1).cell (i := 3) rfl⟩
  go_wp2_with fail
  refine (toAct_any a0 a1 a2 a3 w2).mono ?_
  rintro e w3 ⟨rfl, hb⟩
  replace k1 := bl k1 hb
  replace W1 := hide ((unhide W1).trans (hb.mono (unhide W1).size))
  clear hb y0 y1 y2 y3
  go_wp2_with fail
  refine (unhide HI w3 ((unhide Ht).below (unhide W1))).mono ?_
  rintro e w4 ⟨rfl, hb⟩
  replace W1 := hide ((unhide W1).trans (hb.mono (unhide W1).size))
  clear hb
  go_wp2_with fail
  go_ret
  exact ⟨rfl, unhide W1⟩

end Go.Proofs.YtmdgokjeobnnaaaDoor
