/- ReadAct answers as its model. Condition: the library's variables hold what the calls ask. -/
import Derived.Test.YtmdgokjeobnnaaaDoorActRead2
import Derived.Test.YtmdgokjeobnnaaaDoorActSpecR
import Derived.Test.YtmdgokjeobnnaaaDoorActRec
namespace Go.Proofs.YtmdgokjeobnnaaaDoor
open Go.ChangeShapes Go.WideShapes Go.ChangeAt Go.RowKit Go.Sort
open Go.Lib (decDigits itoa join joinTail)
set_option linter.unusedVariables false
set_option linter.unusedSimpArgs false
set_option maxRecDepth 100000

set_option maxHeartbeats 8000000 in
theorem walkFnExactReadAct (s : ByteArray) (w : World) (ws : s.size ≤ maxLen) (he : Env w) :
    Calls Tryd.prog 4 #[.string s] w fun e w' => e = .returned (.bool true) ∧ Below w.heap.size w w' := by
  have He := hide he
  clear he
  unfold maxLen at ws
  by_cases hbig : 1048576 < s.size
  · have hb' : (1048576 : Int) < (s.size : Int) := by omega
    go_enter Tryd.func4, Tryd.ntmps4
    go_wp2_with fail
    go_ret
    exact ⟨rfl, Below.refl _ _⟩
  obtain ⟨l, rfl⟩ : ∃ l, s = bs l := ⟨s.data.toList, (bs_back s).symm⟩
  have hl : l.length ≤ 1048576 := by rw [bs_size] at hbig; omega
  have hb' : ¬ (1048576 : Int) < ((bs l).size : Int) := by omega
  have HS := hide (specReadAct_any l w hl)
  have HI := hide (fun w h => implReadAct_any l w h hl)
  obtain ⟨b0, b1, b2, b3, bb, hres⟩ := res_is (readAct l)
  rw [hres] at HS HI
  clear hres
  go_enter Tryd.func4, Tryd.ntmps4
  go_wp2_with fail
  refine (unhide HS).mono ?_
  rintro e w1 ⟨rfl, hb⟩
  have BB := hide hb
  clear hb HS
  go_upto_region 4 with fail
  have hba : Below w1.heap.size w1 (w1.alloc (.cells #[.int .i64 b0, .int .i64 b1, .int .i64 b2, .int .i64 b3] 25)) := (Below.refl _ _).alloc (Nat.le_refl _) _
  have k1 : Hid (Blk (w1.alloc (.cells #[.int .i64 b0, .int .i64 b1, .int .i64 b2, .int .i64 b3] 25)) w1.heap.size 25 #[.int .i64 b0, .int .i64 b1, .int .i64 b2, .int .i64 b3]) := hide (Blk.new w1 _ _)
  replace BB := hide ((unhide BB).trans (hba.mono (unhide BB).size))
  clear hba
  generalize w1.alloc (.cells #[.int .i64 b0, .int .i64 b1, .int .i64 b2, .int .i64 b3] 25) = W2 at *
  generalize w1.heap.size = ab at *
  go_wp2_with fail
  refine (unhide HI W2 ((unhide He).below (unhide BB))).mono ?_
  rintro e w3 ⟨rfl, hb⟩
  replace k1 := bl k1 hb
  replace BB := hide ((unhide BB).trans (hb.mono (unhide BB).size))
  clear hb HI
  go_upto_region 5 with fail
  have hba : Below w3.heap.size w3 (w3.alloc (.cells #[.int .i64 b0, .int .i64 b1, .int .i64 b2, .int .i64 b3] 25)) := (Below.refl _ _).alloc (Nat.le_refl _) _
  have k2 : Hid (Blk (w3.alloc (.cells #[.int .i64 b0, .int .i64 b1, .int .i64 b2, .int .i64 b3] 25)) w3.heap.size 25 #[.int .i64 b0, .int .i64 b1, .int .i64 b2, .int .i64 b3]) := hide (Blk.new w3 _ _)
  replace BB := hide ((unhide BB).trans (hba.mono (unhide BB).size))
  replace k1 := bl k1 hba
  clear hba
  generalize w3.alloc (.cells #[.int .i64 b0, .int .i64 b1, .int .i64 b2, .int .i64 b3] 25) = W4 at *
  generalize w3.heap.size = ac at *
  obtain ⟨y0, y1, y2, y3⟩ : W4.cell? ⟨ab, 0, none⟩ = some (.int .i64 b0) ∧ W4.cell? ⟨ab, 1, none⟩ = some (.int .i64 b1) ∧ W4.cell? ⟨ab, 2, none⟩ = some (.int .i64 b2) ∧ W4.cell? ⟨ab, 3, none⟩ = some (.int .i64 b3) := ⟨(unhide k1).cell (i := 0) rfl, (unhide k1).cell (i := 1) rfl, (unhide k1).cell (i := 2) rfl, (unhide k1).cell (i := 3) rfl⟩
  obtain ⟨z0, z1, z2, z3⟩ : W4.cell? ⟨ac, 0, none⟩ = some (.int .i64 b0) ∧ W4.cell? ⟨ac, 1, none⟩ = some (.int .i64 b1) ∧ W4.cell? ⟨ac, 2, none⟩ = some (.int .i64 b2) ∧ W4.cell? ⟨ac, 3, none⟩ = some (.int .i64 b3) := ⟨(unhide k2).cell (i := 0) rfl, (unhide k2).cell (i := 1) rfl, (unhide k2).cell (i := 2) rfl, (unhide k2).cell (i := 3) rfl⟩
  clear k1 k2
  go_wp2_with fail
  refine (eqAct_yes b0 b1 b2 b3 W4).mono ?_
  rintro e w5 ⟨rfl, hb⟩
  replace BB := hide ((unhide BB).trans (hb.mono (unhide BB).size))
  clear hb y0 y1 y2 y3 z0 z1 z2 z3
  go_wp2_with fail
  go_ret
  exact ⟨rfl, unhide BB⟩

end Go.Proofs.YtmdgokjeobnnaaaDoor
