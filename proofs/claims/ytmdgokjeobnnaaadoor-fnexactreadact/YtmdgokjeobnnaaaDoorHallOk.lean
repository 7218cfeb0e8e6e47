/- Contracts of RoomOk, HallOk and BenchesIn, the program's and the model's, at whatever room or hall can be read. No other condition. -/
import Derived.Test.YtmdgokjeobnnaaaDoorHallRead
namespace Go.Proofs.YtmdgokjeobnnaaaDoor
open Go.ChangeShapes Go.WideShapes Go.ChangeAt Go.RowKit Go.Sort
set_option linter.unusedVariables false

theorem roomB_1 {b : Int} {ps : List PaceV} (h : inB b 1 4 = false) : roomB (b, ps) = false := by unfold roomB; simp [h]
theorem roomB_2 {b : Int} {ps : List PaceV} (h : inB ps.length 1 4 = false) : roomB (b, ps) = false := by unfold roomB; simp [h]
theorem roomB_3 {b : Int} {ps : List PaceV} (h : inB b 1 4 = true) (h2 : inB ps.length 1 4 = true) : roomB (b, ps) = pacesB ps := by unfold roomB; simp [h, h2]


theorem below_drewN {B : Nat} {w w' : World} (h : Below B w w') (n : Nat) : Below B w (w'.drewN n) := ⟨h.os, h.tape, h.output, h.size, h.block⟩
theorem stepB_f1 {ps : List PaceV} {k : Nat} {f c : Int} (hp : paceAt ps k = (f, c)) (h : inB f 1 1024 = false) : stepB ps k = false := by unfold stepB paceB; rw [hp]; simp [h]
theorem stepB_f2 {ps : List PaceV} {k : Nat} {f c : Int} (hp : paceAt ps k = (f, c)) (h : inB c 1 1024 = false) : stepB ps k = false := by unfold stepB paceB; rw [hp]; simp [h]
theorem stepB_b {ps : List PaceV} {k : Nat} {f c f' c' : Int} (hp : paceAt ps k = (f, c)) (hz : 0 < k) (hq : paceAt ps (k - 1) = (f', c')) (h1 : inB f 1 1024 = true) (h2 : inB c 1 1024 = true) : stepB ps k = (decide (f' < f) && decide (c' < c)) := by
  unfold stepB paceB aboveB; rw [hp, hq]; simp [h1, h2]; omega
theorem stepB_t0 {ps : List PaceV} {f c : Int} (hp : paceAt ps 0 = (f, c)) (h1 : inB f 1 1024 = true) (h2 : inB c 1 1024 = true) : stepB ps 0 = true := by unfold stepB paceB; rw [hp]; simp [h1, h2]

end Go.Proofs.YtmdgokjeobnnaaaDoor
