/- Contracts of HallOk, of the count of benches and of BenchesIn, the program's and the model's, at whatever hall can be read. No other condition but that what is counted can be added up. -/
import Derived.Test.YtmdgokjeobnnaaaDoorHallOk
namespace Go.Proofs.YtmdgokjeobnnaaaDoor
open Go.ChangeShapes Go.WideShapes Go.ChangeAt Go.RowKit Go.Sort
set_option linter.unusedVariables false

/-- What adds up without overflow. -/
def Adds (rs : List RoomV) : Prop := ∀ k, k ≤ rs.length → 0 ≤ benchSum (rs.take k) ∧ benchSum (rs.take k) ≤ 1000000
theorem adds_of {rs : List RoomV} (h : rs.all roomB = true) (hl : rs.length ≤ 3) : Adds rs := fun k hk => by have := benchSum_bd h k hk; omega
theorem Adds.taken {rs : List RoomV} (h : Adds rs) (n : Nat) : Adds (rs.take n) := fun k hk => by
  have hk' : k ≤ n ∧ k ≤ rs.length := by simp at hk; omega
  rw [List.take_take, Nat.min_eq_left hk'.1]; exact h k hk'.2

theorem hallB_1 {rs : List RoomV} (h : inB rs.length 1 3 = false) : hallB rs = false := by unfold hallB; simp [h]
theorem hallB_2 {rs : List RoomV} (h : rs.all roomB = false) : hallB rs = false := by unfold hallB; rw [h]; simp
theorem hallB_3 {rs : List RoomV} (h : inB rs.length 1 3 = true) (h2 : rs.all roomB = true) : hallB rs = decide (benchSum rs ≤ 8) := by unfold hallB; rw [h, h2]; simp

theorem IsRooms.alloc {w : World} {v : Value} {rs : List RoomV} (h : IsRooms w v rs) (o : Obj) : IsRooms (w.alloc o) v rs := h.below ((Below.refl _ _).alloc (Nat.le_refl _) _)

end Go.Proofs.YtmdgokjeobnnaaaDoor
