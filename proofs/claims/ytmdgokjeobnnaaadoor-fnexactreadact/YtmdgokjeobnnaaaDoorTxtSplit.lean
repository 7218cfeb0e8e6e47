/- Contract of the library's Split at one byte: it answers the pieces of the text, in memory of its own. Conditions: the text is no longer than 2^20; the library's variables hold what the calls ask. -/
import Derived.Test.YtmdgokjeobnnaaaDoorReadNum
namespace Go.Proofs.YtmdgokjeobnnaaaDoor
open Go.ChangeShapes Go.WideShapes Go.ChangeAt Go.RowKit Go.Sort
open Go.Lib (decDigits itoa join joinTail splitB countB)
set_option linter.unusedVariables false

theorem splitB_bs (l : Txt) (c : UInt8) : splitB (bs [c]) 0 (countB (bs l) (bs [c])) (bs l) = (splitL c l).map bs := by
  have h := Go.Lib.splitB_data (bs [c]) 0 (countB (bs l) (bs [c])) (bs l)
  rw [bs_data, bs_data, splitK_all c _ l (by show _ = Go.Lib.count _ _; rw [bs_data, bs_data])] at h
  rw [← h, List.map_map]
  conv => lhs; rw [← List.map_id (splitB _ _ _ _)]
  exact List.map_congr_left (fun x _ => (bs_back x).symm)
theorem splitB_len (l : Txt) (c : UInt8) : countB (bs l) (bs [c]) + 1 = (splitL c l).length := by
  rw [← Go.Lib.splitB_all (bs [c]) (by rw [bs_size]; simp) 0 _ (bs l) rfl, splitB_bs, List.length_map]

theorem split_any (l : Txt) (c : UInt8) (w : World) (he : Env w) (hl : l.length ≤ 1048576) :
    Calls Tryd.prog 20 #[.string (bs l), .string (bs [c])] w fun e w' => ∃ v, e = .returned v ∧ StrsAt w.heap.size w' v (splitL c l) ∧ Below w.heap.size w w' := by
  obtain ⟨m, hm⟩ := he.big
  refine (Tryd.strings_Split (bs l) (bs [c]) m w (by rw [bs_size]; omega) hm (by rw [bs_size]; simp)).mono ?_
  rintro e w1 ⟨rfl, rfl⟩
  refine ⟨_, rfl, ?_, (Below.refl _ _).alloc (Nat.le_refl _) _⟩
  rw [splitB_bs, splitB_len]
  have hlen := (splitFrom_len c l []).2
  have := World.ownsRow_lit (base := w.heap.size) (e := 9) (size := 1) w (((splitL c l).map bs).map Value.string).toArray (splitL c l).length (Nat.le_refl _) (by unfold splitL maxLen; omega) (by simp)
  unfold StrsAt
  rw [List.map_map] at this ⊢
  simpa [Function.comp_def] using this


end Go.Proofs.YtmdgokjeobnnaaaDoor
