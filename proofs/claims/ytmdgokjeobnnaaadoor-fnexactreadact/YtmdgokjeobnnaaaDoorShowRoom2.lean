/- Contract of the program's showRoom: it returns the text that the lists say and writes into no memory that was there. Conditions: the library's table of powers of ten lies as its text lays it; the room is right. -/
import Derived.Test.YtmdgokjeobnnaaaDoorShowRoom
import Derived.Deep.RegionWith
import Derived.Deep.DeepMust
namespace Go.Proofs.YtmdgokjeobnnaaaDoor
open Go.ChangeShapes Go.WideShapes Go.ChangeAt Go.RowKit Go.Sort
open Go.Lib (decDigits itoa join joinTail IsBuilder BuilderAt byteCells strCells)
set_option linter.unusedVariables false
attribute [local go_sem ↓] Go.wp_at_zero Go.wp_at_succ

/-- The text of a room's benches and its first k paces. -/
def preR (rb : Int) (ps : List PaceV) (k : Nat) : Txt := join (itoa rb :: (ps.take k).map showPace) [32]
theorem preR_0 (rb : Int) (ps : List PaceV) : preR rb ps 0 = itoa rb := by simp [preR, Go.Lib.join_one]
theorem preR_s (rb : Int) {ps : List PaceV} {k : Nat} (h : k < ps.length) : preR rb ps (k + 1) = preR rb ps k ++ ([32] ++ showPace (paceAt ps k)) := by
  unfold preR
  have e : (ps.take (k + 1)).map showPace = (ps.take k).map showPace ++ [showPace (paceAt ps k)] := by
    rw [List.take_succ_eq_append_getElem h, List.map_append]; simp [paceAt, List.getD, h]
  rw [e, join_snoc]
theorem preR_all (rb : Int) (ps : List PaceV) : preR rb ps ps.length = showRoom (rb, ps) := by unfold preR showRoom; rw [List.take_length]
theorem itoa_len (n : Int) (h0 : -9223372036854775808 ≤ n) (h1 : n ≤ 9223372036854775807) : (itoa n).length ≤ 21 := Go.Lib.itoa_length_le n h0 h1
theorem showPace_len {p : PaceV} (h : paceB p = true) : (showPace p).length ≤ 43 := by
  unfold paceB at h; simp only [Bool.and_eq_true] at h
  have a := inB_of h.1; have b := inB_of h.2
  have l1 := itoa_len p.1 (by omega) (by omega); have l2 := itoa_len p.2 (by omega) (by omega)
  unfold showPace; simp only [List.length_append, List.length_cons]; omega
theorem preR_len {rb : Int} {ps : List PaceV} (h : roomB (rb, ps) = true) : ∀ k, k ≤ ps.length → (preR rb ps k).length ≤ 21 + k * 44
  | 0, _ => by rw [preR_0]; have := room_bd h; simp only at this; have := itoa_len rb (by omega) (by omega); omega
  | k + 1, hk => by
    have ih := preR_len h k (by omega)
    have hp := showPace_len (p := paceAt ps k) (by unfold roomB at h; simp only [Bool.and_eq_true] at h; exact paceB_all h.2.2 _ (by unfold paceAt; simp [List.getD, show k < ps.length by omega]))
    rw [preR_s rb (by omega)]
    simp only [List.length_append, List.length_cons, List.length_nil]; omega
theorem room_pace' {rb : Int} {ps : List PaceV} (h : roomB (rb, ps) = true) {k : Nat} (hk : k < ps.length) : 1 ≤ (paceAt ps k).1 ∧ (paceAt ps k).1 ≤ 1024 ∧ 1 ≤ (paceAt ps k).2 ∧ (paceAt ps k).2 ≤ 1024 := by
  unfold roomB at h; simp only [Bool.and_eq_true] at h
  have h1 := pacesB_of h.2.2 hk
  unfold stepB paceB at h1; simp only [Bool.and_eq_true] at h1
  have a := inB_of h1.1.1; have b := inB_of h1.1.2
  omega
theorem word_eq (f c : Int) : (((⟨#[32]⟩ : ByteArray) ++ bs (itoa f)) ++ ⟨#[58]⟩) ++ bs (itoa c) = bs ([32] ++ showPace (f, c)) := by
  refine bs_of ?_
  simp only [cat_data, bs_data, showPace]
  simp
theorem size_new {w w' : World} {o : Obj} (h : Below (w.alloc o).heap.size (w.alloc o) w') : w.heap.size + 1 ≤ w'.heap.size := by have := h.size; simpa using this
theorem size_app (a b : ByteArray) : (a ++ b).size = a.size + b.size := by simp

end Go.Proofs.YtmdgokjeobnnaaaDoor
