/- The members of a set, as a list; the model's Members and FirstOf. No condition. -/
import Derived.Test.YtkagjopogihnbaaSets
import Derived.Test.YtkagjopogihnbaaInts
import Derived.Maps.AppendAt
namespace Go.Proofs.Ytkagjopogihnbaa
open Go.ChangeShapes Go.WideShapes Go.ChangeAt Go.RowKit
set_option linter.unusedVariables false

/-- The benches below k that are in the set s, in their order. -/
def upto (s : Int) : Nat → List Int
  | 0 => []
  | k + 1 => if memB s k = true then upto s k ++ [(k : Int)] else upto s k
def mems (s : Int) : List Int := upto s 8
def firstV (s : Int) : Int := (mems s).headD (-1)
theorem upto_hit {s : Int} {k : Nat} (h : memB s k = true) : upto s (k + 1) = upto s k ++ [(k : Int)] := by simp [upto, h]
theorem upto_miss {s : Int} {k : Nat} (h : memB s k = false) : upto s (k + 1) = upto s k := by simp [upto, h]
theorem upto_len (s : Int) : ∀ k, (upto s k).length ≤ k
  | 0 => by simp [upto]
  | k + 1 => by
    have := upto_len s k
    cases h : memB s k
    · rw [upto_miss h]; omega
    · rw [upto_hit h]; simp; omega
theorem upto_none {s : Int} (h : inB s 0 255 = false) : ∀ k, upto s k = []
  | 0 => rfl
  | k + 1 => by rw [upto_miss (memB_f (.inl h))]; exact upto_none h k
theorem upto_pre (s : Int) : ∀ k, k ≤ 8 → upto s k <+: mems s := by
  have step : ∀ k, upto s k <+: upto s (k + 1) := fun k => by
    cases h : memB s k
    · rw [upto_miss h]; exact List.prefix_refl _
    · rw [upto_hit h]; exact List.prefix_append _ _
  have go : ∀ d k, upto s k <+: upto s (k + d) := by
    intro d
    induction d with
    | zero => intro k; exact List.prefix_refl _
    | succ d ih => intro k; exact (ih k).trans (step (k + d))
  intro k hk
  have := go (8 - k) k
  rwa [show k + (8 - k) = 8 by omega] at this
theorem info64 : (Try.prog.info? 2).map (fun i => (i.zero, i.size, i.bytes)) = some (some (.int .i64 0), 1, 8) := by kernel_rfl
theorem mems_len (s : Int) : (mems s).length ≤ 8 := upto_len s 8

theorem rel_hit {w wr w1 : World} {v v' : Value} {s : Int} {k : Nat} {o : Obj} (hm : memB s k = true) (hown : IntsAt w.heap.size wr v (upto s k)) (hb : Below w.heap.size w wr)
    (hown' : w1.ownsRow w.heap.size 2 1 v' ((upto s k).length + 1) ((upto s k).map (Value.int .i64) ++ [.int .i64 k])) (hg : (wr.alloc o).grownBy w1 v.ownBlock) :
    IntsAt w.heap.size w1 v' (upto s (k + 1)) ∧ Below w.heap.size w w1 := by
  refine ⟨?_, ?_⟩
  · unfold IntsAt; rw [upto_hit hm]; simpa using hown'
  · exact (hb.alloc hb.size o).grown hg (by have := hb.size; simp; omega) (fun j ej => (hown.block_lt ej).1)



end Go.Proofs.Ytkagjopogihnbaa
