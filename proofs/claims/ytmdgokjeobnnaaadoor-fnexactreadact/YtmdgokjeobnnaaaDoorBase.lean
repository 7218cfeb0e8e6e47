/- Contracts of the small functions of chapter 1 and of their models: what each call returns. No condition but those that a theorem names. -/
import Derived.Test.YtmdgokjeobnnaaaDoorChecked
import GoSem.Claim
import GoSem.ClaimJoined
import GoSem.ClaimMapViews
import Derived.JoinedTies
import Derived.KernelRfl
import Derived.RowKit
import Derived.WalkKit
import Derived.ProofKit
import Derived.OpenShut
import Derived.Outline
import Derived.Lib.QuietBelow
namespace Go.Proofs.YtmdgokjeobnnaaaDoor
open Go.ChangeShapes Go.WideShapes Go.ChangeAt Go.RowKit
set_option linter.unusedVariables false

theorem ba (w : World) (o : Obj) : Below w.heap.size w (w.alloc o) := (Below.refl _ _).alloc (Nat.le_refl _) _
theorem ms {G : Prop} (h : G := by (simp [intOf]; omega)) : G := h
theorem wq {P : Program} {id : Nat} {Q : Exit → Act → World → Prop} {a : Act} {w : World} {l : List Oper} (h : wpQuiet P l.toArray (fun w' => ∃ p : Regrown, w' = Go.Sort.grow (redrawn w p.d) p.os) (fun a' => ∀ w', (∃ p : Regrown, w' = Go.Sort.grow (redrawn w p.d) p.os) → Q .normal a' w') l a) (hm : P.follows .mixedOrders = true := by kernel_rfl) (hB : Region.lexB .any l.toArray = true := by kernel_rfl) : (Code.region id l.toArray true).wp P Q a w := wp_region_quiet_below hm hB h
theorem wqn {P : Program} {ops : Array Oper} {C : World → Prop} {Q : Exit → Act → World → Prop} {a : Act} {w : World} (h : ∀ w', Below w.heap.size w w' → Q .normal a w') : wpQuiet P ops C (fun a' => ∀ w', (∃ p : Regrown, w' = Go.Sort.grow (redrawn w p.d) p.os) → Q .normal a' w') [] a := wpQuiet_nil (fun w' hp => by obtain ⟨p, rfl⟩ := hp; exact h _ (below_regrown w p.d p.os))
theorem ck {P : Program} {f : FuncId} {args : Array Value} {w : World} {v : Value} {R : World → Prop} {Q : Ending → World → Prop} (h : Calls P f args w fun e w' => e = .returned v ∧ R w') (hk : ∀ w', R w' → Q (.returned v) w') : Calls P f args w Q := h.mono (by rintro e w' ⟨rfl, hr⟩; exact hk w' hr)
theorem ret_int {k : IntKind} {a b : Int} (h : a = b) : Ending.returned (.int k a) = .returned (.int k b) := by rw [h]
theorem ret_bool {a b : Bool} (h : a = b) : Ending.returned (.bool a) = .returned (.bool b) := by rw [h]

def inB (x lo hi : Int) : Bool := decide (lo ≤ x ∧ x ≤ hi)
theorem inB_t {x lo hi : Int} (h1 : lo ≤ x) (h2 : x ≤ hi) : inB x lo hi = true := by unfold inB; exact decide_eq_true ⟨h1, h2⟩
theorem inB_f {x lo hi : Int} (h : x < lo ∨ hi < x) : inB x lo hi = false := by unfold inB; exact decide_eq_false (by omega)
theorem inB_of {x lo hi : Int} (h : inB x lo hi = true) : lo ≤ x ∧ x ≤ hi := by unfold inB at h; exact of_decide_eq_true h
theorem hide {p : Prop} (h : p) : Hid p := h
theorem unhide {p : Prop} (h : Hid p) : p := h





theorem l1In_any (x lo hi : Int) (w : World) : Calls Tryd.prog 11 #[.int .i64 x, .int .i64 lo, .int .i64 hi] w fun e w' => e = .returned (.bool (inB x lo hi)) ∧ w' = w := by
  by_cases h1 : lo ≤ x
  · by_cases h2 : x ≤ hi
    all_goals
      go_enter Tryd.func11, Tryd.ntmps11
      go_wp2
      go_ret
      exact ⟨ret_bool (by first | exact (inB_t h1 h2).symm | exact (inB_f (by omega)).symm), rfl⟩
  · go_enter Tryd.func11, Tryd.ntmps11
    go_wp2
    go_ret
    exact ⟨ret_bool (inB_f (by omega)).symm, rfl⟩






theorem all_snoc {p : Int → Bool} {zs : List Int} {k : Nat} {z : Int} (hlt : k < zs.length) (hz : zs.getD k 0 = z) (ha : (zs.take k).all p = true) (hp : p z = true) : (zs.take (k + 1)).all p = true := by
  rw [List.take_succ_eq_append_getElem hlt, List.all_append, ha]
  have : zs[k] = z := by rw [← hz]; simp [List.getD, hlt]
  simp [this, hp]
theorem all_snoc_f {p : Int → Bool} {zs : List Int} {k : Nat} {z : Int} (hlt : k < zs.length) (hz : zs.getD k 0 = z) (hp : p z = false) : zs.all p = false := by
  have : zs[k] = z := by rw [← hz]; simp [List.getD, hlt]
  rw [List.all_eq_false]
  exact ⟨zs[k], List.getElem_mem hlt, by rw [this, hp]; simp⟩





theorem sA {α : Type} (l : List α) (i : Nat) (a : α) : l.toArray.setIfInBounds i a = (l.set i a).toArray := by simp
theorem sZ {α : Type} (x : α) (l : List α) (a : α) : (x :: l).set 0 a = a :: l := rfl
theorem sS {α : Type} (x : α) (l : List α) (n : Nat) (a : α) : (x :: l).set (n + 1) a = x :: l.set n a := rfl
theorem alAn {α : Type} (x : α) : ∃ q, Hid (x = q) := ⟨_, rfl⟩
theorem alAx {α : Type} (x : α) : ∃ q, x = q := ⟨_, rfl⟩
abbrev cB (f : FuncId) (a : Array Value) (w : World) (v : Value) : Prop := Calls Tryd.prog f a w fun e w' => e = .returned v ∧ Below w.heap.size w w'
abbrev cE (f : FuncId) (a : Array Value) (w : World) (v : Value) : Prop := Calls Tryd.prog f a w fun e w' => e = .returned v ∧ w' = w
abbrev alCro := @Calls.regrown_of
abbrev alBrg := @below_regrown
abbrev alCrg := @cell_regrown
abbrev alNlr := @Nat.le_refl
abbrev alBrf := @Below.refl
abbrev alBpr := @bodyPost_ret
abbrev alNll := @Nat.lt_of_lt_of_le
abbrev alDef := @decide_eq_false
abbrev alDet := @decide_eq_true
abbrev alNzl := @Nat.zero_le
abbrev alCqs := @Calls.quiet_of_same
abbrev alLcn := @List.cons_ne_nil
abbrev alBsc := @Below.setCell
abbrev alNlt := @Nat.le_trans
abbrev alNol := @Nat.ne_of_lt
theorem alBae (a b : Bool) : ((a && b) = true) = (a = true ∧ b = true) := Bool.and_eq_true a b
theorem alDte {p : Prop} [Decidable p] : (decide p = true) = p := decide_eq_true_eq
theorem alInc (n : Nat) : ((n : Int)).toNat = n := rfl
theorem alWsa (w : World) (o : Obj) : (w.alloc o).heap.size = w.heap.size + 1 := World.size_alloc w o
theorem alLlc {α : Type} {a : α} {l : List α} : (a :: l).length = l.length + 1 := rfl
theorem alLds {α : Type} {a : α} : [a].dropLast = [] := rfl
theorem alLdc {α : Type} {x y : α} {l : List α} : (x :: y :: l).dropLast = x :: (y :: l).dropLast := rfl
theorem alLln {α : Type} : ([] : List α).length = 0 := rfl
theorem alLls {α : Type} {l : List α} {i : Nat} {a : α} : (l.set i a).length = l.length := List.length_set

end Go.Proofs.YtmdgokjeobnnaaaDoor
