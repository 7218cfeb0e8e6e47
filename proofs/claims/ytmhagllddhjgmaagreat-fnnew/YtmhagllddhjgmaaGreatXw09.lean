/- What the proof rests on, part 9: lists and numbers, how they lie in memory, and contracts of the calls. No condition but those that a theorem names. -/
import Derived.Test.YtmhagllddhjgmaaGreatXw01
import Derived.Test.YtmhagllddhjgmaaGreatXw02
import Derived.Test.YtmhagllddhjgmaaGreatXw03
import Derived.Test.YtmhagllddhjgmaaGreatXw04
import Derived.Test.YtmhagllddhjgmaaGreatXw05
import Derived.Test.YtmhagllddhjgmaaGreatXw06
import Derived.Test.YtmhagllddhjgmaaGreatXw07
import Derived.Test.YtmhagllddhjgmaaGreatXw08
import Derived.Deep.DeepCutAuto
import Derived.WalkMore
import Derived.Below
import Derived.WalkKit
import Derived.ProofKit
import Derived.OpenShut
import Derived.Outline
import Derived.Lib.QuietBelow
import Derived.Deep.RegionWith
import Derived.Deep.QuietTactic
import Derived.BigQuiet
import Derived.Deep.DrawnRows
import Derived.BigRegion
import Derived.Deep.RegionLawGrows
import Derived.Laws.OwnMore
import Derived.OwnWalk
import Derived.Maps.AppendAt
import Derived.Lib.SmallJoins
import Derived.Deep.Fields
import Derived.Deep.Slices
import Derived.OrdersHeld
import Derived.Deep.RegionHeldLaw
/- Which blocks are a smithy's own, and what stays where these stay. No condition but those that a theorem names. -/
namespace Go.Proofs.YtmhagllddhjgmaaGreat
open Go.ChangeShapes Go.WideShapes Go.ChangeAt Go.RowKit Go.Sort
set_option linter.unusedVariables false

/-- Block k is one of the smithy's own. -/
def OwnB (v0 v1 v2 v3 v4 : Value) (qs : List (RoomV × Value)) (k : Nat) : Prop := v0.ownBlock = some k ∨ (∃ q ∈ qs, q.2.ownBlock = some k) ∨ v1.ownBlock = some k ∨ v2.ownBlock = some k ∨ v3.ownBlock = some k ∨ v4.ownBlock = some k
section
variable {n₀ : Nat} {w w' : World} {v0 v1 v2 v3 v4 : Value} {m : SmyV} {qs : List (RoomV × Value)}
theorem FullSmy.own (h : FullSmy n₀ w v0 v1 v2 v3 v4 m qs) {k : Nat} (e : OwnB v0 v1 v2 v3 v4 qs k) : n₀ ≤ k ∧ k < w.heap.size := by
  rcases e with e | e | e | e | e | e
  · exact h.hall.lt (.inl e)
  · exact h.hall.lt (.inr e)
  · exact RecAt.lt h.guilds e
  · exact RecAt.lt h.smiths e
  · exact RecAt.lt h.desks e
  · exact RecAt.lt h.paces e
end

end Go.Proofs.YtmhagllddhjgmaaGreat

/- A new smithy on its way: what lies where. Conditions: those that each theorem names. -/
namespace Go.Proofs.YtmhagllddhjgmaaGreat
open Go.ChangeShapes Go.WideShapes Go.ChangeAt Go.RowKit Go.Sort
set_option linter.unusedVariables false

def newV (rs : List RoomV) : SmyV := if hallB rs then newM rs else zeroM
/-- A smithy in memory of its own, and a bool. -/
def GotN (n₀ : Nat) (M : SmyV) (q : Bool) (e : Ending) (w' : World) : Prop :=
  ∃ u0 u1 u2 u3 u4 qs, e = .returned (.tuple #[.agg #[u0, u1, u2, u3, u4, .int .i64 M.now], .bool q]) ∧ FullSmy n₀ w' u0 u1 u2 u3 u4 M qs
theorem sum_pos : ∀ rs : List RoomV, rs.all roomB = true → 0 ≤ benchSum rs
  | [], _ => by simp [benchSum]
  | r :: rs, h => by
    simp only [List.all_cons, Bool.and_eq_true] at h
    have ih := sum_pos rs h.2
    have h1 := h.1
    unfold roomB at h1
    simp only [Bool.and_eq_true] at h1
    have := inB_of h1.1
    simp only [benchSum, List.map_cons, List.sum_cons] at ih ⊢
    omega
theorem bench_one {rs : List RoomV} (h : hallB rs = true) : 1 ≤ benchSum rs := by
  obtain ⟨r1, r2, r3, r4⟩ := hallB_of h
  match rs, r1, r3 with
  | r :: rs, _, h3 =>
    simp only [List.all_cons, Bool.and_eq_true] at h3
    have ih := sum_pos rs h3.2
    have h1 := h3.1
    unfold roomB at h1
    simp only [Bool.and_eq_true] at h1
    have := inB_of h1.1
    simp only [benchSum, List.map_cons, List.sum_cons] at ih ⊢
    omega
theorem made_nums {B n : Nat} {w : World} (hg : B ≤ w.heap.size) (hn : n ≤ 1000) : NumsAt B (w.alloc (.cells (madeCells #[.int .i64 0] n) 2)) (.slice (some ⟨w.heap.size, 0, none⟩) n n) (List.replicate n 0) := by
  have hl : (madeCells #[Value.int .i64 0] n).toList = flat encNum (List.replicate n 0) := by
    have := made_flat encNum_len (by omega) (0 : Int) #[Value.int .i64 0] rfl n
    rw [Nat.mul_one] at this
    exact this
  have hsz : (madeCells #[Value.int .i64 0] n).size = n := by simp [madeCells]
  show (w.alloc _).ownsRow B 2 1 _ (List.replicate n (0 : Int)).length _
  rw [List.length_replicate]
  refine ⟨by rw [flat_len encNum_len, List.length_replicate], .inr ⟨_, n, madeCells #[.int .i64 0] n, rfl, hg, heap_alloc_new w _, Nat.le_refl _, (by unfold maxLen; omega), (by simp [hsz]), ?_⟩⟩
  rw [← hl, Nat.mul_one]
  exact List.take_of_length_le (by rw [Array.length_toList, hsz]; exact Nat.le_refl _)
theorem recs_nil (B : Nat) (w : World) : DesksAt B w (.slice none 0 0) [] := World.ownsRow_nil _ _ _ _
/-- No two of the new smithy's blocks are one. -/
structure NewOff (n₀ : Nat) (rs : List RoomV) (w : World) (R : Nat) (v0 v4 v3 : Value) (qs : List (RoomV × Value)) : Prop where
  hall : OwnHall (n₀ + 2) w v0 qs
  rooms : qs.map (·.1) = rs
  nums : NumsAt (n₀ + 2) w v4 (List.replicate rs.length 0)
  rlo : n₀ + 2 ≤ R
  rh : ∀ k, (v0.ownBlock = some k ∨ ∃ q ∈ qs, q.2.ownBlock = some k) → k ≠ R
  rp : v4.ownBlock ≠ some R
  rd : v3.ownBlock ≠ some R
  hp : ∀ k, (v0.ownBlock = some k ∨ ∃ q ∈ qs, q.2.ownBlock = some k) → v4.ownBlock ≠ some k
  hd : ∀ k, (v0.ownBlock = some k ∨ ∃ q ∈ qs, q.2.ownBlock = some k) → v3.ownBlock ≠ some k
  pd : ∀ k, v4.ownBlock = some k → v3.ownBlock ≠ some k
  rlt : R < w.heap.size
structure NewCut (n₀ : Nat) (w : World) (a : Option Addr) (rs : List RoomV) (cap : Nat) (wc : World) (R : Nat) (hv pv : Value) (qs : List (RoomV × Value)) : Prop where
  off : NewOff n₀ rs wc R hv pv (.slice none 0 0) qs
  km : Blk wc R 32 #[hv, .slice none 0 0, .slice none 0 0, .slice none 0 0, pv, .int .i64 0]
  kb : Blk wc n₀ 26 #[.slice a rs.length cap]
  kr : Blk wc (n₀ + 1) 32 #[.slice none 0 0, .slice none 0 0, .slice none 0 0, .slice none 0 0, .slice none 0 0, .int .i64 0]
  bel : Below w.heap.size w wc
  hshape : ∃ ua uc, hv = .slice ua rs.length uc
  pshape : ∃ pa pc, pv = .slice pa rs.length pc
theorem NewOff.below {n₀ : Nat} {rs : List RoomV} {w w' : World} {R : Nat} {v0 v4 v3 : Value} {qs : List (RoomV × Value)} (h : NewOff n₀ rs w R v0 v4 v3 qs) (hb : Below w.heap.size w w') : NewOff n₀ rs w' R v0 v4 v3 qs :=
  ⟨h.hall.later hb, h.rooms, RecAt.later h.nums hb, h.rlo, h.rh, h.rp, h.rd, h.hp, h.hd, h.pd, Nat.lt_of_lt_of_le h.rlt hb.size⟩
theorem NewCut.below {n₀ : Nat} {w : World} {a : Option Addr} {rs : List RoomV} {cap : Nat} {wc w' : World} {R : Nat} {hv pv : Value} {qs : List (RoomV × Value)} (h : NewCut n₀ w a rs cap wc R hv pv qs) (hb : Below wc.heap.size wc w') : NewCut n₀ w a rs cap w' R hv pv qs :=
  ⟨h.off.below hb, h.km.below hb h.km.lt, h.kb.below hb h.kb.lt, h.kr.below hb h.kr.lt, h.bel.trans (hb.mono h.bel.size), h.hshape, h.pshape⟩
/-- The smithy's own block is written. -/
theorem NewOff.set_R {n₀ : Nat} {rs : List RoomV} {w : World} {R : Nat} {v0 v4 v3 : Value} {qs : List (RoomV × Value)} (h : NewOff n₀ rs w R v0 v4 v3 qs) (o : Nat) (u : Value) : NewOff n₀ rs (w.setCell ⟨R, o, none⟩ u) R v0 v4 v3 qs :=
  ⟨h.hall.same2 fun k e => heap_setCell_other _ _ _ _ (h.rh k e), h.rooms, RecAt.same h.nums fun k e => heap_setCell_other _ _ _ _ (fun e' => h.rp (by rw [e]; exact congrArg some e')), h.rlo, h.rh, h.rp, h.rd, h.hp, h.hd, h.pd, by simpa using h.rlt⟩
/-- A desk is put to the desks. -/
theorem NewOff.grow {n₀ : Nat} {rs : List RoomV} {w w' : World} {R : Nat} {v0 v4 v3 v' : Value} {qs : List (RoomV × Value)} {o : Obj} (h : NewOff n₀ rs w R v0 v4 v3 qs) (hg : (w.alloc o).grownBy w' v3.ownBlock) (hat : v'.ownBlock = v3.ownBlock ∨ v'.ownBlock = some (w.alloc o).heap.size) : NewOff n₀ rs w' R v0 v4 v' qs := by
  have hk : ∀ k, k < w.heap.size → v3.ownBlock ≠ some k → w'.heap[k]? = w.heap[k]? := fun k hk hn => (hg.block k (by simp; omega) (fun e => hn e.symm)).trans (Below.heap_alloc w o k hk)
  have hv : ∀ k, k < w.heap.size → v3.ownBlock ≠ some k → v'.ownBlock ≠ some k := fun k hlt hn e => by
    rcases hat with e' | e'
    · exact hn (by rw [← e']; exact e)
    · rw [e'] at e
      simp at e
      omega
  have hs : w.heap.size ≤ w'.heap.size := by have := hg.size; simp at this; omega
  refine ⟨h.hall.same2 fun k e => hk k (h.hall.lt e).2 (h.hd k e), h.rooms, RecAt.same h.nums fun k e => hk k (RecAt.lt h.nums e).2 (h.pd k e), h.rlo, h.rh, h.rp, hv R h.rlt h.rd, h.hp, fun k e => hv k (h.hall.lt e).2 (h.hd k e), fun k e => hv k (RecAt.lt h.nums e).2 (h.pd k e), by have := h.rlt; omega⟩
theorem NewOff.full {n₀ : Nat} {rs : List RoomV} {w : World} {R : Nat} {v0 v4 v3 : Value} {qs : List (RoomV × Value)} {ds : List DeskV} (h : NewOff n₀ rs w R v0 v4 v3 qs) (hd : DesksAt (n₀ + 2) w v3 ds) : FullSmy (n₀ + 2) w v0 (.slice none 0 0) (.slice none 0 0) v3 v4 ⟨rs, [], [], ds, List.replicate rs.length 0, 0⟩ qs := by
  have hz : ∀ u : Value, Off2 (.slice none 0 0) u := fun u b e => by cases e
  have hz2 : ∀ u : Value, Off2 u (.slice none 0 0) := fun u b e e' => by cases e'
  exact ⟨h.hall, h.rooms, World.ownsRow_nil _ _ _ _, World.ownsRow_nil _ _ _ _, hd, h.nums, ⟨hz _, fun q hq => hz _⟩, ⟨hz _, fun q hq => hz _⟩, ⟨fun b e e' => h.hd b (.inl e') e, fun q hq b e e' => h.hd b (.inr ⟨q, hq, e'⟩) e⟩, ⟨fun b e e' => h.hp b (.inl e') e, fun q hq b e e' => h.hp b (.inr ⟨q, hq, e'⟩) e⟩, hz _, hz _, hz _, hz _, hz _, fun b e e' => h.pd b e' e⟩
theorem new_cut {w X : World} {a : Option Addr} {rs : List RoomV} {cap R g uc : Nat} {ua : Option Addr} {qs : List (RoomV × Value)} (hlo : w.heap.size + 2 ≤ R) (bel : Below w.heap.size w X) (kb : Blk X w.heap.size 26 #[.slice a rs.length cap]) (kr : Blk X (w.heap.size + 1) 32 #[.slice none 0 0, .slice none 0 0, .slice none 0 0, .slice none 0 0, .slice none 0 0, .int .i64 0])
    (hh : OwnHall (w.heap.size + 2) X (.slice ua rs.length uc) qs) (hn : NumsAt (w.heap.size + 2) X (.slice (some ⟨g, 0, none⟩) rs.length rs.length) (List.replicate rs.length 0)) (km : Blk X R 32 #[.slice none 0 0, .slice none 0 0, .slice none 0 0, .slice none 0 0, .slice none 0 0, .int .i64 0]) (hgl : w.heap.size + 2 ≤ g)
    (h15 : ∀ k, ((Value.slice ua rs.length uc).ownBlock = some k ∨ ∃ q ∈ qs, q.2.ownBlock = some k) → k ≠ g) (h17 : ∀ k, ((Value.slice ua rs.length uc).ownBlock = some k ∨ ∃ q ∈ qs, q.2.ownBlock = some k) → k ≠ R) (h57 : R ≠ g) (hq : qs.map (·.1) = rs) :
    ∃ R' hv pv qs', Value.pointer (some ⟨R, 0, none⟩) = .pointer (some ⟨R', 0, none⟩) ∧ NewCut w.heap.size w a rs cap ((((((X.setCell ⟨R, 0, none⟩ (.slice ua rs.length uc)).setCell ⟨R, 1, none⟩ (.slice none 0 0)).setCell ⟨R, 2, none⟩ (.slice none 0 0)).setCell ⟨R, 3, none⟩ (.slice none 0 0)).setCell ⟨R, 4, none⟩ (.slice (some ⟨g, 0, none⟩) rs.length rs.length)).setCell ⟨R, 5, none⟩ (.int .i64 0)) R' hv pv qs' := by
  refine ⟨R, .slice ua rs.length uc, .slice (some ⟨g, 0, none⟩) rs.length rs.length, qs, rfl, ?_⟩
  have ho : NewOff w.heap.size rs X R (.slice ua rs.length uc) (.slice (some ⟨g, 0, none⟩) rs.length rs.length) (.slice none 0 0) qs := ⟨hh, hq, hn, hlo, h17, fun e => (by cases e; exact h57 rfl), fun e => (by cases e), fun k e e' => (by cases e'; exact h15 _ e rfl), fun k e e' => (by cases e'), fun k e e' => (by cases e'), km.lt⟩
  have k1 := ((((((km.set 0 (.slice ua rs.length uc)).set 1 (.slice none 0 0)).set 2 (.slice none 0 0)).set 3 (.slice none 0 0)).set 4 (.slice (some ⟨g, 0, none⟩) rs.length rs.length)).set 5 (.int .i64 0))
  refine ⟨(((((ho.set_R _ _).set_R _ _).set_R _ _).set_R _ _).set_R _ _).set_R _ _, k1, ?_, ?_, ?_, ⟨_, _, rfl⟩, ⟨_, _, rfl⟩⟩
  · iterate 6 (refine Blk.other ?_ (by show w.heap.size ≠ R; omega) _)
    exact kb
  · iterate 6 (refine Blk.other ?_ (by show w.heap.size + 1 ≠ R; omega) _)
    exact kr
  · iterate 6 (refine Below.setCell ?_ (by show _ ≤ R; omega) _)
    exact bel
/-- An append whose run is known, at a plain region's list. -/
theorem wpList_append_run {w : World} {ops : Array Oper} {rest : List Oper} {o : Oper} {a : Act} {Q : Exit → Act → World → Prop} (hgd : o.guard = none) (s x : Operand) (t : TypeId)
    (ho : o.op = .call { callee := .builtin .append, args := #[s, x], argTypes := #[t, t] }) {v u v' : Value} {w' : World} (hs : a.eval s = v) (hx : a.eval x = u) (hrun : (Builtin.append_ #[t, t] o.type #[v, u]).run Tryz.prog w = .ok v' w')
    (h : wpList Tryz.prog ops Q rest (a.put o.dst v') w') : wpList Tryz.prog ops Q (o :: rest) a w := by
  refine wpList_plain hgd fun K hK => ?_
  unfold Oper.wp execOp
  simp only [ho, resolve, invoke, builtin, Sem.run_bind, Sem.run_pure, Result.andThen_ok, List.map_toArray, List.map_cons, List.map_nil, hs, hx, hrun]
  exact hK _ _ h

end Go.Proofs.YtmhagllddhjgmaaGreat

