/- What the proof rests on, part 16: lists and numbers, how they lie in memory, and contracts of the calls. No condition but those that a theorem names. -/
import Derived.Test.YtmhagllddhjgmabGreatXu01
import Derived.Test.YtmhagllddhjgmabGreatXu05
import Derived.Maps.AppendAt
import Derived.WalkKit
import Derived.ProofKit
import Derived.OpenShut
import Derived.Outline
import Derived.Deep.QuietTactic
import Derived.BigQuiet
import Derived.Laws.OwnMore
import Derived.OwnWalk
import Derived.Lib.QuietBelow
import Derived.Lib.SmallJoins
/- Records appended to a row of the call's own, and one field of one of them written: rows of RecKit. Conditions: those that each theorem names. -/
namespace Go.Proofs.YtmhagllddhjgmabGreat
open Go.ChangeShapes Go.WideShapes Go.ChangeAt Go.RowKit Go.Sort
set_option linter.unusedVariables false

theorem addr_to (g o i : Nat) : (⟨g, o, none⟩ : Addr).add i = ⟨g, o + i, none⟩ := by unfold Addr.add; split <;> simp_all
theorem parts_of {e k bytes : Nat} {z : Value} (h : (Tryz.prog.info? e).map (fun i => (i.zero, i.size, i.bytes)) = some (some z, k, bytes)) : ∃ i, Tryz.prog.info? e = some i ∧ i.zero = some z ∧ i.size = k ∧ i.bytes = bytes := by
  cases hi : Tryz.prog.info? e with
  | none => rw [hi] at h; cases h
  | some i =>
    rw [hi] at h
    simp only [Option.map_some, Option.some.injEq, Prod.mk.injEq] at h
    exact ⟨i, rfl, h.1, h.2.1, h.2.2⟩
theorem run_append_none {w : World} {base t ty e size n : Nat} {i : TypeInfo} (ht : Tryz.prog.underlying t = some (.slice e)) (hi : Tryz.prog.info? e = some i) {v : Value} {xs : List Value} (hown : w.ownsRow base e size v n xs) (a : Option Addr) (c : Nat) :
    (Builtin.append_ #[t, t] ty #[v, .slice a 0 c]).run Tryz.prog w = .ok v w := by
  rcases hown.2 with ⟨rfl, rfl⟩ | ⟨g, cap, cur, rfl, _, _, hnc, _⟩
  · cases a <;> simp [Builtin.append_, run_underlying ht, sizeOf, typeInfo, hi, Builtin.lenOf, Builtin.firstCells, loadCells, loadCellsFrom]
  · cases a <;> simp [Builtin.append_, run_underlying ht, sizeOf, typeInfo, hi, Builtin.lenOf, Builtin.firstCells, hnc, storeCells, loadCells, loadCellsFrom]

/-- What append asks of the records' type e. -/
structure RecTy {α : Type} (e k : Nat) (z : Value) (enc : α → List Value) : Prop where
  info : (Tryz.prog.info? e).map (fun i => (i.zero, i.size, i.bytes)) = some (some z, k, 8 * k)
  zero : z.cells.size = k
  len : ∀ x, (enc x).length = k
  pos : 0 < k
  few : k ≤ 100
  one : ∀ x, ∀ u ∈ enc x, u.oneCell' = true

section
variable {α : Type} {e k : Nat} {enc : α → List Value}
theorem flat_one (hone : ∀ x : α, ∀ u ∈ enc x, u.oneCell' = true) (qs : List α) : ∀ u ∈ flat enc qs, u.oneCell' = true := fun u hu => by
  unfold flat at hu
  obtain ⟨p, _, hp⟩ := List.mem_flatMap.1 hu
  exact hone p u hp
theorem recs_empty {B g : Nat} {w : World} (hg : g = w.heap.size) (hB : B ≤ g) : RecAt e k enc B (w.alloc (.cells #[] e)) (.slice (some ⟨g, 0, none⟩) 0 0) [] := by
  subst hg
  exact ⟨by simp [flat], .inr ⟨_, 0, #[], rfl, hB, heap_alloc_new w _, Nat.le_refl _, Nat.zero_le _, by simp, by simp [flat]⟩⟩
end

section
variable {α : Type} [Inhabited α] {e k : Nat} {enc : α → List Value} {z : Value}
theorem rec_cells (hk : ∀ x, (enc x).length = k) (h0 : 0 < k) {w : World} {b off : Nat} {qs : List α} (h : ∀ j, j < qs.length → ∀ i u, (enc (recAt qs j))[i]? = some u → w.cell? ⟨b, off + j * k + i, none⟩ = some u) :
    ∀ (j : Nat) (u : Value), (flat enc qs)[j]? = some u → w.cell? ((⟨b, off, none⟩ : Addr).add j) = some u := fun j u hj => by
  have hlt : j < qs.length * k := by
    rcases Nat.lt_or_ge j (qs.length * k) with h | h
    · exact h
    · rw [List.getElem?_eq_none (by rw [flat_len hk]; exact h)] at hj; cases hj
  have hd : j / k < qs.length := (Nat.div_lt_iff_lt_mul h0).2 hlt
  have hr : j % k < k := Nat.mod_lt _ h0
  have he : j = j / k * k + j % k := by rw [Nat.mul_comm]; exact (Nat.div_add_mod j k).symm
  rw [addr_to]
  rw [he, flat_get hk qs (j / k) hd (j % k) hr] at hj
  have := h (j / k) hd (j % k) u hj
  rw [Nat.add_assoc, ← he] at this
  exact this
/-- Records that read as qs, appended to a row of the call's own. -/
theorem run_append_recs (T : RecTy e k z enc) {w : World} {base t ty : Nat} (ht : Tryz.prog.underlying t = some (.slice e)) {v x : Value} {ps qs : List α} (hown : RecAt e k enc base w v ps) (hx : IsRec k enc w x qs) (hb : ps.length + qs.length ≤ 4000) (hbase : base ≤ w.heap.size) :
    ∃ v' w', (Builtin.append_ #[t, t] ty #[v, x]).run Tryz.prog w = .ok v' w' ∧ RecAt e k enc base w' v' (ps ++ qs) ∧ w.grownBy w' v.ownBlock ∧ (v'.ownBlock = v.ownBlock ∨ v'.ownBlock = some w.heap.size) := by
  obtain ⟨i0, hi, hz0, hz1, hz2⟩ := parts_of T.info
  obtain ⟨a, c, rfl, hc, hm, hr⟩ := hx
  by_cases h0 : qs = []
  · subst h0
    refine ⟨v, w, run_append_none ht hi hown a c, by simpa using hown, grown_refl _ _, .inl rfl⟩
  · rcases hr with hr | ⟨b, off, rfl, hlt, hcl⟩
    · exact absurd hr h0
    · have hk := T.few
      have hmul : (ps.length + qs.length) * (8 * k) ≤ 4000 * 800 := Nat.mul_le_mul hb (by omega)
      obtain ⟨v', w', hr, h2, h3, _, h5⟩ := run_append_own_at (P := Tryz.prog) w base t ty e i0 z k (8 * k) ht hi hz0 hz1 hz2 T.zero T.pos v ps.length _ hown ⟨b, off, none⟩ qs.length c (flat enc qs) (flat_len T.len qs)
        (rec_cells T.len T.pos hcl) (flat_one T.one qs) (by simp only [maxLen]; omega) (by omega) hbase
      refine ⟨v', w', hr, ?_, h3, h5⟩
      unfold RecAt
      rw [flat_append, List.length_append]
      exact h2
/-- At a plain region's list. -/
theorem wpList_append_recs (T : RecTy e k z enc) {w : World} {ops : Array Oper} {rest : List Oper} {o : Oper} {a : Act} {Q : Exit → Act → World → Prop} (hgd : o.guard = none) (s x : Operand) (t : TypeId) (ht : Tryz.prog.underlying t = some (.slice e))
    (ho : o.op = .call { callee := .builtin .append, args := #[s, x], argTypes := #[t, t] }) (base : Nat) (v u : Value) (ps qs : List α) (hs : a.eval s = v) (hx : a.eval x = u) (hown : RecAt e k enc base w v ps) (hr : IsRec k enc w u qs)
    (hb : ps.length + qs.length ≤ 4000) (hbase : base ≤ w.heap.size)
    (h : ∀ v' w', RecAt e k enc base w' v' (ps ++ qs) → w.grownBy w' v.ownBlock → (v'.ownBlock = v.ownBlock ∨ v'.ownBlock = some w.heap.size) → wpList Tryz.prog ops Q rest (a.put o.dst v') w') :
    wpList Tryz.prog ops Q (o :: rest) a w := by
  refine wpList_plain hgd fun K hK => ?_
  obtain ⟨v', w', hrun, h2, h3, h5⟩ := run_append_recs T (ty := o.type) ht hown hr hb hbase
  unfold Oper.wp execOp
  simp only [ho, resolve, invoke, builtin, Sem.run_bind, Sem.run_pure, Result.andThen_ok, List.map_toArray, List.map_cons, List.map_nil, hs, hx, hrun]
  exact hK _ _ (h v' w' h2 h3 h5)
theorem recs_one {w : World} (x : α) {g c : Nat} (hg : g = w.heap.size) (hc : 1 ≤ c) (hc2 : c ≤ 4000) : IsRec k enc (w.alloc (.cells (enc x).toArray e)) (.slice (some ⟨g, 0, none⟩) 1 c) [x] := by
  subst hg
  refine ⟨_, c, rfl, hc, by omega, .inr ⟨_, 0, rfl, by simp, fun j hj i u hu => ?_⟩⟩
  obtain rfl : j = 0 := by simpa using hj
  rw [Nat.zero_mul, Nat.zero_add, World.cell?_alloc_at _ _ _ _ rfl]
  have hr : recAt [x] 0 = x := rfl
  rw [hr] at hu
  simpa using hu
end

end Go.Proofs.YtmhagllddhjgmabGreat

