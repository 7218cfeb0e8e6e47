/- What the proof rests on, part 9: lists and numbers, how they lie in memory, and contracts of the calls. No condition but those that a theorem names. -/
import Derived.Test.YthbbahagpmdooaaGreatDoorXr01
import Derived.Test.YthbbahagpmdooaaGreatDoorXr02
import Derived.Test.YthbbahagpmdooaaGreatDoorXr03
import Derived.Test.YthbbahagpmdooaaGreatDoorXr04
import Derived.Maps.AppendAt
import Derived.Test.YthbbahagpmdooaaGreatDoorRows
import Derived.WalkKit
import Derived.OrdersHeld
import Derived.Deep.RegionHeldLaw
import Derived.Deep.DrawnRows
import Derived.BigRegion
import Derived.Deep.RegionLawGrows
import Derived.ProofKit
import Derived.OpenShut
import Derived.Outline
import Derived.Deep.RegionWith
import Derived.Deep.QuietTactic
import Derived.BigQuiet
import Derived.Laws.OwnMore
import Derived.OwnWalk
import Derived.Lib.QuietBelow
import Derived.Lib.SmallJoins
/- Records appended to a row of the call's own, and one field of one of them written: rows of RecKit. Conditions: those that each theorem names. -/
namespace Go.Proofs.YthbbahagpmdooaaGreatDoor
open Go.ChangeShapes Go.WideShapes Go.ChangeAt Go.RowKit Go.Sort
set_option linter.unusedVariables false

theorem addr_to (g o i : Nat) : (⟨g, o, none⟩ : Addr).add i = ⟨g, o + i, none⟩ := by unfold Addr.add; split <;> simp_all
theorem parts_of {e k bytes : Nat} {z : Value} (h : (Tryz.prog.info? e).map (fun i => (i.zero, i.size, i.bytes)) = some (some z, k, bytes)) : ∃ i, Tryz.prog.info? e = some i ∧ i.zero = some z ∧ i.size = k ∧ i.bytes = bytes := by
  cases hi : Tryz.prog.info? e with
  | none => rw [hi] at h; cases h
  | some i =>
    rw [hi] at h
    simp only [Option.map_some, Option.some.injEq, Prod.mk.injEq] at h
    exact ⟨i, rfl, h.1, h.2.1, h.2.2⟩
theorem run_append_none {w : World} {base t ty e size n : Nat} {i : TypeInfo} (ht : Tryz.prog.underlying t = some (.slice e)) (hi : Tryz.prog.info? e = some i) {v : Value} {xs : List Value} (hown : w.ownsRow base e size v n xs) (a : Option Addr) (c : Nat) :
    (Builtin.append_ #[t, t] ty #[v, .slice a 0 c]).run Tryz.prog w = .ok v w := by
  rcases hown.2 with ⟨rfl, rfl⟩ | ⟨g, cap, cur, rfl, _, _, hnc, _⟩
  · cases a <;> simp [Builtin.append_, run_underlying ht, sizeOf, typeInfo, hi, Builtin.lenOf, Builtin.firstCells, loadCells, loadCellsFrom]
  · cases a <;> simp [Builtin.append_, run_underlying ht, sizeOf, typeInfo, hi, Builtin.lenOf, Builtin.firstCells, hnc, storeCells, loadCells, loadCellsFrom]

/-- What append asks of the records' type e. -/
structure RecTy {α : Type} (e k : Nat) (z : Value) (enc : α → List Value) : Prop where
  info : (Tryz.prog.info? e).map (fun i => (i.zero, i.size, i.bytes)) = some (some z, k, 8 * k)
  zero : z.cells.size = k
  len : ∀ x, (enc x).length = k
  pos : 0 < k
  few : k ≤ 100
  one : ∀ x, ∀ u ∈ enc x, u.oneCell' = true

section
variable {α : Type} {e k : Nat} {enc : α → List Value}
theorem flat_one (hone : ∀ x : α, ∀ u ∈ enc x, u.oneCell' = true) (qs : List α) : ∀ u ∈ flat enc qs, u.oneCell' = true := fun u hu => by
  unfold flat at hu
  obtain ⟨p, _, hp⟩ := List.mem_flatMap.1 hu
  exact hone p u hp
theorem recs_empty {B g : Nat} {w : World} (hg : g = w.heap.size) (hB : B ≤ g) : RecAt e k enc B (w.alloc (.cells #[] e)) (.slice (some ⟨g, 0, none⟩) 0 0) [] := by
  subst hg
  exact ⟨by simp [flat], .inr ⟨_, 0, #[], rfl, hB, heap_alloc_new w _, Nat.le_refl _, Nat.zero_le _, by simp, by simp [flat]⟩⟩
end

section
variable {α : Type} [Inhabited α] {e k : Nat} {enc : α → List Value} {z : Value}
theorem rec_cells (hk : ∀ x, (enc x).length = k) (h0 : 0 < k) {w : World} {b off : Nat} {qs : List α} (h : ∀ j, j < qs.length → ∀ i u, (enc (recAt qs j))[i]? = some u → w.cell? ⟨b, off + j * k + i, none⟩ = some u) :
    ∀ (j : Nat) (u : Value), (flat enc qs)[j]? = some u → w.cell? ((⟨b, off, none⟩ : Addr).add j) = some u := fun j u hj => by
  have hlt : j < qs.length * k := by
    rcases Nat.lt_or_ge j (qs.length * k) with h | h
    · exact h
    · rw [List.getElem?_eq_none (by rw [flat_len hk]; exact h)] at hj; cases hj
  have hd : j / k < qs.length := (Nat.div_lt_iff_lt_mul h0).2 hlt
  have hr : j % k < k := Nat.mod_lt _ h0
  have he : j = j / k * k + j % k := by rw [Nat.mul_comm]; exact (Nat.div_add_mod j k).symm
  rw [addr_to]
  rw [he, flat_get hk qs (j / k) hd (j % k) hr] at hj
  have := h (j / k) hd (j % k) u hj
  rw [Nat.add_assoc, ← he] at this
  exact this
/-- Records that read as qs, appended to a row of the call's own. -/
theorem run_append_recs (T : RecTy e k z enc) {w : World} {base t ty : Nat} (ht : Tryz.prog.underlying t = some (.slice e)) {v x : Value} {ps qs : List α} (hown : RecAt e k enc base w v ps) (hx : IsRec k enc w x qs) (hb : ps.length + qs.length ≤ 4000) (hbase : base ≤ w.heap.size) :
    ∃ v' w', (Builtin.append_ #[t, t] ty #[v, x]).run Tryz.prog w = .ok v' w' ∧ RecAt e k enc base w' v' (ps ++ qs) ∧ w.grownBy w' v.ownBlock ∧ (v'.ownBlock = v.ownBlock ∨ v'.ownBlock = some w.heap.size) := by
  obtain ⟨i0, hi, hz0, hz1, hz2⟩ := parts_of T.info
  obtain ⟨a, c, rfl, hc, hm, hr⟩ := hx
  by_cases h0 : qs = []
  · subst h0
    refine ⟨v, w, run_append_none ht hi hown a c, by simpa using hown, grown_refl _ _, .inl rfl⟩
  · rcases hr with hr | ⟨b, off, rfl, hlt, hcl⟩
    · exact absurd hr h0
    · have hk := T.few
      have hmul : (ps.length + qs.length) * (8 * k) ≤ 4000 * 800 := Nat.mul_le_mul hb (by omega)
      obtain ⟨v', w', hr, h2, h3, _, h5⟩ := run_append_own_at (P := Tryz.prog) w base t ty e i0 z k (8 * k) ht hi hz0 hz1 hz2 T.zero T.pos v ps.length _ hown ⟨b, off, none⟩ qs.length c (flat enc qs) (flat_len T.len qs)
        (rec_cells T.len T.pos hcl) (flat_one T.one qs) (by simp only [maxLen]; omega) (by omega) hbase
      refine ⟨v', w', hr, ?_, h3, h5⟩
      unfold RecAt
      rw [flat_append, List.length_append]
      exact h2
/-- At a plain region's list. -/
theorem wpList_append_recs (T : RecTy e k z enc) {w : World} {ops : Array Oper} {rest : List Oper} {o : Oper} {a : Act} {Q : Exit → Act → World → Prop} (hgd : o.guard = none) (s x : Operand) (t : TypeId) (ht : Tryz.prog.underlying t = some (.slice e))
    (ho : o.op = .call { callee := .builtin .append, args := #[s, x], argTypes := #[t, t] }) (base : Nat) (v u : Value) (ps qs : List α) (hs : a.eval s = v) (hx : a.eval x = u) (hown : RecAt e k enc base w v ps) (hr : IsRec k enc w u qs)
    (hb : ps.length + qs.length ≤ 4000) (hbase : base ≤ w.heap.size)
    (h : ∀ v' w', RecAt e k enc base w' v' (ps ++ qs) → w.grownBy w' v.ownBlock → (v'.ownBlock = v.ownBlock ∨ v'.ownBlock = some w.heap.size) → wpList Tryz.prog ops Q rest (a.put o.dst v') w') :
    wpList Tryz.prog ops Q (o :: rest) a w := by
  refine wpList_plain hgd fun K hK => ?_
  obtain ⟨v', w', hrun, h2, h3, h5⟩ := run_append_recs T (ty := o.type) ht hown hr hb hbase
  unfold Oper.wp execOp
  simp only [ho, resolve, invoke, builtin, Sem.run_bind, Sem.run_pure, Result.andThen_ok, List.map_toArray, List.map_cons, List.map_nil, hs, hx, hrun]
  exact hK _ _ (h v' w' h2 h3 h5)
theorem recs_one {w : World} (x : α) {g c : Nat} (hg : g = w.heap.size) (hc : 1 ≤ c) (hc2 : c ≤ 4000) : IsRec k enc (w.alloc (.cells (enc x).toArray e)) (.slice (some ⟨g, 0, none⟩) 1 c) [x] := by
  subst hg
  refine ⟨_, c, rfl, hc, by omega, .inr ⟨_, 0, rfl, by simp, fun j hj i u hu => ?_⟩⟩
  obtain rfl : j = 0 := by simpa using hj
  rw [Nat.zero_mul, Nat.zero_add, World.cell?_alloc_at _ _ _ _ rfl]
  have hr : recAt [x] 0 = x := rfl
  rw [hr] at hu
  simpa using hu
/-- One cell of a record is written. -/
theorem flat_set1 (hk : ∀ x, (enc x).length = k) (h0 : 0 < k) (xs : List α) {j i : Nat} (hj : j < xs.length) (hi : i < k) (u : Value) (x : α) (hx : enc x = (enc (recAt xs j)).set i u) : (flat enc xs).set (j * k + i) u = flat enc (xs.set j x) := by
  have hl := flat_len hk xs
  have hjk : j * k + k ≤ xs.length * k := by rw [← Nat.succ_mul]; exact Nat.mul_le_mul_right k hj
  apply List.ext_getElem?
  intro m
  by_cases hm : m < xs.length * k
  · have hd : m / k < xs.length := (Nat.div_lt_iff_lt_mul h0).2 hm
    have hr : m % k < k := Nat.mod_lt _ h0
    have he : m = m / k * k + m % k := by rw [Nat.mul_comm]; exact (Nat.div_add_mod m k).symm
    have hg := flat_get hk (xs.set j x) (m / k) (by simpa using hd) (m % k) hr
    have hg0 := flat_get hk xs (m / k) hd (m % k) hr
    rw [← he] at hg hg0
    rw [hg, recAt_set hj]
    by_cases e : m / k = j
    · rw [if_pos e, hx]
      by_cases ei : m % k = i
      · have hmi : m = j * k + i := by rw [← e, ← ei]; exact he
        rw [ei, hmi, List.getElem?_set_self (by rw [hl]; omega), List.getElem?_set_self (by rw [hk]; exact hi)]
      · have hmi : j * k + i ≠ m := by rw [← e]; omega
        rw [List.getElem?_set_ne hmi, List.getElem?_set_ne (Ne.symm ei), hg0, e]
    · rw [if_neg e, List.getElem?_set_ne, hg0]
      intro h
      apply e
      rw [← h]
      exact Nat.div_eq_of_lt_le (Nat.le_add_right _ _) (by rw [Nat.succ_mul]; omega)
  · rw [List.getElem?_eq_none (by simp; omega), List.getElem?_eq_none (by rw [flat_len hk]; simp; omega)]
theorem RecAt.put1 (hk : ∀ x, (enc x).length = k) (h0 : 0 < k) {t n₀ n cap g : Nat} {w : World} {xs : List α} (h : RecAt t k enc n₀ w (.slice (some ⟨g, 0, none⟩) n cap) xs) (hn : n = xs.length) {j i : Nat} (hj : j < xs.length) (hi : i < k) (u : Value) (x : α) (hx : enc x = (enc (recAt xs j)).set i u) :
    RecAt t k enc n₀ (w.setCell ⟨g, j * k + i, none⟩ u) (.slice (some ⟨g, 0, none⟩) n cap) (xs.set j x) ∧ w.grownBy (w.setCell ⟨g, j * k + i, none⟩ u) (some g) := by
  subst hn
  obtain ⟨h1, h2⟩ := World.ownsRow.stored h (j * k + i) u
  rw [flat_set1 hk h0 xs hj hi u x hx] at h1
  refine ⟨?_, h2⟩
  unfold RecAt
  rw [List.length_set]
  exact h1
end

end Go.Proofs.YthbbahagpmdooaaGreatDoor

/- A region that draws its order and whose last operation waits for all others: it is enough to walk the others in every order, and then the last one. No condition but those that a theorem names. -/
namespace Go.Proofs.YthbbahagpmdooaaGreatDoor
set_option linter.unusedVariables false

section
variable {P : Program} {ops : Array Oper} {z : Oper} {Q : Exit → Act → World → Prop} {md : Region.Mode}

/-- As Q; at the end of the others: the last one is run. -/
def tailQ (P : Program) (full : Array Oper) (Q : Exit → Act → World → Prop) (n : Nat) : Exit → Act → World → Prop
  | .normal, a, w => wpOp P full Q n (fun a' w' => Q .normal a' w') a w
  | e, a, w => Q e a w
/-- None is guarded and each waits for earlier ones alone; for each one the last one waits, or a later one. -/
def tailOk (md : Region.Mode) (ops : Array Oper) (z : Oper) : Bool :=
  (List.range ops.size).all (fun i => (ops[i]?).all fun o => o.guard.isNone && o.after.all fun e => decide (e.on < i)) && (List.range ops.size).all (fun i => (z.after.any fun e => Region.binds md e && decide (e.on = i)) || (List.range ops.size).any fun j => decide (i < j) && (ops[j]?).any fun o => o.after.any fun e => Region.binds md e && decide (e.on = i)) && z.after.all fun e => decide (e.on < ops.size)

theorem upon_q {Q' : Exit → Act → World → Prop} (hq : ∀ e a w, e ≠ .normal → Q' e a w → Q e a w) {o : Oper} {a : Act} {w : World} {K : Act → World → Prop} (h : o.wp P a w K Q') : o.wp P a w K Q := by
  have hl : LetsOut Q' → LetsOut Q := fun ⟨a, w, h⟩ => ⟨a, w, hq _ _ _ (by simp) h⟩
  unfold Oper.wp at *
  generalize (execOp a.eval o).run P w = r at *
  cases r with
  | ok n w' =>
    cases n <;> simp only [Oper.upon] at h ⊢ <;>
      first
        | exact h
        | exact Calls.mono h (fun e w'' he => by cases e <;> first | exact he | exact hq _ _ _ (by simp) he | exact hl he)
  | halt x w' =>
    cases x <;> simp only [Oper.upon] at h ⊢ <;> first | exact h | exact hq _ _ _ (by simp) h | exact hl h

theorem getD_push (l : Array Bool) (d : Bool) (i : Nat) : (l.push false).getD i d = if i = l.size then false else l.getD i d := by
  simp only [Array.getD_eq_getD_getElem?, Array.getElem?_push]
  split <;> rfl
theorem ready_push (l : Array Bool) (hl : l.size = ops.size) : Region.ready md (ops.push z) (l.push false) = Region.ready md ops l ++ (if (z.after.all fun e => !Region.binds md e || l.getD e.on false) = true then [ops.size] else []) := by
  have hout : ∀ j, (l.push false).getD j false = l.getD j false := fun j => by
    rw [getD_push]
    split
    · rename_i h; subst h; simp
    · rfl
  unfold Region.ready
  rw [Array.size_push, List.range_succ, List.filter_append]
  congr 1
  · refine List.filter_congr fun i hi => ?_
    have hi := List.mem_range.1 hi
    rw [getD_push, if_neg (by omega), Array.getElem?_push, if_neg (by omega)]
    simp only [hout]
  · simp only [List.filter_cons, List.filter_nil]
    rw [getD_push, if_pos hl.symm, Array.getElem?_push, if_pos rfl]
    simp only [hout, Bool.not_false, Bool.true_and, Option.map_some, Option.getD_some]
theorem set_push (l : Array Bool) {i : Nat} (hi : i < l.size) : (l.push false).setIfInBounds i true = (l.setIfInBounds i true).push false := by
  apply Array.ext_getElem?
  intro j
  simp only [Array.getElem?_setIfInBounds, Array.getElem?_push, Array.size_push, Array.size_setIfInBounds]
  by_cases h1 : i = j
  · subst h1
    have h2 : ¬ i = l.size := by omega
    have h3 : i < l.size + 1 := by omega
    simp [h2, h3, hi]
  · simp [h1]

theorem tailOk_of (h : tailOk md ops z = true) : (∀ (i : Nat) (o : Oper), ops[i]? = some o → o.guard = none ∧ ∀ e ∈ o.after, e.on < i) ∧ (∀ i, i < ops.size → (∃ e ∈ z.after, Region.binds md e = true ∧ e.on = i) ∨ ∃ (j : Nat) (o : Oper), i < j ∧ j < ops.size ∧ ops[j]? = some o ∧ ∃ e ∈ o.after, Region.binds md e = true ∧ e.on = i) ∧ ∀ e ∈ z.after, e.on < ops.size := by
  unfold tailOk at h
  simp only [Bool.and_eq_true, List.all_eq_true, List.mem_range] at h
  obtain ⟨⟨h1, h2⟩, h3⟩ := h
  refine ⟨fun i o ho => ?_, fun i hi => ?_, fun e he => ?_⟩
  · have hi : i < ops.size := by
      rcases Nat.lt_or_ge i ops.size with h | h
      · exact h
      · rw [Array.getElem?_eq_none h] at ho; cases ho
    have := h1 i hi
    rw [ho] at this
    simp only [Option.all_some, Bool.and_eq_true, Option.isNone_iff_eq_none, Array.all_eq_true_iff_forall_mem, decide_eq_true_eq] at this
    exact this
  · have := h2 i hi
    rw [Bool.or_eq_true] at this
    rcases this with this | this
    · obtain ⟨k, hk, h9⟩ := Array.any_eq_true.1 this
      simp only [Bool.and_eq_true, decide_eq_true_eq] at h9
      exact .inl ⟨_, Array.getElem_mem hk, h9.1, h9.2⟩
    · obtain ⟨j, hj, hja⟩ := List.any_eq_true.1 this
      have hj := List.mem_range.1 hj
      rw [Bool.and_eq_true, decide_eq_true_eq] at hja
      have ho : ops[j]? = some ops[j] := Array.getElem?_eq_getElem hj
      have h8 := hja.2
      rw [ho] at h8
      obtain ⟨k, hk, h9⟩ := Array.any_eq_true.1 h8
      simp only [Bool.and_eq_true, decide_eq_true_eq] at h9
      exact .inr ⟨j, _, hja.1, hj, ho, _, Array.getElem_mem hk, h9.1, h9.2⟩
  · simp only [Array.all_eq_true_iff_forall_mem, decide_eq_true_eq] at h3
    exact h3 e he
theorem getD_tf {l : Array Bool} {i : Nat} (hi : i < l.size) (h : l.getD i true = true) : l.getD i false = true := by
  simp only [Array.getD_eq_getD_getElem?, Array.getElem?_eq_getElem hi, Option.getD_some] at h ⊢
  exact h
/-- Where none may come up all have. -/
theorem ready_all (hok : tailOk md ops z = true) {l : Array Bool} (hl : l.size = ops.size) (hr : Region.ready md ops l = []) : ∀ i, i < ops.size → l.getD i true = true := by
  obtain ⟨h1, _, _⟩ := tailOk_of hok
  intro i
  induction i using Nat.strongRecOn with
  | _ i ih =>
    intro hi
    cases hg : l.getD i true
    · exfalso
      have ho : ops[i]? = some ops[i] := Array.getElem?_eq_getElem hi
      obtain ⟨_, ha⟩ := h1 i _ ho
      have hm : i ∈ Region.ready md ops l := by
        unfold Region.ready
        rw [List.mem_filter]
        refine ⟨List.mem_range.2 hi, ?_⟩
        rw [hg, ho]
        simp only [Bool.not_false, Bool.true_and, Option.map_some, Option.getD_some, Array.all_eq_true_iff_forall_mem]
        intro e he
        have hlt := ha e he
        rw [getD_tf (by omega) (ih e.on hlt (by omega)), Bool.or_true]
      rw [hr] at hm
      exact List.not_mem_nil hm
    · rfl
theorem ready_none {l : Array Bool} (h : ∀ i, i < ops.size → l.getD i true = true) : Region.ready md ops l = [] := by
  unfold Region.ready
  rw [List.filter_eq_nil_iff]
  intro i hi
  rw [h i (List.mem_range.1 hi)]
  simp
theorem wpAny_end {l : Array Bool} {a : Act} {w : World} (hr : Region.ready md ops l = []) (h : Q .normal a w) : ∀ fuel, wpAny P md ops Q fuel l a w
  | 0 => ⟨hr, h⟩
  | _ + 1 => ⟨fun _ => h, by rw [hr]; simp⟩

/-- What has come up has waited. -/
def Closed2 (md : Region.Mode) (ops : Array Oper) (l : Array Bool) : Prop := ∀ (i : Nat) (o : Oper), ops[i]? = some o → l.getD i false = true → ∀ e ∈ o.after, Region.binds md e = true → l.getD e.on false = true
theorem all_listed (hok : tailOk md ops z = true) {l : Array Bool} (hcl : Closed2 md ops l) (hz : (z.after.all fun e => !Region.binds md e || l.getD e.on false) = true) : ∀ d i, i + d + 1 = ops.size → l.getD i false = true := by
  obtain ⟨_, k2, _⟩ := tailOk_of hok
  rw [Array.all_eq_true_iff_forall_mem] at hz
  intro d
  induction d using Nat.strongRecOn with
  | _ d ih =>
    intro i hi
    rcases k2 i (by omega) with ⟨e, he, hb, rfl⟩ | ⟨j, o, hij, hj, ho, e, he, hb, rfl⟩
    · have := hz e he
      rw [hb] at this
      simpa using this
    · exact hcl j o ho (ih (ops.size - j - 1) (by omega) j (by omega)) e he hb

theorem tail_any (hok : tailOk md ops z = true) : ∀ (fuel : Nat) (l : Array Bool) (a : Act) (w : World), l.size = ops.size → Closed2 md ops l → wpAny P md ops (tailQ P (ops.push z) Q ops.size) fuel l a w → wpAny P md (ops.push z) Q (fuel + 1) (l.push false) a w := by
  obtain ⟨k1, k2, k3⟩ := tailOk_of hok
  -- all others have come up: the last one
  have last : ∀ (fuel : Nat) (l : Array Bool) (a : Act) (w : World), l.size = ops.size → Region.ready md ops l = [] → tailQ P (ops.push z) Q ops.size .normal a w → wpAny P md (ops.push z) Q (fuel + 1) (l.push false) a w := by
    intro fuel l a w hl hr hq
    have hall := ready_all hok hl hr
    have hz : (z.after.all fun e => !Region.binds md e || l.getD e.on false) = true := by
      rw [Array.all_eq_true_iff_forall_mem]
      intro e he
      rw [getD_tf (by have := k3 e he; omega) (hall e.on (k3 e he)), Bool.or_true]
    have hrf := ready_push (ops := ops) (z := z) (md := md) l hl
    rw [hr, if_pos hz, List.nil_append] at hrf
    refine ⟨fun h0 => (by rw [hrf] at h0; cases h0), fun i hi => ?_⟩
    rw [hrf] at hi
    obtain rfl : i = ops.size := by simpa using hi
    refine wpOp_mono (fun a' w' h => wpAny_end (ready_none fun j hj => ?_) h fuel) hq
    rw [Array.size_push] at hj
    simp only [Array.getD_eq_getD_getElem?, Array.getElem?_setIfInBounds, Array.getElem?_push, Array.size_push]
    by_cases hj2 : ops.size = j
    · subst hj2
      simp [hl]
    · have h9 := hall j (by omega)
      rw [Array.getD_eq_getD_getElem?] at h9
      have h8 : ¬ j = l.size := by omega
      simp only [hj2, h8, if_false]
      exact h9
  intro fuel
  induction fuel with
  | zero => intro l a w hl hcl h; exact last 0 l a w hl h.1 h.2
  | succ fuel ih =>
    intro l a w hl hcl h
    by_cases hr : Region.ready md ops l = []
    · exact last (fuel + 1) l a w hl hr (h.1 hr)
    · obtain ⟨j, hj⟩ := List.exists_mem_of_ne_nil _ hr
      have hjm := hj
      unfold Region.ready at hjm
      rw [List.mem_filter] at hjm
      have hjn := List.mem_range.1 hjm.1
      have hjl : l.getD j true = false := by
        have := hjm.2
        simp only [Bool.and_eq_true, Bool.not_eq_true'] at this
        exact this.1
      have hz : ¬ (z.after.all fun e => !Region.binds md e || l.getD e.on false) = true := by
        intro hall
        have := all_listed hok hcl hall (ops.size - j - 1) j (by omega)
        simp only [Array.getD_eq_getD_getElem?, Array.getElem?_eq_getElem (show j < l.size by omega), Option.getD_some] at this hjl
        rw [this] at hjl
        cases hjl
      have hrf := ready_push (ops := ops) (z := z) (md := md) l hl
      rw [if_neg hz, List.append_nil] at hrf
      refine ⟨fun h0 => (by rw [hrf] at h0; exact absurd h0 hr), fun i hi => ?_⟩
      rw [hrf] at hi
      have hin : i < ops.size := by
        unfold Region.ready at hi
        exact List.mem_range.1 (List.mem_filter.1 hi).1
      have hop := h.2 i hi
      have ho : ops[i]? = some ops[i] := Array.getElem?_eq_getElem hin
      have hof : (ops.push z)[i]? = some ops[i] := by rw [Array.getElem?_push, if_neg (by omega)]; exact ho
      have hg := (k1 i _ ho).1
      have w1 : ∀ (full : Array Oper), Region.wanted ops[i] (yielded full a.tmps) = true := fun full => by simp [Region.wanted, hg]
      have hq : ∀ (e : Exit) (a : Act) (w : World), e ≠ .normal → tailQ P (ops.push z) Q ops.size e a w → Q e a w := fun e a w hne h => by
        cases e <;> first | exact h | exact absurd rfl hne
      unfold wpOp at hop ⊢
      simp only [ho, w1, if_true] at hop
      simp only [hof, w1, if_true]
      rw [set_push l (by omega)]
      have hcl2 : Closed2 md ops (l.setIfInBounds i true) := by
        have hmono : ∀ x, l.getD x false = true → (l.setIfInBounds i true).getD x false = true := fun x hx => by
          simp only [Array.getD_eq_getD_getElem?, Array.getElem?_setIfInBounds] at hx ⊢
          by_cases hxi : i = x
          · subst hxi; simp [show i < l.size by omega]
          · rw [if_neg hxi]; exact hx
        intro x o' ho' hx e he hb
        by_cases hxi : i = x
        · subst hxi
          apply hmono
          have hi9 := hi
          unfold Region.ready at hi9
          rw [List.mem_filter, ho'] at hi9
          have := hi9.2
          simp only [Bool.and_eq_true, Option.map_some, Option.getD_some, Array.all_eq_true_iff_forall_mem] at this
          have h8 := this.2 e he
          rw [hb] at h8
          simpa using h8
        · apply hmono
          refine hcl x o' ho' ?_ e he hb
          simp only [Array.getD_eq_getD_getElem?, Array.getElem?_setIfInBounds, if_neg hxi] at hx ⊢
          exact hx
      rcases hop with hop | ⟨has, a9, w9, hlo⟩
      · exact .inl (upon_q hq (Oper.wp_mono (fun a' w' h9 => ih _ a' w' (by simpa using hl) hcl2 h9) hop))
      · exact .inr ⟨has, a9, w9, hq _ _ _ (by simp) hlo⟩

/-- THE BEGINNING: the others are walked in every order with S held, then the last one. -/
theorem wp_region_tail {id : Nat} {a : Act} {w : World} {S : World → Prop} (hm : P.follows .mixedOrders = true) (hok : tailOk .any ops z = true) (hS : S w.drew)
    (h : S w.drew → wpAnyH P .any ops (tailQ P (ops.push z) Q ops.size) S ops.size (Array.replicate ops.size false) a w.drew) : (Code.region id (ops.push z) true).wp P Q a w := by
  refine wp_region_any hm ?_
  have h9 := tail_any (Q := Q) hok ops.size (Array.replicate ops.size false) a w.drew (by simp) (fun i o ho hx => by
    simp only [Array.getD_eq_getD_getElem?, Array.getElem?_replicate] at hx
    split at hx <;> simp at hx) (wpAny_of_held _ _ _ _ (h hS))
  rw [Array.size_push]
  have hrep : (Array.replicate ops.size false).push false = Array.replicate (ops.size + 1) false := by simp [Array.replicate_succ]
  rw [hrep] at h9
  exact h9

/-- The last one is run. -/
theorem tailQ_run {full : Array Oper} {n : Nat} {o : Oper} {a : Act} {w : World} (ho : full[n]? = some o) (hg : o.guard = none) (h : o.wp P a w (fun a' w' => Q .normal a' w') Q) : tailQ P full Q n .normal a w := by
  show wpOp P full Q n _ a w
  unfold wpOp
  simp only [ho, show Region.wanted o (yielded full a.tmps) = true by simp [Region.wanted, hg], if_true]
  exact .inl h

/-- The same, of a region that is written out. -/
theorem wp_region_last {id : Nat} {full : List Oper} {a : Act} {w : World} {S : World → Prop} (hm : P.follows .mixedOrders = true) (hne : full ≠ []) (hok : tailOk .any full.dropLast.toArray (full.getLast hne) = true) (hS : S w.drew)
    (h : S w.drew → wpAnyH P .any full.dropLast.toArray (tailQ P full.toArray Q full.dropLast.length) S full.dropLast.length (Array.replicate full.dropLast.length false) a w.drew) : (Code.region id full.toArray true).wp P Q a w := by
  have e : full.toArray = full.dropLast.toArray.push (full.getLast hne) := by rw [List.push_toArray, List.dropLast_concat_getLast]
  rw [e]
  refine wp_region_tail hm hok hS ?_
  rw [← e]
  simpa using h

end
end Go.Proofs.YthbbahagpmdooaaGreatDoor

/- The model's copies of halls and guilds (l4Copy, l8Copy): what they read as, in memory of the call's own. Conditions: the slices can be read; what each theorem names. -/
namespace Go.Proofs.YthbbahagpmdooaaGreatDoor
open Go.ChangeShapes Go.WideShapes Go.ChangeAt Go.RowKit Go.Sort
set_option linter.unusedVariables false
set_option linter.unusedSimpArgs false

def encPace (p : PaceV) : List Value := [.int .i64 p.1, .int .i64 p.2]
theorem encPace_len (p : PaceV) : (encPace p).length = 2 := rfl
theorem tyPace : RecTy 132 2 (.agg #[.int .i64 0, .int .i64 0]) encPace := ⟨by kernel_rfl, rfl, encPace_len, by omega, by omega, fun x u hu => by
  simp only [encPace, List.mem_cons, List.not_mem_nil, or_false] at hu
  rcases hu with rfl | rfl <;> rfl⟩
theorem IsPaces.rec {w : World} {v : Value} {ps : List PaceV} (h : IsPaces w v ps) : IsRec 2 encPace w v ps := by
  obtain ⟨a, cap, rfl, hc, hm, hr⟩ := h
  refine ⟨a, cap, rfl, hc, hm, ?_⟩
  rcases hr with hr | ⟨b, off, rfl, hlt, hcl⟩
  · exact .inl hr
  · refine .inr ⟨b, off, rfl, hlt, fun j hj i u hu => ?_⟩
    obtain ⟨c0, c1⟩ := hcl j hj
    have e : recAt ps j = paceAt ps j := by unfold recAt paceAt; simp [List.getD, hj]
    rw [e] at hu
    match i, hu with
    | 0, hu => obtain rfl : u = _ := by simpa [encPace] using hu.symm
               exact c0
    | 1, hu => obtain rfl : u = _ := by simpa [encPace] using hu.symm
               exact c1
    | i + 2, hu => simp [encPace] at hu

theorem own_shape {B t sz n : Nat} {w : World} {v : Value} {xs : List Value} (h : w.ownsRow B t sz v n xs) : ∃ a cap, v = .slice a n cap := by
  rcases h.2 with ⟨rfl, hz⟩ | ⟨g, cap, cur, rfl, _⟩
  · exact ⟨none, 0, by rw [hz]⟩
  · exact ⟨_, cap, rfl⟩
theorem run_append_room {w : World} {base t ty : Nat} (ht : Tryz.prog.underlying t = some (.slice 130)) {v : Value} {n : Nat} {xs : List Value} (hown : w.ownsRow base 130 2 v n xs) {g c : Nat} {rb : Int} {pv : Value} (h0 : w.cell? ⟨g, 0, none⟩ = some (.int .i64 rb)) (h1 : w.cell? ⟨g, 1, none⟩ = some pv) (h1c : pv.oneCell' = true) (hn : n ≤ 4000) (hbase : base ≤ w.heap.size) :
    ∃ v' w', (Builtin.append_ #[t, t] ty #[v, .slice (some ⟨g, 0, none⟩) 1 c]).run Tryz.prog w = .ok v' w' ∧ w'.ownsRow base 130 2 v' (n + 1) (xs ++ [.int .i64 rb, pv]) ∧ w.grownBy w' v.ownBlock ∧ (v'.ownBlock = v.ownBlock ∨ v'.ownBlock = some w.heap.size) := by
  obtain ⟨i0, hi, hz0, hz1, hz2⟩ := parts_of infoRoom2
  obtain ⟨v', w', hr, h2, h3, _, h5⟩ := run_append_own_at (P := Tryz.prog) w base t ty 130 i0 (.agg #[.int .i64 0, .slice none 0 0]) 2 32 ht hi hz0 hz1 hz2 rfl (by omega) v n xs hown ⟨g, 0, none⟩ 1 c [.int .i64 rb, pv] rfl
    (fun j u hu => by
      match j, hu with
      | 0, hu => obtain rfl : u = _ := by simpa using hu.symm
                 rw [addr_to]; exact h0
      | 1, hu => obtain rfl : u = _ := by simpa using hu.symm
                 rw [addr_to]; exact h1
      | j + 2, hu => simp at hu)
    (fun u hu => by
      simp only [List.mem_cons, List.not_mem_nil, or_false] at hu
      rcases hu with rfl | rfl
      · rfl
      · exact h1c) (by simp only [maxLen]; omega) (by omega) hbase
  exact ⟨v', w', hr, h2, h3, h5⟩
/-- At a step of a region that draws its order: an append whose run is known. -/
theorem step_append_run {ops : Array Oper} {o : Oper} {a : Act} {w : World} {K : Act → World → Prop} {Q : Exit → Act → World → Prop} {E : Prop} (hgd : o.guard = none) (s x : Operand) (t : TypeId)
    (ho : o.op = .call { callee := .builtin .append, args := #[s, x], argTypes := #[t, t] }) {v u v' : Value} {w' : World} (hs : a.eval s = v) (hx : a.eval x = u) (hrun : (Builtin.append_ #[t, t] o.type #[v, u]).run Tryz.prog w = .ok v' w')
    (h : K (a.put o.dst v') w') : if Region.wanted o (yielded ops a.tmps) = true then Oper.wp Tryz.prog o a w K Q else E := by
  have hw : Region.wanted o (yielded ops a.tmps) = true := by simp [Region.wanted, hgd]
  rw [if_pos hw]
  unfold Oper.wp execOp
  simp only [ho, resolve, invoke, builtin, Sem.run_bind, Sem.run_pure, Result.andThen_ok, List.map_toArray, List.map_cons, List.map_nil, hs, hx, hrun]
  exact h

set_option maxRecDepth 100000 in
set_option maxHeartbeats 4000000 in
theorem l4Copy_any {w : World} {v : Value} {rs : List RoomV} (h : IsRooms w v rs) (hl : rs.length ≤ 1000) (hp : ∀ r ∈ rs, r.2.length ≤ 1000) :
    Calls Tryz.prog 106 #[.agg #[v]] w fun e w' => ∃ v' qs, e = .returned (.agg #[v']) ∧ qs.map (·.1) = rs ∧ OwnHall w.heap.size w' v' qs ∧ Below w.heap.size w w' := by
  have Hv := hide h
  obtain ⟨a, cap, rfl, hc, hm, hr⟩ := h
  have Hr := hide hr
  have HP := hide hp
  clear hr hp
  go_enter Tryz.func106, Tryz.ntmps106
  go_wp2_with fail
  go_loopw [4] (fun i wr => ∃ (k : Nat) (u : Value) (qs : List (RoomV × Value)), k ≤ rs.length ∧ i = .int .i64 k ∧ Blk wr (w.heap.size + 1 + 1) 26 #[u] ∧ Blk wr w.heap.size 26 #[.slice a rs.length cap] ∧ Blk wr (w.heap.size + 1) 26 #[.slice none 0 0] ∧ OwnHall (w.heap.size + 3) wr u qs ∧ qs.map (·.1) = rs.take k ∧ Below w.heap.size w wr) (fun i _ => rs.length - (intOf i).toNat)
  case atStart =>
    refine ⟨0, _, [], Nat.zero_le _, rfl, ?_, ((Blk.new w _ _).alloc _).alloc _, ?_, OwnHall.nil _ _, rfl, (((Below.refl _ _).alloc (Nat.le_refl _) _).alloc (by simp) _).alloc (by simp; omega) _⟩
    · have k := Blk.new ((w.alloc (.cells #[.slice a rs.length cap] 26)).alloc (.cells #[.slice none 0 0] 26)) 26 #[.slice none 0 0]
      rw [World.size_alloc, World.size_alloc] at k
      exact k
    · have k := Blk.new (w.alloc (.cells #[.slice a rs.length cap] 26)) 26 #[.slice none 0 0]
      rw [World.size_alloc] at k
      exact k.alloc _
  case round =>
    obtain ⟨k, u, qs, hk, rfl, ko, ka, kr, ho, hq, hb⟩ := hrel
    have hql : qs.length = k := by have := congrArg List.length hq; simp at this; omega
    obtain ⟨ua, uc, rfl⟩ := ho.shape
    have Hql := hide hql
    rw [hql] at ko ho
    clear hql
    have Ko := hide ko
    have Ka := hide ka
    have Kr := hide kr
    have Ho := hide ho
    have Hq := hide hq
    have Hb := hide hb
    have x0 := ko.cell (i := 0) rfl
    have f0 := ko.free 0
    have y0 := ka.cell (i := 0) rfl
    have hsz := ko.lt
    by_cases hlt : k < rs.length
    · rcases unhide Hr with e0 | ⟨b, off, rfl, hbw, hcl⟩
      · rw [e0] at hlt; simp at hlt
      obtain ⟨c0, pv, c1, hpv⟩ := hcl k hlt
      rw [← hb.cell (p := ⟨b, off + k * 2, none⟩) hbw] at c0
      rw [← hb.cell (p := ⟨b, off + k * 2 + 1, none⟩) hbw] at c1
      have Hpv := hide (hpv.below (hb.mono (Nat.le_refl _)))
      have hpl := unhide HP (roomAt rs k) (by unfold roomAt; simp [List.getD, hlt])
      have Htk : Hid (rs.take (k + 1) = rs.take k ++ [roomAt rs k]) := hide (by rw [List.take_succ_eq_append_getElem hlt]; unfold roomAt; simp [List.getD, hlt])
      generalize roomAt rs k = r at *
      obtain ⟨n, ps⟩ := r
      simp only at c0 hpl hpv
      obtain ⟨pa, pc, rfl, _, _, _⟩ := hpv
      have hbw' : b < wr.heap.size := by have := hb.size; omega
      clear hcl ko ka kr ho hq hb
      have x1 := ((unhide Ko).alloc (.cells #[] 132)).cell (i := 0) rfl
      have f1 := ((unhide Ko).alloc (.cells #[] 132)).free 0
      have y1 := ((unhide Ka).alloc (.cells #[] 132)).cell (i := 0) rfl
      have c2 := (((Below.refl wr.heap.size wr).alloc (Nat.le_refl _) (.cells #[] 132)).cell (p := ⟨b, off + k * 2, none⟩) hbw').trans c0
      have c3 := (((Below.refl wr.heap.size wr).alloc (Nat.le_refl _) (.cells #[] 132)).cell (p := ⟨b, off + k * 2 + 1, none⟩) hbw').trans c1
      have HA : Hid (Below wr.heap.size wr (wr.alloc (.cells #[] 132))) := hide ((Below.refl wr.heap.size wr).alloc (Nat.le_refl _) _)
      obtain ⟨v4, w4, hrun4, hown4, hg4, hat4⟩ := run_append_recs tyPace (w := (wr.alloc (.cells #[] 132)).drew) (t := 128) (ty := 128) (base := wr.heap.size) Tryz.underlying128 (RecAt.later (recs_empty (w := wr) rfl (Nat.le_refl _)) (Below.refl _ _).drew) (IsPaces.rec ((unhide Hpv).below (unhide HA).drew)) (by simp; omega) (by simp)
      rw [List.nil_append] at hown4
      have X4 : Below wr.heap.size wr w4 := (unhide HA).drew.trans ((Below.refl _ _).grown hg4 (by simp) (fun i e => by cases e; exact Nat.le_refl _))
      obtain ⟨pa4, pc4, rfl⟩ := RecAt.shape hown4
      have hk4 := (unhide Ko).below X4 (unhide Ko).lt
      have hz4 := X4.size
      have r0 := hk4.cell (i := 0) rfl
      have r1 := hk4.free 0
      have hk5 := hk4.alloc (.cells #[.int .i64 n, .slice pa4 ps.length pc4] 130)
      have r2 := hk5.cell (i := 0) rfl
      have r3 := (X4.cell (p := ⟨b, off + k * 2, none⟩) hbw').trans c0
      have r4 := ((unhide Ka).below X4 (unhide Ka).lt).cell (i := 0) rfl
      have r5 := (((unhide Ka).below X4 (unhide Ka).lt).alloc (.cells #[.int .i64 n, .slice pa4 ps.length pc4] 130)).cell (i := 0) rfl
      have HO4 := hide hown4
      have HX4 := hide X4
      obtain ⟨v5, w5, hrun5, hown5, hg5, hat5⟩ := run_append_room (w := w4.alloc (.cells #[.int .i64 n, .slice pa4 ps.length pc4] 130)) (t := 24) (ty := 24) (base := w.heap.size + 3) (v := .slice ua k uc) (n := k) (xs := rcells qs) Tryz.underlying24 (World.ownsRow.alloc (by have h9 := ((unhide Ho).later (unhide HX4)).row; rw [unhide Hql] at h9; exact h9) _) (g := w4.heap.size) (c := 1) (cell_new w4 (i := 0) rfl) (cell_new w4 (i := 1) rfl) rfl (by omega) (by simp; omega)
      obtain ⟨a5, c5, rfl⟩ := own_shape hown5
      have hn5 : ∀ i, (Value.slice ua k uc).ownBlock = some i → w.heap.size + 3 ≤ i := fun i e => ((unhide Ho).lt (.inl e)).1
      have hk6 := hk5.same (w' := w5) (hg5.block _ hk5.lt (fun e => by have := hn5 _ e.symm; omega))
      have s0 := hk6.cell (i := 0) rfl
      have s1 := hk6.free 0
      have HK6 := hide hk6
      have HO5 := hide hown5
      have HG5 := hide hg5
      have HA5 := hide hat5
      have X5 : Hid (Below (w.heap.size + 1 + 1 + 1) wr w5) := hide (by
        have q1 : Below wr.heap.size wr w4 := unhide HX4
        have q2 : Below w4.heap.size w4 (w4.alloc (.cells #[.int .i64 n, .slice pa4 ps.length pc4] 130)) := (Below.refl _ _).alloc (Nat.le_refl _) _
        have q3 : Below (w.heap.size + 1 + 1 + 1) (w4.alloc (.cells #[.int .i64 n, .slice pa4 ps.length pc4] 130)) w5 := (Below.refl _ _).grown (unhide HG5) (by have := q1.size; simp; omega) (fun i e => by have := ((unhide Ho).lt (.inl e)).1; omega)
        exact ((q1.mono (by omega)).trans (q2.mono (by have := q1.size; omega))).trans q3)
      have hp5 : OwnHall (w.heap.size + 3) w5 (.slice a5 (k + 1) c5) (qs ++ [((n, ps), .slice pa4 ps.length pc4)]) := by
        have q1 : OwnHall (w.heap.size + 3) w4 (.slice ua k uc) qs := (unhide Ho).later (unhide HX4)
        have q2 : PacesAt wr.heap.size w4 (.slice pa4 ps.length pc4) ps := unhide HO4
        have q3 : PacesAt (w.heap.size + 3) w4 (.slice pa4 ps.length pc4) ps := q2.mono (by omega)
        refine OwnHall.push (w := w4) (w1 := w5) (v := .slice ua k uc) (o := .cells #[.int .i64 n, .slice pa4 ps.length pc4] 130) q1 q3 ?_ ?_ ?_ (unhide HG5) (unhide HA5)
        · intro b' e e'
          have h8 := (q2.lt e).1
          have h9 := ((unhide Ho).lt (.inl e')).2
          omega
        · intro q hq' b' e e'
          have h8 := (q2.lt e').1
          have h9 := ((unhide Ho).lt (.inr ⟨q, hq', e⟩)).2
          omega
        · rw [unhide Hql]; exact unhide HO5
      have HP5 := hide hp5
      have z0 := ((unhide Ka).below (unhide X5) (by omega)).cell (i := 0) rfl
      have z1 := ((unhide X5).cell (p := ⟨b, off + k * 2, none⟩) (show b < w.heap.size + 1 + 1 + 1 by omega)).trans c0
      have z2 := ((unhide X5).cell (p := ⟨b, off + k * 2 + 1, none⟩) (show b < w.heap.size + 1 + 1 + 1 by omega)).trans c1
      have r6 := ((unhide HX4).cell (p := ⟨b, off + k * 2 + 1, none⟩) hbw').trans c1
      have r7 : (w4.alloc (.cells #[.int .i64 n, .slice pa4 ps.length pc4] 130)).cell? ⟨b, off + k * 2, none⟩ = some (.int .i64 n) := (((Below.refl w4.heap.size w4).alloc (Nat.le_refl _) _).cell (p := ⟨b, off + k * 2, none⟩) (by show b < w4.heap.size; omega)).trans r3
      have r8 : (w4.alloc (.cells #[.int .i64 n, .slice pa4 ps.length pc4] 130)).cell? ⟨b, off + k * 2 + 1, none⟩ = some (.slice pa ps.length pc) := (((Below.refl w4.heap.size w4).alloc (Nat.le_refl _) _).cell (p := ⟨b, off + k * 2 + 1, none⟩) (by show b < w4.heap.size; omega)).trans r6
      have t0 : (w5.setCell ⟨w.heap.size + 1 + 1, 0, none⟩ (.slice a5 (k + 1) c5)).cell? ⟨w.heap.size, 0, none⟩ = some (.slice (some ⟨b, off, none⟩) rs.length cap) := (World.cell?_setCell_other _ _ _ _ (by simp)).trans z0
      have t1 : (w5.setCell ⟨w.heap.size + 1 + 1, 0, none⟩ (.slice a5 (k + 1) c5)).cell? ⟨b, off + k * 2, none⟩ = some (.int .i64 n) := (World.cell?_setCell_other _ _ _ _ (fun e => by have := congrArg Addr.block e; simp at this; omega)).trans z1
      have t2 : (w5.setCell ⟨w.heap.size + 1 + 1, 0, none⟩ (.slice a5 (k + 1) c5)).cell? ⟨b, off + k * 2 + 1, none⟩ = some (.slice pa ps.length pc) := (World.cell?_setCell_other _ _ _ _ (fun e => by have := congrArg Addr.block e; simp at this; omega)).trans z2
      have R4 := hide hrun4
      have R5 := hide hrun5
      clear hown5 hg5 hat5 hk5 hn5 hk6 hown4 X4 hg4 hat4 hk4 hrun4 hrun5 hp5
      go_wp2_with fail
      refine wp_region_last (S := fun w' => w'.cell? ⟨w.heap.size, 0, none⟩ = some (.slice (some ⟨b, off, none⟩) rs.length cap) ∧ w'.cell? ⟨w.heap.size + 1 + 1, 0, none⟩ = some (.slice ua k uc) ∧ w'.cell? ⟨b, off + k * 2, none⟩ = some (.int .i64 n) ∧ w'.cell? ⟨b, off + k * 2 + 1, none⟩ = some (.slice pa ps.length pc)) (by kernel_rfl) (List.cons_ne_nil _ _) (by kernel_rfl) ⟨y0, x0, c0, c1⟩ (fun hHeld => ?_)
      simp only [List.dropLast_cons_cons, List.dropLast_singleton, List.length_cons, List.length_nil, Nat.zero_add, Nat.reduceAdd]
      (refine wpAnyH_take (i := 0) (v := ?_) rfl (by kernel_rfl) (by kernel_rfl) (by kernel_rfl) (fun _ _ _ h => h) (Or.inl ⟨by rfl, ?_⟩) (by assumption) ?_; rotate_left; (intro W9 hSw; (try dsimp only at hSw); go_simp; (try with_reducible rfl)); (try simp only [Act.put, List.setIfInBounds_toArray, List.set_cons_zero, List.set_cons_succ]))
      (refine wpAnyH_take (i := 1) (v := ?_) rfl (by kernel_rfl) (by kernel_rfl) (by kernel_rfl) (fun _ _ _ h => h) (Or.inl ⟨by rfl, ?_⟩) (by assumption) ?_; rotate_left; (intro W9 hSw; (try dsimp only at hSw); go_simp; (try with_reducible rfl)); (try simp only [Act.put, List.setIfInBounds_toArray, List.set_cons_zero, List.set_cons_succ]))
      (refine wpAnyH_take (i := 2) (v := ?_) rfl (by kernel_rfl) (by kernel_rfl) (by kernel_rfl) (fun _ _ _ h => h) (Or.inl ⟨by rfl, ?_⟩) (by assumption) ?_; rotate_left; (intro W9 hSw; (try dsimp only at hSw); go_simp; (try with_reducible rfl)); (try simp only [Act.put, List.setIfInBounds_toArray, List.set_cons_zero, List.set_cons_succ]))
      (refine wpAnyH_take (i := 3) (v := ?_) rfl (by kernel_rfl) (by kernel_rfl) (by kernel_rfl) (fun _ _ _ h => h) (Or.inl ⟨by rfl, ?_⟩) (by assumption) ?_; rotate_left; (intro W9 hSw; (try dsimp only at hSw); go_simp; (try with_reducible rfl)); (try simp only [Act.put, List.setIfInBounds_toArray, List.set_cons_zero, List.set_cons_succ]))
      (refine wpAnyH_take (i := 4) (v := ?_) rfl (by kernel_rfl) (by kernel_rfl) (by kernel_rfl) (fun _ _ _ h => h) (Or.inl ⟨by rfl, ?_⟩) (by assumption) ?_; rotate_left; (intro W9 hSw; (try dsimp only at hSw); go_simp; (try with_reducible rfl)); (try simp only [Act.put, List.setIfInBounds_toArray, List.set_cons_zero, List.set_cons_succ]))
      (refine wpAnyH_take (i := 5) (v := ?_) rfl (by kernel_rfl) (by kernel_rfl) (by kernel_rfl) (fun _ _ _ h => h) (Or.inl ⟨by rfl, ?_⟩) (by assumption) ?_; rotate_left; (intro W9 hSw; (try dsimp only at hSw); go_simp; (try with_reducible rfl)); (try simp only [Act.put, List.setIfInBounds_toArray, List.set_cons_zero, List.set_cons_succ]))
      (refine wpAnyH_take (i := 6) (v := ?_) rfl (by kernel_rfl) (by kernel_rfl) (by kernel_rfl) (fun _ _ _ h => h) (Or.inl ⟨by rfl, ?_⟩) (by assumption) ?_; rotate_left; (intro W9 hSw; (try dsimp only at hSw); go_simp; (try with_reducible rfl)); (try simp only [Act.put, List.setIfInBounds_toArray, List.set_cons_zero, List.set_cons_succ]))
      (refine wpAnyH_take (i := 7) (v := ?_) rfl (by kernel_rfl) (by kernel_rfl) (by kernel_rfl) (fun _ _ _ h => h) (Or.inl ⟨by rfl, ?_⟩) (by assumption) ?_; rotate_left; (intro W9 hSw; (try dsimp only at hSw); go_simp; (try with_reducible rfl)); (try simp only [Act.put, List.setIfInBounds_toArray, List.set_cons_zero, List.set_cons_succ]))
      (refine wpAnyH_take (i := 9) (v := ?_) rfl (by kernel_rfl) (by kernel_rfl) (by kernel_rfl) (fun _ _ _ h => h) (Or.inl ⟨by rfl, ?_⟩) (by assumption) ?_; rotate_left; (intro W9 hSw; (try dsimp only at hSw); go_simp; (try with_reducible rfl)); (try simp only [Act.put, List.setIfInBounds_toArray, List.set_cons_zero, List.set_cons_succ]))
      (refine wpAnyH_take (i := 10) (v := ?_) rfl (by kernel_rfl) (by kernel_rfl) (by kernel_rfl) (fun _ _ _ h => h) (Or.inl ⟨by rfl, ?_⟩) (by assumption) ?_; rotate_left; (intro W9 hSw; (try dsimp only at hSw); go_simp; (try with_reducible rfl)); (try simp only [Act.put, List.setIfInBounds_toArray, List.set_cons_zero, List.set_cons_succ]))
      (refine wpAnyH_take (i := 11) (v := ?_) rfl (by kernel_rfl) (by kernel_rfl) (by kernel_rfl) (fun _ _ _ h => h) (Or.inl ⟨by rfl, ?_⟩) (by assumption) ?_; rotate_left; (intro W9 hSw; (try dsimp only at hSw); go_simp; (try with_reducible rfl)); (try simp only [Act.put, List.setIfInBounds_toArray, List.set_cons_zero, List.set_cons_succ]))
      (refine wpAnyH_take (i := 12) (v := ?_) rfl (by kernel_rfl) (by kernel_rfl) (by kernel_rfl) (fun _ _ _ h => h) (Or.inl ⟨by rfl, ?_⟩) (by assumption) ?_; rotate_left; (intro W9 hSw; (try dsimp only at hSw); go_simp; (try with_reducible rfl)); (try simp only [Act.put, List.setIfInBounds_toArray, List.set_cons_zero, List.set_cons_succ]))
      (refine wpAnyH_take (i := 13) (v := ?_) rfl (by kernel_rfl) (by kernel_rfl) (by kernel_rfl) (fun _ _ _ h => h) (Or.inl ⟨by rfl, ?_⟩) (by assumption) ?_; rotate_left; (intro W9 hSw; (try dsimp only at hSw); go_simp; (try with_reducible rfl)); (try simp only [Act.put, List.setIfInBounds_toArray, List.set_cons_zero, List.set_cons_succ]))
      (refine wpAnyH_take (i := 14) (v := ?_) rfl (by kernel_rfl) (by kernel_rfl) (by kernel_rfl) (fun _ _ _ h => h) (Or.inl ⟨by rfl, ?_⟩) (by assumption) ?_; rotate_left; (intro W9 hSw; (try dsimp only at hSw); go_simp; (try with_reducible rfl)); (try simp only [Act.put, List.setIfInBounds_toArray, List.set_cons_zero, List.set_cons_succ]))
      refine wpAnyH_ready (rs := [8]) (by kernel_rfl) (by simp) ?_
      refine AllReadyH.cons rfl (fun K hK => ?_) AllReadyH.nil
      go_simp
      refine hK.out _ _ ⟨y1, x1, c2, c3⟩ (fun hHeld => ?_)
      clear hK K
      (try simp only [Act.put, List.setIfInBounds_toArray, List.set_cons_zero, List.set_cons_succ])
      refine wpAnyH_ready (rs := [15]) (by kernel_rfl) (by simp) ?_
      refine AllReadyH.cons rfl (fun K hK => ?_) AllReadyH.nil
      refine step_append_run rfl (.tmp 21) (.tmp 27) 128 rfl rfl rfl (unhide R4) ?_
      refine hK.out _ _ ⟨r4, r0, r3, r6⟩ (fun hHeld => ?_)
      clear hK K
      (try simp only [Act.put, List.setIfInBounds_toArray, List.set_cons_zero, List.set_cons_succ])
      (refine wpAnyH_take (i := 16) (v := ?_) rfl (by kernel_rfl) (by kernel_rfl) (by kernel_rfl) (fun _ _ _ h => h) (Or.inl ⟨by rfl, ?_⟩) (by assumption) ?_; rotate_left; (intro W9 hSw; (try dsimp only at hSw); go_simp; (try with_reducible rfl)); (try simp only [Act.put, List.setIfInBounds_toArray, List.set_cons_zero, List.set_cons_succ]))
      refine wpAnyH_ready (rs := [17]) (by kernel_rfl) (by simp) ?_
      refine AllReadyH.cons rfl (fun K hK => ?_) AllReadyH.nil
      go_simp
      refine hK.out _ _ ⟨r5, r2, r7, r8⟩ (fun hHeld => ?_)
      clear hK K
      (try simp only [Act.put, List.setIfInBounds_toArray, List.set_cons_zero, List.set_cons_succ])
      refine wpAnyH_ready (rs := [18]) (by kernel_rfl) (by simp) ?_
      refine AllReadyH.cons rfl (fun K hK => ?_) AllReadyH.nil
      refine step_append_run rfl (.tmp 14) (.tmp 30) 24 rfl rfl rfl (unhide R5) ?_
      refine hK.out _ _ ⟨z0, s0, z1, z2⟩ (fun hHeld => ?_)
      clear hK K
      (try simp only [Act.put, List.setIfInBounds_toArray, List.set_cons_zero, List.set_cons_succ])
      (refine wpAnyH_take (i := 19) (v := ?_) rfl (by kernel_rfl) (by kernel_rfl) (by kernel_rfl) (fun _ _ _ h => h) (Or.inl ⟨by rfl, ?_⟩) (by assumption) ?_; rotate_left; (intro W9 hSw; (try dsimp only at hSw); go_simp; (try with_reducible rfl)); (try simp only [Act.put, List.setIfInBounds_toArray, List.set_cons_zero, List.set_cons_succ]))
      refine wpAnyH_done (by kernel_rfl) ?_ _
      refine tailQ_run rfl rfl ?_
      go_simp
      clear hHeld
      go_wp2_with fail
      go_roundw
      case rel =>
        refine ⟨k + 1, .slice a5 (k + 1) c5, qs ++ [((n, ps), .slice pa4 ps.length pc4)], by omega, by go_num, ?_, ?_, ?_, ?_, by rw [List.map_append, unhide Hq, unhide Htk]; rfl, ?_⟩
        · have q := (unhide HK6).set 0 (.slice a5 (k + 1) c5)
          exact q
        · exact ((unhide Ka).below (unhide X5) (by omega)).other (by show w.heap.size ≠ w.heap.size + 1 + 1; omega) _
        · exact ((unhide Kr).below (unhide X5) (by omega)).other (by show w.heap.size + 1 ≠ w.heap.size + 1 + 1; omega) _
        · exact (unhide HP5).same fun i h0 hi => heap_setCell_other _ _ _ _ (by show i ≠ w.heap.size + 1 + 1; omega)
        · exact ((unhide Hb).trans ((unhide X5).mono (by omega))).setCell (by show _ ≤ w.heap.size + 1 + 1; omega) _
      case measure => simp [intOf]; omega
    · obtain rfl : k = rs.length := by omega
      have r0 := kr.cell (i := 0) rfl
      have r1 := kr.free 0
      go_wp2_with fail
      rw [List.take_length] at hq
      refine bodyPost_ret (v := .agg #[.slice ua rs.length uc]) (by simp [results, Tryz.results106, go_sem, *]) rfl ⟨_, qs, rfl, hq, ?_, ?_⟩
      · exact (ho.same fun i h0 hi => heap_setCell_other _ _ _ _ (by show i ≠ w.heap.size + 1; omega)).mono (by omega)
      · exact hb.setCell (by show _ ≤ w.heap.size + 1; omega) _

end Go.Proofs.YthbbahagpmdooaaGreatDoor

