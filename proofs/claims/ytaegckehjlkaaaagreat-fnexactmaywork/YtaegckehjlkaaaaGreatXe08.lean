/- What the proof rests on, part 8: lists and numbers, how they lie in memory, and contracts of the calls. No condition but those that a theorem names. -/
import Derived.Test.YtaegckehjlkaaaaGreatXe01
import Derived.Test.YtaegckehjlkaaaaGreatXe02
import Derived.Test.YtaegckehjlkaaaaGreatXe03
import Derived.Test.YtaegckehjlkaaaaGreatXe04
import Derived.Test.YtaegckehjlkaaaaGreatXe05
import Derived.Test.YtaegckehjlkaaaaGreatXe06
import Derived.Test.YtaegckehjlkaaaaGreatXe07
import Derived.Test.YtaegckehjlkaaaaGreatRows
import Derived.WalkKit
import Derived.OrdersHeld
import Derived.Deep.RegionHeldLaw
import Derived.Deep.DrawnRows
import Derived.BigRegion
import Derived.Deep.RegionLawGrows
import Derived.Deep.DeepCutAuto
import Derived.WalkMore
import Derived.Below
import Derived.ProofKit
import Derived.OpenShut
import Derived.Outline
import Derived.Deep.RegionHeld3
import Derived.Lib.QuietBelow
import Derived.Deep.RegionWith
import Derived.Deep.QuietTactic
import Derived.BigQuiet
import Derived.Laws.OwnMore
import Derived.OwnWalk
import Derived.Maps.AppendAt
import Derived.Lib.SmallJoins
import Derived.Deep.Fields
import Derived.Deep.Slices
import Derived.Laws.StructEq
/- A region that draws its order and whose last operation waits for all others: it is enough to walk the others in every order, and then the last one. No condition but those that a theorem names. -/
namespace Go.Proofs.YtaegckehjlkaaaaGreat
set_option linter.unusedVariables false

section
variable {P : Program} {ops : Array Oper} {z : Oper} {Q : Exit → Act → World → Prop} {md : Region.Mode}

/-- As Q; at the end of the others: the last one is run. -/
def tailQ (P : Program) (full : Array Oper) (Q : Exit → Act → World → Prop) (n : Nat) : Exit → Act → World → Prop
  | .normal, a, w => wpOp P full Q n (fun a' w' => Q .normal a' w') a w
  | e, a, w => Q e a w
/-- None is guarded and each waits for earlier ones alone; for each one the last one waits, or a later one. -/
def tailOk (md : Region.Mode) (ops : Array Oper) (z : Oper) : Bool :=
  (List.range ops.size).all (fun i => (ops[i]?).all fun o => o.guard.isNone && o.after.all fun e => decide (e.on < i)) && (List.range ops.size).all (fun i => (z.after.any fun e => Region.binds md e && decide (e.on = i)) || (List.range ops.size).any fun j => decide (i < j) && (ops[j]?).any fun o => o.after.any fun e => Region.binds md e && decide (e.on = i)) && z.after.all fun e => decide (e.on < ops.size)

theorem upon_q {Q' : Exit → Act → World → Prop} (hq : ∀ e a w, e ≠ .normal → Q' e a w → Q e a w) {o : Oper} {a : Act} {w : World} {K : Act → World → Prop} (h : o.wp P a w K Q') : o.wp P a w K Q := by
  have hl : LetsOut Q' → LetsOut Q := fun ⟨a, w, h⟩ => ⟨a, w, hq _ _ _ (by simp) h⟩
  unfold Oper.wp at *
  generalize (execOp a.eval o).run P w = r at *
  cases r with
  | ok n w' =>
    cases n <;> simp only [Oper.upon] at h ⊢ <;>
      first
        | exact h
        | exact Calls.mono h (fun e w'' he => by cases e <;> first | exact he | exact hq _ _ _ (by simp) he | exact hl he)
  | halt x w' =>
    cases x <;> simp only [Oper.upon] at h ⊢ <;> first | exact h | exact hq _ _ _ (by simp) h | exact hl h

theorem getD_push (l : Array Bool) (d : Bool) (i : Nat) : (l.push false).getD i d = if i = l.size then false else l.getD i d := by
  simp only [Array.getD_eq_getD_getElem?, Array.getElem?_push]
  split <;> rfl
theorem ready_push (l : Array Bool) (hl : l.size = ops.size) : Region.ready md (ops.push z) (l.push false) = Region.ready md ops l ++ (if (z.after.all fun e => !Region.binds md e || l.getD e.on false) = true then [ops.size] else []) := by
  have hout : ∀ j, (l.push false).getD j false = l.getD j false := fun j => by
    rw [getD_push]
    split
    · rename_i h; subst h; simp
    · rfl
  unfold Region.ready
  rw [Array.size_push, List.range_succ, List.filter_append]
  congr 1
  · refine List.filter_congr fun i hi => ?_
    have hi := List.mem_range.1 hi
    rw [getD_push, if_neg (by omega), Array.getElem?_push, if_neg (by omega)]
    simp only [hout]
  · simp only [List.filter_cons, List.filter_nil]
    rw [getD_push, if_pos hl.symm, Array.getElem?_push, if_pos rfl]
    simp only [hout, Bool.not_false, Bool.true_and, Option.map_some, Option.getD_some]
theorem set_push (l : Array Bool) {i : Nat} (hi : i < l.size) : (l.push false).setIfInBounds i true = (l.setIfInBounds i true).push false := by
  apply Array.ext_getElem?
  intro j
  simp only [Array.getElem?_setIfInBounds, Array.getElem?_push, Array.size_push, Array.size_setIfInBounds]
  by_cases h1 : i = j
  · subst h1
    have h2 : ¬ i = l.size := by omega
    have h3 : i < l.size + 1 := by omega
    simp [h2, h3, hi]
  · simp [h1]

theorem tailOk_of (h : tailOk md ops z = true) : (∀ (i : Nat) (o : Oper), ops[i]? = some o → o.guard = none ∧ ∀ e ∈ o.after, e.on < i) ∧ (∀ i, i < ops.size → (∃ e ∈ z.after, Region.binds md e = true ∧ e.on = i) ∨ ∃ (j : Nat) (o : Oper), i < j ∧ j < ops.size ∧ ops[j]? = some o ∧ ∃ e ∈ o.after, Region.binds md e = true ∧ e.on = i) ∧ ∀ e ∈ z.after, e.on < ops.size := by
  unfold tailOk at h
  simp only [Bool.and_eq_true, List.all_eq_true, List.mem_range] at h
  obtain ⟨⟨h1, h2⟩, h3⟩ := h
  refine ⟨fun i o ho => ?_, fun i hi => ?_, fun e he => ?_⟩
  · have hi : i < ops.size := by
      rcases Nat.lt_or_ge i ops.size with h | h
      · exact h
      · rw [Array.getElem?_eq_none h] at ho; cases ho
    have := h1 i hi
    rw [ho] at this
    simp only [Option.all_some, Bool.and_eq_true, Option.isNone_iff_eq_none, Array.all_eq_true_iff_forall_mem, decide_eq_true_eq] at this
    exact this
  · have := h2 i hi
    rw [Bool.or_eq_true] at this
    rcases this with this | this
    · obtain ⟨k, hk, h9⟩ := Array.any_eq_true.1 this
      simp only [Bool.and_eq_true, decide_eq_true_eq] at h9
      exact .inl ⟨_, Array.getElem_mem hk, h9.1, h9.2⟩
    · obtain ⟨j, hj, hja⟩ := List.any_eq_true.1 this
      have hj := List.mem_range.1 hj
      rw [Bool.and_eq_true, decide_eq_true_eq] at hja
      have ho : ops[j]? = some ops[j] := Array.getElem?_eq_getElem hj
      have h8 := hja.2
      rw [ho] at h8
      obtain ⟨k, hk, h9⟩ := Array.any_eq_true.1 h8
      simp only [Bool.and_eq_true, decide_eq_true_eq] at h9
      exact .inr ⟨j, _, hja.1, hj, ho, _, Array.getElem_mem hk, h9.1, h9.2⟩
  · simp only [Array.all_eq_true_iff_forall_mem, decide_eq_true_eq] at h3
    exact h3 e he
theorem getD_tf {l : Array Bool} {i : Nat} (hi : i < l.size) (h : l.getD i true = true) : l.getD i false = true := by
  simp only [Array.getD_eq_getD_getElem?, Array.getElem?_eq_getElem hi, Option.getD_some] at h ⊢
  exact h
/-- Where none may come up all have. -/
theorem ready_all (hok : tailOk md ops z = true) {l : Array Bool} (hl : l.size = ops.size) (hr : Region.ready md ops l = []) : ∀ i, i < ops.size → l.getD i true = true := by
  obtain ⟨h1, _, _⟩ := tailOk_of hok
  intro i
  induction i using Nat.strongRecOn with
  | _ i ih =>
    intro hi
    cases hg : l.getD i true
    · exfalso
      have ho : ops[i]? = some ops[i] := Array.getElem?_eq_getElem hi
      obtain ⟨_, ha⟩ := h1 i _ ho
      have hm : i ∈ Region.ready md ops l := by
        unfold Region.ready
        rw [List.mem_filter]
        refine ⟨List.mem_range.2 hi, ?_⟩
        rw [hg, ho]
        simp only [Bool.not_false, Bool.true_and, Option.map_some, Option.getD_some, Array.all_eq_true_iff_forall_mem]
        intro e he
        have hlt := ha e he
        rw [getD_tf (by omega) (ih e.on hlt (by omega)), Bool.or_true]
      rw [hr] at hm
      exact List.not_mem_nil hm
    · rfl
theorem ready_none {l : Array Bool} (h : ∀ i, i < ops.size → l.getD i true = true) : Region.ready md ops l = [] := by
  unfold Region.ready
  rw [List.filter_eq_nil_iff]
  intro i hi
  rw [h i (List.mem_range.1 hi)]
  simp
theorem wpAny_end {l : Array Bool} {a : Act} {w : World} (hr : Region.ready md ops l = []) (h : Q .normal a w) : ∀ fuel, wpAny P md ops Q fuel l a w
  | 0 => ⟨hr, h⟩
  | _ + 1 => ⟨fun _ => h, by rw [hr]; simp⟩

/-- What has come up has waited. -/
def Closed2 (md : Region.Mode) (ops : Array Oper) (l : Array Bool) : Prop := ∀ (i : Nat) (o : Oper), ops[i]? = some o → l.getD i false = true → ∀ e ∈ o.after, Region.binds md e = true → l.getD e.on false = true
theorem all_listed (hok : tailOk md ops z = true) {l : Array Bool} (hcl : Closed2 md ops l) (hz : (z.after.all fun e => !Region.binds md e || l.getD e.on false) = true) : ∀ d i, i + d + 1 = ops.size → l.getD i false = true := by
  obtain ⟨_, k2, _⟩ := tailOk_of hok
  rw [Array.all_eq_true_iff_forall_mem] at hz
  intro d
  induction d using Nat.strongRecOn with
  | _ d ih =>
    intro i hi
    rcases k2 i (by omega) with ⟨e, he, hb, rfl⟩ | ⟨j, o, hij, hj, ho, e, he, hb, rfl⟩
    · have := hz e he
      rw [hb] at this
      simpa using this
    · exact hcl j o ho (ih (ops.size - j - 1) (by omega) j (by omega)) e he hb

theorem tail_any (hok : tailOk md ops z = true) : ∀ (fuel : Nat) (l : Array Bool) (a : Act) (w : World), l.size = ops.size → Closed2 md ops l → wpAny P md ops (tailQ P (ops.push z) Q ops.size) fuel l a w → wpAny P md (ops.push z) Q (fuel + 1) (l.push false) a w := by
  obtain ⟨k1, k2, k3⟩ := tailOk_of hok
  -- all others have come up: the last one
  have last : ∀ (fuel : Nat) (l : Array Bool) (a : Act) (w : World), l.size = ops.size → Region.ready md ops l = [] → tailQ P (ops.push z) Q ops.size .normal a w → wpAny P md (ops.push z) Q (fuel + 1) (l.push false) a w := by
    intro fuel l a w hl hr hq
    have hall := ready_all hok hl hr
    have hz : (z.after.all fun e => !Region.binds md e || l.getD e.on false) = true := by
      rw [Array.all_eq_true_iff_forall_mem]
      intro e he
      rw [getD_tf (by have := k3 e he; omega) (hall e.on (k3 e he)), Bool.or_true]
    have hrf := ready_push (ops := ops) (z := z) (md := md) l hl
    rw [hr, if_pos hz, List.nil_append] at hrf
    refine ⟨fun h0 => (by rw [hrf] at h0; cases h0), fun i hi => ?_⟩
    rw [hrf] at hi
    obtain rfl : i = ops.size := by simpa using hi
    refine wpOp_mono (fun a' w' h => wpAny_end (ready_none fun j hj => ?_) h fuel) hq
    rw [Array.size_push] at hj
    simp only [Array.getD_eq_getD_getElem?, Array.getElem?_setIfInBounds, Array.getElem?_push, Array.size_push]
    by_cases hj2 : ops.size = j
    · subst hj2
      simp [hl]
    · have h9 := hall j (by omega)
      rw [Array.getD_eq_getD_getElem?] at h9
      have h8 : ¬ j = l.size := by omega
      simp only [hj2, h8, if_false]
      exact h9
  intro fuel
  induction fuel with
  | zero => intro l a w hl hcl h; exact last 0 l a w hl h.1 h.2
  | succ fuel ih =>
    intro l a w hl hcl h
    by_cases hr : Region.ready md ops l = []
    · exact last (fuel + 1) l a w hl hr (h.1 hr)
    · obtain ⟨j, hj⟩ := List.exists_mem_of_ne_nil _ hr
      have hjm := hj
      unfold Region.ready at hjm
      rw [List.mem_filter] at hjm
      have hjn := List.mem_range.1 hjm.1
      have hjl : l.getD j true = false := by
        have := hjm.2
        simp only [Bool.and_eq_true, Bool.not_eq_true'] at this
        exact this.1
      have hz : ¬ (z.after.all fun e => !Region.binds md e || l.getD e.on false) = true := by
        intro hall
        have := all_listed hok hcl hall (ops.size - j - 1) j (by omega)
        simp only [Array.getD_eq_getD_getElem?, Array.getElem?_eq_getElem (show j < l.size by omega), Option.getD_some] at this hjl
        rw [this] at hjl
        cases hjl
      have hrf := ready_push (ops := ops) (z := z) (md := md) l hl
      rw [if_neg hz, List.append_nil] at hrf
      refine ⟨fun h0 => (by rw [hrf] at h0; exact absurd h0 hr), fun i hi => ?_⟩
      rw [hrf] at hi
      have hin : i < ops.size := by
        unfold Region.ready at hi
        exact List.mem_range.1 (List.mem_filter.1 hi).1
      have hop := h.2 i hi
      have ho : ops[i]? = some ops[i] := Array.getElem?_eq_getElem hin
      have hof : (ops.push z)[i]? = some ops[i] := by rw [Array.getElem?_push, if_neg (by omega)]; exact ho
      have hg := (k1 i _ ho).1
      have w1 : ∀ (full : Array Oper), Region.wanted ops[i] (yielded full a.tmps) = true := fun full => by simp [Region.wanted, hg]
      have hq : ∀ (e : Exit) (a : Act) (w : World), e ≠ .normal → tailQ P (ops.push z) Q ops.size e a w → Q e a w := fun e a w hne h => by
        cases e <;> first | exact h | exact absurd rfl hne
      unfold wpOp at hop ⊢
      simp only [ho, w1, if_true] at hop
      simp only [hof, w1, if_true]
      rw [set_push l (by omega)]
      have hcl2 : Closed2 md ops (l.setIfInBounds i true) := by
        have hmono : ∀ x, l.getD x false = true → (l.setIfInBounds i true).getD x false = true := fun x hx => by
          simp only [Array.getD_eq_getD_getElem?, Array.getElem?_setIfInBounds] at hx ⊢
          by_cases hxi : i = x
          · subst hxi; simp [show i < l.size by omega]
          · rw [if_neg hxi]; exact hx
        intro x o' ho' hx e he hb
        by_cases hxi : i = x
        · subst hxi
          apply hmono
          have hi9 := hi
          unfold Region.ready at hi9
          rw [List.mem_filter, ho'] at hi9
          have := hi9.2
          simp only [Bool.and_eq_true, Option.map_some, Option.getD_some, Array.all_eq_true_iff_forall_mem] at this
          have h8 := this.2 e he
          rw [hb] at h8
          simpa using h8
        · apply hmono
          refine hcl x o' ho' ?_ e he hb
          simp only [Array.getD_eq_getD_getElem?, Array.getElem?_setIfInBounds, if_neg hxi] at hx ⊢
          exact hx
      rcases hop with hop | ⟨has, a9, w9, hlo⟩
      · exact .inl (upon_q hq (Oper.wp_mono (fun a' w' h9 => ih _ a' w' (by simpa using hl) hcl2 h9) hop))
      · exact .inr ⟨has, a9, w9, hq _ _ _ (by simp) hlo⟩

/-- THE BEGINNING: the others are walked in every order with S held, then the last one. -/
theorem wp_region_tail {id : Nat} {a : Act} {w : World} {S : World → Prop} (hm : P.follows .mixedOrders = true) (hok : tailOk .any ops z = true) (hS : S w.drew)
    (h : S w.drew → wpAnyH P .any ops (tailQ P (ops.push z) Q ops.size) S ops.size (Array.replicate ops.size false) a w.drew) : (Code.region id (ops.push z) true).wp P Q a w := by
  refine wp_region_any hm ?_
  have h9 := tail_any (Q := Q) hok ops.size (Array.replicate ops.size false) a w.drew (by simp) (fun i o ho hx => by
    simp only [Array.getD_eq_getD_getElem?, Array.getElem?_replicate] at hx
    split at hx <;> simp at hx) (wpAny_of_held _ _ _ _ (h hS))
  rw [Array.size_push]
  have hrep : (Array.replicate ops.size false).push false = Array.replicate (ops.size + 1) false := by simp [Array.replicate_succ]
  rw [hrep] at h9
  exact h9

/-- The last one is run. -/
theorem tailQ_run {full : Array Oper} {n : Nat} {o : Oper} {a : Act} {w : World} (ho : full[n]? = some o) (hg : o.guard = none) (h : o.wp P a w (fun a' w' => Q .normal a' w') Q) : tailQ P full Q n .normal a w := by
  show wpOp P full Q n _ a w
  unfold wpOp
  simp only [ho, show Region.wanted o (yielded full a.tmps) = true by simp [Region.wanted, hg], if_true]
  exact .inl h

/-- The same, of a region that is written out. -/
theorem wp_region_last {id : Nat} {full : List Oper} {a : Act} {w : World} {S : World → Prop} (hm : P.follows .mixedOrders = true) (hne : full ≠ []) (hok : tailOk .any full.dropLast.toArray (full.getLast hne) = true) (hS : S w.drew)
    (h : S w.drew → wpAnyH P .any full.dropLast.toArray (tailQ P full.toArray Q full.dropLast.length) S full.dropLast.length (Array.replicate full.dropLast.length false) a w.drew) : (Code.region id full.toArray true).wp P Q a w := by
  have e : full.toArray = full.dropLast.toArray.push (full.getLast hne) := by rw [List.push_toArray, List.dropLast_concat_getLast]
  rw [e]
  refine wp_region_tail hm hok hS ?_
  rw [← e]
  simpa using h

end
end Go.Proofs.YtaegckehjlkaaaaGreat

/- The model's copies of halls and guilds (l4Copy, l8Copy): what they read as, in memory of the call's own. Conditions: the slices can be read; what each theorem names. -/
namespace Go.Proofs.YtaegckehjlkaaaaGreat
open Go.ChangeShapes Go.WideShapes Go.ChangeAt Go.RowKit Go.Sort
set_option linter.unusedVariables false
set_option linter.unusedSimpArgs false

def encPace (p : PaceV) : List Value := [.int .i64 p.1, .int .i64 p.2]
theorem encPace_len (p : PaceV) : (encPace p).length = 2 := rfl
theorem tyPace : RecTy 144 2 (.agg #[.int .i64 0, .int .i64 0]) encPace := ⟨by kernel_rfl, rfl, encPace_len, by omega, by omega, fun x u hu => by
  simp only [encPace, List.mem_cons, List.not_mem_nil, or_false] at hu
  rcases hu with rfl | rfl <;> rfl⟩
theorem IsPaces.rec {w : World} {v : Value} {ps : List PaceV} (h : IsPaces w v ps) : IsRec 2 encPace w v ps := by
  obtain ⟨a, cap, rfl, hc, hm, hr⟩ := h
  refine ⟨a, cap, rfl, hc, hm, ?_⟩
  rcases hr with hr | ⟨b, off, rfl, hlt, hcl⟩
  · exact .inl hr
  · refine .inr ⟨b, off, rfl, hlt, fun j hj i u hu => ?_⟩
    obtain ⟨c0, c1⟩ := hcl j hj
    have e : recAt ps j = paceAt ps j := by unfold recAt paceAt; simp [List.getD, hj]
    rw [e] at hu
    match i, hu with
    | 0, hu => obtain rfl : u = _ := by simpa [encPace] using hu.symm
               exact c0
    | 1, hu => obtain rfl : u = _ := by simpa [encPace] using hu.symm
               exact c1
    | i + 2, hu => simp [encPace] at hu

theorem own_shape {B t sz n : Nat} {w : World} {v : Value} {xs : List Value} (h : w.ownsRow B t sz v n xs) : ∃ a cap, v = .slice a n cap := by
  rcases h.2 with ⟨rfl, hz⟩ | ⟨g, cap, cur, rfl, _⟩
  · exact ⟨none, 0, by rw [hz]⟩
  · exact ⟨_, cap, rfl⟩
theorem run_append_room {w : World} {base t ty : Nat} (ht : Tryz.prog.underlying t = some (.slice 140)) {v : Value} {n : Nat} {xs : List Value} (hown : w.ownsRow base 140 2 v n xs) {g c : Nat} {rb : Int} {pv : Value} (h0 : w.cell? ⟨g, 0, none⟩ = some (.int .i64 rb)) (h1 : w.cell? ⟨g, 1, none⟩ = some pv) (h1c : pv.oneCell' = true) (hn : n ≤ 4000) (hbase : base ≤ w.heap.size) :
    ∃ v' w', (Builtin.append_ #[t, t] ty #[v, .slice (some ⟨g, 0, none⟩) 1 c]).run Tryz.prog w = .ok v' w' ∧ w'.ownsRow base 140 2 v' (n + 1) (xs ++ [.int .i64 rb, pv]) ∧ w.grownBy w' v.ownBlock ∧ (v'.ownBlock = v.ownBlock ∨ v'.ownBlock = some w.heap.size) := by
  obtain ⟨i0, hi, hz0, hz1, hz2⟩ := parts_of infoRoom2
  obtain ⟨v', w', hr, h2, h3, _, h5⟩ := run_append_own_at (P := Tryz.prog) w base t ty 140 i0 (.agg #[.int .i64 0, .slice none 0 0]) 2 32 ht hi hz0 hz1 hz2 rfl (by omega) v n xs hown ⟨g, 0, none⟩ 1 c [.int .i64 rb, pv] rfl
    (fun j u hu => by
      match j, hu with
      | 0, hu => obtain rfl : u = _ := by simpa using hu.symm
                 rw [addr_to]; exact h0
      | 1, hu => obtain rfl : u = _ := by simpa using hu.symm
                 rw [addr_to]; exact h1
      | j + 2, hu => simp at hu)
    (fun u hu => by
      simp only [List.mem_cons, List.not_mem_nil, or_false] at hu
      rcases hu with rfl | rfl
      · rfl
      · exact h1c) (by simp only [maxLen]; omega) (by omega) hbase
  exact ⟨v', w', hr, h2, h3, h5⟩
/-- At a step of a region that draws its order: an append whose run is known. -/
theorem step_append_run {ops : Array Oper} {o : Oper} {a : Act} {w : World} {K : Act → World → Prop} {Q : Exit → Act → World → Prop} {E : Prop} (hgd : o.guard = none) (s x : Operand) (t : TypeId)
    (ho : o.op = .call { callee := .builtin .append, args := #[s, x], argTypes := #[t, t] }) {v u v' : Value} {w' : World} (hs : a.eval s = v) (hx : a.eval x = u) (hrun : (Builtin.append_ #[t, t] o.type #[v, u]).run Tryz.prog w = .ok v' w')
    (h : K (a.put o.dst v') w') : if Region.wanted o (yielded ops a.tmps) = true then Oper.wp Tryz.prog o a w K Q else E := by
  have hw : Region.wanted o (yielded ops a.tmps) = true := by simp [Region.wanted, hgd]
  rw [if_pos hw]
  unfold Oper.wp execOp
  simp only [ho, resolve, invoke, builtin, Sem.run_bind, Sem.run_pure, Result.andThen_ok, List.map_toArray, List.map_cons, List.map_nil, hs, hx, hrun]
  exact h

set_option maxRecDepth 100000 in
set_option maxHeartbeats 4000000 in
theorem l4Copy_any {w : World} {v : Value} {rs : List RoomV} (h : IsRooms w v rs) (hl : rs.length ≤ 1000) (hp : ∀ r ∈ rs, r.2.length ≤ 1000) :
    Calls Tryz.prog 200 #[.agg #[v]] w fun e w' => ∃ v' qs, e = .returned (.agg #[v']) ∧ qs.map (·.1) = rs ∧ OwnHall w.heap.size w' v' qs ∧ Below w.heap.size w w' := by
  have Hv := hide h
  obtain ⟨a, cap, rfl, hc, hm, hr⟩ := h
  have Hr := hide hr
  have HP := hide hp
  clear hr hp
  go_enter Tryz.func200, Tryz.ntmps200
  go_wp2_with fail
  go_loopw [4] (fun i wr => ∃ (k : Nat) (u : Value) (qs : List (RoomV × Value)), k ≤ rs.length ∧ i = .int .i64 k ∧ Blk wr (w.heap.size + 1 + 1) 26 #[u] ∧ Blk wr w.heap.size 26 #[.slice a rs.length cap] ∧ Blk wr (w.heap.size + 1) 26 #[.slice none 0 0] ∧ OwnHall (w.heap.size + 3) wr u qs ∧ qs.map (·.1) = rs.take k ∧ Below w.heap.size w wr) (fun i _ => rs.length - (intOf i).toNat)
  case atStart =>
    refine ⟨0, _, [], Nat.zero_le _, rfl, ?_, ((Blk.new w _ _).alloc _).alloc _, ?_, OwnHall.nil _ _, rfl, (((Below.refl _ _).alloc (Nat.le_refl _) _).alloc (by simp) _).alloc (by simp; omega) _⟩
    · have k := Blk.new ((w.alloc (.cells #[.slice a rs.length cap] 26)).alloc (.cells #[.slice none 0 0] 26)) 26 #[.slice none 0 0]
      rw [World.size_alloc, World.size_alloc] at k
      exact k
    · have k := Blk.new (w.alloc (.cells #[.slice a rs.length cap] 26)) 26 #[.slice none 0 0]
      rw [World.size_alloc] at k
      exact k.alloc _
  case round =>
    obtain ⟨k, u, qs, hk, rfl, ko, ka, kr, ho, hq, hb⟩ := hrel
    have hql : qs.length = k := by have := congrArg List.length hq; simp at this; omega
    obtain ⟨ua, uc, rfl⟩ := ho.shape
    have Hql := hide hql
    rw [hql] at ko ho
    clear hql
    have Ko := hide ko
    have Ka := hide ka
    have Kr := hide kr
    have Ho := hide ho
    have Hq := hide hq
    have Hb := hide hb
    have x0 := ko.cell (i := 0) rfl
    have f0 := ko.free 0
    have y0 := ka.cell (i := 0) rfl
    have hsz := ko.lt
    by_cases hlt : k < rs.length
    · rcases unhide Hr with e0 | ⟨b, off, rfl, hbw, hcl⟩
      · rw [e0] at hlt; simp at hlt
      obtain ⟨c0, pv, c1, hpv⟩ := hcl k hlt
      rw [← hb.cell (p := ⟨b, off + k * 2, none⟩) hbw] at c0
      rw [← hb.cell (p := ⟨b, off + k * 2 + 1, none⟩) hbw] at c1
      have Hpv := hide (hpv.below (hb.mono (Nat.le_refl _)))
      have hpl := unhide HP (roomAt rs k) (by unfold roomAt; simp [List.getD, hlt])
      have Htk : Hid (rs.take (k + 1) = rs.take k ++ [roomAt rs k]) := hide (by rw [List.take_succ_eq_append_getElem hlt]; unfold roomAt; simp [List.getD, hlt])
      generalize roomAt rs k = r at *
      obtain ⟨n, ps⟩ := r
      simp only at c0 hpl hpv
      obtain ⟨pa, pc, rfl, _, _, _⟩ := hpv
      have hbw' : b < wr.heap.size := by have := hb.size; omega
      clear hcl ko ka kr ho hq hb
      have x1 := ((unhide Ko).alloc (.cells #[] 144)).cell (i := 0) rfl
      have f1 := ((unhide Ko).alloc (.cells #[] 144)).free 0
      have y1 := ((unhide Ka).alloc (.cells #[] 144)).cell (i := 0) rfl
      have c2 := (((Below.refl wr.heap.size wr).alloc (Nat.le_refl _) (.cells #[] 144)).cell (p := ⟨b, off + k * 2, none⟩) hbw').trans c0
      have c3 := (((Below.refl wr.heap.size wr).alloc (Nat.le_refl _) (.cells #[] 144)).cell (p := ⟨b, off + k * 2 + 1, none⟩) hbw').trans c1
      have HA : Hid (Below wr.heap.size wr (wr.alloc (.cells #[] 144))) := hide ((Below.refl wr.heap.size wr).alloc (Nat.le_refl _) _)
      obtain ⟨v4, w4, hrun4, hown4, hg4, hat4⟩ := run_append_recs tyPace (w := (wr.alloc (.cells #[] 144)).drew) (t := 138) (ty := 138) (base := wr.heap.size) Tryz.underlying138 (RecAt.later (recs_empty (w := wr) rfl (Nat.le_refl _)) (Below.refl _ _).drew) (IsPaces.rec ((unhide Hpv).below (unhide HA).drew)) (by simp; omega) (by simp)
      rw [List.nil_append] at hown4
      have X4 : Below wr.heap.size wr w4 := (unhide HA).drew.trans ((Below.refl _ _).grown hg4 (by simp) (fun i e => by cases e; exact Nat.le_refl _))
      obtain ⟨pa4, pc4, rfl⟩ := RecAt.shape hown4
      have hk4 := (unhide Ko).below X4 (unhide Ko).lt
      have hz4 := X4.size
      have r0 := hk4.cell (i := 0) rfl
      have r1 := hk4.free 0
      have hk5 := hk4.alloc (.cells #[.int .i64 n, .slice pa4 ps.length pc4] 140)
      have r2 := hk5.cell (i := 0) rfl
      have r3 := (X4.cell (p := ⟨b, off + k * 2, none⟩) hbw').trans c0
      have r4 := ((unhide Ka).below X4 (unhide Ka).lt).cell (i := 0) rfl
      have r5 := (((unhide Ka).below X4 (unhide Ka).lt).alloc (.cells #[.int .i64 n, .slice pa4 ps.length pc4] 140)).cell (i := 0) rfl
      have HO4 := hide hown4
      have HX4 := hide X4
      obtain ⟨v5, w5, hrun5, hown5, hg5, hat5⟩ := run_append_room (w := w4.alloc (.cells #[.int .i64 n, .slice pa4 ps.length pc4] 140)) (t := 24) (ty := 24) (base := w.heap.size + 3) (v := .slice ua k uc) (n := k) (xs := rcells qs) Tryz.underlying24 (World.ownsRow.alloc (by have h9 := ((unhide Ho).later (unhide HX4)).row; rw [unhide Hql] at h9; exact h9) _) (g := w4.heap.size) (c := 1) (cell_new w4 (i := 0) rfl) (cell_new w4 (i := 1) rfl) rfl (by omega) (by simp; omega)
      obtain ⟨a5, c5, rfl⟩ := own_shape hown5
      have hn5 : ∀ i, (Value.slice ua k uc).ownBlock = some i → w.heap.size + 3 ≤ i := fun i e => ((unhide Ho).lt (.inl e)).1
      have hk6 := hk5.same (w' := w5) (hg5.block _ hk5.lt (fun e => by have := hn5 _ e.symm; omega))
      have s0 := hk6.cell (i := 0) rfl
      have s1 := hk6.free 0
      have HK6 := hide hk6
      have HO5 := hide hown5
      have HG5 := hide hg5
      have HA5 := hide hat5
      have X5 : Hid (Below (w.heap.size + 1 + 1 + 1) wr w5) := hide (by
        have q1 : Below wr.heap.size wr w4 := unhide HX4
        have q2 : Below w4.heap.size w4 (w4.alloc (.cells #[.int .i64 n, .slice pa4 ps.length pc4] 140)) := (Below.refl _ _).alloc (Nat.le_refl _) _
        have q3 : Below (w.heap.size + 1 + 1 + 1) (w4.alloc (.cells #[.int .i64 n, .slice pa4 ps.length pc4] 140)) w5 := (Below.refl _ _).grown (unhide HG5) (by have := q1.size; simp; omega) (fun i e => by have := ((unhide Ho).lt (.inl e)).1; omega)
        exact ((q1.mono (by omega)).trans (q2.mono (by have := q1.size; omega))).trans q3)
      have hp5 : OwnHall (w.heap.size + 3) w5 (.slice a5 (k + 1) c5) (qs ++ [((n, ps), .slice pa4 ps.length pc4)]) := by
        have q1 : OwnHall (w.heap.size + 3) w4 (.slice ua k uc) qs := (unhide Ho).later (unhide HX4)
        have q2 : PacesAt wr.heap.size w4 (.slice pa4 ps.length pc4) ps := unhide HO4
        have q3 : PacesAt (w.heap.size + 3) w4 (.slice pa4 ps.length pc4) ps := q2.mono (by omega)
        refine OwnHall.push (w := w4) (w1 := w5) (v := .slice ua k uc) (o := .cells #[.int .i64 n, .slice pa4 ps.length pc4] 140) q1 q3 ?_ ?_ ?_ (unhide HG5) (unhide HA5)
        · intro b' e e'
          have h8 := (q2.lt e).1
          have h9 := ((unhide Ho).lt (.inl e')).2
          omega
        · intro q hq' b' e e'
          have h8 := (q2.lt e').1
          have h9 := ((unhide Ho).lt (.inr ⟨q, hq', e⟩)).2
          omega
        · rw [unhide Hql]; exact unhide HO5
      have HP5 := hide hp5
      have z0 := ((unhide Ka).below (unhide X5) (by omega)).cell (i := 0) rfl
      have z1 := ((unhide X5).cell (p := ⟨b, off + k * 2, none⟩) (show b < w.heap.size + 1 + 1 + 1 by omega)).trans c0
      have z2 := ((unhide X5).cell (p := ⟨b, off + k * 2 + 1, none⟩) (show b < w.heap.size + 1 + 1 + 1 by omega)).trans c1
      have r6 := ((unhide HX4).cell (p := ⟨b, off + k * 2 + 1, none⟩) hbw').trans c1
      have r7 : (w4.alloc (.cells #[.int .i64 n, .slice pa4 ps.length pc4] 140)).cell? ⟨b, off + k * 2, none⟩ = some (.int .i64 n) := (((Below.refl w4.heap.size w4).alloc (Nat.le_refl _) _).cell (p := ⟨b, off + k * 2, none⟩) (by show b < w4.heap.size; omega)).trans r3
      have r8 : (w4.alloc (.cells #[.int .i64 n, .slice pa4 ps.length pc4] 140)).cell? ⟨b, off + k * 2 + 1, none⟩ = some (.slice pa ps.length pc) := (((Below.refl w4.heap.size w4).alloc (Nat.le_refl _) _).cell (p := ⟨b, off + k * 2 + 1, none⟩) (by show b < w4.heap.size; omega)).trans r6
      have t0 : (w5.setCell ⟨w.heap.size + 1 + 1, 0, none⟩ (.slice a5 (k + 1) c5)).cell? ⟨w.heap.size, 0, none⟩ = some (.slice (some ⟨b, off, none⟩) rs.length cap) := (World.cell?_setCell_other _ _ _ _ (by simp)).trans z0
      have t1 : (w5.setCell ⟨w.heap.size + 1 + 1, 0, none⟩ (.slice a5 (k + 1) c5)).cell? ⟨b, off + k * 2, none⟩ = some (.int .i64 n) := (World.cell?_setCell_other _ _ _ _ (fun e => by have := congrArg Addr.block e; simp at this; omega)).trans z1
      have t2 : (w5.setCell ⟨w.heap.size + 1 + 1, 0, none⟩ (.slice a5 (k + 1) c5)).cell? ⟨b, off + k * 2 + 1, none⟩ = some (.slice pa ps.length pc) := (World.cell?_setCell_other _ _ _ _ (fun e => by have := congrArg Addr.block e; simp at this; omega)).trans z2
      have R4 := hide hrun4
      have R5 := hide hrun5
      clear hown5 hg5 hat5 hk5 hn5 hk6 hown4 X4 hg4 hat4 hk4 hrun4 hrun5 hp5
      go_wp2_with fail
      refine wp_region_last (S := fun w' => w'.cell? ⟨w.heap.size, 0, none⟩ = some (.slice (some ⟨b, off, none⟩) rs.length cap) ∧ w'.cell? ⟨w.heap.size + 1 + 1, 0, none⟩ = some (.slice ua k uc) ∧ w'.cell? ⟨b, off + k * 2, none⟩ = some (.int .i64 n) ∧ w'.cell? ⟨b, off + k * 2 + 1, none⟩ = some (.slice pa ps.length pc)) (by kernel_rfl) (List.cons_ne_nil _ _) (by kernel_rfl) ⟨y0, x0, c0, c1⟩ (fun hHeld => ?_)
      simp only [List.dropLast_cons_cons, List.dropLast_singleton, List.length_cons, List.length_nil, Nat.zero_add, Nat.reduceAdd]
      (refine wpAnyH_take (i := 0) (v := ?_) rfl (by kernel_rfl) (by kernel_rfl) (by kernel_rfl) (fun _ _ _ h => h) (Or.inl ⟨by rfl, ?_⟩) (by assumption) ?_; rotate_left; (intro W9 hSw; (try dsimp only at hSw); go_simp; (try with_reducible rfl)); (try simp only [Act.put, List.setIfInBounds_toArray, List.set_cons_zero, List.set_cons_succ]))
      (refine wpAnyH_take (i := 1) (v := ?_) rfl (by kernel_rfl) (by kernel_rfl) (by kernel_rfl) (fun _ _ _ h => h) (Or.inl ⟨by rfl, ?_⟩) (by assumption) ?_; rotate_left; (intro W9 hSw; (try dsimp only at hSw); go_simp; (try with_reducible rfl)); (try simp only [Act.put, List.setIfInBounds_toArray, List.set_cons_zero, List.set_cons_succ]))
      (refine wpAnyH_take (i := 2) (v := ?_) rfl (by kernel_rfl) (by kernel_rfl) (by kernel_rfl) (fun _ _ _ h => h) (Or.inl ⟨by rfl, ?_⟩) (by assumption) ?_; rotate_left; (intro W9 hSw; (try dsimp only at hSw); go_simp; (try with_reducible rfl)); (try simp only [Act.put, List.setIfInBounds_toArray, List.set_cons_zero, List.set_cons_succ]))
      (refine wpAnyH_take (i := 3) (v := ?_) rfl (by kernel_rfl) (by kernel_rfl) (by kernel_rfl) (fun _ _ _ h => h) (Or.inl ⟨by rfl, ?_⟩) (by assumption) ?_; rotate_left; (intro W9 hSw; (try dsimp only at hSw); go_simp; (try with_reducible rfl)); (try simp only [Act.put, List.setIfInBounds_toArray, List.set_cons_zero, List.set_cons_succ]))
      (refine wpAnyH_take (i := 4) (v := ?_) rfl (by kernel_rfl) (by kernel_rfl) (by kernel_rfl) (fun _ _ _ h => h) (Or.inl ⟨by rfl, ?_⟩) (by assumption) ?_; rotate_left; (intro W9 hSw; (try dsimp only at hSw); go_simp; (try with_reducible rfl)); (try simp only [Act.put, List.setIfInBounds_toArray, List.set_cons_zero, List.set_cons_succ]))
      (refine wpAnyH_take (i := 5) (v := ?_) rfl (by kernel_rfl) (by kernel_rfl) (by kernel_rfl) (fun _ _ _ h => h) (Or.inl ⟨by rfl, ?_⟩) (by assumption) ?_; rotate_left; (intro W9 hSw; (try dsimp only at hSw); go_simp; (try with_reducible rfl)); (try simp only [Act.put, List.setIfInBounds_toArray, List.set_cons_zero, List.set_cons_succ]))
      (refine wpAnyH_take (i := 6) (v := ?_) rfl (by kernel_rfl) (by kernel_rfl) (by kernel_rfl) (fun _ _ _ h => h) (Or.inl ⟨by rfl, ?_⟩) (by assumption) ?_; rotate_left; (intro W9 hSw; (try dsimp only at hSw); go_simp; (try with_reducible rfl)); (try simp only [Act.put, List.setIfInBounds_toArray, List.set_cons_zero, List.set_cons_succ]))
      (refine wpAnyH_take (i := 7) (v := ?_) rfl (by kernel_rfl) (by kernel_rfl) (by kernel_rfl) (fun _ _ _ h => h) (Or.inl ⟨by rfl, ?_⟩) (by assumption) ?_; rotate_left; (intro W9 hSw; (try dsimp only at hSw); go_simp; (try with_reducible rfl)); (try simp only [Act.put, List.setIfInBounds_toArray, List.set_cons_zero, List.set_cons_succ]))
      (refine wpAnyH_take (i := 9) (v := ?_) rfl (by kernel_rfl) (by kernel_rfl) (by kernel_rfl) (fun _ _ _ h => h) (Or.inl ⟨by rfl, ?_⟩) (by assumption) ?_; rotate_left; (intro W9 hSw; (try dsimp only at hSw); go_simp; (try with_reducible rfl)); (try simp only [Act.put, List.setIfInBounds_toArray, List.set_cons_zero, List.set_cons_succ]))
      (refine wpAnyH_take (i := 10) (v := ?_) rfl (by kernel_rfl) (by kernel_rfl) (by kernel_rfl) (fun _ _ _ h => h) (Or.inl ⟨by rfl, ?_⟩) (by assumption) ?_; rotate_left; (intro W9 hSw; (try dsimp only at hSw); go_simp; (try with_reducible rfl)); (try simp only [Act.put, List.setIfInBounds_toArray, List.set_cons_zero, List.set_cons_succ]))
      (refine wpAnyH_take (i := 11) (v := ?_) rfl (by kernel_rfl) (by kernel_rfl) (by kernel_rfl) (fun _ _ _ h => h) (Or.inl ⟨by rfl, ?_⟩) (by assumption) ?_; rotate_left; (intro W9 hSw; (try dsimp only at hSw); go_simp; (try with_reducible rfl)); (try simp only [Act.put, List.setIfInBounds_toArray, List.set_cons_zero, List.set_cons_succ]))
      (refine wpAnyH_take (i := 12) (v := ?_) rfl (by kernel_rfl) (by kernel_rfl) (by kernel_rfl) (fun _ _ _ h => h) (Or.inl ⟨by rfl, ?_⟩) (by assumption) ?_; rotate_left; (intro W9 hSw; (try dsimp only at hSw); go_simp; (try with_reducible rfl)); (try simp only [Act.put, List.setIfInBounds_toArray, List.set_cons_zero, List.set_cons_succ]))
      (refine wpAnyH_take (i := 13) (v := ?_) rfl (by kernel_rfl) (by kernel_rfl) (by kernel_rfl) (fun _ _ _ h => h) (Or.inl ⟨by rfl, ?_⟩) (by assumption) ?_; rotate_left; (intro W9 hSw; (try dsimp only at hSw); go_simp; (try with_reducible rfl)); (try simp only [Act.put, List.setIfInBounds_toArray, List.set_cons_zero, List.set_cons_succ]))
      (refine wpAnyH_take (i := 14) (v := ?_) rfl (by kernel_rfl) (by kernel_rfl) (by kernel_rfl) (fun _ _ _ h => h) (Or.inl ⟨by rfl, ?_⟩) (by assumption) ?_; rotate_left; (intro W9 hSw; (try dsimp only at hSw); go_simp; (try with_reducible rfl)); (try simp only [Act.put, List.setIfInBounds_toArray, List.set_cons_zero, List.set_cons_succ]))
      refine wpAnyH_ready (rs := [8]) (by kernel_rfl) (by simp) ?_
      refine AllReadyH.cons rfl (fun K hK => ?_) AllReadyH.nil
      go_simp
      refine hK.out _ _ ⟨y1, x1, c2, c3⟩ (fun hHeld => ?_)
      clear hK K
      (try simp only [Act.put, List.setIfInBounds_toArray, List.set_cons_zero, List.set_cons_succ])
      refine wpAnyH_ready (rs := [15]) (by kernel_rfl) (by simp) ?_
      refine AllReadyH.cons rfl (fun K hK => ?_) AllReadyH.nil
      refine step_append_run rfl (.tmp 21) (.tmp 27) 138 rfl rfl rfl (unhide R4) ?_
      refine hK.out _ _ ⟨r4, r0, r3, r6⟩ (fun hHeld => ?_)
      clear hK K
      (try simp only [Act.put, List.setIfInBounds_toArray, List.set_cons_zero, List.set_cons_succ])
      (refine wpAnyH_take (i := 16) (v := ?_) rfl (by kernel_rfl) (by kernel_rfl) (by kernel_rfl) (fun _ _ _ h => h) (Or.inl ⟨by rfl, ?_⟩) (by assumption) ?_; rotate_left; (intro W9 hSw; (try dsimp only at hSw); go_simp; (try with_reducible rfl)); (try simp only [Act.put, List.setIfInBounds_toArray, List.set_cons_zero, List.set_cons_succ]))
      refine wpAnyH_ready (rs := [17]) (by kernel_rfl) (by simp) ?_
      refine AllReadyH.cons rfl (fun K hK => ?_) AllReadyH.nil
      go_simp
      refine hK.out _ _ ⟨r5, r2, r7, r8⟩ (fun hHeld => ?_)
      clear hK K
      (try simp only [Act.put, List.setIfInBounds_toArray, List.set_cons_zero, List.set_cons_succ])
      refine wpAnyH_ready (rs := [18]) (by kernel_rfl) (by simp) ?_
      refine AllReadyH.cons rfl (fun K hK => ?_) AllReadyH.nil
      refine step_append_run rfl (.tmp 14) (.tmp 30) 24 rfl rfl rfl (unhide R5) ?_
      refine hK.out _ _ ⟨z0, s0, z1, z2⟩ (fun hHeld => ?_)
      clear hK K
      (try simp only [Act.put, List.setIfInBounds_toArray, List.set_cons_zero, List.set_cons_succ])
      (refine wpAnyH_take (i := 19) (v := ?_) rfl (by kernel_rfl) (by kernel_rfl) (by kernel_rfl) (fun _ _ _ h => h) (Or.inl ⟨by rfl, ?_⟩) (by assumption) ?_; rotate_left; (intro W9 hSw; (try dsimp only at hSw); go_simp; (try with_reducible rfl)); (try simp only [Act.put, List.setIfInBounds_toArray, List.set_cons_zero, List.set_cons_succ]))
      refine wpAnyH_done (by kernel_rfl) ?_ _
      refine tailQ_run rfl rfl ?_
      go_simp
      clear hHeld
      go_wp2_with fail
      go_roundw
      case rel =>
        refine ⟨k + 1, .slice a5 (k + 1) c5, qs ++ [((n, ps), .slice pa4 ps.length pc4)], by omega, by go_num, ?_, ?_, ?_, ?_, by rw [List.map_append, unhide Hq, unhide Htk]; rfl, ?_⟩
        · have q := (unhide HK6).set 0 (.slice a5 (k + 1) c5)
          exact q
        · exact ((unhide Ka).below (unhide X5) (by omega)).other (by show w.heap.size ≠ w.heap.size + 1 + 1; omega) _
        · exact ((unhide Kr).below (unhide X5) (by omega)).other (by show w.heap.size + 1 ≠ w.heap.size + 1 + 1; omega) _
        · exact (unhide HP5).same fun i h0 hi => heap_setCell_other _ _ _ _ (by show i ≠ w.heap.size + 1 + 1; omega)
        · exact ((unhide Hb).trans ((unhide X5).mono (by omega))).setCell (by show _ ≤ w.heap.size + 1 + 1; omega) _
      case measure => simp [intOf]; omega
    · obtain rfl : k = rs.length := by omega
      have r0 := kr.cell (i := 0) rfl
      have r1 := kr.free 0
      go_wp2_with fail
      rw [List.take_length] at hq
      refine bodyPost_ret (v := .agg #[.slice ua rs.length uc]) (by simp [results, Tryz.results200, go_sem, *]) rfl ⟨_, qs, rfl, hq, ?_, ?_⟩
      · exact (ho.same fun i h0 hi => heap_setCell_other _ _ _ _ (by show i ≠ w.heap.size + 1; omega)).mono (by omega)
      · exact hb.setCell (by show _ ≤ w.heap.size + 1; omega) _

end Go.Proofs.YtaegckehjlkaaaaGreat

/- The model's copy of a smithy (l11Copy): it reads as the smithy does, in memory of the call's own, no two rows of it in one block. Conditions: the smithy can be read; nothing in it is longer than a thousand. -/
namespace Go.Proofs.YtaegckehjlkaaaaGreat
open Go.ChangeShapes Go.WideShapes Go.ChangeAt Go.RowKit Go.Sort
set_option linter.unusedVariables false

theorem tyG : RecTy 154 3 (.agg #[.int .i64 0, .int .i64 0, .int .i64 0]) encGuild := ⟨by kernel_rfl, rfl, encGuild_len, by omega, by omega, fun x u hu => by
  simp only [encGuild, List.mem_cons, List.not_mem_nil, or_false] at hu
  rcases hu with rfl | rfl | rfl <;> rfl⟩
theorem tyS : RecTy 41 11 (.agg #[.int .i64 0, .int .i64 0, .int .i64 0, .int .i64 0, .int .i64 0, .int .i64 0, .int .i64 0, .int .i64 0, .int .i64 0, .int .i64 0, .int .i64 0]) encSmith := ⟨by kernel_rfl, rfl, encSmith_len, by omega, by omega, fun x u hu => by
  simp only [encSmith, List.mem_cons, List.not_mem_nil, or_false] at hu
  rcases hu with rfl | rfl | rfl | rfl | rfl | rfl | rfl | rfl | rfl | rfl | rfl <;> rfl⟩
theorem tyD : RecTy 59 3 (.agg #[.bool false, .int .i64 0, .int .i64 0]) encDesk := ⟨by kernel_rfl, rfl, encDesk_len, by omega, by omega, fun x u hu => by
  simp only [encDesk, List.mem_cons, List.not_mem_nil, or_false] at hu
  rcases hu with rfl | rfl | rfl <;> rfl⟩
theorem tyN : RecTy 2 1 (.int .i64 0) encNum := ⟨by kernel_rfl, rfl, encNum_len, by omega, by omega, fun x u hu => by
  simp only [encNum, List.mem_cons, List.not_mem_nil, or_false] at hu
  rcases hu with rfl <;> rfl⟩

/-- Nothing in it is longer than a thousand. -/
structure Few (m : SmyV) : Prop where
  rooms : m.rooms.length ≤ 1000
  paces : ∀ r ∈ m.rooms, r.2.length ≤ 1000
  guilds : m.guilds.length ≤ 1000
  smiths : m.smiths.length ≤ 800
  desks : m.desks.length ≤ 1000
  nums : m.paces.length ≤ 1000

theorem full_of {n₀ : Nat} {w : World} {v0 v1 v2 v3 v4 : Value} {m : SmyV} {qs : List (RoomV × Value)} (s0 s1 s2 s3 : Nat) (hh : OwnHall n₀ w v0 qs) (hr : qs.map (·.1) = m.rooms) (hg : GuildsAt n₀ w v1 m.guilds) (hs : SmithsAt n₀ w v2 m.smiths) (hd : DesksAt n₀ w v3 m.desks) (hp : NumsAt n₀ w v4 m.paces)
    (l0 : ∀ b, (v0.ownBlock = some b ∨ ∃ q ∈ qs, q.2.ownBlock = some b) → b < s0) (l1 : ∀ b, v1.ownBlock = some b → s0 ≤ b ∧ b < s1) (l2 : ∀ b, v2.ownBlock = some b → s1 ≤ b ∧ b < s2) (l3 : ∀ b, v3.ownBlock = some b → s2 ≤ b ∧ b < s3) (l4 : ∀ b, v4.ownBlock = some b → s3 ≤ b) (h1 : s0 ≤ s1) (h2 : s1 ≤ s2) (h3 : s2 ≤ s3) :
    FullSmy n₀ w v0 v1 v2 v3 v4 m qs := by
  refine ⟨hh, hr, hg, hs, hd, hp, ⟨?_, ?_⟩, ⟨?_, ?_⟩, ⟨?_, ?_⟩, ⟨?_, ?_⟩, ?_, ?_, ?_, ?_, ?_, ?_⟩
  · intro b e e'; have := (l1 b e).1; have := l0 b (.inl e'); omega
  · intro q hq b e e'; have := (l1 b e).1; have := l0 b (.inr ⟨q, hq, e'⟩); omega
  · intro b e e'; have := (l2 b e).1; have := l0 b (.inl e'); omega
  · intro q hq b e e'; have := (l2 b e).1; have := l0 b (.inr ⟨q, hq, e'⟩); omega
  · intro b e e'; have := (l3 b e).1; have := l0 b (.inl e'); omega
  · intro q hq b e e'; have := (l3 b e).1; have := l0 b (.inr ⟨q, hq, e'⟩); omega
  · intro b e e'; have := l4 b e; have := l0 b (.inl e'); omega
  · intro q hq b e e'; have := l4 b e; have := l0 b (.inr ⟨q, hq, e'⟩); omega
  · intro b e e'; have := l1 b e; have := l2 b e'; omega
  · intro b e e'; have := l1 b e; have := l3 b e'; omega
  · intro b e e'; have := l1 b e; have := l4 b e'; omega
  · intro b e e'; have := l2 b e; have := l3 b e'; omega
  · intro b e e'; have := l2 b e; have := l4 b e'; omega
  · intro b e e'; have := l3 b e; have := l4 b e'; omega

set_option maxHeartbeats 1000000 in
theorem l8Copy_any {w : World} {v : Value} {ps : List GuildV} (h : IsGuilds w v ps) (hl : ps.length ≤ 1000) :
    Calls Tryz.prog 201 #[v] w fun e w' => ∃ v', e = .returned v' ∧ GuildsAt w.heap.size w' v' ps ∧ Below w.heap.size w w' := by
  have Hv := hide h
  obtain ⟨a, cap, rfl, hc, hm, hr⟩ := h
  clear hr
  go_enter Tryz.func201, Tryz.ntmps201
  go_wp2_with (at_builtin; refine wpList_append_recs tyG rfl (.tmp 3) (.tmp 4) 27 Tryz.underlying27 rfl w.heap.size _ _ [] ps rfl rfl (recs_empty rfl (Nat.le_refl _)) ((unhide Hv).below ((Below.refl _ _).alloc (Nat.le_refl _) _)) (by simp; omega) (by simp) ?_; intro v' w1 hown hgrow hat)
  go_ret
  refine ⟨v', rfl, by simpa using hown, ((Below.refl _ _).alloc (Nat.le_refl _) _).trans ((Below.refl _ _).grown hgrow (by simp) (fun k e => ?_))⟩
  cases e; exact Nat.le_refl _

set_option maxRecDepth 100000 in
set_option maxHeartbeats 4000000 in
theorem l11Copy_any {w : World} {v0 v1 v2 v3 v4 : Value} {m : SmyV} (h : Smy w v0 v1 v2 v3 v4 m) (hF : Few m) :
    Calls Tryz.prog 145 #[.agg #[v0, v1, v2, v3, v4, .int .i64 m.now]] w fun e w' => ∃ u0 u1 u2 u3 u4 qs, e = .returned (.agg #[u0, u1, u2, u3, u4, .int .i64 m.now]) ∧ FullSmy w.heap.size w' u0 u1 u2 u3 u4 m qs ∧ Below w.heap.size w w' := by
  have Hv := hide h
  have HF := hide hF
  obtain ⟨a0, p0, rfl, _, _⟩ := IsRooms.shape h.rooms
  obtain ⟨a1, p1, rfl, _, _⟩ := IsRec.shape h.guilds
  obtain ⟨a2, p2, rfl, _, _⟩ := IsRec.shape h.smiths
  obtain ⟨a3, p3, rfl, _, _⟩ := IsRec.shape h.desks
  obtain ⟨a4, p4, rfl, _, _⟩ := IsRec.shape h.paces
  clear h hF
  go_enter Tryz.func145, Tryz.ntmps145
  go_wp2_with fail
  have kb : Hid (Blk ((w.alloc (.cells #[.slice a0 m.rooms.length p0, .slice a1 m.guilds.length p1, .slice a2 m.smiths.length p2, .slice a3 m.desks.length p3, .slice a4 m.paces.length p4, .int .i64 m.now] 32)).alloc (.cells #[.slice none 0 0, .slice none 0 0, .slice none 0 0, .slice none 0 0, .slice none 0 0, .int .i64 0] 32)) w.heap.size 32 #[.slice a0 m.rooms.length p0, .slice a1 m.guilds.length p1, .slice a2 m.smiths.length p2, .slice a3 m.desks.length p3, .slice a4 m.paces.length p4, .int .i64 m.now]) := hide ((Blk.new w _ _).alloc _)
  have kr : Hid (Blk ((w.alloc (.cells #[.slice a0 m.rooms.length p0, .slice a1 m.guilds.length p1, .slice a2 m.smiths.length p2, .slice a3 m.desks.length p3, .slice a4 m.paces.length p4, .int .i64 m.now] 32)).alloc (.cells #[.slice none 0 0, .slice none 0 0, .slice none 0 0, .slice none 0 0, .slice none 0 0, .int .i64 0] 32)) (w.heap.size + 1) 32 #[.slice none 0 0, .slice none 0 0, .slice none 0 0, .slice none 0 0, .slice none 0 0, .int .i64 0]) := hide (by
    have k := Blk.new (w.alloc (.cells #[.slice a0 m.rooms.length p0, .slice a1 m.guilds.length p1, .slice a2 m.smiths.length p2, .slice a3 m.desks.length p3, .slice a4 m.paces.length p4, .int .i64 m.now] 32)) 32 #[.slice none 0 0, .slice none 0 0, .slice none 0 0, .slice none 0 0, .slice none 0 0, .int .i64 0]
    rw [World.size_alloc] at k
    exact k)
  have BB : Hid (Below w.heap.size w ((w.alloc (.cells #[.slice a0 m.rooms.length p0, .slice a1 m.guilds.length p1, .slice a2 m.smiths.length p2, .slice a3 m.desks.length p3, .slice a4 m.paces.length p4, .int .i64 m.now] 32)).alloc (.cells #[.slice none 0 0, .slice none 0 0, .slice none 0 0, .slice none 0 0, .slice none 0 0, .int .i64 0] 32))) := hide (((Below.refl _ _).alloc (Nat.le_refl _) _).alloc (by simp) _)
  generalize (w.alloc (.cells #[.slice a0 m.rooms.length p0, .slice a1 m.guilds.length p1, .slice a2 m.smiths.length p2, .slice a3 m.desks.length p3, .slice a4 m.paces.length p4, .int .i64 m.now] 32)).alloc (.cells #[.slice none 0 0, .slice none 0 0, .slice none 0 0, .slice none 0 0, .slice none 0 0, .int .i64 0] 32) = W at *
  have hW : w.heap.size + 2 ≤ W.heap.size := by have := (unhide kr).lt; omega
  refine (l4Copy_any ((unhide Hv).below (unhide BB)).rooms (unhide HF).rooms (unhide HF).paces).mono ?_
  rintro e w1 ⟨u0, qs, rfl, hmap, hp, hb⟩
  have Hmap := hide hmap
  clear hmap
  have n0 : Hid (OwnHall (w.heap.size + 2) w1 u0 qs) := hide (hp.mono hW)
  replace kb := hide ((unhide kb).below hb (unhide kb).lt)
  replace kr := hide ((unhide kr).below hb (unhide kr).lt)
  replace BB := hide ((unhide BB).trans (hb.mono (unhide BB).size))
  have hW1 : w.heap.size + 2 ≤ w1.heap.size := by have := hb.size; omega
  obtain ⟨b0, q0, rfl⟩ := hp.shape
  have hql : qs.length = m.rooms.length := by rw [← unhide Hmap, List.length_map]
  rw [hql] at n0 ⊢
  have L0 : Hid (∀ b, ((Value.slice b0 m.rooms.length q0).ownBlock = some b ∨ ∃ q ∈ qs, q.2.ownBlock = some b) → b < w1.heap.size) := hide (fun b e => ((unhide n0).lt e).2)
  clear hp hql hb hW
  have o0 := (unhide kb).cell (i := 0) (v := .slice a0 m.rooms.length p0) rfl
  have f0 := (unhide kb).free 0
  go_upto_region 2 with fail
  clear o0 f0
  replace kb : Hid (Blk (w1.setCell ⟨w.heap.size, 0, none⟩ (.slice b0 m.rooms.length q0)) w.heap.size 32 #[.slice b0 m.rooms.length q0, .slice a1 m.guilds.length p1, .slice a2 m.smiths.length p2, .slice a3 m.desks.length p3, .slice a4 m.paces.length p4, .int .i64 m.now]) := hide ((unhide kb).set 0 _)
  replace kr : Hid (Blk (w1.setCell ⟨w.heap.size, 0, none⟩ (.slice b0 m.rooms.length q0)) (w.heap.size + 1) 32 #[.slice none 0 0, .slice none 0 0, .slice none 0 0, .slice none 0 0, .slice none 0 0, .int .i64 0]) := hide ((unhide kr).other (a := ⟨w.heap.size, 0, none⟩) (by show w.heap.size + 1 ≠ w.heap.size; omega) _)
  replace BB : Hid (Below w.heap.size w (w1.setCell ⟨w.heap.size, 0, none⟩ (.slice b0 m.rooms.length q0))) := hide ((unhide BB).setCell (p := ⟨w.heap.size, 0, none⟩) (Nat.le_refl _) _)
  replace n0 := hide ((unhide n0).set_old w.heap.size 0 (.slice b0 m.rooms.length q0) (by omega))
  have g0 : w1.heap.size ≤ (w1.setCell ⟨w.heap.size, 0, none⟩ (.slice b0 m.rooms.length q0)).heap.size := by simp
  generalize w1.setCell ⟨w.heap.size, 0, none⟩ (.slice b0 m.rooms.length q0) = X0 at *
  have c1 := (unhide kb).cell (i := 1) (v := .slice a1 m.guilds.length p1) rfl
  go_wp2_with fail
  clear c1
  refine (l8Copy_any ((unhide Hv).below (unhide BB)).guilds (unhide HF).guilds).mono ?_
  rintro e w2 ⟨u1, rfl, hp, hb⟩
  have n1 : Hid (GuildsAt (w.heap.size + 2) w2 u1 m.guilds) := hide (RecAt.mono hp (by omega))
  have M1 : Hid (∀ b, u1.ownBlock = some b → w1.heap.size ≤ b ∧ b < w2.heap.size) := hide (fun b e => ⟨Nat.le_trans g0 (RecAt.lt hp e).1, (RecAt.lt hp e).2⟩)
  replace kb := hide ((unhide kb).below hb (unhide kb).lt)
  replace kr := hide ((unhide kr).below hb (unhide kr).lt)
  replace n0 := hide ((unhide n0).later hb)
  replace BB := hide ((unhide BB).trans (hb.mono (unhide BB).size))
  have z1 : w1.heap.size ≤ w2.heap.size := Nat.le_trans g0 hb.size
  obtain ⟨b1, q1, rfl⟩ := RecAt.shape hp
  clear hp hb
  have o1 := (unhide kb).cell (i := 1) (v := .slice a1 m.guilds.length p1) rfl
  have f1 := (unhide kb).free 1
  go_upto_region 3 with fail
  clear o1 f1
  replace kb : Hid (Blk (w2.setCell ⟨w.heap.size, 1, none⟩ (.slice b1 m.guilds.length q1)) w.heap.size 32 #[.slice b0 m.rooms.length q0, .slice b1 m.guilds.length q1, .slice a2 m.smiths.length p2, .slice a3 m.desks.length p3, .slice a4 m.paces.length p4, .int .i64 m.now]) := hide ((unhide kb).set 1 _)
  replace kr : Hid (Blk (w2.setCell ⟨w.heap.size, 1, none⟩ (.slice b1 m.guilds.length q1)) (w.heap.size + 1) 32 #[.slice none 0 0, .slice none 0 0, .slice none 0 0, .slice none 0 0, .slice none 0 0, .int .i64 0]) := hide ((unhide kr).other (a := ⟨w.heap.size, 1, none⟩) (by show w.heap.size + 1 ≠ w.heap.size; omega) _)
  replace BB : Hid (Below w.heap.size w (w2.setCell ⟨w.heap.size, 1, none⟩ (.slice b1 m.guilds.length q1))) := hide ((unhide BB).setCell (p := ⟨w.heap.size, 1, none⟩) (Nat.le_refl _) _)
  replace n0 := hide ((unhide n0).set_old w.heap.size 1 (.slice b1 m.guilds.length q1) (by omega))
  replace n1 := hide (RecAt.set_old (unhide n1) w.heap.size 1 (.slice b1 m.guilds.length q1) (by omega))
  have g1 : w2.heap.size ≤ (w2.setCell ⟨w.heap.size, 1, none⟩ (.slice b1 m.guilds.length q1)).heap.size := by simp
  generalize w2.setCell ⟨w.heap.size, 1, none⟩ (.slice b1 m.guilds.length q1) = X1 at *
  have c2 := (unhide kb).cell (i := 2) (v := .slice a2 m.smiths.length p2) rfl
  have HX := hide (((unhide Hv).below (unhide BB)).smiths)
  have hl9 := (unhide HF).smiths
  have hlt9 := (unhide kb).lt
  go_upto_region 4 with (at_builtin; refine wpList_append_recs tyS rfl (.tmp 11) (.tmp 13) 28 Tryz.underlying28 rfl X1.heap.size _ _ [] m.smiths rfl rfl (recs_empty rfl (Nat.le_refl _)) (IsRec.below (unhide HX) ((Below.refl _ _).alloc (Nat.le_refl _) _)) (by simp; omega) (by simp) ?_; intro u2 w3 hp9 hg9 hat9; rw [List.nil_append] at hp9; have hb9 : Below X1.heap.size X1 w3 := ((Below.refl _ _).alloc (Nat.le_refl _) _).trans ((Below.refl _ _).grown hg9 (by simp) (fun k e => by cases e; exact Nat.le_refl _)); have k9 := (unhide kb).below hb9 (unhide kb).lt; have o9 := k9.cell (i := 2) (v := .slice a2 m.smiths.length p2) rfl; have f9 := k9.free 2; obtain ⟨a9, c9, hu9⟩ := RecAt.shape hp9; subst hu9; have hp := hide hp9; have hb := hide hb9; clear hp9 hb9 k9 hg9 hat9)
  clear c2 HX hl9 hlt9 o9 f9
  replace hp := unhide hp
  replace hb := unhide hb
  obtain ⟨u2, hu2⟩ : ∃ u, u = Value.slice a9 m.smiths.length c9 := ⟨_, rfl⟩
  rw [← hu2] at hp ⊢
  clear hu2
  have n2 : Hid (SmithsAt (w.heap.size + 2) w3 u2 m.smiths) := hide (RecAt.mono hp (by omega))
  have M2 : Hid (∀ b, u2.ownBlock = some b → w2.heap.size ≤ b ∧ b < w3.heap.size) := hide (fun b e => ⟨Nat.le_trans g1 (RecAt.lt hp e).1, (RecAt.lt hp e).2⟩)
  replace kb := hide ((unhide kb).below hb (unhide kb).lt)
  replace kr := hide ((unhide kr).below hb (unhide kr).lt)
  replace n0 := hide ((unhide n0).later hb)
  replace n1 := hide (RecAt.later (unhide n1) hb)
  replace BB := hide ((unhide BB).trans (hb.mono (unhide BB).size))
  have z2 : w2.heap.size ≤ w3.heap.size := Nat.le_trans g1 hb.size
  obtain ⟨b2, q2, rfl⟩ := RecAt.shape hp
  clear hp hb
  replace kb : Hid (Blk (w3.setCell ⟨w.heap.size, 2, none⟩ (.slice b2 m.smiths.length q2)) w.heap.size 32 #[.slice b0 m.rooms.length q0, .slice b1 m.guilds.length q1, .slice b2 m.smiths.length q2, .slice a3 m.desks.length p3, .slice a4 m.paces.length p4, .int .i64 m.now]) := hide ((unhide kb).set 2 _)
  replace kr : Hid (Blk (w3.setCell ⟨w.heap.size, 2, none⟩ (.slice b2 m.smiths.length q2)) (w.heap.size + 1) 32 #[.slice none 0 0, .slice none 0 0, .slice none 0 0, .slice none 0 0, .slice none 0 0, .int .i64 0]) := hide ((unhide kr).other (a := ⟨w.heap.size, 2, none⟩) (by show w.heap.size + 1 ≠ w.heap.size; omega) _)
  replace BB : Hid (Below w.heap.size w (w3.setCell ⟨w.heap.size, 2, none⟩ (.slice b2 m.smiths.length q2))) := hide ((unhide BB).setCell (p := ⟨w.heap.size, 2, none⟩) (Nat.le_refl _) _)
  replace n0 := hide ((unhide n0).set_old w.heap.size 2 (.slice b2 m.smiths.length q2) (by omega))
  replace n1 := hide (RecAt.set_old (unhide n1) w.heap.size 2 (.slice b2 m.smiths.length q2) (by omega))
  replace n2 := hide (RecAt.set_old (unhide n2) w.heap.size 2 (.slice b2 m.smiths.length q2) (by omega))
  have g2 : w3.heap.size ≤ (w3.setCell ⟨w.heap.size, 2, none⟩ (.slice b2 m.smiths.length q2)).heap.size := by simp
  generalize w3.setCell ⟨w.heap.size, 2, none⟩ (.slice b2 m.smiths.length q2) = X2 at *
  have c3 := (unhide kb).cell (i := 3) (v := .slice a3 m.desks.length p3) rfl
  have HX := hide (((unhide Hv).below (unhide BB)).desks)
  have hl9 := (unhide HF).desks
  have hlt9 := (unhide kb).lt
  go_upto_region 5 with (at_builtin; refine wpList_append_recs tyD rfl (.tmp 16) (.tmp 18) 29 Tryz.underlying29 rfl X2.heap.size _ _ [] m.desks rfl rfl (recs_empty rfl (Nat.le_refl _)) (IsRec.below (unhide HX) ((Below.refl _ _).alloc (Nat.le_refl _) _)) (by simp; omega) (by simp) ?_; intro u3 w4 hp9 hg9 hat9; rw [List.nil_append] at hp9; have hb9 : Below X2.heap.size X2 w4 := ((Below.refl _ _).alloc (Nat.le_refl _) _).trans ((Below.refl _ _).grown hg9 (by simp) (fun k e => by cases e; exact Nat.le_refl _)); have k9 := (unhide kb).below hb9 (unhide kb).lt; have o9 := k9.cell (i := 3) (v := .slice a3 m.desks.length p3) rfl; have f9 := k9.free 3; obtain ⟨a9, c9, hu9⟩ := RecAt.shape hp9; subst hu9; have hp := hide hp9; have hb := hide hb9; clear hp9 hb9 k9 hg9 hat9)
  clear c3 HX hl9 hlt9 o9 f9
  replace hp := unhide hp
  replace hb := unhide hb
  obtain ⟨u3, hu3⟩ : ∃ u, u = Value.slice a9 m.desks.length c9 := ⟨_, rfl⟩
  rw [← hu3] at hp ⊢
  clear hu3
  have n3 : Hid (DesksAt (w.heap.size + 2) w4 u3 m.desks) := hide (RecAt.mono hp (by omega))
  have M3 : Hid (∀ b, u3.ownBlock = some b → w3.heap.size ≤ b ∧ b < w4.heap.size) := hide (fun b e => ⟨Nat.le_trans g2 (RecAt.lt hp e).1, (RecAt.lt hp e).2⟩)
  replace kb := hide ((unhide kb).below hb (unhide kb).lt)
  replace kr := hide ((unhide kr).below hb (unhide kr).lt)
  replace n0 := hide ((unhide n0).later hb)
  replace n1 := hide (RecAt.later (unhide n1) hb)
  replace n2 := hide (RecAt.later (unhide n2) hb)
  replace BB := hide ((unhide BB).trans (hb.mono (unhide BB).size))
  have z3 : w3.heap.size ≤ w4.heap.size := Nat.le_trans g2 hb.size
  obtain ⟨b3, q3, rfl⟩ := RecAt.shape hp
  clear hp hb
  replace kb : Hid (Blk (w4.setCell ⟨w.heap.size, 3, none⟩ (.slice b3 m.desks.length q3)) w.heap.size 32 #[.slice b0 m.rooms.length q0, .slice b1 m.guilds.length q1, .slice b2 m.smiths.length q2, .slice b3 m.desks.length q3, .slice a4 m.paces.length p4, .int .i64 m.now]) := hide ((unhide kb).set 3 _)
  replace kr : Hid (Blk (w4.setCell ⟨w.heap.size, 3, none⟩ (.slice b3 m.desks.length q3)) (w.heap.size + 1) 32 #[.slice none 0 0, .slice none 0 0, .slice none 0 0, .slice none 0 0, .slice none 0 0, .int .i64 0]) := hide ((unhide kr).other (a := ⟨w.heap.size, 3, none⟩) (by show w.heap.size + 1 ≠ w.heap.size; omega) _)
  replace BB : Hid (Below w.heap.size w (w4.setCell ⟨w.heap.size, 3, none⟩ (.slice b3 m.desks.length q3))) := hide ((unhide BB).setCell (p := ⟨w.heap.size, 3, none⟩) (Nat.le_refl _) _)
  replace n0 := hide ((unhide n0).set_old w.heap.size 3 (.slice b3 m.desks.length q3) (by omega))
  replace n1 := hide (RecAt.set_old (unhide n1) w.heap.size 3 (.slice b3 m.desks.length q3) (by omega))
  replace n2 := hide (RecAt.set_old (unhide n2) w.heap.size 3 (.slice b3 m.desks.length q3) (by omega))
  replace n3 := hide (RecAt.set_old (unhide n3) w.heap.size 3 (.slice b3 m.desks.length q3) (by omega))
  have g3 : w4.heap.size ≤ (w4.setCell ⟨w.heap.size, 3, none⟩ (.slice b3 m.desks.length q3)).heap.size := by simp
  generalize w4.setCell ⟨w.heap.size, 3, none⟩ (.slice b3 m.desks.length q3) = X3 at *
  have c4 := (unhide kb).cell (i := 4) (v := .slice a4 m.paces.length p4) rfl
  have HX := hide (((unhide Hv).below (unhide BB)).paces)
  have hl9 := (unhide HF).nums
  have hlt9 := (unhide kb).lt
  go_upto_region 6 with (at_builtin; refine wpList_append_recs tyN rfl (.tmp 21) (.tmp 23) 30 Tryz.underlying30 rfl X3.heap.size _ _ [] m.paces rfl rfl (recs_empty rfl (Nat.le_refl _)) (IsRec.below (unhide HX) ((Below.refl _ _).alloc (Nat.le_refl _) _)) (by simp; omega) (by simp) ?_; intro u4 w5 hp9 hg9 hat9; rw [List.nil_append] at hp9; have hb9 : Below X3.heap.size X3 w5 := ((Below.refl _ _).alloc (Nat.le_refl _) _).trans ((Below.refl _ _).grown hg9 (by simp) (fun k e => by cases e; exact Nat.le_refl _)); have k9 := (unhide kb).below hb9 (unhide kb).lt; have o9 := k9.cell (i := 4) (v := .slice a4 m.paces.length p4) rfl; have f9 := k9.free 4; obtain ⟨a9, c9, hu9⟩ := RecAt.shape hp9; subst hu9; have hp := hide hp9; have hb := hide hb9; clear hp9 hb9 k9 hg9 hat9)
  clear c4 HX hl9 hlt9 o9 f9
  replace hp := unhide hp
  replace hb := unhide hb
  obtain ⟨u4, hu4⟩ : ∃ u, u = Value.slice a9 m.paces.length c9 := ⟨_, rfl⟩
  rw [← hu4] at hp ⊢
  clear hu4
  have n4 : Hid (NumsAt (w.heap.size + 2) w5 u4 m.paces) := hide (RecAt.mono hp (by omega))
  have M4 : Hid (∀ b, u4.ownBlock = some b → w4.heap.size ≤ b ∧ b < w5.heap.size) := hide (fun b e => ⟨Nat.le_trans g3 (RecAt.lt hp e).1, (RecAt.lt hp e).2⟩)
  replace kb := hide ((unhide kb).below hb (unhide kb).lt)
  replace kr := hide ((unhide kr).below hb (unhide kr).lt)
  replace n0 := hide ((unhide n0).later hb)
  replace n1 := hide (RecAt.later (unhide n1) hb)
  replace n2 := hide (RecAt.later (unhide n2) hb)
  replace n3 := hide (RecAt.later (unhide n3) hb)
  replace BB := hide ((unhide BB).trans (hb.mono (unhide BB).size))
  have z4 : w4.heap.size ≤ w5.heap.size := Nat.le_trans g3 hb.size
  obtain ⟨b4, q4, rfl⟩ := RecAt.shape hp
  clear hp hb
  replace kb : Hid (Blk (w5.setCell ⟨w.heap.size, 4, none⟩ (.slice b4 m.paces.length q4)) w.heap.size 32 #[.slice b0 m.rooms.length q0, .slice b1 m.guilds.length q1, .slice b2 m.smiths.length q2, .slice b3 m.desks.length q3, .slice b4 m.paces.length q4, .int .i64 m.now]) := hide ((unhide kb).set 4 _)
  replace kr : Hid (Blk (w5.setCell ⟨w.heap.size, 4, none⟩ (.slice b4 m.paces.length q4)) (w.heap.size + 1) 32 #[.slice none 0 0, .slice none 0 0, .slice none 0 0, .slice none 0 0, .slice none 0 0, .int .i64 0]) := hide ((unhide kr).other (a := ⟨w.heap.size, 4, none⟩) (by show w.heap.size + 1 ≠ w.heap.size; omega) _)
  replace BB : Hid (Below w.heap.size w (w5.setCell ⟨w.heap.size, 4, none⟩ (.slice b4 m.paces.length q4))) := hide ((unhide BB).setCell (p := ⟨w.heap.size, 4, none⟩) (Nat.le_refl _) _)
  replace n0 := hide ((unhide n0).set_old w.heap.size 4 (.slice b4 m.paces.length q4) (by omega))
  replace n1 := hide (RecAt.set_old (unhide n1) w.heap.size 4 (.slice b4 m.paces.length q4) (by omega))
  replace n2 := hide (RecAt.set_old (unhide n2) w.heap.size 4 (.slice b4 m.paces.length q4) (by omega))
  replace n3 := hide (RecAt.set_old (unhide n3) w.heap.size 4 (.slice b4 m.paces.length q4) (by omega))
  replace n4 := hide (RecAt.set_old (unhide n4) w.heap.size 4 (.slice b4 m.paces.length q4) (by omega))
  have g4 : w5.heap.size ≤ (w5.setCell ⟨w.heap.size, 4, none⟩ (.slice b4 m.paces.length q4)).heap.size := by simp
  generalize w5.setCell ⟨w.heap.size, 4, none⟩ (.slice b4 m.paces.length q4) = X4 at *
  have c0 := (unhide kb).cell (i := 0) (v := .slice b0 m.rooms.length q0) rfl
  have c1 := (unhide kb).cell (i := 1) (v := .slice b1 m.guilds.length q1) rfl
  have c2 := (unhide kb).cell (i := 2) (v := .slice b2 m.smiths.length q2) rfl
  have c3 := (unhide kb).cell (i := 3) (v := .slice b3 m.desks.length q3) rfl
  have c4 := (unhide kb).cell (i := 4) (v := .slice b4 m.paces.length q4) rfl
  have c5 := (unhide kb).cell (i := 5) (v := .int .i64 m.now) rfl
  have o0 := (unhide kr).cell (i := 0) (v := .slice none 0 0) rfl
  have f0 := (unhide kr).free 0
  have o1 := (unhide kr).cell (i := 1) (v := .slice none 0 0) rfl
  have f1 := (unhide kr).free 1
  have o2 := (unhide kr).cell (i := 2) (v := .slice none 0 0) rfl
  have f2 := (unhide kr).free 2
  have o3 := (unhide kr).cell (i := 3) (v := .slice none 0 0) rfl
  have f3 := (unhide kr).free 3
  have o4 := (unhide kr).cell (i := 4) (v := .slice none 0 0) rfl
  have f4 := (unhide kr).free 4
  have o5 := (unhide kr).cell (i := 5) (v := .int .i64 0) rfl
  have f5 := (unhide kr).free 5
  go_wp2_with fail
  refine bodyPost_ret (v := .agg #[.slice b0 m.rooms.length q0, .slice b1 m.guilds.length q1, .slice b2 m.smiths.length q2, .slice b3 m.desks.length q3, .slice b4 m.paces.length q4, .int .i64 m.now]) (by simp [results, Tryz.results145, go_sem, *]) rfl ⟨_, _, _, _, _, qs, rfl, ?_, ?_⟩
  · refine FullSmy.mono (n₀ := w.heap.size + 2) (full_of w1.heap.size w2.heap.size w3.heap.size w4.heap.size ?_ (unhide Hmap) ?_ ?_ ?_ ?_ (unhide L0) (unhide M1) (unhide M2) (unhide M3) (fun b e => (unhide M4 b e).1) z1 z2 z3) (by omega)
    · iterate 6 (refine OwnHall.set_old ?_ _ _ _ (by omega))
      exact unhide n0
    · iterate 6 (refine RecAt.set_old ?_ _ _ _ (by omega))
      exact unhide n1
    · iterate 6 (refine RecAt.set_old ?_ _ _ _ (by omega))
      exact unhide n2
    · iterate 6 (refine RecAt.set_old ?_ _ _ _ (by omega))
      exact unhide n3
    · iterate 6 (refine RecAt.set_old ?_ _ _ _ (by omega))
      exact unhide n4
  · iterate 6 (refine Below.setCell ?_ (by show _ ≤ w.heap.size + 1; omega) _)
    exact unhide BB

end Go.Proofs.YtaegckehjlkaaaaGreat

/- Rest, Leave, Ranked, Limited, Granted, Opened, joined: as plain lists; and each keeps a smithy right. Lists and numbers alone; no condition but those that a theorem names. -/
namespace Go.Proofs.YtaegckehjlkaaaaGreat
open Go.ChangeShapes Go.WideShapes Go.ChangeAt Go.RowKit Go.Sort
set_option linter.unusedVariables false

/-- There is such a smith, and it is not gone. -/
def whoB (m : SmyV) (who : Int) : Bool := inB who 0 ((m.smiths.length : Int) - 1) && !((recAt m.smiths who.toNat).1 == 0)
theorem whoB_of {m : SmyV} {who : Int} (h : whoB m who = true) : ∃ k : Nat, who = (k : Int) ∧ k < m.smiths.length ∧ (recAt m.smiths k).1 ≠ 0 := by
  unfold whoB at h
  simp only [Bool.and_eq_true, Bool.not_eq_true', beq_eq_false_iff_ne] at h
  have h1 := inB_of h.1
  exact ⟨who.toNat, by omega, by omega, h.2⟩
theorem few_of {m : SmyV} (h : Loose m) : Few m := by
  have hd := h.head
  unfold headB at hd
  simp only [Bool.and_eq_true, decide_eq_true_eq] at hd
  obtain ⟨h1, h2, h3, h4, h5, _⟩ := hd
  obtain ⟨r1, r2, r3, r4⟩ := hallB_of h1
  have hg := (guildsB_of h2).2
  refine ⟨by omega, fun r hr => ?_, by omega, by omega, by omega, by omega⟩
  have hrb := List.all_eq_true.1 r3 r hr
  unfold roomB at hrb
  simp only [Bool.and_eq_true] at hrb
  have := inB_of hrb.2.1
  omega
end Go.Proofs.YtaegckehjlkaaaaGreat

/- What a smithy must be for what it costs and which bench is chosen to be told: lists alone. No condition but those that a theorem names. -/
namespace Go.Proofs.YtaegckehjlkaaaaGreat
open Go.ChangeShapes Go.WideShapes Go.ChangeAt Go.RowKit Go.Sort
set_option linter.unusedVariables false

structure Sane (m : SmyV) : Prop where
  hall : hallB m.rooms = true
  desks : (m.desks.length : Int) = benchSum m.rooms
  guilded : Guilded m
  few : m.smiths.length ≤ 12
theorem Sane.bench {m : SmyV} (h : Sane m) {b : Nat} (hb : b < m.desks.length) : isBench m.rooms (b : Int) = true := isBench_t h.hall (by omega) (by have := h.desks; omega)
theorem Sane.eight {m : SmyV} (h : Sane m) : m.desks.length ≤ 8 := by have := (hallB_of h.hall).2.2.2; have := h.desks; omega
theorem Loose.sane {m : SmyV} (h : Loose m) : Sane m := by
  have hd := h.head
  unfold headB at hd
  simp only [Bool.and_eq_true, decide_eq_true_eq] at hd
  obtain ⟨h1, h2, h3, h4, _⟩ := hd
  refine ⟨h1, h4, ⟨h2, fun i hi hs => ?_, fun i hi hs => (h.limits hi hs).2.1⟩, h3⟩
  have hp := (h.limits hi hs).1
  generalize recAt m.smiths i = s at *
  obtain ⟨st, be, rk, my, gu, lo', hi', hd, ca, ut, wk⟩ := s
  exact (presB_of hp).2.2.2.2.1.1
theorem Sane.with {m : SmyV} (h : Sane m) {k : Nat} (hk : k < m.smiths.length) (hs : (recAt m.smiths k).1 ≠ 0) (b : Int) : Sane (withM m (k : Int) b) := by
  have hset : ∀ i, recAt (withM m (k : Int) b).smiths i = if i = k then atBench (recAt m.smiths k) b else recAt m.smiths i := fun i => by
    unfold withM
    simp only [Int.toNat_natCast]
    exact recAt_set hk i
  refine ⟨h.hall, h.desks, ⟨h.guilded.guilds, fun i hi hne => ?_, fun i hi hne => ?_⟩, by unfold withM; simpa using h.few⟩
  · have hi' : i < m.smiths.length := by unfold withM at hi; simpa using hi
    rw [hset] at hne ⊢
    by_cases e : i = k
    · rw [if_pos e]; exact h.guilded.lo k hk hs
    · rw [if_neg e] at hne ⊢; exact h.guilded.lo i hi' hne
  · have hi' : i < m.smiths.length := by unfold withM at hi; simpa using hi
    rw [hset] at hne ⊢
    by_cases e : i = k
    · rw [if_pos e]; exact h.guilded.hi k hk hs
    · rw [if_neg e] at hne ⊢; exact h.guilded.hi i hi' hne
theorem Sane.few' {m : SmyV} (h : Sane m) (hp : m.paces.length ≤ 1000) : Few m := by
  obtain ⟨r1, r2, r3, r4⟩ := hallB_of h.hall
  have hg := (guildsB_of h.guilded.guilds).2
  refine ⟨by omega, fun r hr => ?_, by omega, by have := h.few; omega, by have := h.eight; omega, hp⟩
  have hrb := List.all_eq_true.1 r3 r hr
  unfold roomB at hrb
  simp only [Bool.and_eq_true] at hrb
  have := inB_of hrb.2.1
  omega

end Go.Proofs.YtaegckehjlkaaaaGreat

/- Contracts of the model's RoomOf and ForceOf and of the program's ForceOf, at whatever hall can be read and whatever bench. No other condition. -/
namespace Go.Proofs.YtaegckehjlkaaaaGreat
open Go.ChangeShapes Go.WideShapes Go.ChangeAt Go.RowKit Go.Sort
set_option linter.unusedVariables false

set_option maxHeartbeats 1000000 in
theorem l4Room_any {w : World} {v : Value} {rs : List RoomV} (n : Int) (h : IsRooms w v rs) (hbn : isBench rs n = true) :
    Calls Tryz.prog 142 #[.agg #[v], .int .i64 n] w fun e w' => e = .returned (.int .i64 (roomN rs n)) ∧ Below w.heap.size w w' := by
  obtain ⟨a, cap, rfl, hc, hm, hr⟩ := h
  have Hr := hide hr
  have H := hide hbn
  have hh := (isBench_of hbn).1
  have hn0 := (isBench_of hbn).2.1
  have hn1 : n < 12 := by have h1 := (isBench_of hbn).2.2; have := (hallB_of hh).2.2.2; omega
  have Hh := hide hh
  have hl3 : rs.length ≤ 3 := (hallB_of hh).2.1
  clear hr hbn hh
  go_enter Tryz.func142, Tryz.ntmps142
  go_wp2_with fail
  go_loop [1, 5] (fun q i => ∃ r : Nat, r ≤ rs.length ∧ i = .int .i64 r ∧ q = .int .i64 (n - benchSum (rs.take r)) ∧ (∀ j, j < r → benchSum (rs.take (j + 1)) ≤ n)) (fun _ i => rs.length - (intOf i).toNat)
  case atStart => exact ⟨0, Nat.zero_le _, rfl, by simp [benchSum], fun j hj => by omega⟩
  case round =>
    obtain ⟨r, hr, rfl, rfl, hl⟩ := hrel
    have hlt := room_more (unhide H) hr hl
    rcases unhide Hr with e0 | ⟨b, off, rfl, hbw, hcl⟩
    · rw [e0] at hlt; simp at hlt
    obtain ⟨c0, pv, c1, hip⟩ := hcl r hlt
    have hne : b ≠ w.heap.size := Nat.ne_of_lt hbw
    have Hl := hide hl
    have hb0 := benches_hall (unhide Hh) r hr
    have hb1 := benches_hall (unhide Hh) (r + 1) hlt
    have Hs := hide (benchSum_take rs hlt)
    have HN : Hid (n < benchSum (rs.take (r + 1)) → roomN rs n = r) := hide (fun hx => roomN_eq hlt hx (unhide Hl))
    have HM : Hid (benchSum (rs.take (r + 1)) ≤ n → ∀ j, j < r + 1 → benchSum (rs.take (j + 1)) ≤ n) := hide (fun hx => next_all (unhide Hl) hx)
    rw [benchSum_take rs hlt] at hb1 HN HM
    generalize benchSum (rs.take r) = s at *
    generalize (roomAt rs r).1 = rb at *
    clear hcl hip hl
    by_cases hq : rb ≤ n - s
    · go_wp2_with fail
      go_round
      case rel => exact ⟨r + 1, by omega, by go_num, by rw [unhide Hs]; congr 1; omega, unhide HM (by omega)⟩
      case measure => simp [intOf]; omega
    · go_wp2_with fail
      go_ret
      exact ⟨ret_int (by rw [unhide HN (by omega)]), (Below.refl _ _).alloc (Nat.le_refl _) _⟩

/-- A room of a hall that is right, with its paces. -/
theorem room_at {w : World} {a : Option Addr} {cap : Nat} {rs : List RoomV} {r : Nat} (h : IsRooms w (.slice a rs.length cap) rs) (hr : r < rs.length) (hh : hallB rs = true) :
    ∃ b off a' cap', a = some ⟨b, off, none⟩ ∧ b < w.heap.size ∧ w.cell? ⟨b, off + r * 2 + 1, none⟩ = some (.slice (some a') (roomAt rs r).2.length cap') ∧ 1 ≤ (roomAt rs r).2.length ∧ (roomAt rs r).2.length ≤ 4 ∧ a'.spot = none ∧ a'.block < w.heap.size ∧ w.cell? ⟨a'.block, a'.off + ((roomAt rs r).2.length - 1) * 2, none⟩ = some (.int .i64 (lastForce (roomAt rs r).2)) := by
  obtain ⟨a0, cap0, he, hc, hm, hr'⟩ := h
  cases he
  rcases hr' with e0 | ⟨b, off, rfl, hbw, hcl⟩
  · rw [e0] at hr; simp at hr
  obtain ⟨_, pv, c1, hip⟩ := hcl r hr
  have hb := room_bd (allRooms_of (hallB_of hh).2.2.1 hr)
  obtain ⟨pa, pcap, rfl, _, _, hp⟩ := hip
  rcases hp with e1 | ⟨b', off', rfl, hbw', hcl'⟩
  · rw [e1] at hb; simp at hb
  · exact ⟨b, off, ⟨b', off', none⟩, pcap, rfl, hbw, c1, hb.2.2.1, hb.2.2.2, rfl, hbw', (hcl' _ (by omega)).1⟩

set_option maxHeartbeats 1000000 in
theorem implForceOf_any {w : World} {v : Value} {rs : List RoomV} (n : Int) (h : IsRooms w v rs) :
    Calls Tryz.prog 199 #[.agg #[v], .int .i64 n] w fun e w' => e = .returned (.int .i64 (forceV rs n)) ∧ Below w.heap.size w w' := by
  have Hv := hide h
  obtain ⟨a, cap, rfl, hc, hm⟩ : ∃ a cap, v = .slice a rs.length cap ∧ rs.length ≤ cap ∧ cap ≤ 9223372036854775807 := by obtain ⟨a, cap, rfl, hc, hm, _⟩ := h; exact ⟨a, cap, rfl, hc, hm⟩
  clear h
  cases h1 : isBench rs n
  · have H2 := hide (forceV_f h1)
    have H3 := roomV_f h1
    have H3' := hide H3
    clear H3 h1
    go_enter Tryz.func199, Tryz.ntmps199
    go_wp2_with fail
    refine (implRoomOf_any n ((unhide Hv).alloc _)).mono ?_
    rw [unhide H3']
    rintro e w1 ⟨rfl, hb⟩
    have Hb := hide hb
    clear hb
    go_wp2_with fail
    go_ret
    exact ⟨ret_int (unhide H2).symm, ((Below.refl _ _).alloc (Nat.le_refl _) _).trans ((unhide Hb).mono (by simp))⟩
  · have H2 := hide (forceV_t h1)
    have H3 := hide (roomV_t h1)
    have hlt := room_found h1
    have Hh := hide (isBench_of h1).1
    have hl3 : rs.length ≤ 3 := (hallB_of (isBench_of h1).1).2.1
    clear h1
    go_enter Tryz.func199, Tryz.ntmps199
    go_wp2_with fail
    refine (implRoomOf_any n ((unhide Hv).alloc _)).mono ?_
    rw [unhide H3]
    rintro e w1 ⟨rfl, hb⟩
    have hz : w.heap.size + 1 ≤ w1.heap.size := by have := hb.size; simpa using this
    have hbox : w1.cell? ⟨w.heap.size, 0, none⟩ = some (.slice a rs.length cap) := by rw [hb.cell (p := ⟨w.heap.size, 0, none⟩) (by simp)]; simp
    have hw1 := ((unhide Hv).alloc _).below hb
    have Hb := hide hb
    obtain ⟨b, off, a', cap', rfl, hbw, d1, p1, p4, sp, hbw', d2⟩ := room_at hw1 hlt (unhide Hh)
    obtain ⟨b', off', sp'⟩ := a'
    simp only at sp hbw' d2
    subst sp
    clear hb hw1 H3
    generalize roomN rs n = r at *
    generalize lastForce (roomAt rs r).2 = fo at *
    generalize (roomAt rs r).2.length = m at *
    have hr0 : ((r : Int) == -1) = false := beq_eq_false_iff_ne.2 (by omega)
    go_wp2_with fail
    go_ret
    exact ⟨ret_int (unhide H2).symm, ((Below.refl _ _).alloc (Nat.le_refl _) _).trans ((unhide Hb).mono (by simp))⟩

end Go.Proofs.YtaegckehjlkaaaaGreat

