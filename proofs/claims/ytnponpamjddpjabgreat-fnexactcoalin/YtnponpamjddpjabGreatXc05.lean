/- What the proof rests on, part 5: lists and numbers, how they lie in memory, and contracts of the calls. No condition but those that a theorem names. -/
import Derived.Test.YtnponpamjddpjabGreatXc01
import Derived.Test.YtnponpamjddpjabGreatXc02
import Derived.Test.YtnponpamjddpjabGreatXc03
import Derived.Test.YtnponpamjddpjabGreatXc04
import Derived.ChangeKeysEq
import Derived.Laws.StructEq
import Derived.WalkMore
import Derived.Below
import Derived.Maps.AppendAt
import Derived.WalkKit
import Derived.ProofKit
import Derived.OpenShut
import Derived.Outline
import Derived.Deep.RegionWith
import Derived.Deep.QuietTactic
import Derived.BigQuiet
import Derived.Laws.OwnMore
import Derived.OwnWalk
import Derived.Lib.QuietBelow
import Derived.Lib.SmallJoins
import Derived.Deep.Fields
import Derived.Deep.Slices
/- Contracts of chapter 10's functions and of their models: what each call returns. No condition but those that a theorem names. -/
namespace Go.Proofs.YtnponpamjddpjabGreat
open Go.ChangeShapes Go.WideShapes Go.ChangeAt Go.RowKit Go.Sort
set_option linter.unusedVariables false
set_option maxRecDepth 100000

theorem band_equal (a b c d : Int) (w : World) : (Op.equalIn 10000 164 (.agg #[.int .i64 a, .int .i64 b]) (.agg #[.int .i64 c, .int .i64 d])).run Tryz.prog w = .ok (a == c && b == d) w := by
  have u := Tryz.underlying2
  have ag := Tryz.isAgg2
  have z := Tryz.sizeOf2
  have hc : Tryz.prog.cellsOf 2 = 1 := by kernel_rfl
  obtain ⟨i, hi⟩ := Option.isSome_iff_exists.1 (show (Tryz.prog.info? 2).isSome = true by kernel_rfl)
  rw [show (10000 : Nat) = 9999 + 1 from rfl, run_equalIn_array w 9999 _ _ Tryz.underlying164 hi, hc]
  simp only [show List.range 2 = [0, 1] from rfl, Op.eqItems]
  go_simp
  by_cases h : a = c
  · subst h
    by_cases h2 : b = d
    · subst h2; simp
    · simp [h2]
  · simp [h]
theorem band_eql (a b c d : Int) (w : World) : (binOp .eql 164 (.agg #[.int .i64 a, .int .i64 b]) (.agg #[.int .i64 c, .int .i64 d])).run Tryz.prog w = .ok (.bool (a == c && b == d)) w := by
  rw [run_eql_struct, band_equal]; rfl

theorem bandStretched_any (lo hi n : Int) (w : World) : Calls Tryz.prog 176 #[.agg #[.int .i64 lo, .int .i64 hi], .int .i64 n] w fun e w' => e = .returned (.agg #[.int .i64 (min lo n), .int .i64 (max hi n)]) ∧ Below w.heap.size w w' := by
  by_cases h1 : lo ≤ n
  all_goals
    by_cases h2 : hi < n
    all_goals
      go_enter Tryz.func176, Tryz.ntmps176
      go_wp2_with fail
      exact bodyPost_ret (v := .agg #[.int .i64 (min lo n), .int .i64 (max hi n)]) (by simp [results, Tryz.results176, go_sem]; omega) rfl ⟨rfl, ((Below.refl _ _).alloc (Nat.le_refl _) _).alloc (by simp) _⟩

theorem bandOf_any (m : Int) (w : World) (m0 : -1000000000000 ≤ m) (m1 : m ≤ 1000000000000) : Calls Tryz.prog 161 #[.int .i64 m] w fun e w' => e = .returned (.agg #[.int .i64 (m - 20000), .int .i64 (m + 63000)]) ∧ Below w.heap.size w w' := by
  go_enter Tryz.func161, Tryz.ntmps161
  go_wp2_with fail
  exact bodyPost_ret (v := .agg #[.int .i64 (m - 20000), .int .i64 (m + 63000)]) (by simp [results, Tryz.results161, go_sem]) rfl ⟨rfl, (Below.refl _ _).alloc (Nat.le_refl _) _⟩

/-- The least and the greatest of a band that is stretched to a list. -/
def loL (lo : Int) (zs : List Int) : Int := zs.foldl min lo
def hiL (hi : Int) (zs : List Int) : Int := zs.foldl max hi
theorem loL_le (zs : List Int) : ∀ lo, loL lo zs ≤ lo := by
  induction zs with
  | nil => intro lo; exact Int.le_refl _
  | cons z zs ih => intro lo; exact Int.le_trans (ih (min lo z)) (Int.min_le_left _ _)
theorem hiL_ge (zs : List Int) : ∀ hi, hi ≤ hiL hi zs := by
  induction zs with
  | nil => intro hi; exact Int.le_refl _
  | cons z zs ih => intro hi; exact Int.le_trans (Int.le_max_left _ _) (ih (max hi z))
theorem stretched_is (zs : List Int) : ∀ lo hi, (loL lo zs == lo && hiL hi zs == hi) = zs.all fun z => inB z lo hi := by
  induction zs with
  | nil => intro lo hi; simp [loL, hiL]
  | cons z zs ih =>
    intro lo hi
    show (loL (min lo z) zs == lo && hiL (max hi z) zs == hi) = (inB z lo hi && zs.all fun z => inB z lo hi)
    cases hz : inB z lo hi
    · have hn : ¬ (lo ≤ z ∧ z ≤ hi) := of_decide_eq_false hz
      have h1 := loL_le zs (min lo z)
      have h2 := hiL_ge zs (max hi z)
      simp only [Bool.false_and, Bool.and_eq_false_iff, beq_eq_false_iff_ne]
      omega
    · obtain ⟨h1, h2⟩ := inB_of hz
      rw [show min lo z = lo by omega, show max hi z = hi by omega, ih]; rfl
theorem loL_snoc {lo : Int} {zs : List Int} {k : Nat} (hk : k < zs.length) : loL lo (zs.take (k + 1)) = min (loL lo (zs.take k)) (zs.getD k 0) := by
  unfold loL; rw [List.take_succ_eq_append_getElem hk, List.foldl_append]; simp [List.getD, List.getElem?_eq_getElem hk]
theorem hiL_snoc {hi : Int} {zs : List Int} {k : Nat} (hk : k < zs.length) : hiL hi (zs.take (k + 1)) = max (hiL hi (zs.take k)) (zs.getD k 0) := by
  unfold hiL; rw [List.take_succ_eq_append_getElem hk, List.foldl_append]; simp [List.getD, List.getElem?_eq_getElem hk]

attribute [local go_sem ↓] band_eql
set_option maxHeartbeats 400000 in
theorem bandHolds_any (lo hi : Int) (b cap : Nat) (zs : List Int) (w : World) (hl : zs.length ≤ 1000) (hb : b < w.heap.size) (hc : ∀ k, k < zs.length → w.cell? ⟨b, k, none⟩ = some (.int .i64 (zs.getD k 0))) :
    Calls Tryz.prog 162 #[.agg #[.int .i64 lo, .int .i64 hi], .slice (some ⟨b, 0, none⟩) zs.length cap] w fun e w' => e = .returned (.bool (zs.all fun z => inB z lo hi)) ∧ Below w.heap.size w w' := by
  have Hc := hide hc
  clear hc
  go_enter Tryz.func162, Tryz.ntmps162
  go_wp2_with fail
  go_loopw [11] (fun i wr => ∃ k : Nat, k ≤ zs.length ∧ i = .int .i64 k ∧ Blk wr (w.heap.size + 1) 164 #[.int .i64 (loL lo (zs.take k)), .int .i64 (hiL hi (zs.take k))] ∧ Blk wr w.heap.size 164 #[.int .i64 lo, .int .i64 hi] ∧ Below w.heap.size w wr) (fun i _ => zs.length - (intOf i).toNat)
  case atStart =>
    refine ⟨0, Nat.zero_le _, rfl, ?_, (Blk.new w _ _).alloc _, ((Below.refl _ _).alloc (Nat.le_refl _) _).alloc (by simp) _⟩
    have := Blk.new (w.alloc (.cells #[.int .i64 lo, .int .i64 hi] 164)) 164 #[.int .i64 lo, .int .i64 hi]
    simpa [loL, hiL] using this
  case round =>
    obtain ⟨k, hk, rfl, hs, ho, hbl⟩ := hrel
    have Hs := hide hs
    have Ho := hide ho
    have Hb := hide hbl
    by_cases hlt : k < zs.length
    · have c0 := unhide Hc k hlt
      rw [← hbl.cell (p := ⟨b, k, none⟩) hb] at c0
      have e1 := loL_snoc (lo := lo) hlt
      have e2 := hiL_snoc (hi := hi) hlt
      have s0 := hs.cell (i := 0) rfl
      have s1 := hs.cell (i := 1) rfl
      have g0 := hs.free 0
      have g1 := hs.free 1
      generalize zs.getD k 0 = z at *
      generalize loL lo (zs.take k) = x at *
      generalize hiL hi (zs.take k) = y at *
      have E1 := hide e1
      have E2 := hide e2
      clear e1 e2 hs ho hbl
      go_wp2_with fail
      refine (bandStretched_any x y z _).mono ?_
      rintro e w1 ⟨rfl, hb1⟩
      have hs1 := (unhide Hs).below hb1 (unhide Hs).lt
      have Hs1 := hide hs1
      have Ho1 : Hid (Blk w1 w.heap.size 164 #[.int .i64 lo, .int .i64 hi]) := hide ((unhide Ho).below hb1 (unhide Ho).lt)
      have B1 : Hid (Below w.heap.size w w1) := hide ((unhide Hb).trans (hb1.mono (unhide Hb).size))
      have s0 := hs1.cell (i := 0) rfl
      have s1 := hs1.cell (i := 1) rfl
      have g0 := hs1.free 0
      have g1 := hs1.free 1
      clear hs1 hb1
      go_wp2_with fail
      go_roundw
      case rel =>
        refine ⟨k + 1, by omega, by go_num, ?_, ?_, ?_⟩
        · rw [unhide E1, unhide E2]
          simpa using ((unhide Hs1).set 0 (.int .i64 (min x z))).set 1 (.int .i64 (max y z))
        · exact ((unhide Ho1).other (by simp) _).other (by simp) _
        · exact ((unhide B1).setCell (by simp) _).setCell (by simp) _
      case measure => simp [intOf]; omega
    · obtain rfl : k = zs.length := by omega
      rw [List.take_length] at hs
      have e3 := stretched_is zs lo hi
      have s0 := hs.cell (i := 0) rfl
      have s1 := hs.cell (i := 1) rfl
      have o0 := ho.cell (i := 0) rfl
      have o1 := ho.cell (i := 1) rfl
      generalize loL lo zs = x at *
      generalize hiL hi zs = y at *
      have E3 := hide e3
      clear e3 hs ho hbl Hs
      go_wp2_with fail
      go_ret
      exact ⟨ret_bool (unhide E3), unhide Hb⟩

theorem areHads_any (b cap : Nat) (zs : List Int) (w : World) (hl : zs.length ≤ 1000) (hb : b < w.heap.size) (hc : ∀ k, k < zs.length → w.cell? ⟨b, k, none⟩ = some (.int .i64 (zs.getD k 0))) :
    Calls Tryz.prog 160 #[.slice (some ⟨b, 0, none⟩) zs.length cap] w fun e w' => e = .returned (.bool (zs.all fun z => inB z (-1000000000000) 1000000000000)) ∧ Below w.heap.size w w' := by
  have Hc := hide hc
  clear hc
  go_enter Tryz.func160, Tryz.ntmps160
  go_wp2_with fail
  refine (bandHolds_any _ _ b cap zs _ hl hb (unhide Hc)).mono ?_
  rintro e w1 ⟨rfl, hb1⟩
  have B1 := hide hb1
  clear hb1
  go_wp2_with fail
  go_ret
  exact ⟨rfl, unhide B1⟩

theorem implInBand_any (h m : Int) (w : World) : Calls Tryz.prog 130 #[.int .i64 h, .int .i64 m] w fun e w' => e = .returned (.bool (inBandB h m)) ∧ Below w.heap.size w w' := by
  cases hh : hadB h && hadB m
  · have hs : inBandB h m = false := by unfold inBandB; rw [hh]; rfl
    have Hs := hide hs
    clear hs
    go_enter Tryz.func130, Tryz.ntmps130
    go_wp2_with fail
    refine (areHads_any _ _ [h, m] _ (by simp) (by simp) ?_).mono ?_
    · intro k hk
      simp at hk
      match k, hk with
      | 0, _ => simp
      | 1, _ => simp
    rintro e w1 ⟨rfl, hb⟩
    rw [hads2, hh]
    have B1 : Hid (Below w.heap.size w w1) := hide (((Below.refl _ _).alloc (Nat.le_refl _) _).trans (hb.mono (by simp)))
    clear hb
    go_wp2_with fail
    go_ret
    exact ⟨ret_bool (unhide Hs).symm, unhide B1⟩
  · have hs : inBandB h m = inB (h - m) (-20000) 63000 := by unfold inBandB; rw [hh]; rfl
    have Hs := hide hs
    have h' := hh
    simp only [Bool.and_eq_true] at h'
    obtain ⟨m0, m1⟩ := had_of h'.2
    clear hs h'
    go_enter Tryz.func130, Tryz.ntmps130
    go_wp2_with fail
    refine (areHads_any _ _ [h, m] _ (by simp) (by simp) ?_).mono ?_
    · intro k hk
      simp at hk
      match k, hk with
      | 0, _ => simp
      | 1, _ => simp
    rintro e w1 ⟨rfl, hb⟩
    rw [hads2, hh]
    have B1 : Hid (Below w.heap.size w w1) := hide (((Below.refl _ _).alloc (Nat.le_refl _) _).trans (hb.mono (by simp)))
    clear hb
    go_wp2_with fail
    refine (bandOf_any m _ m0 m1).mono ?_
    rintro e w2 ⟨rfl, hb⟩
    have B2 : Hid (Below w.heap.size w w2) := hide ((unhide B1).trans (hb.mono (unhide B1).size))
    clear hb B1
    go_wp2_with fail
    refine (bandHolds_any _ _ _ _ [h] _ (by simp) (by simp) ?_).mono ?_
    · intro k hk
      simp at hk
      subst hk
      simp
    rintro e w3 ⟨rfl, hb⟩
    rw [band_at]
    have B3 : Hid (Below w.heap.size w w3) := hide (((unhide B2).alloc (unhide B2).size _).trans (hb.mono (by have := (unhide B2).size; simp; omega)))
    clear hb B2
    go_wp2_with fail
    go_ret
    exact ⟨ret_bool (unhide Hs).symm, unhide B3⟩

end Go.Proofs.YtnponpamjddpjabGreat

/- Records appended to a row of the call's own, and one field of one of them written: rows of RecKit. Conditions: those that each theorem names. -/
namespace Go.Proofs.YtnponpamjddpjabGreat
open Go.ChangeShapes Go.WideShapes Go.ChangeAt Go.RowKit Go.Sort
set_option linter.unusedVariables false

theorem addr_to (g o i : Nat) : (⟨g, o, none⟩ : Addr).add i = ⟨g, o + i, none⟩ := by unfold Addr.add; split <;> simp_all
theorem parts_of {e k bytes : Nat} {z : Value} (h : (Tryz.prog.info? e).map (fun i => (i.zero, i.size, i.bytes)) = some (some z, k, bytes)) : ∃ i, Tryz.prog.info? e = some i ∧ i.zero = some z ∧ i.size = k ∧ i.bytes = bytes := by
  cases hi : Tryz.prog.info? e with
  | none => rw [hi] at h; cases h
  | some i =>
    rw [hi] at h
    simp only [Option.map_some, Option.some.injEq, Prod.mk.injEq] at h
    exact ⟨i, rfl, h.1, h.2.1, h.2.2⟩
theorem run_append_none {w : World} {base t ty e size n : Nat} {i : TypeInfo} (ht : Tryz.prog.underlying t = some (.slice e)) (hi : Tryz.prog.info? e = some i) {v : Value} {xs : List Value} (hown : w.ownsRow base e size v n xs) (a : Option Addr) (c : Nat) :
    (Builtin.append_ #[t, t] ty #[v, .slice a 0 c]).run Tryz.prog w = .ok v w := by
  rcases hown.2 with ⟨rfl, rfl⟩ | ⟨g, cap, cur, rfl, _, _, hnc, _⟩
  · cases a <;> simp [Builtin.append_, run_underlying ht, sizeOf, typeInfo, hi, Builtin.lenOf, Builtin.firstCells, loadCells, loadCellsFrom]
  · cases a <;> simp [Builtin.append_, run_underlying ht, sizeOf, typeInfo, hi, Builtin.lenOf, Builtin.firstCells, hnc, storeCells, loadCells, loadCellsFrom]

/-- What append asks of the records' type e. -/
structure RecTy {α : Type} (e k : Nat) (z : Value) (enc : α → List Value) : Prop where
  info : (Tryz.prog.info? e).map (fun i => (i.zero, i.size, i.bytes)) = some (some z, k, 8 * k)
  zero : z.cells.size = k
  len : ∀ x, (enc x).length = k
  pos : 0 < k
  few : k ≤ 100
  one : ∀ x, ∀ u ∈ enc x, u.oneCell' = true

section
variable {α : Type} {e k : Nat} {enc : α → List Value}
theorem flat_one (hone : ∀ x : α, ∀ u ∈ enc x, u.oneCell' = true) (qs : List α) : ∀ u ∈ flat enc qs, u.oneCell' = true := fun u hu => by
  unfold flat at hu
  obtain ⟨p, _, hp⟩ := List.mem_flatMap.1 hu
  exact hone p u hp
theorem recs_empty {B g : Nat} {w : World} (hg : g = w.heap.size) (hB : B ≤ g) : RecAt e k enc B (w.alloc (.cells #[] e)) (.slice (some ⟨g, 0, none⟩) 0 0) [] := by
  subst hg
  exact ⟨by simp [flat], .inr ⟨_, 0, #[], rfl, hB, heap_alloc_new w _, Nat.le_refl _, Nat.zero_le _, by simp, by simp [flat]⟩⟩
end

section
variable {α : Type} [Inhabited α] {e k : Nat} {enc : α → List Value} {z : Value}
theorem rec_cells (hk : ∀ x, (enc x).length = k) (h0 : 0 < k) {w : World} {b off : Nat} {qs : List α} (h : ∀ j, j < qs.length → ∀ i u, (enc (recAt qs j))[i]? = some u → w.cell? ⟨b, off + j * k + i, none⟩ = some u) :
    ∀ (j : Nat) (u : Value), (flat enc qs)[j]? = some u → w.cell? ((⟨b, off, none⟩ : Addr).add j) = some u := fun j u hj => by
  have hlt : j < qs.length * k := by
    rcases Nat.lt_or_ge j (qs.length * k) with h | h
    · exact h
    · rw [List.getElem?_eq_none (by rw [flat_len hk]; exact h)] at hj; cases hj
  have hd : j / k < qs.length := (Nat.div_lt_iff_lt_mul h0).2 hlt
  have hr : j % k < k := Nat.mod_lt _ h0
  have he : j = j / k * k + j % k := by rw [Nat.mul_comm]; exact (Nat.div_add_mod j k).symm
  rw [addr_to]
  rw [he, flat_get hk qs (j / k) hd (j % k) hr] at hj
  have := h (j / k) hd (j % k) u hj
  rw [Nat.add_assoc, ← he] at this
  exact this
/-- Records that read as qs, appended to a row of the call's own. -/
theorem run_append_recs (T : RecTy e k z enc) {w : World} {base t ty : Nat} (ht : Tryz.prog.underlying t = some (.slice e)) {v x : Value} {ps qs : List α} (hown : RecAt e k enc base w v ps) (hx : IsRec k enc w x qs) (hb : ps.length + qs.length ≤ 4000) (hbase : base ≤ w.heap.size) :
    ∃ v' w', (Builtin.append_ #[t, t] ty #[v, x]).run Tryz.prog w = .ok v' w' ∧ RecAt e k enc base w' v' (ps ++ qs) ∧ w.grownBy w' v.ownBlock ∧ (v'.ownBlock = v.ownBlock ∨ v'.ownBlock = some w.heap.size) := by
  obtain ⟨i0, hi, hz0, hz1, hz2⟩ := parts_of T.info
  obtain ⟨a, c, rfl, hc, hm, hr⟩ := hx
  by_cases h0 : qs = []
  · subst h0
    refine ⟨v, w, run_append_none ht hi hown a c, by simpa using hown, grown_refl _ _, .inl rfl⟩
  · rcases hr with hr | ⟨b, off, rfl, hlt, hcl⟩
    · exact absurd hr h0
    · have hk := T.few
      have hmul : (ps.length + qs.length) * (8 * k) ≤ 4000 * 800 := Nat.mul_le_mul hb (by omega)
      obtain ⟨v', w', hr, h2, h3, _, h5⟩ := run_append_own_at (P := Tryz.prog) w base t ty e i0 z k (8 * k) ht hi hz0 hz1 hz2 T.zero T.pos v ps.length _ hown ⟨b, off, none⟩ qs.length c (flat enc qs) (flat_len T.len qs)
        (rec_cells T.len T.pos hcl) (flat_one T.one qs) (by simp only [maxLen]; omega) (by omega) hbase
      refine ⟨v', w', hr, ?_, h3, h5⟩
      unfold RecAt
      rw [flat_append, List.length_append]
      exact h2
/-- At a plain region's list. -/
theorem wpList_append_recs (T : RecTy e k z enc) {w : World} {ops : Array Oper} {rest : List Oper} {o : Oper} {a : Act} {Q : Exit → Act → World → Prop} (hgd : o.guard = none) (s x : Operand) (t : TypeId) (ht : Tryz.prog.underlying t = some (.slice e))
    (ho : o.op = .call { callee := .builtin .append, args := #[s, x], argTypes := #[t, t] }) (base : Nat) (v u : Value) (ps qs : List α) (hs : a.eval s = v) (hx : a.eval x = u) (hown : RecAt e k enc base w v ps) (hr : IsRec k enc w u qs)
    (hb : ps.length + qs.length ≤ 4000) (hbase : base ≤ w.heap.size)
    (h : ∀ v' w', RecAt e k enc base w' v' (ps ++ qs) → w.grownBy w' v.ownBlock → (v'.ownBlock = v.ownBlock ∨ v'.ownBlock = some w.heap.size) → wpList Tryz.prog ops Q rest (a.put o.dst v') w') :
    wpList Tryz.prog ops Q (o :: rest) a w := by
  refine wpList_plain hgd fun K hK => ?_
  obtain ⟨v', w', hrun, h2, h3, h5⟩ := run_append_recs T (ty := o.type) ht hown hr hb hbase
  unfold Oper.wp execOp
  simp only [ho, resolve, invoke, builtin, Sem.run_bind, Sem.run_pure, Result.andThen_ok, List.map_toArray, List.map_cons, List.map_nil, hs, hx, hrun]
  exact hK _ _ (h v' w' h2 h3 h5)
theorem recs_one {w : World} (x : α) {g c : Nat} (hg : g = w.heap.size) (hc : 1 ≤ c) (hc2 : c ≤ 4000) : IsRec k enc (w.alloc (.cells (enc x).toArray e)) (.slice (some ⟨g, 0, none⟩) 1 c) [x] := by
  subst hg
  refine ⟨_, c, rfl, hc, by omega, .inr ⟨_, 0, rfl, by simp, fun j hj i u hu => ?_⟩⟩
  obtain rfl : j = 0 := by simpa using hj
  rw [Nat.zero_mul, Nat.zero_add, World.cell?_alloc_at _ _ _ _ rfl]
  have hr : recAt [x] 0 = x := rfl
  rw [hr] at hu
  simpa using hu
/-- One cell of a record is written. -/
theorem flat_set1 (hk : ∀ x, (enc x).length = k) (h0 : 0 < k) (xs : List α) {j i : Nat} (hj : j < xs.length) (hi : i < k) (u : Value) (x : α) (hx : enc x = (enc (recAt xs j)).set i u) : (flat enc xs).set (j * k + i) u = flat enc (xs.set j x) := by
  have hl := flat_len hk xs
  have hjk : j * k + k ≤ xs.length * k := by rw [← Nat.succ_mul]; exact Nat.mul_le_mul_right k hj
  apply List.ext_getElem?
  intro m
  by_cases hm : m < xs.length * k
  · have hd : m / k < xs.length := (Nat.div_lt_iff_lt_mul h0).2 hm
    have hr : m % k < k := Nat.mod_lt _ h0
    have he : m = m / k * k + m % k := by rw [Nat.mul_comm]; exact (Nat.div_add_mod m k).symm
    have hg := flat_get hk (xs.set j x) (m / k) (by simpa using hd) (m % k) hr
    have hg0 := flat_get hk xs (m / k) hd (m % k) hr
    rw [← he] at hg hg0
    rw [hg, recAt_set hj]
    by_cases e : m / k = j
    · rw [if_pos e, hx]
      by_cases ei : m % k = i
      · have hmi : m = j * k + i := by rw [← e, ← ei]; exact he
        rw [ei, hmi, List.getElem?_set_self (by rw [hl]; omega), List.getElem?_set_self (by rw [hk]; exact hi)]
      · have hmi : j * k + i ≠ m := by rw [← e]; omega
        rw [List.getElem?_set_ne hmi, List.getElem?_set_ne (Ne.symm ei), hg0, e]
    · rw [if_neg e, List.getElem?_set_ne, hg0]
      intro h
      apply e
      rw [← h]
      exact Nat.div_eq_of_lt_le (Nat.le_add_right _ _) (by rw [Nat.succ_mul]; omega)
  · rw [List.getElem?_eq_none (by simp; omega), List.getElem?_eq_none (by rw [flat_len hk]; simp; omega)]
theorem RecAt.put1 (hk : ∀ x, (enc x).length = k) (h0 : 0 < k) {t n₀ n cap g : Nat} {w : World} {xs : List α} (h : RecAt t k enc n₀ w (.slice (some ⟨g, 0, none⟩) n cap) xs) (hn : n = xs.length) {j i : Nat} (hj : j < xs.length) (hi : i < k) (u : Value) (x : α) (hx : enc x = (enc (recAt xs j)).set i u) :
    RecAt t k enc n₀ (w.setCell ⟨g, j * k + i, none⟩ u) (.slice (some ⟨g, 0, none⟩) n cap) (xs.set j x) ∧ w.grownBy (w.setCell ⟨g, j * k + i, none⟩ u) (some g) := by
  subst hn
  obtain ⟨h1, h2⟩ := World.ownsRow.stored h (j * k + i) u
  rw [flat_set1 hk h0 xs hj hi u x hx] at h1
  refine ⟨?_, h2⟩
  unfold RecAt
  rw [List.length_set]
  exact h1
end

end Go.Proofs.YtnponpamjddpjabGreat

/- Contracts of the laws' own helpers over smithies: how big one is, its copy in memory of its own, that two that read alike are alike. Conditions: the slices can be read; what is copied is no longer than 2^20. -/
namespace Go.Proofs.YtnponpamjddpjabGreat
open Go.ChangeShapes Go.WideShapes Go.ChangeAt Go.RowKit Go.Sort
set_option linter.unusedVariables false

set_option maxHeartbeats 1000000 in
theorem szHall_le {w : World} {v : Value} {rs : List RoomV} (h : IsRooms w v rs) (left : Int) (h0 : 0 ≤ left) (h1 : left ≤ 1048576) :
    Calls Tryz.prog 18 #[.agg #[v], .int .i64 left] w fun e w' => ∃ x : Int, e = .returned (.int .i64 x) ∧ x ≤ 1048576 ∧ (0 ≤ x → Small rs) ∧ Below w.heap.size w w' := by
  have Hv := hide h
  obtain ⟨a, cap, rfl, hc, hm, hr⟩ := h
  clear hr
  go_enter Tryz.func18, Tryz.ntmps18
  go_wp2_with fail
  refine (szRoomS_any ((unhide Hv).alloc _) left h0 h1).mono ?_
  rintro e w1 ⟨x, rfl, x1, hx, hb⟩
  have Hx := hide hx
  have Hb := hide hb
  clear hx hb
  by_cases hx0 : x < 0
  · go_wp2_with fail
    go_ret
    exact ⟨-1, rfl, by omega, fun h => by omega, ((Below.refl _ _).alloc (Nat.le_refl _) _).trans ((unhide Hb).mono (by simp))⟩
  · go_wp2_with fail
    go_ret
    exact ⟨x, rfl, x1, unhide Hx, ((Below.refl _ _).alloc (Nat.le_refl _) _).trans ((unhide Hb).mono (by simp))⟩
set_option maxHeartbeats 2000000 in
theorem szSmithy_any {w : World} {v0 v1 v2 v3 v4 : Value} {m : SmyV} (h : Smy w v0 v1 v2 v3 v4 m) :
    Calls Tryz.prog 7 #[.agg #[v0, v1, v2, v3, v4, .int .i64 m.now], .int .i64 1048576] w fun e w' => ∃ x : Int, e = .returned (.int .i64 x) ∧ (0 ≤ x → SmySmall m) ∧ Below w.heap.size w w' := by
  have Hv := hide h
  obtain ⟨a0, p0, rfl, _, _⟩ := IsRooms.shape h.rooms
  obtain ⟨a1, p1, rfl, hc1, hm1⟩ := IsRec.shape h.guilds
  obtain ⟨a2, p2, rfl, hc2, hm2⟩ := IsRec.shape h.smiths
  obtain ⟨a3, p3, rfl, hc3, hm3⟩ := IsRec.shape h.desks
  obtain ⟨a4, p4, rfl, hc4, hm4⟩ := IsRec.shape h.paces
  clear h
  go_enter Tryz.func7, Tryz.ntmps7
  go_wp2_with fail
  refine (szHall_le ((unhide Hv).alloc _).rooms _ (by omega) (by omega)).mono ?_
  rintro e w1 ⟨x, rfl, x1, hx, hb⟩
  have kb : Hid (Blk w1 w.heap.size 30 #[.slice a0 m.rooms.length p0, .slice a1 m.guilds.length p1, .slice a2 m.smiths.length p2, .slice a3 m.desks.length p3, .slice a4 m.paces.length p4, .int .i64 m.now]) := hide ((Blk.new w _ _).below hb (by simp))
  have BB : Hid (Below w.heap.size w w1) := hide (((Below.refl _ _).alloc (Nat.le_refl _) _).trans (hb.mono (by simp)))
  have Hx := hide hx
  clear hx hb
  have c1 := (unhide kb).cell (i := 1) (v := .slice a1 m.guilds.length p1) rfl
  have c2 := (unhide kb).cell (i := 2) (v := .slice a2 m.smiths.length p2) rfl
  have c3 := (unhide kb).cell (i := 3) (v := .slice a3 m.desks.length p3) rfl
  have c4 := (unhide kb).cell (i := 4) (v := .slice a4 m.paces.length p4) rfl
  by_cases hx0 : x < 0
  · go_wp2_with fail
    go_ret
    exact ⟨-1, rfl, fun h => by omega, unhide BB⟩
  go_wp2_with fail
  refine (szGuildS_any _ _ _ _ (by omega) (by omega) (by omega) _).mono ?_
  by_cases g0 : x - (m.guilds.length : Int) < 0
  · rw [szV_f g0]
    rintro e w' ⟨rfl, h9⟩
    subst w'
    go_wp2_with fail
    go_ret
    exact ⟨-1, rfl, fun h => by omega, unhide BB⟩
  rw [szV_t g0]
  rintro e w' ⟨rfl, h9⟩
  subst w'
  go_wp2_with fail
  refine (szSmithS_any _ _ _ _ (by omega) (by omega) (by omega) _).mono ?_
  by_cases g1 : x - (m.guilds.length : Int) - (m.smiths.length : Int) < 0
  · rw [szV_f g1]
    rintro e w' ⟨rfl, h9⟩
    subst w'
    go_wp2_with fail
    go_ret
    exact ⟨-1, rfl, fun h => by omega, unhide BB⟩
  rw [szV_t g1]
  rintro e w' ⟨rfl, h9⟩
  subst w'
  go_wp2_with fail
  refine (szDeskS_any _ _ _ _ (by omega) (by omega) (by omega) _).mono ?_
  by_cases g2 : x - (m.guilds.length : Int) - (m.smiths.length : Int) - (m.desks.length : Int) < 0
  · rw [szV_f g2]
    rintro e w' ⟨rfl, h9⟩
    subst w'
    go_wp2_with fail
    go_ret
    exact ⟨-1, rfl, fun h => by omega, unhide BB⟩
  rw [szV_t g2]
  rintro e w' ⟨rfl, h9⟩
  subst w'
  go_wp2_with fail
  refine (szInt64S_any _ _ _ _ (by omega) (by omega) (by omega) _).mono ?_
  by_cases g3 : x - (m.guilds.length : Int) - (m.smiths.length : Int) - (m.desks.length : Int) - (m.paces.length : Int) < 0
  · rw [szV_f g3]
    rintro e w' ⟨rfl, h9⟩
    subst w'
    go_wp2_with fail
    go_ret
    exact ⟨-1, rfl, fun h => by omega, unhide BB⟩
  rw [szV_t g3]
  rintro e w' ⟨rfl, h9⟩
  subst w'
  go_wp2_with fail
  go_ret
  exact ⟨_, rfl, fun _ => ⟨unhide Hx (by omega), by omega, by omega, by omega, by omega⟩, unhide BB⟩

set_option maxHeartbeats 2000000 in
theorem toHall_own {w : World} {v : Value} {rs : List RoomV} (h : IsRooms w v rs) (hs : Small rs) :
    Calls Tryz.prog 26 #[.agg #[v]] w fun e w' => ∃ v', e = .returned (.agg #[v']) ∧ RoomsFrom w.heap.size w' v' rs ∧ Below w.heap.size w w' := by
  have Hv := hide h
  obtain ⟨a, cap, rfl, hc, hm, hr⟩ := h
  clear hr
  have Hb0 : Hid (∀ o1 o2 o3 : Obj, Below w.heap.size w (((w.alloc o1).alloc o2).alloc o3)) := hide (fun o1 o2 o3 => (((Below.refl _ _).alloc (Nat.le_refl _) _).alloc (by simp) _).alloc (by simp; omega) _)
  go_enter Tryz.func26, Tryz.ntmps26
  go_wp2_with fail
  refine (toRoomS_any ((unhide Hv).below (unhide Hb0 _ _ _)) hs).mono ?_
  rintro e w1 ⟨v', rfl, hp, hb1⟩
  simp only [World.size_alloc] at hp
  have hsz : w.heap.size + 3 ≤ w1.heap.size := by have := hb1.size; simp at this; omega
  obtain ⟨cc, ff⟩ := bcell hb1
  have x0 := cc (w.heap.size + 2) 0 (by simp)
  have y0 := cc (w.heap.size + 1) 0 (by simp)
  have fx0 := ff (w.heap.size + 2) 0 (by simp)
  have fy0 := ff (w.heap.size + 1) 0 (by simp)
  have Hp := hide hp
  have Hb1 := hide hb1
  obtain ⟨a', cap', rfl, _⟩ := hp
  clear cc ff hb1
  go_wp2_with fail
  have B1 : Below w.heap.size w w1 := (unhide Hb0 _ _ _).trans ((unhide Hb1).mono (by simp; omega))
  refine bodyPost_ret (v := .agg #[.slice a' rs.length cap']) (by simp [results, Tryz.results26, go_sem, *]) rfl ⟨_, rfl, ?_, ?_⟩
  · exact (((unhide Hp).set _ _ _ (by omega)).set _ _ _ (by omega)).mono (by omega)
  · exact (B1.setCell (by show _ ≤ w.heap.size + 1 + 1; omega) _).setCell (by show _ ≤ w.heap.size + 1; omega) _

set_option maxRecDepth 100000 in
set_option maxHeartbeats 4000000 in
theorem toSmithy_any {w : World} {v0 v1 v2 v3 v4 : Value} {m : SmyV} (h : Smy w v0 v1 v2 v3 v4 m) (hs : SmySmall m) :
    Calls Tryz.prog 9 #[.agg #[v0, v1, v2, v3, v4, .int .i64 m.now]] w fun e w' => ∃ u0 u1 u2 u3 u4, e = .returned (.agg #[u0, u1, u2, u3, u4, .int .i64 m.now]) ∧ OwnSmy w.heap.size w' u0 u1 u2 u3 u4 m ∧ Below w.heap.size w w' := by
  have Hv := hide h
  have Hs := hide hs
  obtain ⟨a0, p0, rfl, _, _⟩ := IsRooms.shape h.rooms
  obtain ⟨a1, p1, rfl, hc1, hm1⟩ := IsRec.shape h.guilds
  obtain ⟨a2, p2, rfl, hc2, hm2⟩ := IsRec.shape h.smiths
  obtain ⟨a3, p3, rfl, hc3, hm3⟩ := IsRec.shape h.desks
  obtain ⟨a4, p4, rfl, hc4, hm4⟩ := IsRec.shape h.paces
  clear h hs
  go_enter Tryz.func9, Tryz.ntmps9
  go_wp2_with fail
  have BB : Hid (Below w.heap.size w (((w.alloc (.cells #[.slice a0 m.rooms.length p0, .slice a1 m.guilds.length p1, .slice a2 m.smiths.length p2, .slice a3 m.desks.length p3, .slice a4 m.paces.length p4, .int .i64 m.now] 30)).alloc (.cells #[.slice none 0 0, .slice none 0 0, .slice none 0 0, .slice none 0 0, .slice none 0 0, .int .i64 0] 40)).alloc (.cells #[.slice none 0 0, .slice none 0 0, .slice none 0 0, .slice none 0 0, .slice none 0 0, .int .i64 0] 40))) := hide ((((Below.refl _ _).alloc (Nat.le_refl _) _).alloc (by simp) _).alloc (by simp; omega) _)
  have ka : Hid (Blk (((w.alloc (.cells #[.slice a0 m.rooms.length p0, .slice a1 m.guilds.length p1, .slice a2 m.smiths.length p2, .slice a3 m.desks.length p3, .slice a4 m.paces.length p4, .int .i64 m.now] 30)).alloc (.cells #[.slice none 0 0, .slice none 0 0, .slice none 0 0, .slice none 0 0, .slice none 0 0, .int .i64 0] 40)).alloc (.cells #[.slice none 0 0, .slice none 0 0, .slice none 0 0, .slice none 0 0, .slice none 0 0, .int .i64 0] 40)) w.heap.size 30 #[.slice a0 m.rooms.length p0, .slice a1 m.guilds.length p1, .slice a2 m.smiths.length p2, .slice a3 m.desks.length p3, .slice a4 m.paces.length p4, .int .i64 m.now]) := hide (((Blk.new w _ _).alloc _).alloc _)
  have kr : Hid (Blk (((w.alloc (.cells #[.slice a0 m.rooms.length p0, .slice a1 m.guilds.length p1, .slice a2 m.smiths.length p2, .slice a3 m.desks.length p3, .slice a4 m.paces.length p4, .int .i64 m.now] 30)).alloc (.cells #[.slice none 0 0, .slice none 0 0, .slice none 0 0, .slice none 0 0, .slice none 0 0, .int .i64 0] 40)).alloc (.cells #[.slice none 0 0, .slice none 0 0, .slice none 0 0, .slice none 0 0, .slice none 0 0, .int .i64 0] 40)) (w.heap.size + 1) 40 #[.slice none 0 0, .slice none 0 0, .slice none 0 0, .slice none 0 0, .slice none 0 0, .int .i64 0]) := hide (by
    have k := Blk.new (w.alloc (.cells #[.slice a0 m.rooms.length p0, .slice a1 m.guilds.length p1, .slice a2 m.smiths.length p2, .slice a3 m.desks.length p3, .slice a4 m.paces.length p4, .int .i64 m.now] 30)) 40 #[.slice none 0 0, .slice none 0 0, .slice none 0 0, .slice none 0 0, .slice none 0 0, .int .i64 0]
    rw [World.size_alloc] at k
    exact k.alloc _)
  have ko : Hid (Blk (((w.alloc (.cells #[.slice a0 m.rooms.length p0, .slice a1 m.guilds.length p1, .slice a2 m.smiths.length p2, .slice a3 m.desks.length p3, .slice a4 m.paces.length p4, .int .i64 m.now] 30)).alloc (.cells #[.slice none 0 0, .slice none 0 0, .slice none 0 0, .slice none 0 0, .slice none 0 0, .int .i64 0] 40)).alloc (.cells #[.slice none 0 0, .slice none 0 0, .slice none 0 0, .slice none 0 0, .slice none 0 0, .int .i64 0] 40)) (w.heap.size + 1 + 1) 40 #[.slice none 0 0, .slice none 0 0, .slice none 0 0, .slice none 0 0, .slice none 0 0, .int .i64 0]) := hide (by
    have k := Blk.new ((w.alloc (.cells #[.slice a0 m.rooms.length p0, .slice a1 m.guilds.length p1, .slice a2 m.smiths.length p2, .slice a3 m.desks.length p3, .slice a4 m.paces.length p4, .int .i64 m.now] 30)).alloc (.cells #[.slice none 0 0, .slice none 0 0, .slice none 0 0, .slice none 0 0, .slice none 0 0, .int .i64 0] 40)) 40 #[.slice none 0 0, .slice none 0 0, .slice none 0 0, .slice none 0 0, .slice none 0 0, .int .i64 0]
    rw [World.size_alloc, World.size_alloc] at k
    exact k)
  generalize ((w.alloc (.cells #[.slice a0 m.rooms.length p0, .slice a1 m.guilds.length p1, .slice a2 m.smiths.length p2, .slice a3 m.desks.length p3, .slice a4 m.paces.length p4, .int .i64 m.now] 30)).alloc (.cells #[.slice none 0 0, .slice none 0 0, .slice none 0 0, .slice none 0 0, .slice none 0 0, .int .i64 0] 40)).alloc (.cells #[.slice none 0 0, .slice none 0 0, .slice none 0 0, .slice none 0 0, .slice none 0 0, .int .i64 0] 40) = W at *
  have hW : w.heap.size + 3 ≤ W.heap.size := by have := (unhide ko).lt; omega
  refine (toHall_own ((unhide Hv).below (unhide BB)).rooms (unhide Hs).rooms).mono ?_
  rintro e w1 ⟨u0, rfl, hp, hb⟩
  have n0 : Hid (RoomsFrom (w.heap.size + 3) w1 u0 m.rooms) := hide (hp.mono hW)
  replace ka := hide ((unhide ka).below hb (unhide ka).lt)
  replace kr := hide ((unhide kr).below hb (unhide kr).lt)
  replace ko := hide ((unhide ko).below hb (unhide ko).lt)
  replace BB := hide ((unhide BB).trans (hb.mono (unhide BB).size))
  have hW2 : w.heap.size + 3 ≤ w1.heap.size := by have := hb.size; omega
  obtain ⟨b0, q0, rfl, _⟩ := hp
  clear hb
  have o0 := (unhide ko).cell (i := 0) (v := .slice none 0 0) rfl
  have f0 := (unhide ko).free 0
  have c1 := (unhide ka).cell (i := 1) (v := .slice a1 m.guilds.length p1) rfl
  go_wp2_with fail
  replace ka : Hid (Blk (w1.setCell ⟨w.heap.size + 1 + 1, 0, none⟩ (.slice b0 m.rooms.length q0)) w.heap.size 30 #[.slice a0 m.rooms.length p0, .slice a1 m.guilds.length p1, .slice a2 m.smiths.length p2, .slice a3 m.desks.length p3, .slice a4 m.paces.length p4, .int .i64 m.now]) := hide ((unhide ka).other (a := ⟨w.heap.size + 1 + 1, 0, none⟩) (by show w.heap.size ≠ w.heap.size + 1 + 1; omega) _)
  replace kr : Hid (Blk (w1.setCell ⟨w.heap.size + 1 + 1, 0, none⟩ (.slice b0 m.rooms.length q0)) (w.heap.size + 1) 40 #[.slice none 0 0, .slice none 0 0, .slice none 0 0, .slice none 0 0, .slice none 0 0, .int .i64 0]) := hide ((unhide kr).other (a := ⟨w.heap.size + 1 + 1, 0, none⟩) (by show w.heap.size + 1 ≠ w.heap.size + 1 + 1; omega) _)
  replace ko : Hid (Blk (w1.setCell ⟨w.heap.size + 1 + 1, 0, none⟩ (.slice b0 m.rooms.length q0)) (w.heap.size + 1 + 1) 40 #[.slice b0 m.rooms.length q0, .slice none 0 0, .slice none 0 0, .slice none 0 0, .slice none 0 0, .int .i64 0]) := hide ((unhide ko).set 0 _)
  replace n0 := hide ((unhide n0).set (w.heap.size + 1 + 1) 0 (.slice b0 m.rooms.length q0) (by omega))
  replace BB : Hid (Below w.heap.size w (w1.setCell ⟨w.heap.size + 1 + 1, 0, none⟩ (.slice b0 m.rooms.length q0))) := hide ((unhide BB).setCell (p := ⟨w.heap.size + 1 + 1, 0, none⟩) (by show w.heap.size ≤ w.heap.size + 1 + 1; omega) _)
  have hW3 : w.heap.size + 3 ≤ (w1.setCell ⟨w.heap.size + 1 + 1, 0, none⟩ (.slice b0 m.rooms.length q0)).heap.size := by have := (unhide ko).lt; omega
  clear o0 f0 c1 hW hW2
  generalize (w1.setCell ⟨w.heap.size + 1 + 1, 0, none⟩ (.slice b0 m.rooms.length q0)) = W at *
  have hW := hW3
  clear hW3
  refine (toGuildS_any ((unhide Hv).below (unhide BB)).guilds (unhide Hs).guilds).mono ?_
  rintro e w2 ⟨u1, rfl, hp, hb⟩
  have n1 : Hid (GuildsAt (w.heap.size + 3) w2 u1 m.guilds) := hide (RecAt.mono hp hW)
  replace n0 := hide ((unhide n0).below hb)
  replace ka := hide ((unhide ka).below hb (unhide ka).lt)
  replace kr := hide ((unhide kr).below hb (unhide kr).lt)
  replace ko := hide ((unhide ko).below hb (unhide ko).lt)
  replace BB := hide ((unhide BB).trans (hb.mono (unhide BB).size))
  have hW2 : w.heap.size + 3 ≤ w2.heap.size := by have := hb.size; omega
  obtain ⟨b1, q1, rfl⟩ := RecAt.shape hp
  clear hp hb
  have o1 := (unhide ko).cell (i := 1) (v := .slice none 0 0) rfl
  have f1 := (unhide ko).free 1
  have c2 := (unhide ka).cell (i := 2) (v := .slice a2 m.smiths.length p2) rfl
  go_wp2_with fail
  replace ka : Hid (Blk (w2.setCell ⟨w.heap.size + 1 + 1, 1, none⟩ (.slice b1 m.guilds.length q1)) w.heap.size 30 #[.slice a0 m.rooms.length p0, .slice a1 m.guilds.length p1, .slice a2 m.smiths.length p2, .slice a3 m.desks.length p3, .slice a4 m.paces.length p4, .int .i64 m.now]) := hide ((unhide ka).other (a := ⟨w.heap.size + 1 + 1, 1, none⟩) (by show w.heap.size ≠ w.heap.size + 1 + 1; omega) _)
  replace kr : Hid (Blk (w2.setCell ⟨w.heap.size + 1 + 1, 1, none⟩ (.slice b1 m.guilds.length q1)) (w.heap.size + 1) 40 #[.slice none 0 0, .slice none 0 0, .slice none 0 0, .slice none 0 0, .slice none 0 0, .int .i64 0]) := hide ((unhide kr).other (a := ⟨w.heap.size + 1 + 1, 1, none⟩) (by show w.heap.size + 1 ≠ w.heap.size + 1 + 1; omega) _)
  replace ko : Hid (Blk (w2.setCell ⟨w.heap.size + 1 + 1, 1, none⟩ (.slice b1 m.guilds.length q1)) (w.heap.size + 1 + 1) 40 #[.slice b0 m.rooms.length q0, .slice b1 m.guilds.length q1, .slice none 0 0, .slice none 0 0, .slice none 0 0, .int .i64 0]) := hide ((unhide ko).set 1 _)
  replace n0 := hide ((unhide n0).set (w.heap.size + 1 + 1) 1 (.slice b1 m.guilds.length q1) (by omega))
  replace n1 := hide (RecAt.set_old (unhide n1) (w.heap.size + 1 + 1) 1 (.slice b1 m.guilds.length q1) (by omega))
  replace BB : Hid (Below w.heap.size w (w2.setCell ⟨w.heap.size + 1 + 1, 1, none⟩ (.slice b1 m.guilds.length q1))) := hide ((unhide BB).setCell (p := ⟨w.heap.size + 1 + 1, 1, none⟩) (by show w.heap.size ≤ w.heap.size + 1 + 1; omega) _)
  have hW3 : w.heap.size + 3 ≤ (w2.setCell ⟨w.heap.size + 1 + 1, 1, none⟩ (.slice b1 m.guilds.length q1)).heap.size := by have := (unhide ko).lt; omega
  clear o1 f1 c2 hW hW2
  generalize (w2.setCell ⟨w.heap.size + 1 + 1, 1, none⟩ (.slice b1 m.guilds.length q1)) = W at *
  have hW := hW3
  clear hW3
  refine (toSmithS_any ((unhide Hv).below (unhide BB)).smiths (unhide Hs).smiths).mono ?_
  rintro e w3 ⟨u2, rfl, hp, hb⟩
  have n2 : Hid (SmithsAt (w.heap.size + 3) w3 u2 m.smiths) := hide (RecAt.mono hp hW)
  replace n0 := hide ((unhide n0).below hb)
  replace n1 := hide (RecAt.later (unhide n1) hb)
  replace ka := hide ((unhide ka).below hb (unhide ka).lt)
  replace kr := hide ((unhide kr).below hb (unhide kr).lt)
  replace ko := hide ((unhide ko).below hb (unhide ko).lt)
  replace BB := hide ((unhide BB).trans (hb.mono (unhide BB).size))
  have hW2 : w.heap.size + 3 ≤ w3.heap.size := by have := hb.size; omega
  obtain ⟨b2, q2, rfl⟩ := RecAt.shape hp
  clear hp hb
  have o2 := (unhide ko).cell (i := 2) (v := .slice none 0 0) rfl
  have f2 := (unhide ko).free 2
  have c3 := (unhide ka).cell (i := 3) (v := .slice a3 m.desks.length p3) rfl
  go_wp2_with fail
  replace ka : Hid (Blk (w3.setCell ⟨w.heap.size + 1 + 1, 2, none⟩ (.slice b2 m.smiths.length q2)) w.heap.size 30 #[.slice a0 m.rooms.length p0, .slice a1 m.guilds.length p1, .slice a2 m.smiths.length p2, .slice a3 m.desks.length p3, .slice a4 m.paces.length p4, .int .i64 m.now]) := hide ((unhide ka).other (a := ⟨w.heap.size + 1 + 1, 2, none⟩) (by show w.heap.size ≠ w.heap.size + 1 + 1; omega) _)
  replace kr : Hid (Blk (w3.setCell ⟨w.heap.size + 1 + 1, 2, none⟩ (.slice b2 m.smiths.length q2)) (w.heap.size + 1) 40 #[.slice none 0 0, .slice none 0 0, .slice none 0 0, .slice none 0 0, .slice none 0 0, .int .i64 0]) := hide ((unhide kr).other (a := ⟨w.heap.size + 1 + 1, 2, none⟩) (by show w.heap.size + 1 ≠ w.heap.size + 1 + 1; omega) _)
  replace ko : Hid (Blk (w3.setCell ⟨w.heap.size + 1 + 1, 2, none⟩ (.slice b2 m.smiths.length q2)) (w.heap.size + 1 + 1) 40 #[.slice b0 m.rooms.length q0, .slice b1 m.guilds.length q1, .slice b2 m.smiths.length q2, .slice none 0 0, .slice none 0 0, .int .i64 0]) := hide ((unhide ko).set 2 _)
  replace n0 := hide ((unhide n0).set (w.heap.size + 1 + 1) 2 (.slice b2 m.smiths.length q2) (by omega))
  replace n1 := hide (RecAt.set_old (unhide n1) (w.heap.size + 1 + 1) 2 (.slice b2 m.smiths.length q2) (by omega))
  replace n2 := hide (RecAt.set_old (unhide n2) (w.heap.size + 1 + 1) 2 (.slice b2 m.smiths.length q2) (by omega))
  replace BB : Hid (Below w.heap.size w (w3.setCell ⟨w.heap.size + 1 + 1, 2, none⟩ (.slice b2 m.smiths.length q2))) := hide ((unhide BB).setCell (p := ⟨w.heap.size + 1 + 1, 2, none⟩) (by show w.heap.size ≤ w.heap.size + 1 + 1; omega) _)
  have hW3 : w.heap.size + 3 ≤ (w3.setCell ⟨w.heap.size + 1 + 1, 2, none⟩ (.slice b2 m.smiths.length q2)).heap.size := by have := (unhide ko).lt; omega
  clear o2 f2 c3 hW hW2
  generalize (w3.setCell ⟨w.heap.size + 1 + 1, 2, none⟩ (.slice b2 m.smiths.length q2)) = W at *
  have hW := hW3
  clear hW3
  refine (toDeskS_any ((unhide Hv).below (unhide BB)).desks (unhide Hs).desks).mono ?_
  rintro e w4 ⟨u3, rfl, hp, hb⟩
  have n3 : Hid (DesksAt (w.heap.size + 3) w4 u3 m.desks) := hide (RecAt.mono hp hW)
  replace n0 := hide ((unhide n0).below hb)
  replace n1 := hide (RecAt.later (unhide n1) hb)
  replace n2 := hide (RecAt.later (unhide n2) hb)
  replace ka := hide ((unhide ka).below hb (unhide ka).lt)
  replace kr := hide ((unhide kr).below hb (unhide kr).lt)
  replace ko := hide ((unhide ko).below hb (unhide ko).lt)
  replace BB := hide ((unhide BB).trans (hb.mono (unhide BB).size))
  have hW2 : w.heap.size + 3 ≤ w4.heap.size := by have := hb.size; omega
  obtain ⟨b3, q3, rfl⟩ := RecAt.shape hp
  clear hp hb
  have o3 := (unhide ko).cell (i := 3) (v := .slice none 0 0) rfl
  have f3 := (unhide ko).free 3
  have c4 := (unhide ka).cell (i := 4) (v := .slice a4 m.paces.length p4) rfl
  go_wp2_with fail
  replace ka : Hid (Blk (w4.setCell ⟨w.heap.size + 1 + 1, 3, none⟩ (.slice b3 m.desks.length q3)) w.heap.size 30 #[.slice a0 m.rooms.length p0, .slice a1 m.guilds.length p1, .slice a2 m.smiths.length p2, .slice a3 m.desks.length p3, .slice a4 m.paces.length p4, .int .i64 m.now]) := hide ((unhide ka).other (a := ⟨w.heap.size + 1 + 1, 3, none⟩) (by show w.heap.size ≠ w.heap.size + 1 + 1; omega) _)
  replace kr : Hid (Blk (w4.setCell ⟨w.heap.size + 1 + 1, 3, none⟩ (.slice b3 m.desks.length q3)) (w.heap.size + 1) 40 #[.slice none 0 0, .slice none 0 0, .slice none 0 0, .slice none 0 0, .slice none 0 0, .int .i64 0]) := hide ((unhide kr).other (a := ⟨w.heap.size + 1 + 1, 3, none⟩) (by show w.heap.size + 1 ≠ w.heap.size + 1 + 1; omega) _)
  replace ko : Hid (Blk (w4.setCell ⟨w.heap.size + 1 + 1, 3, none⟩ (.slice b3 m.desks.length q3)) (w.heap.size + 1 + 1) 40 #[.slice b0 m.rooms.length q0, .slice b1 m.guilds.length q1, .slice b2 m.smiths.length q2, .slice b3 m.desks.length q3, .slice none 0 0, .int .i64 0]) := hide ((unhide ko).set 3 _)
  replace n0 := hide ((unhide n0).set (w.heap.size + 1 + 1) 3 (.slice b3 m.desks.length q3) (by omega))
  replace n1 := hide (RecAt.set_old (unhide n1) (w.heap.size + 1 + 1) 3 (.slice b3 m.desks.length q3) (by omega))
  replace n2 := hide (RecAt.set_old (unhide n2) (w.heap.size + 1 + 1) 3 (.slice b3 m.desks.length q3) (by omega))
  replace n3 := hide (RecAt.set_old (unhide n3) (w.heap.size + 1 + 1) 3 (.slice b3 m.desks.length q3) (by omega))
  replace BB : Hid (Below w.heap.size w (w4.setCell ⟨w.heap.size + 1 + 1, 3, none⟩ (.slice b3 m.desks.length q3))) := hide ((unhide BB).setCell (p := ⟨w.heap.size + 1 + 1, 3, none⟩) (by show w.heap.size ≤ w.heap.size + 1 + 1; omega) _)
  have hW3 : w.heap.size + 3 ≤ (w4.setCell ⟨w.heap.size + 1 + 1, 3, none⟩ (.slice b3 m.desks.length q3)).heap.size := by have := (unhide ko).lt; omega
  clear o3 f3 c4 hW hW2
  generalize (w4.setCell ⟨w.heap.size + 1 + 1, 3, none⟩ (.slice b3 m.desks.length q3)) = W at *
  have hW := hW3
  clear hW3
  refine (toInt64S_any ((unhide Hv).below (unhide BB)).paces (unhide Hs).paces).mono ?_
  rintro e w5 ⟨u4, rfl, hp, hb⟩
  have n4 : Hid (NumsAt (w.heap.size + 3) w5 u4 m.paces) := hide (RecAt.mono hp hW)
  replace n0 := hide ((unhide n0).below hb)
  replace n1 := hide (RecAt.later (unhide n1) hb)
  replace n2 := hide (RecAt.later (unhide n2) hb)
  replace n3 := hide (RecAt.later (unhide n3) hb)
  replace ka := hide ((unhide ka).below hb (unhide ka).lt)
  replace kr := hide ((unhide kr).below hb (unhide kr).lt)
  replace ko := hide ((unhide ko).below hb (unhide ko).lt)
  replace BB := hide ((unhide BB).trans (hb.mono (unhide BB).size))
  have hW2 : w.heap.size + 3 ≤ w5.heap.size := by have := hb.size; omega
  obtain ⟨b4, q4, rfl⟩ := RecAt.shape hp
  clear hp hb
  have o4 := (unhide ko).cell (i := 4) (v := .slice none 0 0) rfl
  have f4 := (unhide ko).free 4
  have o0 := (unhide ko).cell (i := 0) (v := .slice b0 m.rooms.length q0) rfl
  have r0 := (unhide kr).cell (i := 0) (v := .slice none 0 0) rfl
  have rf0 := (unhide kr).free 0
  have o1 := (unhide ko).cell (i := 1) (v := .slice b1 m.guilds.length q1) rfl
  have r1 := (unhide kr).cell (i := 1) (v := .slice none 0 0) rfl
  have rf1 := (unhide kr).free 1
  have o2 := (unhide ko).cell (i := 2) (v := .slice b2 m.smiths.length q2) rfl
  have r2 := (unhide kr).cell (i := 2) (v := .slice none 0 0) rfl
  have rf2 := (unhide kr).free 2
  have o3 := (unhide ko).cell (i := 3) (v := .slice b3 m.desks.length q3) rfl
  have r3 := (unhide kr).cell (i := 3) (v := .slice none 0 0) rfl
  have rf3 := (unhide kr).free 3
  have r4 := (unhide kr).cell (i := 4) (v := .slice none 0 0) rfl
  have rf4 := (unhide kr).free 4
  have o5 := (unhide ko).cell (i := 5) (v := .int .i64 0) rfl
  have r5 := (unhide kr).cell (i := 5) (v := .int .i64 0) rfl
  have rf5 := (unhide kr).free 5
  have f5 := (unhide ko).free 5
  have c5 := (unhide ka).cell (i := 5) (v := .int .i64 m.now) rfl
  go_wp2_with fail
  refine bodyPost_ret (v := .agg #[.slice b0 m.rooms.length q0, .slice b1 m.guilds.length q1, .slice b2 m.smiths.length q2, .slice b3 m.desks.length q3, .slice b4 m.paces.length q4, .int .i64 m.now]) (by simp [results, Tryz.results9, go_sem, r0, r1, r2, r3, r4, r5]) rfl ⟨_, _, _, _, _, rfl, ?_, ?_⟩
  · refine OwnSmy.mono ?_ (show w.heap.size ≤ w.heap.size + 3 by omega)
    iterate 8 (refine OwnSmy.set ?_ _ _ _ (by omega))
    exact ⟨unhide n0, unhide n1, unhide n2, unhide n3, unhide n4⟩
  · iterate 8 (refine Below.setCell ?_ (by first | (show _ ≤ w.heap.size + 1 + 1; omega) | (show _ ≤ w.heap.size + 1; omega)) _)
    exact unhide BB

set_option maxHeartbeats 2000000 in
theorem eqSmithy_yes {w : World} {v0 v1 v2 v3 v4 u0 u1 u2 u3 u4 : Value} {m : SmyV} (h : Smy w v0 v1 v2 v3 v4 m) (k : Smy w u0 u1 u2 u3 u4 m) :
    Calls Tryz.prog 11 #[.agg #[v0, v1, v2, v3, v4, .int .i64 m.now], .agg #[u0, u1, u2, u3, u4, .int .i64 m.now]] w fun e w' => e = .returned (.bool true) ∧ Below w.heap.size w w' := by
  have Hv := hide h
  have Hu := hide k
  obtain ⟨a0, p0, rfl, _, _⟩ := IsRooms.shape h.rooms
  obtain ⟨a1, p1, rfl, hc1, hm1⟩ := IsRec.shape h.guilds
  obtain ⟨a2, p2, rfl, hc2, hm2⟩ := IsRec.shape h.smiths
  obtain ⟨a3, p3, rfl, hc3, hm3⟩ := IsRec.shape h.desks
  obtain ⟨a4, p4, rfl, hc4, hm4⟩ := IsRec.shape h.paces
  obtain ⟨b0, q0, rfl, _, _⟩ := IsRooms.shape k.rooms
  obtain ⟨b1, q1, rfl, _, _⟩ := IsRec.shape k.guilds
  obtain ⟨b2, q2, rfl, _, _⟩ := IsRec.shape k.smiths
  obtain ⟨b3, q3, rfl, _, _⟩ := IsRec.shape k.desks
  obtain ⟨b4, q4, rfl, _, _⟩ := IsRec.shape k.paces
  clear h k
  go_enter Tryz.func11, Tryz.ntmps11
  go_wp2_with fail
  have BB : Hid (Below w.heap.size w ((w.alloc (.cells #[.slice a0 m.rooms.length p0, .slice a1 m.guilds.length p1, .slice a2 m.smiths.length p2, .slice a3 m.desks.length p3, .slice a4 m.paces.length p4, .int .i64 m.now] 40)).alloc (.cells #[.slice b0 m.rooms.length q0, .slice b1 m.guilds.length q1, .slice b2 m.smiths.length q2, .slice b3 m.desks.length q3, .slice b4 m.paces.length q4, .int .i64 m.now] 40))) := hide (((Below.refl _ _).alloc (Nat.le_refl _) _).alloc (by simp) _)
  have ka : Hid (Blk ((w.alloc (.cells #[.slice a0 m.rooms.length p0, .slice a1 m.guilds.length p1, .slice a2 m.smiths.length p2, .slice a3 m.desks.length p3, .slice a4 m.paces.length p4, .int .i64 m.now] 40)).alloc (.cells #[.slice b0 m.rooms.length q0, .slice b1 m.guilds.length q1, .slice b2 m.smiths.length q2, .slice b3 m.desks.length q3, .slice b4 m.paces.length q4, .int .i64 m.now] 40)) w.heap.size 40 #[.slice a0 m.rooms.length p0, .slice a1 m.guilds.length p1, .slice a2 m.smiths.length p2, .slice a3 m.desks.length p3, .slice a4 m.paces.length p4, .int .i64 m.now]) := hide ((Blk.new w _ _).alloc _)
  have kb : Hid (Blk ((w.alloc (.cells #[.slice a0 m.rooms.length p0, .slice a1 m.guilds.length p1, .slice a2 m.smiths.length p2, .slice a3 m.desks.length p3, .slice a4 m.paces.length p4, .int .i64 m.now] 40)).alloc (.cells #[.slice b0 m.rooms.length q0, .slice b1 m.guilds.length q1, .slice b2 m.smiths.length q2, .slice b3 m.desks.length q3, .slice b4 m.paces.length q4, .int .i64 m.now] 40)) (w.heap.size + 1) 40 #[.slice b0 m.rooms.length q0, .slice b1 m.guilds.length q1, .slice b2 m.smiths.length q2, .slice b3 m.desks.length q3, .slice b4 m.paces.length q4, .int .i64 m.now]) := hide (by
    have k := Blk.new (w.alloc (.cells #[.slice a0 m.rooms.length p0, .slice a1 m.guilds.length p1, .slice a2 m.smiths.length p2, .slice a3 m.desks.length p3, .slice a4 m.paces.length p4, .int .i64 m.now] 40)) 40 #[.slice b0 m.rooms.length q0, .slice b1 m.guilds.length q1, .slice b2 m.smiths.length q2, .slice b3 m.desks.length q3, .slice b4 m.paces.length q4, .int .i64 m.now]
    rw [World.size_alloc] at k
    exact k)
  generalize (w.alloc (.cells #[.slice a0 m.rooms.length p0, .slice a1 m.guilds.length p1, .slice a2 m.smiths.length p2, .slice a3 m.desks.length p3, .slice a4 m.paces.length p4, .int .i64 m.now] 40)).alloc (.cells #[.slice b0 m.rooms.length q0, .slice b1 m.guilds.length q1, .slice b2 m.smiths.length q2, .slice b3 m.desks.length q3, .slice b4 m.paces.length q4, .int .i64 m.now] 40) = W at *
  refine (eqHall_yes ((unhide Hv).below (unhide BB)).rooms ((unhide Hu).below (unhide BB)).rooms).mono ?_
  rintro e w1 ⟨rfl, hb⟩
  replace ka := hide ((unhide ka).below hb (unhide ka).lt)
  replace kb := hide ((unhide kb).below hb (unhide kb).lt)
  replace BB := hide ((unhide BB).trans (hb.mono (unhide BB).size))
  clear hb
  have c1 := (unhide ka).cell (i := 1) (v := .slice a1 m.guilds.length p1) rfl
  have d1 := (unhide kb).cell (i := 1) (v := .slice b1 m.guilds.length q1) rfl
  go_wp2_with fail
  clear c1 d1
  refine (eqGuildS_yes ((unhide Hv).below (unhide BB)).guilds ((unhide Hu).below (unhide BB)).guilds).mono ?_
  rintro e w2 ⟨rfl, hb⟩
  replace ka := hide ((unhide ka).below hb (unhide ka).lt)
  replace kb := hide ((unhide kb).below hb (unhide kb).lt)
  replace BB := hide ((unhide BB).trans (hb.mono (unhide BB).size))
  clear hb
  have c2 := (unhide ka).cell (i := 2) (v := .slice a2 m.smiths.length p2) rfl
  have d2 := (unhide kb).cell (i := 2) (v := .slice b2 m.smiths.length q2) rfl
  go_wp2_with fail
  clear c2 d2
  refine (eqSmithS_yes ((unhide Hv).below (unhide BB)).smiths ((unhide Hu).below (unhide BB)).smiths).mono ?_
  rintro e w3 ⟨rfl, hb⟩
  replace ka := hide ((unhide ka).below hb (unhide ka).lt)
  replace kb := hide ((unhide kb).below hb (unhide kb).lt)
  replace BB := hide ((unhide BB).trans (hb.mono (unhide BB).size))
  clear hb
  have c3 := (unhide ka).cell (i := 3) (v := .slice a3 m.desks.length p3) rfl
  have d3 := (unhide kb).cell (i := 3) (v := .slice b3 m.desks.length q3) rfl
  go_wp2_with fail
  clear c3 d3
  refine (eqDeskS_yes ((unhide Hv).below (unhide BB)).desks ((unhide Hu).below (unhide BB)).desks).mono ?_
  rintro e w4 ⟨rfl, hb⟩
  replace ka := hide ((unhide ka).below hb (unhide ka).lt)
  replace kb := hide ((unhide kb).below hb (unhide kb).lt)
  replace BB := hide ((unhide BB).trans (hb.mono (unhide BB).size))
  clear hb
  have c4 := (unhide ka).cell (i := 4) (v := .slice a4 m.paces.length p4) rfl
  have d4 := (unhide kb).cell (i := 4) (v := .slice b4 m.paces.length q4) rfl
  go_wp2_with fail
  clear c4 d4
  refine (eqNums_yes ((unhide Hv).below (unhide BB)).paces ((unhide Hu).below (unhide BB)).paces).mono ?_
  rintro e w5 ⟨rfl, hb⟩
  replace ka := hide ((unhide ka).below hb (unhide ka).lt)
  replace kb := hide ((unhide kb).below hb (unhide kb).lt)
  replace BB := hide ((unhide BB).trans (hb.mono (unhide BB).size))
  clear hb
  have c5 := (unhide ka).cell (i := 5) (v := .int .i64 m.now) rfl
  have d5 := (unhide kb).cell (i := 5) (v := .int .i64 m.now) rfl
  go_wp2_with fail
  go_ret
  exact ⟨rfl, unhide BB⟩

end Go.Proofs.YtnponpamjddpjabGreat

/- Halls that the call itself made: rows of rooms and of paces, no two of them in one block; what they read as; that they stay; how a room is put to them. Conditions: those that each theorem names. -/
namespace Go.Proofs.YtnponpamjddpjabGreat
open Go.ChangeShapes Go.WideShapes Go.ChangeAt Go.RowKit Go.Sort
set_option linter.unusedVariables false

/-- The slice v, in a block from n₀ on, holds the paces ps. -/
def PacesAt (n₀ : Nat) (w : World) (v : Value) (ps : List PaceV) : Prop := w.ownsRow n₀ 145 2 v ps.length (pcells ps)
theorem PacesAt.lt {n₀ : Nat} {w : World} {v : Value} {ps : List PaceV} (h : PacesAt n₀ w v ps) {k : Nat} (hk : v.ownBlock = some k) : n₀ ≤ k ∧ k < w.heap.size := World.ownsRow.lt h k hk
theorem PacesAt.paces {n₀ : Nat} {w : World} {v : Value} {ps : List PaceV} (h : PacesAt n₀ w v ps) : IsPaces w v ps := by
  have h' := h
  rcases h.2 with ⟨rfl, hz⟩ | ⟨g, cap, cur, rfl, hb, hg, hnc, hcm, r⟩
  · exact ⟨none, 0, by rw [hz], by omega, by omega, .inl (List.eq_nil_of_length_eq_zero hz)⟩
  · refine ⟨_, cap, rfl, hnc, by unfold maxLen at hcm; omega, .inr ⟨g, 0, rfl, (Array.getElem?_eq_some_iff.1 hg).1, fun k hk => ?_⟩⟩
    have hp := pairs_get (f := fun p : PaceV => Value.int .i64 p.1) (g := fun p : PaceV => Value.int .i64 p.2) ps k hk
    have hat : paceAt ps k = ps[k] := by unfold paceAt; simp [List.getD, hk]
    rw [Nat.zero_add, hat]
    exact ⟨(World.ownsRow.cellAt h' (k * 2) (by omega)).trans hp.1, (World.ownsRow.cellAt h' (k * 2 + 1) (by omega)).trans hp.2⟩

/-- The slice v holds the rooms qs, each with the slice of its paces; all lie in blocks from n₀ on, no two in one. -/
structure OwnHall (n₀ : Nat) (w : World) (v : Value) (qs : List (RoomV × Value)) : Prop where
  row : w.ownsRow n₀ 93 2 v qs.length (rcells qs)
  paces : ∀ q ∈ qs, PacesAt n₀ w q.2 q.1.2
  off : ∀ q ∈ qs, ∀ b, q.2.ownBlock = some b → v.ownBlock ≠ some b
  apart : (qs.map (·.2)).Pairwise fun x y => ∀ b, x.ownBlock = some b → y.ownBlock ≠ some b
theorem OwnHall.nil (n₀ : Nat) (w : World) : OwnHall n₀ w (.slice none 0 0) [] :=
  ⟨World.ownsRow_nil w n₀ _ _, fun _ h => (by cases h), fun _ h => (by cases h), List.Pairwise.nil⟩
theorem OwnHall.lt {n₀ : Nat} {w : World} {v : Value} {qs : List (RoomV × Value)} (h : OwnHall n₀ w v qs) {k : Nat} (hk : v.ownBlock = some k ∨ ∃ q ∈ qs, q.2.ownBlock = some k) : n₀ ≤ k ∧ k < w.heap.size := by
  rcases hk with hk | ⟨q, hq, hk⟩
  · exact World.ownsRow.lt h.row k hk
  · exact (h.paces q hq).lt hk
theorem OwnHall.same {n₀ : Nat} {w w' : World} {v : Value} {qs : List (RoomV × Value)} (h : OwnHall n₀ w v qs) (hs : ∀ k, n₀ ≤ k → k < w.heap.size → w'.heap[k]? = w.heap[k]?) : OwnHall n₀ w' v qs :=
  ⟨own_same h.row (fun k e => hs k (h.lt (.inl e)).1 (h.lt (.inl e)).2), fun q hq => own_same (h.paces q hq) (fun k e => hs k (h.lt (.inr ⟨q, hq, e⟩)).1 (h.lt (.inr ⟨q, hq, e⟩)).2), h.off, h.apart⟩
theorem OwnHall.later {n₀ : Nat} {w w' : World} {v : Value} {qs : List (RoomV × Value)} (h : OwnHall n₀ w v qs) (hb : Below w.heap.size w w') : OwnHall n₀ w' v qs := h.same (fun k _ hk => hb.block k hk)
theorem OwnHall.mono {n₀ n₁ : Nat} {w : World} {v : Value} {qs : List (RoomV × Value)} (h : OwnHall n₀ w v qs) (hn : n₁ ≤ n₀) : OwnHall n₁ w v qs :=
  ⟨own_mono h.row hn, fun q hq => own_mono (h.paces q hq) hn, h.off, h.apart⟩
theorem OwnHall.rooms {n₀ : Nat} {w : World} {v : Value} {qs : List (RoomV × Value)} (h : OwnHall n₀ w v qs) : IsRooms w v (qs.map (·.1)) := by
  have h' := h.row
  have hlen : (qs.map (·.1)).length = qs.length := by simp
  rcases h.row.2 with ⟨rfl, hz⟩ | ⟨g, cap, cur, rfl, hb, hg, hnc, hcm, r⟩
  · exact ⟨none, 0, by rw [hlen, hz], by omega, by omega, .inl (by rw [List.eq_nil_of_length_eq_zero hz]; rfl)⟩
  · refine ⟨_, cap, by rw [hlen], by rw [hlen]; exact hnc, by unfold maxLen at hcm; omega, .inr ⟨g, 0, rfl, (Array.getElem?_eq_some_iff.1 hg).1, fun k hk => ?_⟩⟩
    rw [hlen] at hk
    have hp := pairs_get (f := fun q : RoomV × Value => Value.int .i64 q.1.1) (g := fun q : RoomV × Value => q.2) qs k hk
    have hat : roomAt (qs.map (·.1)) k = qs[k].1 := by unfold roomAt; simp [List.getD, hk]
    rw [Nat.zero_add, hat]
    exact ⟨(World.ownsRow.cellAt h' (k * 2) (by omega)).trans hp.1, qs[k].2, (World.ownsRow.cellAt h' (k * 2 + 1) (by omega)).trans hp.2, (h.paces _ (List.getElem_mem hk)).paces⟩

/-- A room is put to it. -/
theorem OwnHall.push {n₀ : Nat} {w w1 : World} {v v' pv : Value} {qs : List (RoomV × Value)} {rb : Int} {ps : List PaceV} {o : Obj} (h : OwnHall n₀ w v qs) (hp : PacesAt n₀ w pv ps)
    (hoff : ∀ b, pv.ownBlock = some b → v.ownBlock ≠ some b) (hap : ∀ q ∈ qs, ∀ b, q.2.ownBlock = some b → pv.ownBlock ≠ some b)
    (hown : w1.ownsRow n₀ 93 2 v' (qs.length + 1) (rcells qs ++ [.int .i64 rb, pv])) (hg : (w.alloc o).grownBy w1 v.ownBlock) (hat : v'.ownBlock = v.ownBlock ∨ v'.ownBlock = some (w.alloc o).heap.size) :
    OwnHall n₀ w1 v' (qs ++ [((rb, ps), pv)]) := by
  have hk : ∀ k, k < w.heap.size → v.ownBlock ≠ some k → w1.heap[k]? = w.heap[k]? := fun k hk hn => (hg.block k (by simp; omega) (fun e => hn e.symm)).trans (Below.heap_alloc w o k hk)
  have hv' : ∀ k, k < w.heap.size → v'.ownBlock = some k → v.ownBlock = some k := fun k hk e => by
    rcases hat with e' | e'
    · rw [← e']; exact e
    · rw [e'] at e; simp at e; omega
  refine ⟨?_, fun q hq => ?_, fun q hq b e => ?_, ?_⟩
  · simpa [rcells] using hown
  · rcases List.mem_append.1 hq with hq | hq
    · exact own_same (h.paces q hq) (fun k e => hk k (h.lt (.inr ⟨q, hq, e⟩)).2 (h.off q hq k e))
    · obtain rfl : q = ((rb, ps), pv) := by simpa using hq
      exact own_same hp (fun k e => hk k (hp.lt e).2 (hoff k e))
  · rcases List.mem_append.1 hq with hq | hq
    · exact fun e' => h.off q hq b e (hv' b (h.lt (.inr ⟨q, hq, e⟩)).2 e')
    · obtain rfl : q = ((rb, ps), pv) := by simpa using hq
      exact fun e' => hoff b e (hv' b (hp.lt e).2 e')
  · rw [List.map_append, List.pairwise_append]
    refine ⟨h.apart, by simp, fun x hx y hy b e => ?_⟩
    obtain ⟨q, hq, rfl⟩ := List.mem_map.1 hx
    obtain rfl : y = pv := by simpa using hy
    exact hap q hq b e

theorem infoRoom2 : (Tryz.prog.info? 93).map (fun i => (i.zero, i.size, i.bytes)) = some (some (.agg #[.int .i64 0, .slice none 0 0]), 2, 32) := by kernel_rfl

theorem OwnHall.shape {n₀ : Nat} {w : World} {v : Value} {qs : List (RoomV × Value)} (h : OwnHall n₀ w v qs) : ∃ a cap, v = .slice a qs.length cap := by
  rcases h.row.2 with ⟨rfl, hz⟩ | ⟨g, cap, cur, rfl, _⟩
  · exact ⟨none, 0, by rw [hz]⟩
  · exact ⟨_, cap, rfl⟩
end Go.Proofs.YtnponpamjddpjabGreat

/- The copies of paces, rooms and halls once more: no two rows of such a copy lie in one block. Conditions: the slices can be read; nothing in them is longer than 2^20. -/
namespace Go.Proofs.YtnponpamjddpjabGreat
open Go.ChangeShapes Go.WideShapes Go.ChangeAt Go.RowKit Go.Sort
set_option linter.unusedVariables false

theorem PacesAt.mono {n₀ n₁ : Nat} {w : World} {v : Value} {ps : List PaceV} (h : PacesAt n₀ w v ps) (hn : n₁ ≤ n₀) : PacesAt n₁ w v ps := own_mono h hn
end Go.Proofs.YtnponpamjddpjabGreat

/- A smithy that the call made, no two rows of it in one block; the laws' copy of a smithy is such a one. Conditions: the slices can be read; what is copied is no longer than 2^20. -/
namespace Go.Proofs.YtnponpamjddpjabGreat
open Go.ChangeShapes Go.WideShapes Go.ChangeAt Go.RowKit Go.Sort
set_option linter.unusedVariables false

/-- Two slices lie in different blocks. -/
def Off2 (u v : Value) : Prop := ∀ b, u.ownBlock = some b → v.ownBlock ≠ some b
/-- No block of u is one of the hall's. -/
def OffHall (u v : Value) (qs : List (RoomV × Value)) : Prop := Off2 u v ∧ ∀ q ∈ qs, Off2 u q.2
structure FullSmy (n₀ : Nat) (w : World) (v0 v1 v2 v3 v4 : Value) (m : SmyV) (qs : List (RoomV × Value)) : Prop where
  hall : OwnHall n₀ w v0 qs
  rooms : qs.map (·.1) = m.rooms
  guilds : GuildsAt n₀ w v1 m.guilds
  smiths : SmithsAt n₀ w v2 m.smiths
  desks : DesksAt n₀ w v3 m.desks
  paces : NumsAt n₀ w v4 m.paces
  h1 : OffHall v1 v0 qs
  h2 : OffHall v2 v0 qs
  h3 : OffHall v3 v0 qs
  h4 : OffHall v4 v0 qs
  a12 : Off2 v1 v2
  a13 : Off2 v1 v3
  a14 : Off2 v1 v4
  a23 : Off2 v2 v3
  a24 : Off2 v2 v4
  a34 : Off2 v3 v4
theorem FullSmy.smy {n₀ : Nat} {w : World} {v0 v1 v2 v3 v4 : Value} {m : SmyV} {qs : List (RoomV × Value)} (h : FullSmy n₀ w v0 v1 v2 v3 v4 m qs) : Smy w v0 v1 v2 v3 v4 m :=
  ⟨by rw [← h.rooms]; exact h.hall.rooms, h.guilds.list, h.smiths.list, h.desks.list, h.paces.list⟩
theorem OwnHall.set_old {n₀ : Nat} {w : World} {v : Value} {qs : List (RoomV × Value)} (h : OwnHall n₀ w v qs) (g o : Nat) (u : Value) (hg : g < n₀) : OwnHall n₀ (w.setCell ⟨g, o, none⟩ u) v qs :=
  h.same fun k h0 hk => heap_setCell_other w _ k u (by show k ≠ g; omega)
theorem FullSmy.below {n₀ : Nat} {w w' : World} {v0 v1 v2 v3 v4 : Value} {m : SmyV} {qs : List (RoomV × Value)} (h : FullSmy n₀ w v0 v1 v2 v3 v4 m qs) (hb : Below w.heap.size w w') : FullSmy n₀ w' v0 v1 v2 v3 v4 m qs :=
  ⟨h.hall.later hb, h.rooms, RecAt.later h.guilds hb, RecAt.later h.smiths hb, RecAt.later h.desks hb, RecAt.later h.paces hb, h.h1, h.h2, h.h3, h.h4, h.a12, h.a13, h.a14, h.a23, h.a24, h.a34⟩
theorem FullSmy.mono {n₀ n₁ : Nat} {w : World} {v0 v1 v2 v3 v4 : Value} {m : SmyV} {qs : List (RoomV × Value)} (h : FullSmy n₀ w v0 v1 v2 v3 v4 m qs) (hn : n₁ ≤ n₀) : FullSmy n₁ w v0 v1 v2 v3 v4 m qs :=
  ⟨h.hall.mono hn, h.rooms, RecAt.mono h.guilds hn, RecAt.mono h.smiths hn, RecAt.mono h.desks hn, RecAt.mono h.paces hn, h.h1, h.h2, h.h3, h.h4, h.a12, h.a13, h.a14, h.a23, h.a24, h.a34⟩
end Go.Proofs.YtnponpamjddpjabGreat

