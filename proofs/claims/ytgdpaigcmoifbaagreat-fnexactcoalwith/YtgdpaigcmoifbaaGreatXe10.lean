/- Part 10 of what the proof rests on. No condition but those that a theorem names. -/
import Derived.Test.YtgdpaigcmoifbaaGreatXe03
import Derived.Deep.RegionHeld3
import Derived.Deep.DrawnRows
import Derived.BigRegion
import Derived.Deep.RegionLawGrows
set_option maxHeartbeats 8000000
set_option maxRecDepth 100000
namespace Go.Proofs.YtgdpaigcmoifbaaGreat
open Go.ChangeShapes Go.WideShapes Go.ChangeAt Go.RowKit Go.Sort Go.Proofs.Tryz
set_option linter.unusedVariables false
abbrev DeskV := Bool × Int × Int
def encDesk (p : DeskV) : List Value := [.bool p.1, .int .i64 p.2.1, .int .i64 p.2.2]
theorem encDesk_len (p : DeskV) : (encDesk p).length = 3 := rfl
abbrev IsDesks (w : World) (v : Value) (ps : List DeskV) : Prop := IsRec 3 encDesk w v ps
abbrev DesksAt (n₀ : Nat) (w : World) (v : Value) (ps : List DeskV) : Prop := RecAt 40 3 encDesk n₀ w v ps
theorem infoDesk : (prog.info? 40).map (fun i => (i.zero, i.size, i.bytes)) = some (some (.agg #[.bool false, .int .i64 0, .int .i64 0]), 3, 24) := by kernel_rfl
theorem DesksAt.list {n₀ : Nat} {w : World} {v : Value} {ps : List DeskV} (h : DesksAt n₀ w v ps) : IsDesks w v ps := RecAt.recs encDesk_len (by omega) h
theorem desk_cells {w : World} {b off : Nat} {ps : List DeskV} (h : ∀ j, j < ps.length → ∀ i u, (encDesk (recAt ps j))[i]? = some u → w.cell? ⟨b, off + j * 3 + i, none⟩ = some u) {j : Nat} (hj : j < ps.length) :
  w.cell? ⟨b, off + j * 3, none⟩ = some (.bool (recAt ps j).1) ∧ w.cell? ⟨b, off + j * 3 + 1, none⟩ = some (.int .i64 (recAt ps j).2.1) ∧ w.cell? ⟨b, off + j * 3 + 2, none⟩ = some (.int .i64 (recAt ps j).2.2) :=
 ⟨h j hj 0 _ rfl, h j hj 1 _ rfl, h j hj 2 _ rfl⟩
theorem szDeskS_any (a : Option Addr) (n cap : Nat) (left : Int) (hn : n ≤ 9223372036854775807) (h0 : 0 ≤ left) (h1 : left ≤ 1048576) (w : World) :
  cE 92 #[.slice a n cap, .int .i64 left] w (.int .i64 (szV n left)) := by
 by_cases h : left - n < 0
 all_goals
  go_enter func92, ntmps92
  go_wp2
  go_ret
  exact ⟨ret_int (by first | exact (szV_f (by omega)).symm | exact (szV_t (by omega)).symm), rfl⟩
theorem eqDesk_yes (x0 : Bool) (x1 : Int) (x2 : Int) (w : World) :
  cB 157 #[.agg #[.bool x0, .int .i64 x1, .int .i64 x2], .agg #[.bool x0, .int .i64 x1, .int .i64 x2]] w (.bool true) := by
 go_enter func157, ntmps157
 go_wp2_with fail
 go_ret
 exact ⟨rfl, ((ba _ _)).alloc (by simp) _⟩
theorem eqDeskS_yes {w : World} {v u : Value} {ps : List DeskV} (hv : IsDesks w v ps) (hu : IsDesks w u ps) :
  cB 102 #[v, u] w (.bool true) := by
 obtain ⟨a, cap, rfl, hc, hm, hr⟩ := hv
 obtain ⟨a', cap', rfl, hc', hm', hr'⟩ := hu
 have Hr := hide hr
 have Hr' := hide hr'
 clear hr hr'
 go_enter func102, ntmps102
 go_wp2_with fail
 go_loopw [5] (fun i wr => ∃ k : Nat, k ≤ ps.length ∧ i = .int .i64 k ∧ Below w.heap.size w wr) (fun i _ => ps.length - (intOf i).toNat)
 case atStart => exact ⟨0, alNzl _, rfl, alBrf _ _⟩
 case round =>
  obtain ⟨k, hk, rfl, hb⟩ := hrel
  have Hb := hide hb
  by_cases hlt : k < ps.length
  ·rcases uh Hr with h0 | ⟨b, off, rfl, hbw, hcl⟩
   ·rw [h0] at hlt; simp at hlt
   rcases uh Hr' with h0 | ⟨b', off', rfl, hbw', hcl'⟩
   ·rw [h0] at hlt; simp at hlt
   obtain ⟨c0, c1, c2⟩ := desk_cells hcl hlt
   obtain ⟨d0, d1, d2⟩ := desk_cells hcl' hlt
   generalize recAt ps k = p at *
   obtain ⟨x0, x1, x2⟩ := p
   simp only at c0 c1 c2 d0 d1 d2
   have k0 := alCrg ((hb.cell (p := ⟨b, off + k * 3, none⟩) hbw).trans c0)
   have m0 := alCrg ((hb.cell (p := ⟨b', off' + k * 3, none⟩) hbw').trans d0)
   have k1 := alCrg ((hb.cell (p := ⟨b, off + k * 3 + 1, none⟩) hbw).trans c1)
   have m1 := alCrg ((hb.cell (p := ⟨b', off' + k * 3 + 1, none⟩) hbw').trans d1)
   have k2 := alCrg ((hb.cell (p := ⟨b, off + k * 3 + 2, none⟩) hbw).trans c2)
   have m2 := alCrg ((hb.cell (p := ⟨b', off' + k * 3 + 2, none⟩) hbw').trans d2)
   clear hcl hcl' hb c0 c1 c2 d0 d1 d2
   go_wp2_with fail
   refine wq ?_
   repeat (go_big_quiet_step (exact alCro (eqDesk_yes _ _ _ _)))
   refine wpQuiet_nil ?_
   intro _ hw'
   obtain ⟨⟨dq, osq⟩, hw''⟩ := hw'
   subst hw''
   go_wp2_with fail
   go_roundw
   case rel => exact ⟨k + 1, by omega, by go_num, (uh Hb).trans ((alBrg _ _ _).mono (uh Hb).size)⟩
   case measure => exact ms
  ·go_wp2_with fail
   go_ret
   exact ⟨rfl, hb⟩
theorem toDesk_any (x0 : Bool) (x1 : Int) (x2 : Int) (w : World) :
  cB 153 #[.agg #[.bool x0, .int .i64 x1, .int .i64 x2]] w (.agg #[.bool x0, .int .i64 x1, .int .i64 x2]) := by
 go_enter func153, ntmps153
 go_wp2_with fail
 exact alBpr (v := .agg #[.bool x0, .int .i64 x1, .int .i64 x2]) (by simp [results, results153, go_sem]) rfl ⟨rfl, (((ba _ _)).alloc (by simp) _).alloc (by simp; omega) _⟩
theorem toDeskS_any {w : World} {v : Value} {ps : List DeskV} (h : IsDesks w v ps) (hs : ps.length ≤ 1048576) :
  Calls prog 97 #[v] w fun e w' => ∃ v', e = .returned v' ∧ DesksAt w.heap.size w' v' ps ∧ Below w.heap.size w w' := by
 obtain ⟨a, cap, rfl, hc, hm, hr⟩ := h
 have Hr := hide hr
 clear hr
 obtain ⟨i0, hi, hz0, hz1, hz2⟩ := info_parts infoDesk
 go_enter func97, ntmps97
 go_wp2_with (at_make; refine wpList_make_full _ rfl _ _ 29 rfl w.heap.size 40 i0 (.agg #[.bool false, .int .i64 0, .int .i64 0]) 3 underlying29 hi hz0 hz1 _ _ _ _ ps.length rfl rfl rfl rfl (by rw [hz2]; omega) (by unfold maxLen; omega) (alNlr _) ?_; intro w0 hown hgrow)
 have Hown : Hid (DesksAt w.heap.size w0 (.slice (some ⟨w.heap.size, 0, none⟩) ps.length ps.length) (fillL ps (false, 0, 0) 0)) := hide (by
  rw [made_flat encDesk_len (by omega) (false, 0, 0) (Value.agg #[.bool false, .int .i64 0, .int .i64 0]).cells rfl ps.length] at hown
  rw [fillL_zero]
  show w0.ownsRow _ _ _ _ (List.replicate ps.length _).length _
  rw [List.length_replicate]
  exact hown)
 have Hgr := hide hgrow
 clear hown hgrow
 go_loopw [4] (fun i wr => ∃ k : Nat, k ≤ ps.length ∧ i = .int .i64 k ∧ DesksAt w.heap.size wr (.slice (some ⟨w.heap.size, 0, none⟩) ps.length ps.length) (fillL ps (false, 0, 0) k) ∧ Below w.heap.size w wr) (fun i _ => ps.length - (intOf i).toNat)
 case atStart => exact ⟨0, alNzl _, rfl, uh Hown, (alBrf _ _).grown (uh Hgr) (alNlr _) (fun k e => by cases e)⟩
 case round =>
  obtain ⟨k, hk, rfl, hown, hb⟩ := hrel
  have Hb := hide hb
  by_cases hlt : k < ps.length
  ·rcases uh Hr with h0 | ⟨b, off, rfl, hbw, hcl⟩
   ·rw [h0] at hlt; simp at hlt
   obtain ⟨c0, c1, c2⟩ := desk_cells hcl hlt
   rw [← hb.cell (p := ⟨b, off + k * 3, none⟩) hbw] at c0
   rw [← hb.cell (p := ⟨b, off + k * 3 + 1, none⟩) hbw] at c1
   rw [← hb.cell (p := ⟨b, off + k * 3 + 2, none⟩) hbw] at c2
   have Ho := hide hown
   have HS := hide (fillL_set (z := ((false, 0, 0) : DeskV)) hlt)
   generalize hp : recAt ps k = p at *
   obtain ⟨x0, x1, x2⟩ := p
   simp only at c0 c1 c2
   clear hcl hb hown hp
   go_wp2_with fail
   refine ck (toDesk_any _ _ _ _) fun w1 hb1 => ?_
   have ho1 := RecAt.later (uh Ho) hb1
   have hfl := fillL_len (z := ((false, 0, 0) : DeskV)) hk
   obtain ⟨g, hg, _, _, hcells, hfz⟩ := RecAt.view encDesk_len (by omega) ho1 hfl.symm (by omega)
   cases hg
   have hq := fun i u hu => hcells k (by omega) i u hu
   generalize recAt (fillL ps (false, 0, 0) k) k = old at hq
   have o0 := hq 0 _ rfl
   have f0 := hfz (k * 3)
   have o1 := hq 1 _ rfl
   have f1 := hfz (k * 3 + 1)
   have o2 := hq 2 _ rfl
   have f2 := hfz (k * 3 + 2)
   simp only [Nat.add_zero] at o0
   have Hp2 := hide (RecAt.put encDesk_len (by omega) ho1 hfl.symm (j := k) (by omega) (x0, x1, x2))
   have Hb1 := hide hb1
   have hsz := hb1.size
   have hsz0 := (uh Hb).size
   clear ho1 hb1 hcells hq hfz hfl
   go_wp2_with fail
   go_roundw
   case rel => exact ⟨k + 1, by omega, by go_num, by have h9 := (uh Hp2).1; rw [uh HS] at h9; exact h9, ((uh Hb).trans ((uh Hb1).mono hsz0)).trans (below_grown (uh Hp2).2 (alNlr _) (by omega))⟩
   case measure => exact ms
  ·obtain rfl : k = ps.length := by omega
   rw [fillL_all] at hown
   go_wp2_with fail
   go_ret
   exact ⟨_, rfl, hown, hb⟩
theorem addr_to (g o i : Nat) : (⟨g, o, none⟩ : Addr).add i = ⟨g, o + i, none⟩ := by unfold Addr.add; split <;> simp_all
theorem parts_of {e k bytes : Nat} {z : Value} (h : (prog.info? e).map (fun i => (i.zero, i.size, i.bytes)) = some (some z, k, bytes)) : ∃ i, prog.info? e = some i ∧ i.zero = some z ∧ i.size = k ∧ i.bytes = bytes := by
 cases hi : prog.info? e with
 | none => rw [hi] at h; cases h
 | some i =>
  rw [hi] at h
  simp only [Option.map_some, Option.some.injEq, Prod.mk.injEq] at h
  exact ⟨i, rfl, h.1, h.2.1, h.2.2⟩
theorem run_append_none {w : World} {base t ty e size n : Nat} {i : TypeInfo} (ht : prog.underlying t = some (.slice e)) (hi : prog.info? e = some i) {v : Value} {xs : List Value} (hown : w.ownsRow base e size v n xs) (a : Option Addr) (c : Nat) :
  (Builtin.append_ #[t, t] ty #[v, .slice a 0 c]).run prog w = .ok v w := by
 rcases hown.2 with ⟨rfl, rfl⟩ | ⟨g, cap, cur, rfl, _, _, hnc, _⟩
 ·cases a <;> simp [Builtin.append_, run_underlying ht, sizeOf, typeInfo, hi, Builtin.lenOf, Builtin.firstCells, loadCells, loadCellsFrom]
 ·cases a <;> simp [Builtin.append_, run_underlying ht, sizeOf, typeInfo, hi, Builtin.lenOf, Builtin.firstCells, hnc, storeCells, loadCells, loadCellsFrom]
structure RecTy {α : Type} (e k : Nat) (z : Value) (enc : α → List Value) : Prop where
 info : (prog.info? e).map (fun i => (i.zero, i.size, i.bytes)) = some (some z, k, 8 * k)
 zero : z.cells.size = k
 len : ∀ x, (enc x).length = k
 pos : 0 < k
 few : k ≤ 100
 one : ∀ x, ∀ u ∈ enc x, u.oneCell' = true
section
variable {α : Type} {e k : Nat} {enc : α → List Value}
theorem flat_one (hone : ∀ x : α, ∀ u ∈ enc x, u.oneCell' = true) (qs : List α) : ∀ u ∈ flat enc qs, u.oneCell' = true := fun u hu => by
 unfold flat at hu
 obtain ⟨p, _, hp⟩ := List.mem_flatMap.1 hu
 exact hone p u hp
theorem recs_empty {B g : Nat} {w : World} (hg : g = w.heap.size) (hB : B ≤ g) : RecAt e k enc B (w.alloc (.cells #[] e)) (.slice (some ⟨g, 0, none⟩) 0 0) [] := by
 subst hg
 exact ⟨by simp [flat], .inr ⟨_, 0, #[], rfl, hB, heap_alloc_new w _, alNlr _, alNzl _, by simp, by simp [flat]⟩⟩
end
section
variable {α : Type} [Inhabited α] {e k : Nat} {enc : α → List Value} {z : Value}
theorem rec_cells (hk : ∀ x, (enc x).length = k) (h0 : 0 < k) {w : World} {b off : Nat} {qs : List α} (h : ∀ j, j < qs.length → ∀ i u, (enc (recAt qs j))[i]? = some u → w.cell? ⟨b, off + j * k + i, none⟩ = some u) :
  ∀ (j : Nat) (u : Value), (flat enc qs)[j]? = some u → w.cell? ((⟨b, off, none⟩ : Addr).add j) = some u := fun j u hj => by
 have hlt : j < qs.length * k := by
  rcases Nat.lt_or_ge j (qs.length * k) with h | h
  ·exact h
  ·rw [List.getElem?_eq_none (by rw [flat_len hk]; exact h)] at hj; cases hj
 have hd : j / k < qs.length := (Nat.div_lt_iff_lt_mul h0).2 hlt
 have hr : j % k < k := Nat.mod_lt _ h0
 have he : j = j / k * k + j % k := by rw [Nat.mul_comm]; exact (Nat.div_add_mod j k).symm
 rw [addr_to]
 rw [he, flat_get hk qs (j / k) hd (j % k) hr] at hj
 have := h (j / k) hd (j % k) u hj
 rw [Nat.add_assoc, ← he] at this
 exact this
theorem run_append_recs (T : RecTy e k z enc) {w : World} {base t ty : Nat} (ht : prog.underlying t = some (.slice e)) {v x : Value} {ps qs : List α} (hown : RecAt e k enc base w v ps) (hx : IsRec k enc w x qs) (hb : ps.length + qs.length ≤ 4000) (hbase : base ≤ w.heap.size) :
  ∃ v' w', (Builtin.append_ #[t, t] ty #[v, x]).run prog w = .ok v' w' ∧ RecAt e k enc base w' v' (ps ++ qs) ∧ w.grownBy w' v.ownBlock ∧ (v'.ownBlock = v.ownBlock ∨ v'.ownBlock = some w.heap.size) := by
 obtain ⟨i0, hi, hz0, hz1, hz2⟩ := parts_of T.info
 obtain ⟨a, c, rfl, hc, hm, hr⟩ := hx
 by_cases h0 : qs = []
 ·subst h0
  refine ⟨v, w, run_append_none ht hi hown a c, by simpa using hown, grown_refl _ _, .inl rfl⟩
 ·rcases hr with hr | ⟨b, off, rfl, hlt, hcl⟩
  ·exact absurd hr h0
  ·have hk := T.few
   have hmul : (ps.length + qs.length) * (8 * k) ≤ 4000 * 800 := Nat.mul_le_mul hb (by omega)
   obtain ⟨v', w', hr, h2, h3, _, h5⟩ := run_append_own_at (P := prog) w base t ty e i0 z k (8 * k) ht hi hz0 hz1 hz2 T.zero T.pos v ps.length _ hown ⟨b, off, none⟩ qs.length c (flat enc qs) (flat_len T.len qs)
    (rec_cells T.len T.pos hcl) (flat_one T.one qs) (by simp only [maxLen]; omega) (by omega) hbase
   refine ⟨v', w', hr, ?_, h3, h5⟩
   unfold RecAt
   rw [flat_append, List.length_append]
   exact h2
theorem wpList_append_recs (T : RecTy e k z enc) {w : World} {ops : Array Oper} {rest : List Oper} {o : Oper} {a : Act} {Q : Exit → Act → World → Prop} (hgd : o.guard = none) (s x : Operand) (t : TypeId) (ht : prog.underlying t = some (.slice e))
  (ho : o.op = .call { callee := .builtin .append, args := #[s, x], argTypes := #[t, t] }) (base : Nat) (v u : Value) (ps qs : List α) (hs : a.eval s = v) (hx : a.eval x = u) (hown : RecAt e k enc base w v ps) (hr : IsRec k enc w u qs)
  (hb : ps.length + qs.length ≤ 4000) (hbase : base ≤ w.heap.size)
  (h : ∀ v' w', RecAt e k enc base w' v' (ps ++ qs) → w.grownBy w' v.ownBlock → (v'.ownBlock = v.ownBlock ∨ v'.ownBlock = some w.heap.size) → wpList prog ops Q rest (a.put o.dst v') w') :
  wpList prog ops Q (o :: rest) a w := by
 refine wpList_plain hgd fun K hK => ?_
 obtain ⟨v', w', hrun, h2, h3, h5⟩ := run_append_recs T (ty := o.type) ht hown hr hb hbase
 unfold Oper.wp execOp
 simp only [ho, resolve, invoke, builtin, Sem.run_bind, Sem.run_pure, Result.andThen_ok, List.map_toArray, List.map_cons, List.map_nil, hs, hx, hrun]
 exact hK _ _ (h v' w' h2 h3 h5)
theorem recs_one {w : World} (x : α) {g c : Nat} (hg : g = w.heap.size) (hc : 1 ≤ c) (hc2 : c ≤ 4000) : IsRec k enc (w.alloc (.cells (enc x).toArray e)) (.slice (some ⟨g, 0, none⟩) 1 c) [x] := by
 subst hg
 refine ⟨_, c, rfl, hc, by omega, .inr ⟨_, 0, rfl, by simp, fun j hj i u hu => ?_⟩⟩
 obtain rfl : j = 0 := by simpa using hj
 rw [Nat.zero_mul, Nat.zero_add, World.cell?_alloc_at _ _ _ _ rfl]
 have hr : recAt [x] 0 = x := rfl
 rw [hr] at hu
 simpa using hu
theorem flat_set1 (hk : ∀ x, (enc x).length = k) (h0 : 0 < k) (xs : List α) {j i : Nat} (hj : j < xs.length) (hi : i < k) (u : Value) (x : α) (hx : enc x = (enc (recAt xs j)).set i u) : (flat enc xs).set (j * k + i) u = flat enc (xs.set j x) := by
 have hl := flat_len hk xs
 have hjk : j * k + k ≤ xs.length * k := by rw [← Nat.succ_mul]; exact Nat.mul_le_mul_right k hj
 apply List.ext_getElem?
 intro m
 by_cases hm : m < xs.length * k
 ·have hd : m / k < xs.length := (Nat.div_lt_iff_lt_mul h0).2 hm
  have hr : m % k < k := Nat.mod_lt _ h0
  have he : m = m / k * k + m % k := by rw [Nat.mul_comm]; exact (Nat.div_add_mod m k).symm
  have hg := flat_get hk (xs.set j x) (m / k) (by simpa using hd) (m % k) hr
  have hg0 := flat_get hk xs (m / k) hd (m % k) hr
  rw [← he] at hg hg0
  rw [hg, recAt_set hj]
  by_cases e : m / k = j
  ·rw [if_pos e, hx]
   by_cases ei : m % k = i
   ·have hmi : m = j * k + i := by rw [← e, ← ei]; exact he
    rw [ei, hmi, List.getElem?_set_self (by rw [hl]; omega), List.getElem?_set_self (by rw [hk]; exact hi)]
   ·have hmi : j * k + i ≠ m := by rw [← e]; omega
    rw [List.getElem?_set_ne hmi, List.getElem?_set_ne (Ne.symm ei), hg0, e]
  ·rw [if_neg e, List.getElem?_set_ne, hg0]
   intro h
   apply e
   rw [← h]
   exact Nat.div_eq_of_lt_le (Nat.le_add_right _ _) (by rw [Nat.succ_mul]; omega)
 ·rw [List.getElem?_eq_none (by simp; omega), List.getElem?_eq_none (by rw [flat_len hk]; simp; omega)]
theorem RecAt.put1 (hk : ∀ x, (enc x).length = k) (h0 : 0 < k) {t n₀ n cap g : Nat} {w : World} {xs : List α} (h : RecAt t k enc n₀ w (.slice (some ⟨g, 0, none⟩) n cap) xs) (hn : n = xs.length) {j i : Nat} (hj : j < xs.length) (hi : i < k) (u : Value) (x : α) (hx : enc x = (enc (recAt xs j)).set i u) :
  RecAt t k enc n₀ (w.setCell ⟨g, j * k + i, none⟩ u) (.slice (some ⟨g, 0, none⟩) n cap) (xs.set j x) ∧ w.grownBy (w.setCell ⟨g, j * k + i, none⟩ u) (some g) := by
 subst hn
 obtain ⟨h1, h2⟩ := World.ownsRow.stored h (j * k + i) u
 rw [flat_set1 hk h0 xs hj hi u x hx] at h1
 refine ⟨?_, h2⟩
 unfold RecAt
 rw [alLls]
 exact h1
end
end Go.Proofs.YtgdpaigcmoifbaaGreat
namespace Go.Proofs.YtgdpaigcmoifbaaGreat
set_option linter.unusedVariables false
def ltB (a b : PaceV) : Bool := decide (a.1 < b.1 ∨ (a.1 = b.1 ∧ a.2 < b.2))
theorem paceAt_take {ps : List PaceV} {n k : Nat} (h : k < n) : paceAt (ps.take n) k = paceAt ps k := by unfold paceAt; simp [List.getD, h]
theorem paceAt_mem {ps : List PaceV} {k : Nat} (h : k < ps.length) : paceAt ps k ∈ ps := by unfold paceAt; simp [List.getD, h]
def lessN (e : PaceV) : List PaceV → Nat
 | [] => 0
 | p :: ps => if ltB p e then lessN e ps + 1 else 0
def putV (ps : List PaceV) (e : PaceV) : List PaceV := ps.take (lessN e ps) ++ e :: ps.drop (lessN e ps)
theorem lessN_le (e : PaceV) : ∀ ps : List PaceV, lessN e ps ≤ ps.length
 | [] => alNlr _
 | p :: ps => by have := lessN_le e ps; unfold lessN; split <;> simp <;> omega
theorem lessN_lt (e : PaceV) : ∀ (ps : List PaceV) (k : Nat), k < lessN e ps → ltB (paceAt ps k) e = true
 | [], k, h => by simp [lessN] at h
 | p :: ps, k, h => by
  unfold lessN at h
  split at h
  ·cases k with
   | zero => simpa [paceAt] using ‹ltB p e = true›
   | succ k =>
    have := lessN_lt e ps k (by omega)
    simpa [paceAt] using this
  ·omega
theorem lessN_at (e : PaceV) : ∀ (ps : List PaceV), lessN e ps < ps.length → ltB (paceAt ps (lessN e ps)) e = false
 | [], h => by simp at h
 | p :: ps, h => by
  unfold lessN at h ⊢
  by_cases hp : ltB p e = true
  ·rw [if_pos hp] at h ⊢
   have := lessN_at e ps (by simpa using h)
   simpa [paceAt] using this
  ·rw [if_neg hp] at h ⊢
   simpa [paceAt] using hp
theorem lessN_eq {e : PaceV} {ps : List PaceV} {k : Nat} (hk : k ≤ ps.length) (h : ∀ j, j < k → ltB (paceAt ps j) e = true) (hn : k = ps.length ∨ ltB (paceAt ps k) e = false) : lessN e ps = k := by
 rcases Nat.lt_trichotomy (lessN e ps) k with h1 | h1 | h1
 ·have h2 := lessN_at e ps (by omega)
  rw [h _ h1] at h2; cases h2
 ·exact h1
 ·rcases hn with hn | hn
  ·have := lessN_le e ps; omega
  ·have := lessN_lt e ps k h1
   rw [hn] at this; cases this
theorem putV_perm (ps : List PaceV) (e : PaceV) : (putV ps e).Perm (ps ++ [e]) := by
 unfold putV
 have h1 : (ps.take (lessN e ps) ++ e :: ps.drop (lessN e ps)).Perm (e :: (ps.take (lessN e ps) ++ ps.drop (lessN e ps))) := List.perm_middle
 rw [List.take_append_drop] at h1
 exact h1.trans (List.perm_append_comm (l₁ := [e]) (l₂ := ps))
theorem putV_len (ps : List PaceV) (e : PaceV) : (putV ps e).length = ps.length + 1 := by have := (putV_perm ps e).length_eq; simpa using this
open Go.ChangeShapes Go.WideShapes Go.ChangeAt Go.RowKit Go.Sort Go.Proofs.Tryz
theorem infoEntry : (prog.info? 78).map (fun i => (i.zero, i.size, i.bytes)) = some (some (.agg #[.int .i64 0, .int .i64 0]), 2, 16) := by kernel_rfl
theorem pcells_len (ps : List PaceV) : (pcells ps).length = ps.length * 2 := by unfold pcells; exact pairs_len ps
theorem pcells_append (ps qs : List PaceV) : pcells (ps ++ qs) = pcells ps ++ pcells qs := by unfold pcells; rw [List.flatMap_append]
def EntsAt (n₀ : Nat) (w : World) (v : Value) (ps : List PaceV) : Prop := w.ownsRow n₀ 78 2 v ps.length (pcells ps)
theorem EntsAt.lt {n₀ : Nat} {w : World} {v : Value} {ps : List PaceV} (h : EntsAt n₀ w v ps) {k : Nat} (hk : v.ownBlock = some k) : n₀ ≤ k ∧ k < w.heap.size := World.ownsRow.lt h k hk
theorem EntsAt.mono {n₀ n₁ : Nat} {w : World} {v : Value} {ps : List PaceV} (h : EntsAt n₀ w v ps) (hn : n₁ ≤ n₀) : EntsAt n₁ w v ps := own_mono h hn
theorem EntsAt.same {n₀ : Nat} {w w' : World} {v : Value} {ps : List PaceV} (h : EntsAt n₀ w v ps) (hs : ∀ k, v.ownBlock = some k → w'.heap[k]? = w.heap[k]?) : EntsAt n₀ w' v ps := own_same h hs
theorem EntsAt.later {n₀ : Nat} {w w' : World} {v : Value} {ps : List PaceV} (h : EntsAt n₀ w v ps) (hb : Below w.heap.size w w') : EntsAt n₀ w' v ps := h.same fun k hk => hb.block k (h.lt hk).2
theorem EntsAt.paces {n₀ : Nat} {w : World} {v : Value} {ps : List PaceV} (h : EntsAt n₀ w v ps) : IsPaces w v ps := by
 have h' := h
 rcases h.2 with ⟨rfl, hz⟩ | ⟨g, cap, cur, rfl, hb, hg, hnc, hcm, r⟩
 ·exact ⟨none, 0, by rw [hz], by omega, by omega, .inl (List.eq_nil_of_length_eq_zero hz)⟩
 ·refine ⟨_, cap, rfl, hnc, by unfold maxLen at hcm; omega, .inr ⟨g, 0, rfl, (Array.getElem?_eq_some_iff.1 hg).1, fun k hk => ?_⟩⟩
  have hp := pairs_get (f := fun p : PaceV => Value.int .i64 p.1) (g := fun p : PaceV => Value.int .i64 p.2) ps k hk
  have hat : paceAt ps k = ps[k] := by unfold paceAt; simp [List.getD, hk]
  rw [Nat.zero_add, hat]
  exact ⟨(World.ownsRow.cellAt h' (k * 2) (by omega)).trans hp.1, (World.ownsRow.cellAt h' (k * 2 + 1) (by omega)).trans hp.2⟩
theorem EntsAt.shape {n₀ : Nat} {w : World} {v : Value} {ps : List PaceV} (h : EntsAt n₀ w v ps) : ∃ a cap, v = .slice a ps.length cap := by
 rcases h.2 with ⟨rfl, hz⟩ | ⟨g, cap, cur, rfl, _⟩
 ·exact ⟨none, 0, by rw [hz]⟩
 ·exact ⟨_, cap, rfl⟩
theorem IsPaces.cut {w : World} {a : Option Addr} {len cap : Nat} {ps : List PaceV} (h : IsPaces w (.slice a len cap) ps) {n : Nat} (hn : n ≤ ps.length) : IsPaces w (.slice a n cap) (ps.take n) := by
 obtain ⟨a', cap', he, hc, hm, hr⟩ := h
 cases he
 have hl : (ps.take n).length = n := by simp; omega
 refine ⟨a, cap, by rw [hl], by omega, hm, ?_⟩
 rcases hr with hr | ⟨b, off, rfl, hlt, hcl⟩
 ·exact .inl (by rw [hr]; simp)
 ·refine .inr ⟨b, off, rfl, hlt, fun k hk => ?_⟩
  rw [paceAt_take (by omega)]
  exact hcl k (by omega)
theorem ltB_had {a b c d : Int} (h : a ≠ c) : ltB (a, b) (c, d) = decide (a < c) := by unfold ltB; simp; omega
theorem ltB_who {a b d : Int} : ltB (a, b) (a, d) = decide (b < d) := by unfold ltB; simp
theorem specLess_any (a b c d : Int) (w : World) : cB 211 #[.agg #[.int .i64 a, .int .i64 b], .agg #[.int .i64 c, .int .i64 d]] w (.bool (ltB (a, b) (c, d))) := by
 by_cases h : a = c
 ·subst h
  rw [ltB_who]
  go_enter func211, ntmps211
  go_wp2_with fail
  go_ret
  exact ⟨rfl, ((ba _ _)).alloc (by simp) _⟩
 ·rw [ltB_had h]
  have h' : (a == c) = false := by simpa using h
  have h2 : (a != c) = true := by simpa using h
  clear h
  go_enter func211, ntmps211
  go_wp2_with fail
  go_ret
  exact ⟨rfl, ((ba _ _)).alloc (by simp) _⟩
theorem addr_at (g o i : Nat) : (⟨g, o, none⟩ : Addr).add i = ⟨g, o + i, none⟩ := by unfold Addr.add; split <;> simp_all
theorem run_append_zero {w : World} {base t ty e size n : Nat} {i : TypeInfo} (ht : prog.underlying t = some (.slice e)) (hi : prog.info? e = some i) {v : Value} {xs : List Value} (hown : w.ownsRow base e size v n xs) (a : Option Addr) (c : Nat) :
  (Builtin.append_ #[t, t] ty #[v, .slice a 0 c]).run prog w = .ok v w := by
 rcases hown.2 with ⟨rfl, rfl⟩ | ⟨g, cap, cur, rfl, _, _, hnc, _⟩
 ·cases a <;> simp [Builtin.append_, run_underlying ht, sizeOf, typeInfo, hi, Builtin.lenOf, Builtin.firstCells, loadCells, loadCellsFrom]
 ·cases a <;> simp [Builtin.append_, run_underlying ht, sizeOf, typeInfo, hi, Builtin.lenOf, Builtin.firstCells, hnc, storeCells, loadCells, loadCellsFrom]
theorem cells_of {w : World} {b off : Nat} {qs : List PaceV} (h : ∀ k, k < qs.length → w.cell? ⟨b, off + k * 2, none⟩ = some (.int .i64 (paceAt qs k).1) ∧ w.cell? ⟨b, off + k * 2 + 1, none⟩ = some (.int .i64 (paceAt qs k).2)) :
  ∀ (j : Nat) (u : Value), (pcells qs)[j]? = some u → w.cell? ((⟨b, off, none⟩ : Addr).add j) = some u := fun j u hj => by
 have hlt : j < qs.length * 2 := by
  rcases Nat.lt_or_ge j (qs.length * 2) with h | h
  ·exact h
  ·rw [List.getElem?_eq_none (by rw [pcells_len]; exact h)] at hj; cases hj
 rw [addr_at]
 have hp := pairs_get (f := fun p : PaceV => Value.int .i64 p.1) (g := fun p : PaceV => Value.int .i64 p.2) qs (j / 2) (by omega)
 have e : paceAt qs (j / 2) = qs[j / 2]'(by omega) := by unfold paceAt; simp [List.getD, (by omega : j / 2 < qs.length)]
 obtain ⟨h1, h2⟩ := h (j / 2) (by omega)
 rw [e] at h1 h2
 rcases Nat.mod_two_eq_zero_or_one j with e2 | e2
 ·rw [show off + j = off + j / 2 * 2 by omega, h1, ← hj]
  conv => rhs; rw [show j = j / 2 * 2 by omega]
  exact hp.1.symm
 ·rw [show off + j = off + j / 2 * 2 + 1 by omega, h2, ← hj]
  conv => rhs; rw [show j = j / 2 * 2 + 1 by omega]
  exact hp.2.symm
theorem one_cells (qs : List PaceV) : ∀ u ∈ pcells qs, u.oneCell' = true := fun u hu => by
 unfold pcells at hu
 obtain ⟨p, _, hp⟩ := List.mem_flatMap.1 hu
 simp only [List.mem_cons, List.not_mem_nil, or_false] at hp
 rcases hp with rfl | rfl <;> rfl
theorem run_append_ents {w : World} {base t ty : Nat} (ht : prog.underlying t = some (.slice 78)) {v x : Value} {ps qs : List PaceV} (hown : EntsAt base w v ps) (hx : IsPaces w x qs) (hb : ps.length + qs.length ≤ 4000) (hbase : base ≤ w.heap.size) :
  ∃ v' w', (Builtin.append_ #[t, t] ty #[v, x]).run prog w = .ok v' w' ∧ EntsAt base w' v' (ps ++ qs) ∧ w.grownBy w' v.ownBlock ∧ (v'.ownBlock = v.ownBlock ∨ v'.ownBlock = some w.heap.size) := by
 obtain ⟨i0, hi, hz0, hz1, hz2⟩ := info_parts infoEntry
 obtain ⟨a, c, rfl, hc, hm, hr⟩ := hx
 by_cases h0 : qs = []
 ·subst h0
  refine ⟨v, w, run_append_zero ht hi hown a c, by simpa using hown, grown_refl _ _, .inl rfl⟩
 ·rcases hr with hr | ⟨b, off, rfl, hlt, hcl⟩
  ·exact absurd hr h0
  ·obtain ⟨v', w', hr, h2, h3, _, h5⟩ := run_append_own_at (P := prog) w base t ty 78 i0 (.agg #[.int .i64 0, .int .i64 0]) 2 16 ht hi hz0 hz1 hz2 rfl (by decide) v ps.length _ hown ⟨b, off, none⟩ qs.length c (pcells qs) (pcells_len qs)
    (cells_of hcl) (one_cells qs) (by simp only [maxLen]; omega) (by omega) hbase
   refine ⟨v', w', hr, ?_, h3, h5⟩
   unfold EntsAt
   rw [pcells_append, List.length_append]
   exact h2
theorem wpList_append_ents {w : World} {ops : Array Oper} {rest : List Oper} {o : Oper} {a : Act} {Q : Exit → Act → World → Prop} (hgd : o.guard = none) (s x : Operand) (t : TypeId) (ht : prog.underlying t = some (.slice 78))
  (ho : o.op = .call { callee := .builtin .append, args := #[s, x], argTypes := #[t, t] }) (base : Nat) (v u : Value) (ps qs : List PaceV) (hs : a.eval s = v) (hx : a.eval x = u) (hown : EntsAt base w v ps) (hr : IsPaces w u qs)
  (hb : ps.length + qs.length ≤ 4000) (hbase : base ≤ w.heap.size)
  (h : ∀ v' w', EntsAt base w' v' (ps ++ qs) → w.grownBy w' v.ownBlock → (v'.ownBlock = v.ownBlock ∨ v'.ownBlock = some w.heap.size) → wpList prog ops Q rest (a.put o.dst v') w') :
  wpList prog ops Q (o :: rest) a w := by
 refine wpList_plain hgd fun K hK => ?_
 obtain ⟨v', w', hrun, h2, h3, h5⟩ := run_append_ents (ty := o.type) ht hown hr hb hbase
 unfold Oper.wp execOp
 simp only [ho, resolve, invoke, builtin, Sem.run_bind, Sem.run_pure, Result.andThen_ok, List.map_toArray, List.map_cons, List.map_nil, hs, hx, hrun]
 exact hK _ _ (h v' w' h2 h3 h5)
theorem step_append_ents {ops : Array Oper} {o : Oper} {a : Act} {w : World} {K : Act → World → Prop} {Q : Exit → Act → World → Prop} {E : Prop} (hgd : o.guard = none) (s x : Operand) (t : TypeId) (ht : prog.underlying t = some (.slice 78))
  (ho : o.op = .call { callee := .builtin .append, args := #[s, x], argTypes := #[t, t] }) (base : Nat) (v u : Value) (ps qs : List PaceV) (hs : a.eval s = v) (hx : a.eval x = u) (hown : EntsAt base w v ps) (hr : IsPaces w u qs)
  (hb : ps.length + qs.length ≤ 4000) (hbase : base ≤ w.heap.size)
  (h : ∀ v' w', EntsAt base w' v' (ps ++ qs) → w.grownBy w' v.ownBlock → (v'.ownBlock = v.ownBlock ∨ v'.ownBlock = some w.heap.size) → K (a.put o.dst v') w') :
  if Region.wanted o (yielded ops a.tmps) = true then Oper.wp prog o a w K Q else E := by
 have hw : Region.wanted o (yielded ops a.tmps) = true := by simp [Region.wanted, hgd]
 rw [if_pos hw]
 obtain ⟨v', w', hrun, h2, h3, h5⟩ := run_append_ents (ty := o.type) ht hown hr hb hbase
 unfold Oper.wp execOp
 simp only [ho, resolve, invoke, builtin, Sem.run_bind, Sem.run_pure, Result.andThen_ok, List.map_toArray, List.map_cons, List.map_nil, hs, hx, hrun]
 exact h v' w' h2 h3 h5
theorem ents_empty {B g : Nat} {w : World} (hg : g = w.heap.size) (hB : B ≤ g) : EntsAt B (w.alloc (.cells #[] 78)) (.slice (some ⟨g, 0, none⟩) 0 0) [] := by
 subst hg
 exact ⟨by simp [pcells], .inr ⟨_, 0, #[], rfl, hB, heap_alloc_new w _, alNlr _, alNzl _, by simp, by simp [pcells]⟩⟩
theorem ents_one {w : World} {f z : Int} {g c : Nat} (hg : g = w.heap.size) (hc : 1 ≤ c) (hc2 : c ≤ 4000) : IsPaces (w.alloc (.cells #[.int .i64 f, .int .i64 z] 78)) (.slice (some ⟨g, 0, none⟩) 1 c) [(f, z)] := by
 subst hg
 refine ⟨_, c, rfl, hc, by omega, .inr ⟨_, 0, rfl, by simp, fun k hk => ?_⟩⟩
 obtain rfl : k = 0 := by simpa using hk
 simp [paceAt]
theorem l6Copy_any {w : World} {v : Value} {ps : List PaceV} (h : IsPaces w v ps) (hl : ps.length ≤ 1000) :
  Calls prog 212 #[v] w fun e w' => ∃ v', e = .returned v' ∧ EntsAt w.heap.size w' v' ps ∧ Below w.heap.size w w' := by
 have Hv := hide h
 obtain ⟨a, cap, rfl, hc, hm, hr⟩ := h
 clear hr
 go_enter func212, ntmps212
 go_wp2_with (at_builtin; refine wpList_append_ents rfl (.tmp 3) (.tmp 4) 75 underlying75 rfl w.heap.size _ _ [] ps rfl rfl (ents_empty rfl (alNlr _)) ((uh Hv).below ((ba _ _))) (by simp; omega) (by simp) ?_; intro v' w1 hown hgrow hat)
 go_ret
 refine ⟨v', rfl, by simpa using hown, ((ba _ _)).trans ((alBrf _ _).grown hgrow (by simp) (fun k e => ?_))⟩
 cases e; exact alNlr _
theorem slice_to (a : Option Addr) (n cap k : Nat) (hk : k ≤ cap) (W : World) : (Instr.slice 75 (.slice a n cap) none (some (.int .i64 k)) none).run prog W = .ok (.slice a k cap) W := by
 obtain ⟨i0, hi, hz0, hz1, hz2⟩ := info_parts infoEntry
 have hs : ∀ W, (sizeOf 78).run prog W = .ok 2 W := fun W => by simp [sizeOf, typeInfo, hi, hz1]
 have hb : ∀ W, (Instr.sliceBounds true n cap none (some (.int .i64 k)) none).run prog W = .ok (0, k, cap) W := fun W => by
  simp [Instr.sliceBounds, Instr.sliceBound, asIntOf]
  intro h; omega
 simp only [Instr.slice, Sem.run_bind, run_underlying underlying75, Result.andThen, hb, hs, Sem.run_pure]
 simp
 cases a <;> simp [Addr.add]
def fromV (a : Option Addr) (n cap k : Nat) : Value := .slice (if cap = k then a else a.map (·.add (k * 2))) (n - k) (cap - k)
theorem slice_from (a : Option Addr) (n cap k : Nat) (hk : k ≤ n) (W : World) : (Instr.slice 75 (.slice a n cap) (some (.int .i64 k)) none none).run prog W = .ok (fromV a n cap k) W := by
 obtain ⟨i0, hi, hz0, hz1, hz2⟩ := info_parts infoEntry
 have hs : ∀ W, (sizeOf 78).run prog W = .ok 2 W := fun W => by simp [sizeOf, typeInfo, hi, hz1]
 have hb : ∀ W, (Instr.sliceBounds true n cap (some (.int .i64 k)) none none).run prog W = .ok (k, n, cap) W := fun W => by
  simp [Instr.sliceBounds, Instr.sliceBound, asIntOf]
  intro h; omega
 simp only [Instr.slice, Sem.run_bind, run_underlying underlying75, Result.andThen, hb, hs, Sem.run_pure]
 rfl
theorem paceAt_drop (ps : List PaceV) (n k : Nat) : paceAt (ps.drop n) k = paceAt ps (n + k) := by unfold paceAt; simp [List.getD]
theorem IsPaces.from {w : World} {a : Option Addr} {n cap : Nat} {ps : List PaceV} (h : IsPaces w (.slice a n cap) ps) {k : Nat} (hk : k ≤ ps.length) : IsPaces w (fromV a n cap k) (ps.drop k) := by
 obtain ⟨a', cap', he, hc, hm, hr⟩ := h
 cases he
 refine ⟨_, cap - k, by unfold fromV; rw [List.length_drop], by rw [List.length_drop]; omega, by omega, ?_⟩
 rcases hr with hr | ⟨b, off, rfl, hlt, hcl⟩
 ·exact .inl (by rw [hr]; simp)
 ·by_cases hz : ps.length = k
  ·exact .inl (by rw [List.drop_eq_nil_iff]; omega)
  ·rw [if_neg (by omega)]
   refine .inr ⟨b, off + k * 2, by simp [addr_at], hlt, fun j hj => ?_⟩
   rw [List.length_drop] at hj
   rw [paceAt_drop]
   have := hcl (k + j) (by omega)
   rw [show off + (k + j) * 2 = off + k * 2 + j * 2 by omega] at this
   exact this
theorem fromV_shape (a : Option Addr) (n cap k : Nat) : ∃ a', fromV a n cap k = .slice a' (n - k) (cap - k) := ⟨_, rfl⟩
theorem l6Put_any {w : World} {v : Value} {ps : List PaceV} (f z : Int) (h : IsPaces w v ps) (hl : ps.length ≤ 900) :
  Calls prog 160 #[v, .agg #[.int .i64 f, .int .i64 z]] w fun e w' => ∃ v', e = .returned v' ∧ EntsAt w.heap.size w' v' (putV ps (f, z)) ∧ Below w.heap.size w w' := by
 have Hv := hide h
 obtain ⟨a, cap, rfl, hc, hm, hr⟩ := h
 have Hr := hide hr
 clear hr
 go_enter func160, ntmps160
 go_wp2_with fail
 generalize hW : w.alloc (.cells #[.int .i64 f, .int .i64 z] 78) = W0
 have hs0 : W0.heap.size = w.heap.size + 1 := by rw [← hW]; simp
 have d0 : W0.cell? ⟨w.heap.size, 0, none⟩ = some (.int .i64 f) := by rw [← hW]; simp
 have d1 : W0.cell? ⟨w.heap.size, 1, none⟩ = some (.int .i64 z) := by rw [← hW]; simp
 have HB0 : Hid (Below w.heap.size w W0) := hide (by rw [← hW]; exact (ba _ _))
 have D0 := hide d0
 have D1 := hide d1
 clear hW d0 d1
 go_loopw [5] (fun i wr => ∃ k : Nat, k ≤ ps.length ∧ i = .int .i64 k ∧ (∀ j, j < k → ltB (paceAt ps j) (f, z) = true) ∧ Below W0.heap.size W0 wr) (fun i _ => ps.length - (intOf i).toNat)
 case atStart => exact ⟨0, alNzl _, rfl, fun j hj => by omega, alBrf _ _⟩
 case round =>
  obtain ⟨k, hk, rfl, hst, hb⟩ := hrel
  have Hst := hide hst
  have Hb := hide hb
  have hszr := hb.size
  have hlt0 : w.heap.size < W0.heap.size := by omega
  have g0 := (hb.cell (p := ⟨w.heap.size, 0, none⟩) hlt0).trans (uh D0)
  have g1 := (hb.cell (p := ⟨w.heap.size, 1, none⟩) hlt0).trans (uh D1)
  have k0 := alCrg g0
  have k1 := alCrg g1
  clear hst
  by_cases hgo : k < ps.length ∧ ltB (paceAt ps k) (f, z) = true
  ·obtain ⟨hlt, hab⟩ := hgo
   rcases uh Hr with h0 | ⟨b, off, rfl, hbw, hcl⟩
   ·rw [h0] at hlt; simp at hlt
   obtain ⟨c0, c1⟩ := hcl k hlt
   have hbB := (uh HB0).trans (hb.mono (by omega))
   rw [← hbB.cell (p := ⟨b, off + k * 2, none⟩) hbw] at c0
   rw [← hbB.cell (p := ⟨b, off + k * 2 + 1, none⟩) hbw] at c1
   generalize hp : paceAt ps k = p at *
   obtain ⟨f', z'⟩ := p
   simp only at c0 c1
   have Hp := hide hp
   have m0 := alCrg c0
   have m1 := alCrg c1
   have hd : decide (k < ps.length) = true := alDet hlt
   clear hp hcl hb hbB g0 g1 c0 c1
   go_wp2_with fail
   refine wq ?_
   repeat (go_big_quiet_step (exact alCro (specLess_any _ _ _ _ _)))
   refine wpQuiet_nil ?_
   intro _ hw'
   obtain ⟨⟨dq, osq⟩, hw''⟩ := hw'
   subst hw''
   go_wp2_with fail
   go_roundw
   case rel => exact ⟨k + 1, by omega, by go_num, next_all (uh Hst) (by rw [uh Hp]; exact hab), (uh Hb).trans ((alBrg _ _ _).mono (uh Hb).size)⟩
   case measure => exact ms
  ·have HK : Hid (lessN (f, z) ps = k) := hide (lessN_eq hk (uh Hst) (by
    by_cases e : k = ps.length
    ·exact .inl e
    ·right
     cases hq : ltB (paceAt ps k) (f, z)
     ·rfl
     ·exact absurd ⟨by omega, hq⟩ hgo))
   have HQ : Hid (ps.take k ++ [(f, z)] ++ ps.drop k = putV ps (f, z)) := hide (by unfold putV; rw [uh HK]; simp)
   have hto := slice_to a ps.length cap k (by omega)
   have hfr := slice_from a ps.length cap k hk
   obtain ⟨ra, hra⟩ := fromV_shape a ps.length cap k
   rw [hra] at hfr
   have Hfrom : Hid (IsPaces w (.slice ra (ps.length - k) (cap - k)) (ps.drop k)) := hide (by rw [← hra]; exact (uh Hv).from hk)
   have Hcut : Hid (IsPaces w (.slice a k cap) (ps.take k)) := hide ((uh Hv).cut hk)
   clear hra
   by_cases hlt : k < ps.length
   ·have hab : ltB (paceAt ps k) (f, z) = false := by
     cases hq : ltB (paceAt ps k) (f, z)
     ·rfl
     ·exact absurd ⟨hlt, hq⟩ hgo
    rcases uh Hr with h0 | ⟨b, off, rfl, hbw, hcl⟩
    ·rw [h0] at hlt; simp at hlt
    obtain ⟨c0, c1⟩ := hcl k hlt
    have hbB := (uh HB0).trans (hb.mono (by omega))
    rw [← hbB.cell (p := ⟨b, off + k * 2, none⟩) hbw] at c0
    rw [← hbB.cell (p := ⟨b, off + k * 2 + 1, none⟩) hbw] at c1
    generalize hp : paceAt ps k = p at *
    obtain ⟨f', z'⟩ := p
    simp only at c0 c1
    have m0 := alCrg c0
    have m1 := alCrg c1
    have hd : decide (k < ps.length) = true := alDet hlt
    clear hp hcl hb hbB g0 g1 c0 c1 hgo
    go_wp2_with fail
    refine wq ?_
    repeat (go_big_quiet_step (exact alCro (specLess_any _ _ _ _ _)))
    refine wpQuiet_nil ?_
    intro w1 hw'
    have Hb1 : Hid (Below W0.heap.size W0 w1) := hide (by obtain ⟨q, rfl⟩ := hw'; exact (uh Hb).trans ((alBrg _ _ _).mono (uh Hb).size))
    clear k0 k1 m0 m1
    go_wp2_with fail
    have B1 : Hid (Below w.heap.size w w1) := hide ((uh HB0).trans ((uh Hb1).mono (by omega)))
    refine (l6Copy_any ((uh Hfrom).below (uh B1)) (by simp; omega)).mono ?_
    rintro e w2 ⟨v2, rfl, hi2, hb2⟩
    obtain ⟨a2, cap2, hv2⟩ := hi2.shape
    rw [List.length_drop] at hv2
    subst hv2
    have hz1 := (uh Hb1).size
    have hz2 := hb2.size
    have Hb2 : Hid (Below W0.heap.size W0 w2) := hide ((uh Hb1).trans (hb2.mono hz1))
    have e0 := ((uh Hb2).cell (p := ⟨w.heap.size, 0, none⟩) hlt0).trans (uh D0)
    have e1 := ((uh Hb2).cell (p := ⟨w.heap.size, 1, none⟩) hlt0).trans (uh D1)
    have B2 : Hid (Below w.heap.size w w2) := hide ((uh HB0).trans ((uh Hb2).mono (by omega)))
    have Hi2 := hide hi2
    have HC := hide ((uh Hcut).below (uh B2))
    clear hi2 hb2
    have hlt2 : w.heap.size < w2.heap.size := by omega
    have hkl : (ps.take k).length = k := by simp; omega
    go_wp2_with fail
    go_region_law (first
     | (refine step_append_ents rfl (.tmp 28) (.tmp 30) 75 underlying75 rfl w2.heap.size _ _ (ps.take k) [(f, z)] rfl rfl (E3.later ((ba _ _))) (ents_one rfl (alNlr _) (by omega)) (by simp; omega) (by simp; omega) ?_; intro v4 w4 hown4 hg4 hat4; have X4 : Below w2.heap.size w2 w4 := (X3.alloc X3.size _).trans ((alBrf _ _).grown hg4 (by simp; omega) (fun i e => (E3.lt e).1)))
     | (refine step_append_ents rfl (.tmp 28) (.tmp 30) 75 underlying75 rfl w2.heap.size _ _ (ps.take k) [(f, z)] rfl rfl E3 ((ents_one (w := w2) rfl (alNlr _) (by omega)).below (((alBrf _ _).drew).trans hb3)) (by simp; omega) (by omega) ?_; intro v4 w4 hown4 hg4 hat4; have X4 : Below w2.heap.size w2 w4 := X3.trans ((alBrf _ _).grown hg4 (by omega) (fun i e => (E3.lt e).1)))
     | (refine step_append_ents rfl (.tmp 31) (.tmp 32) 75 underlying75 rfl w2.heap.size _ _ (ps.take k ++ [(f, z)]) (ps.drop k) rfl rfl hown4 ((uh Hi2).paces.below X4) (by simp; omega) (by have := X4.size; omega) ?_; intro v5 w5 hown5 hg5 hat5)
     | (go_simp; go_at_call 212; refine (l6Copy_any (ps := ps.take k) ?_ (by simp; omega)).mono ?_; (exact (uh HC).below (by first | exact (alBrf _ _).drew | exact ((ba _ _)).drew)); rintro e w3 ⟨v3, rfl, hi3, hb3⟩; obtain ⟨a3, cap3, hv3⟩ := hi3.shape; rw [hkl] at hv3; subst hv3; have E3 := hi3.mono (n₁ := w2.heap.size) (by simp); have X3 : Below w2.heap.size w2 w3 := (by first | exact ((alBrf _ _).drew).trans (hb3.mono (by simp)) | exact (((ba _ _)).drew).trans (hb3.mono (by simp))); have hz3 := X3.size; have q0 := (X3.cell (p := ⟨w.heap.size, 0, none⟩) hlt2).trans e0; have q1 := (X3.cell (p := ⟨w.heap.size, 1, none⟩) hlt2).trans e1))
    all_goals
     have X5 : Below w2.heap.size w2 w5 := X4.trans ((alBrf _ _).grown hg5 X4.size (fun i e => (hown4.lt e).1))
     rw [uh HQ] at hown5
     have HX5 := hide X5
     have HO5 := hide hown5
     clear hown5 hg5 hat5 X4 X5 hown4 hg4 hat4 X3 E3 hi3 hb3 q0 q1
     go_wp2_with fail
     go_ret
     exact ⟨_, rfl, (uh HO5).mono (uh B2).size, (uh B2).trans ((uh HX5).mono (uh B2).size)⟩
   ·have hd : decide (k < ps.length) = false := alDef hlt
    clear hb g0 g1 hgo
    go_wp2_with fail
    refine wq ?_
    repeat (go_big_quiet_step (exact alCro (specLess_any _ _ _ _ _)))
    refine wpQuiet_nil ?_
    intro w1 hw'
    have Hb1 : Hid (Below W0.heap.size W0 w1) := hide (by obtain ⟨q, rfl⟩ := hw'; exact (uh Hb).trans ((alBrg _ _ _).mono (uh Hb).size))
    clear k0 k1
    go_wp2_with fail
    have B1 : Hid (Below w.heap.size w w1) := hide ((uh HB0).trans ((uh Hb1).mono (by omega)))
    refine (l6Copy_any ((uh Hfrom).below (uh B1)) (by simp; omega)).mono ?_
    rintro e w2 ⟨v2, rfl, hi2, hb2⟩
    obtain ⟨a2, cap2, hv2⟩ := hi2.shape
    rw [List.length_drop] at hv2
    subst hv2
    have hz1 := (uh Hb1).size
    have hz2 := hb2.size
    have Hb2 : Hid (Below W0.heap.size W0 w2) := hide ((uh Hb1).trans (hb2.mono hz1))
    have e0 := ((uh Hb2).cell (p := ⟨w.heap.size, 0, none⟩) hlt0).trans (uh D0)
    have e1 := ((uh Hb2).cell (p := ⟨w.heap.size, 1, none⟩) hlt0).trans (uh D1)
    have B2 : Hid (Below w.heap.size w w2) := hide ((uh HB0).trans ((uh Hb2).mono (by omega)))
    have Hi2 := hide hi2
    have HC := hide ((uh Hcut).below (uh B2))
    clear hi2 hb2
    have hlt2 : w.heap.size < w2.heap.size := by omega
    have hkl : (ps.take k).length = k := by simp; omega
    go_wp2_with fail
    go_region_law (first
     | (refine step_append_ents rfl (.tmp 28) (.tmp 30) 75 underlying75 rfl w2.heap.size _ _ (ps.take k) [(f, z)] rfl rfl (E3.later ((ba _ _))) (ents_one rfl (alNlr _) (by omega)) (by simp; omega) (by simp; omega) ?_; intro v4 w4 hown4 hg4 hat4; have X4 : Below w2.heap.size w2 w4 := (X3.alloc X3.size _).trans ((alBrf _ _).grown hg4 (by simp; omega) (fun i e => (E3.lt e).1)))
     | (refine step_append_ents rfl (.tmp 28) (.tmp 30) 75 underlying75 rfl w2.heap.size _ _ (ps.take k) [(f, z)] rfl rfl E3 ((ents_one (w := w2) rfl (alNlr _) (by omega)).below (((alBrf _ _).drew).trans hb3)) (by simp; omega) (by omega) ?_; intro v4 w4 hown4 hg4 hat4; have X4 : Below w2.heap.size w2 w4 := X3.trans ((alBrf _ _).grown hg4 (by omega) (fun i e => (E3.lt e).1)))
     | (refine step_append_ents rfl (.tmp 31) (.tmp 32) 75 underlying75 rfl w2.heap.size _ _ (ps.take k ++ [(f, z)]) (ps.drop k) rfl rfl hown4 ((uh Hi2).paces.below X4) (by simp; omega) (by have := X4.size; omega) ?_; intro v5 w5 hown5 hg5 hat5)
     | (go_simp; go_at_call 212; refine (l6Copy_any (ps := ps.take k) ?_ (by simp; omega)).mono ?_; (exact (uh HC).below (by first | exact (alBrf _ _).drew | exact ((ba _ _)).drew)); rintro e w3 ⟨v3, rfl, hi3, hb3⟩; obtain ⟨a3, cap3, hv3⟩ := hi3.shape; rw [hkl] at hv3; subst hv3; have E3 := hi3.mono (n₁ := w2.heap.size) (by simp); have X3 : Below w2.heap.size w2 w3 := (by first | exact ((alBrf _ _).drew).trans (hb3.mono (by simp)) | exact (((ba _ _)).drew).trans (hb3.mono (by simp))); have hz3 := X3.size; have q0 := (X3.cell (p := ⟨w.heap.size, 0, none⟩) hlt2).trans e0; have q1 := (X3.cell (p := ⟨w.heap.size, 1, none⟩) hlt2).trans e1))
    all_goals
     have X5 : Below w2.heap.size w2 w5 := X4.trans ((alBrf _ _).grown hg5 X4.size (fun i e => (hown4.lt e).1))
     rw [uh HQ] at hown5
     have HX5 := hide X5
     have HO5 := hide hown5
     clear hown5 hg5 hat5 X4 X5 hown4 hg4 hat4 X3 E3 hi3 hb3 q0 q1
     go_wp2_with fail
     go_ret
     exact ⟨_, rfl, (uh HO5).mono (uh B2).size, (uh B2).trans ((uh HX5).mono (uh B2).size)⟩
def mkDesk (c : Int) : DeskV := ((c % 3 == 0), c + 1, c + 1 + 1)
theorem markDeskS_any {n₀ : Nat} {w : World} {v : Value} {ps : List DeskV} (c : Int) (h : DesksAt n₀ w v ps) (hk0 : 0 ≤ c) (hk1 : c ≤ 1000000000000000) (hl : ps.length ≤ 10000000) :
  Calls prog 106 #[v, .int .i64 c] w fun e w' => e = .returned (.int .i64 (c + 3 * (ps.length : Int))) ∧ DesksAt n₀ w' v (markL mkDesk 3 c ps.length) ∧ w.grownBy w' v.ownBlock := by
 have Hv := hide h
 obtain ⟨a, cap, rfl⟩ := RecAt.shape h
 clear h
 go_enter func106, ntmps106
 go_wp2_with fail
 go_loopw [5, 1] (fun i q wr => ∃ j : Nat, j ≤ ps.length ∧ i = .int .i64 j ∧ q = .int .i64 (c + 3 * (j : Int)) ∧ DesksAt n₀ wr (.slice a ps.length cap) (markedL mkDesk 3 c ps j) ∧ w.grownBy wr (Value.ownBlock (.slice a ps.length cap))) (fun i _ _ => ps.length - (intOf i).toNat)
 case atStart => exact ⟨0, alNzl _, rfl, by simp, by rw [markedL_zero]; exact uh Hv, grown_refl _ _⟩
 case round =>
  obtain ⟨j, hj, rfl, rfl, hin, hgr⟩ := hrel
  by_cases hlt : j < ps.length
  ·have hfl := markedL_len (mk := mkDesk) (d := 3) (c := c) hj
   obtain ⟨g, rfl, _, _, hcells, hfz⟩ := RecAt.view encDesk_len (by omega) hin hfl.symm (by omega)
   have hq := fun i u hu => hcells j (by omega) i u hu
   generalize recAt (markedL mkDesk 3 c ps j) j = old at hq
   have hmod : (c + 3 * (j : Int)) % 3 = c % 3 := by omega
   have o0 := hq 0 _ rfl
   have f0 := hfz (j * 3)
   have o1 := hq 1 _ rfl
   have f1 := hfz (j * 3 + 1)
   have o2 := hq 2 _ rfl
   have f2 := hfz (j * 3 + 2)
   simp only [Nat.add_zero] at o0
   have hp := RecAt.put encDesk_len (by omega) hin hfl.symm (j := j) (by omega) (mkDesk (c + 3 * (j : Int)))
   have hs9 := markedL_set (mk := mkDesk) (d := 3) (c := c) hlt
   rw [show ((3 : Nat) : Int) = 3 from rfl] at hs9
   have HS := hide hs9
   clear hs9
   have H1 := hide hp.1
   have H2 := hide (grown_trans hgr hp.2)
   clear hin hgr hcells hq hfz hp hfl
   go_wp2_with fail
   go_roundw
   case rel => exact ⟨j + 1, by omega, by go_num, by go_num, by have h9 := uh H1; rw [uh HS] at h9; simpa [setW, encDesk, mkDesk, hmod] using h9, by have h9 := uh H2; simpa [setW, encDesk, mkDesk, hmod] using h9⟩
   case measure => exact ms
  ·obtain rfl : j = ps.length := by omega
   rw [markedL_all] at hin
   go_wp2_with fail
   go_ret
   exact ⟨rfl, hin, hgr⟩
end Go.Proofs.YtgdpaigcmoifbaaGreat
