/- Part 17 of what the proof rests on. No condition but those that a theorem names. -/
import Derived.Test.YthbbahagpmdooaaGreatDoorXw16
set_option maxHeartbeats 8000000
set_option maxRecDepth 100000
namespace Go.Proofs.YthbbahagpmdooaaGreatDoor
open Go.ChangeShapes Go.WideShapes Go.ChangeAt Go.RowKit Go.Sort
set_option linter.unusedVariables false
theorem addr_at (g o i : Nat) : (⟨g, o, none⟩ : Addr).add i = ⟨g, o + i, none⟩ := by unfold Addr.add; split <;> simp_all
theorem run_append_zero {w : World} {base t ty e size n : Nat} {i : TypeInfo} (ht : Tryz.prog.underlying t = some (.slice e)) (hi : Tryz.prog.info? e = some i) {v : Value} {xs : List Value} (hown : w.ownsRow base e size v n xs) (a : Option Addr) (c : Nat) :
  (Builtin.append_ #[t, t] ty #[v, .slice a 0 c]).run Tryz.prog w = .ok v w := by
 rcases hown.2 with ⟨rfl, rfl⟩ | ⟨g, cap, cur, rfl, _, _, hnc, _⟩
 ·cases a <;> simp [Builtin.append_, run_underlying ht, sizeOf, typeInfo, hi, Builtin.lenOf, Builtin.firstCells, loadCells, loadCellsFrom]
 ·cases a <;> simp [Builtin.append_, run_underlying ht, sizeOf, typeInfo, hi, Builtin.lenOf, Builtin.firstCells, hnc, storeCells, loadCells, loadCellsFrom]
theorem cells_of {w : World} {b off : Nat} {qs : List PaceV} (h : ∀ k, k < qs.length → w.cell? ⟨b, off + k * 2, none⟩ = some (.int .i64 (paceAt qs k).1) ∧ w.cell? ⟨b, off + k * 2 + 1, none⟩ = some (.int .i64 (paceAt qs k).2)) :
  ∀ (j : Nat) (u : Value), (pcells qs)[j]? = some u → w.cell? ((⟨b, off, none⟩ : Addr).add j) = some u := fun j u hj => by
 have hlt : j < qs.length * 2 := by
  rcases Nat.lt_or_ge j (qs.length * 2) with h | h
  ·exact h
  ·rw [List.getElem?_eq_none (by rw [pcells_len]; exact h)] at hj; cases hj
 rw [addr_at]
 have hp := pairs_get (f := fun p : PaceV => Value.int .i64 p.1) (g := fun p : PaceV => Value.int .i64 p.2) qs (j / 2) (by omega)
 have e : paceAt qs (j / 2) = qs[j / 2]'(by omega) := by unfold paceAt; simp [List.getD, (by omega : j / 2 < qs.length)]
 obtain ⟨h1, h2⟩ := h (j / 2) (by omega)
 rw [e] at h1 h2
 rcases Nat.mod_two_eq_zero_or_one j with e2 | e2
 ·rw [show off + j = off + j / 2 * 2 by omega, h1, ← hj]
  conv => rhs; rw [show j = j / 2 * 2 by omega]
  exact hp.1.symm
 ·rw [show off + j = off + j / 2 * 2 + 1 by omega, h2, ← hj]
  conv => rhs; rw [show j = j / 2 * 2 + 1 by omega]
  exact hp.2.symm
theorem one_cells (qs : List PaceV) : ∀ u ∈ pcells qs, u.oneCell' = true := fun u hu => by
 unfold pcells at hu
 obtain ⟨p, _, hp⟩ := List.mem_flatMap.1 hu
 simp only [List.mem_cons, List.not_mem_nil, or_false] at hp
 rcases hp with rfl | rfl <;> rfl
theorem run_append_ents {w : World} {base t ty : Nat} (ht : Tryz.prog.underlying t = some (.slice 194)) {v x : Value} {ps qs : List PaceV} (hown : EntsAt base w v ps) (hx : IsPaces w x qs) (hb : ps.length + qs.length ≤ 4000) (hbase : base ≤ w.heap.size) :
  ∃ v' w', (Builtin.append_ #[t, t] ty #[v, x]).run Tryz.prog w = .ok v' w' ∧ EntsAt base w' v' (ps ++ qs) ∧ w.grownBy w' v.ownBlock ∧ (v'.ownBlock = v.ownBlock ∨ v'.ownBlock = some w.heap.size) := by
 obtain ⟨i0, hi, hz0, hz1, hz2⟩ := info_parts infoEntry
 obtain ⟨a, c, rfl, hc, hm, hr⟩ := hx
 by_cases h0 : qs = []
 ·subst h0
  refine ⟨v, w, run_append_zero ht hi hown a c, by simpa using hown, grown_refl _ _, .inl rfl⟩
 ·rcases hr with hr | ⟨b, off, rfl, hlt, hcl⟩
  ·exact absurd hr h0
  ·obtain ⟨v', w', hr, h2, h3, _, h5⟩ := run_append_own_at (P := Tryz.prog) w base t ty 194 i0 (.agg #[.int .i64 0, .int .i64 0]) 2 16 ht hi hz0 hz1 hz2 rfl (by decide) v ps.length _ hown ⟨b, off, none⟩ qs.length c (pcells qs) (pcells_len qs)
    (cells_of hcl) (one_cells qs) (by simp only [maxLen]; omega) (by omega) hbase
   refine ⟨v', w', hr, ?_, h3, h5⟩
   unfold EntsAt
   rw [pcells_append, List.length_append]
   exact h2
theorem wpList_append_ents {w : World} {ops : Array Oper} {rest : List Oper} {o : Oper} {a : Act} {Q : Exit → Act → World → Prop} (hgd : o.guard = none) (s x : Operand) (t : TypeId) (ht : Tryz.prog.underlying t = some (.slice 194))
  (ho : o.op = .call { callee := .builtin .append, args := #[s, x], argTypes := #[t, t] }) (base : Nat) (v u : Value) (ps qs : List PaceV) (hs : a.eval s = v) (hx : a.eval x = u) (hown : EntsAt base w v ps) (hr : IsPaces w u qs)
  (hb : ps.length + qs.length ≤ 4000) (hbase : base ≤ w.heap.size)
  (h : ∀ v' w', EntsAt base w' v' (ps ++ qs) → w.grownBy w' v.ownBlock → (v'.ownBlock = v.ownBlock ∨ v'.ownBlock = some w.heap.size) → wpList Tryz.prog ops Q rest (a.put o.dst v') w') :
  wpList Tryz.prog ops Q (o :: rest) a w := by
 refine wpList_plain hgd fun K hK => ?_
 obtain ⟨v', w', hrun, h2, h3, h5⟩ := run_append_ents (ty := o.type) ht hown hr hb hbase
 unfold Oper.wp execOp
 simp only [ho, resolve, invoke, builtin, Sem.run_bind, Sem.run_pure, Result.andThen_ok, List.map_toArray, List.map_cons, List.map_nil, hs, hx, hrun]
 exact hK _ _ (h v' w' h2 h3 h5)
theorem step_append_ents {ops : Array Oper} {o : Oper} {a : Act} {w : World} {K : Act → World → Prop} {Q : Exit → Act → World → Prop} {E : Prop} (hgd : o.guard = none) (s x : Operand) (t : TypeId) (ht : Tryz.prog.underlying t = some (.slice 194))
  (ho : o.op = .call { callee := .builtin .append, args := #[s, x], argTypes := #[t, t] }) (base : Nat) (v u : Value) (ps qs : List PaceV) (hs : a.eval s = v) (hx : a.eval x = u) (hown : EntsAt base w v ps) (hr : IsPaces w u qs)
  (hb : ps.length + qs.length ≤ 4000) (hbase : base ≤ w.heap.size)
  (h : ∀ v' w', EntsAt base w' v' (ps ++ qs) → w.grownBy w' v.ownBlock → (v'.ownBlock = v.ownBlock ∨ v'.ownBlock = some w.heap.size) → K (a.put o.dst v') w') :
  if Region.wanted o (yielded ops a.tmps) = true then Oper.wp Tryz.prog o a w K Q else E := by
 have hw : Region.wanted o (yielded ops a.tmps) = true := by simp [Region.wanted, hgd]
 rw [if_pos hw]
 obtain ⟨v', w', hrun, h2, h3, h5⟩ := run_append_ents (ty := o.type) ht hown hr hb hbase
 unfold Oper.wp execOp
 simp only [ho, resolve, invoke, builtin, Sem.run_bind, Sem.run_pure, Result.andThen_ok, List.map_toArray, List.map_cons, List.map_nil, hs, hx, hrun]
 exact h v' w' h2 h3 h5
theorem ents_empty {B g : Nat} {w : World} (hg : g = w.heap.size) (hB : B ≤ g) : EntsAt B (w.alloc (.cells #[] 194)) (.slice (some ⟨g, 0, none⟩) 0 0) [] := by
 subst hg
 exact ⟨by simp [pcells], .inr ⟨_, 0, #[], rfl, hB, heap_alloc_new w _, Nat.le_refl _, Nat.zero_le _, by simp, by simp [pcells]⟩⟩
theorem ents_one {w : World} {f z : Int} {g c : Nat} (hg : g = w.heap.size) (hc : 1 ≤ c) (hc2 : c ≤ 4000) : IsPaces (w.alloc (.cells #[.int .i64 f, .int .i64 z] 194)) (.slice (some ⟨g, 0, none⟩) 1 c) [(f, z)] := by
 subst hg
 refine ⟨_, c, rfl, hc, by omega, .inr ⟨_, 0, rfl, by simp, fun k hk => ?_⟩⟩
 obtain rfl : k = 0 := by simpa using hk
 simp [paceAt]
theorem copyOf_any {w : World} {v : Value} {ps : List PaceV} (h : IsPaces w v ps) (hl : ps.length ≤ 1000) :
  Calls Tryz.prog 295 #[v] w fun e w' => ∃ v', e = .returned v' ∧ EntsAt w.heap.size w' v' ps ∧ Below w.heap.size w w' := by
 have Hv := hide h
 obtain ⟨a, cap, rfl, hc, hm, hr⟩ := h
 clear hr
 go_enter Tryz.func295, Tryz.ntmps295
 go_wp2_with (at_builtin; refine wpList_append_ents rfl (.tmp 3) (.tmp 4) 191 Tryz.underlying191 rfl w.heap.size _ _ [] ps rfl rfl (ents_empty rfl (Nat.le_refl _)) ((uh Hv).below ((Below.refl _ _).alloc (Nat.le_refl _) _)) (by simp; omega) (by simp) ?_; intro v' w1 hown hgrow hat)
 go_ret
 refine ⟨v', rfl, by simpa using hown, ((Below.refl _ _).alloc (Nat.le_refl _) _).trans ((Below.refl _ _).grown hgrow (by simp) (fun k e => ?_))⟩
 cases e; exact Nat.le_refl _
theorem l6Copy_any {w : World} {v : Value} {ps : List PaceV} (h : IsPaces w v ps) (hl : ps.length ≤ 1000) :
  Calls Tryz.prog 279 #[v] w fun e w' => ∃ v', e = .returned v' ∧ EntsAt w.heap.size w' v' ps ∧ Below w.heap.size w w' := by
 have Hv := hide h
 obtain ⟨a, cap, rfl, hc, hm, hr⟩ := h
 clear hr
 go_enter Tryz.func279, Tryz.ntmps279
 go_wp2_with (at_builtin; refine wpList_append_ents rfl (.tmp 3) (.tmp 4) 191 Tryz.underlying191 rfl w.heap.size _ _ [] ps rfl rfl (ents_empty rfl (Nat.le_refl _)) ((uh Hv).below ((Below.refl _ _).alloc (Nat.le_refl _) _)) (by simp; omega) (by simp) ?_; intro v' w1 hown hgrow hat)
 go_ret
 refine ⟨v', rfl, by simpa using hown, ((Below.refl _ _).alloc (Nat.le_refl _) _).trans ((Below.refl _ _).grown hgrow (by simp) (fun k e => ?_))⟩
 cases e; exact Nat.le_refl _
theorem heapOf_any {w : World} {v : Value} {ps : List PaceV} (h : IsPaces w v ps) (hl : ps.length ≤ 1000) :
  Calls Tryz.prog 292 #[v] w fun e w' => ∃ bx v', e = .returned (.pointer (some ⟨bx, 0, none⟩)) ∧ w.heap.size ≤ bx ∧ HeapIs w.heap.size bx v' w' ps ∧ Below w.heap.size w w' := by
 have Hv := hide h
 obtain ⟨a, cap, rfl, hc, hm, hr⟩ := h
 clear hr
 go_enter Tryz.func292, Tryz.ntmps292
 go_wp2_with fail
 refine (copyOf_any (uh Hv) hl).mono ?_
 rintro e w1 ⟨v1, rfl, hi1, hb1⟩
 obtain ⟨a1, cap1, rfl⟩ := hi1.shape
 have H1 := hide hi1
 have B1 := hide hb1
 have hz1 := hb1.size
 clear hi1 hb1
 go_wp2_with fail
 go_ret
 refine ⟨w1.heap.size, .slice a1 ps.length cap1, rfl, hz1, ⟨by simp, by simp, by simp, (uh H1).later ((Below.refl _ _).alloc (Nat.le_refl _) _), fun e => ?_⟩, (uh B1).alloc hz1 _⟩
 have := (uh H1).lt e
 omega
theorem slice_to (a : Option Addr) (n cap k : Nat) (hk : k ≤ cap) (W : World) : (Instr.slice 191 (.slice a n cap) none (some (.int .i64 k)) none).run Tryz.prog W = .ok (.slice a k cap) W := by
 obtain ⟨i0, hi, hz0, hz1, hz2⟩ := info_parts infoEntry
 have hs : ∀ W, (sizeOf 194).run Tryz.prog W = .ok 2 W := fun W => by simp [sizeOf, typeInfo, hi, hz1]
 have hb : ∀ W, (Instr.sliceBounds true n cap none (some (.int .i64 k)) none).run Tryz.prog W = .ok (0, k, cap) W := fun W => by
  simp [Instr.sliceBounds, Instr.sliceBound, asIntOf]
  intro h; omega
 simp only [Instr.slice, Sem.run_bind, run_underlying Tryz.underlying191, Result.andThen, hb, hs, Sem.run_pure]
 simp
 cases a <;> simp [Addr.add]
def fromV (a : Option Addr) (n cap k : Nat) : Value := .slice (if cap = k then a else a.map (·.add (k * 2))) (n - k) (cap - k)
theorem slice_from (a : Option Addr) (n cap k : Nat) (hk : k ≤ n) (W : World) : (Instr.slice 191 (.slice a n cap) (some (.int .i64 k)) none none).run Tryz.prog W = .ok (fromV a n cap k) W := by
 obtain ⟨i0, hi, hz0, hz1, hz2⟩ := info_parts infoEntry
 have hs : ∀ W, (sizeOf 194).run Tryz.prog W = .ok 2 W := fun W => by simp [sizeOf, typeInfo, hi, hz1]
 have hb : ∀ W, (Instr.sliceBounds true n cap (some (.int .i64 k)) none none).run Tryz.prog W = .ok (k, n, cap) W := fun W => by
  simp [Instr.sliceBounds, Instr.sliceBound, asIntOf]
  intro h; omega
 simp only [Instr.slice, Sem.run_bind, run_underlying Tryz.underlying191, Result.andThen, hb, hs, Sem.run_pure]
 rfl
theorem paceAt_drop (ps : List PaceV) (n k : Nat) : paceAt (ps.drop n) k = paceAt ps (n + k) := by unfold paceAt; simp [List.getD]
theorem IsPaces.from {w : World} {a : Option Addr} {n cap : Nat} {ps : List PaceV} (h : IsPaces w (.slice a n cap) ps) {k : Nat} (hk : k ≤ ps.length) : IsPaces w (fromV a n cap k) (ps.drop k) := by
 obtain ⟨a', cap', he, hc, hm, hr⟩ := h
 cases he
 refine ⟨_, cap - k, by unfold fromV; rw [List.length_drop], by rw [List.length_drop]; omega, by omega, ?_⟩
 rcases hr with hr | ⟨b, off, rfl, hlt, hcl⟩
 ·exact .inl (by rw [hr]; simp)
 ·by_cases hz : ps.length = k
  ·exact .inl (by rw [List.drop_eq_nil_iff]; omega)
  ·rw [if_neg (by omega)]
   refine .inr ⟨b, off + k * 2, by simp [addr_at], hlt, fun j hj => ?_⟩
   rw [List.length_drop] at hj
   rw [paceAt_drop]
   have := hcl (k + j) (by omega)
   rw [show off + (k + j) * 2 = off + k * 2 + j * 2 by omega] at this
   exact this
theorem fromV_shape (a : Option Addr) (n cap k : Nat) : ∃ a', fromV a n cap k = .slice a' (n - k) (cap - k) := ⟨_, rfl⟩
theorem l6Put_any {w : World} {v : Value} {ps : List PaceV} (f z : Int) (h : IsPaces w v ps) (hl : ps.length ≤ 900) :
  Calls Tryz.prog 226 #[v, .agg #[.int .i64 f, .int .i64 z]] w fun e w' => ∃ v', e = .returned v' ∧ EntsAt w.heap.size w' v' (putV ps (f, z)) ∧ Below w.heap.size w w' := by
 have Hv := hide h
 obtain ⟨a, cap, rfl, hc, hm, hr⟩ := h
 have Hr := hide hr
 clear hr
 go_enter Tryz.func226, Tryz.ntmps226
 go_wp2_with fail
 generalize hW : w.alloc (.cells #[.int .i64 f, .int .i64 z] 194) = W0
 have hs0 : W0.heap.size = w.heap.size + 1 := by rw [← hW]; simp
 have d0 : W0.cell? ⟨w.heap.size, 0, none⟩ = some (.int .i64 f) := by rw [← hW]; simp
 have d1 : W0.cell? ⟨w.heap.size, 1, none⟩ = some (.int .i64 z) := by rw [← hW]; simp
 have HB0 : Hid (Below w.heap.size w W0) := hide (by rw [← hW]; exact (Below.refl _ _).alloc (Nat.le_refl _) _)
 have D0 := hide d0
 have D1 := hide d1
 clear hW d0 d1
 go_loopw [5] (fun i wr => ∃ k : Nat, k ≤ ps.length ∧ i = .int .i64 k ∧ (∀ j, j < k → ltB (paceAt ps j) (f, z) = true) ∧ Below W0.heap.size W0 wr) (fun i _ => ps.length - (intOf i).toNat)
 case atStart => exact ⟨0, Nat.zero_le _, rfl, fun j hj => by omega, Below.refl _ _⟩
 case round =>
  obtain ⟨k, hk, rfl, hst, hb⟩ := hrel
  have Hst := hide hst
  have Hb := hide hb
  have hszr := hb.size
  have hlt0 : w.heap.size < W0.heap.size := by omega
  have g0 := (hb.cell (p := ⟨w.heap.size, 0, none⟩) hlt0).trans (uh D0)
  have g1 := (hb.cell (p := ⟨w.heap.size, 1, none⟩) hlt0).trans (uh D1)
  have k0 := cell_regrown g0
  have k1 := cell_regrown g1
  clear hst
  by_cases hgo : k < ps.length ∧ ltB (paceAt ps k) (f, z) = true
  ·obtain ⟨hlt, hab⟩ := hgo
   rcases uh Hr with h0 | ⟨b, off, rfl, hbw, hcl⟩
   ·rw [h0] at hlt; simp at hlt
   obtain ⟨c0, c1⟩ := hcl k hlt
   have hbB := (uh HB0).trans (hb.mono (by omega))
   rw [← hbB.cell (p := ⟨b, off + k * 2, none⟩) hbw] at c0
   rw [← hbB.cell (p := ⟨b, off + k * 2 + 1, none⟩) hbw] at c1
   generalize hp : paceAt ps k = p at *
   obtain ⟨f', z'⟩ := p
   simp only at c0 c1
   have Hp := hide hp
   have m0 := cell_regrown c0
   have m1 := cell_regrown c1
   have hd : decide (k < ps.length) = true := decide_eq_true hlt
   clear hp hcl hb hbB g0 g1 c0 c1
   go_wp2_with fail
   refine wp_region_quiet_below (by kernel_rfl) (by kernel_rfl) ?_
   repeat (go_big_quiet_step (exact Calls.regrown_of (specLess_any _ _ _ _ _)))
   refine wpQuiet_nil ?_
   intro _ hw'
   obtain ⟨⟨dq, osq⟩, hw''⟩ := hw'
   subst hw''
   go_wp2_with fail
   go_roundw
   case rel => exact ⟨k + 1, by omega, by go_num, next_all (uh Hst) (by rw [uh Hp]; exact hab), (uh Hb).trans ((below_regrown _ _ _).mono (uh Hb).size)⟩
   case measure => simp [intOf]; omega
  ·have HK : Hid (lessN (f, z) ps = k) := hide (lessN_eq hk (uh Hst) (by
    by_cases e : k = ps.length
    ·exact .inl e
    ·right
     cases hq : ltB (paceAt ps k) (f, z)
     ·rfl
     ·exact absurd ⟨by omega, hq⟩ hgo))
   have HQ : Hid (ps.take k ++ [(f, z)] ++ ps.drop k = putV ps (f, z)) := hide (by unfold putV; rw [uh HK]; simp)
   have hto := slice_to a ps.length cap k (by omega)
   have hfr := slice_from a ps.length cap k hk
   obtain ⟨ra, hra⟩ := fromV_shape a ps.length cap k
   rw [hra] at hfr
   have Hfrom : Hid (IsPaces w (.slice ra (ps.length - k) (cap - k)) (ps.drop k)) := hide (by rw [← hra]; exact (uh Hv).from hk)
   have Hcut : Hid (IsPaces w (.slice a k cap) (ps.take k)) := hide ((uh Hv).cut hk)
   clear hra
   by_cases hlt : k < ps.length
   ·have hab : ltB (paceAt ps k) (f, z) = false := by
     cases hq : ltB (paceAt ps k) (f, z)
     ·rfl
     ·exact absurd ⟨hlt, hq⟩ hgo
    rcases uh Hr with h0 | ⟨b, off, rfl, hbw, hcl⟩
    ·rw [h0] at hlt; simp at hlt
    obtain ⟨c0, c1⟩ := hcl k hlt
    have hbB := (uh HB0).trans (hb.mono (by omega))
    rw [← hbB.cell (p := ⟨b, off + k * 2, none⟩) hbw] at c0
    rw [← hbB.cell (p := ⟨b, off + k * 2 + 1, none⟩) hbw] at c1
    generalize hp : paceAt ps k = p at *
    obtain ⟨f', z'⟩ := p
    simp only at c0 c1
    have m0 := cell_regrown c0
    have m1 := cell_regrown c1
    have hd : decide (k < ps.length) = true := decide_eq_true hlt
    clear hp hcl hb hbB g0 g1 c0 c1 hgo
    go_wp2_with fail
    refine wp_region_quiet_below (by kernel_rfl) (by kernel_rfl) ?_
    repeat (go_big_quiet_step (exact Calls.regrown_of (specLess_any _ _ _ _ _)))
    refine wpQuiet_nil ?_
    intro w1 hw'
    have Hb1 : Hid (Below W0.heap.size W0 w1) := hide (by obtain ⟨q, rfl⟩ := hw'; exact (uh Hb).trans ((below_regrown _ _ _).mono (uh Hb).size))
    clear hw' k0 k1 m0 m1
    go_wp2_with fail
    have B1 : Hid (Below w.heap.size w w1) := hide ((uh HB0).trans ((uh Hb1).mono (by omega)))
    refine (l6Copy_any ((uh Hfrom).below (uh B1)) (by simp; omega)).mono ?_
    rintro e w2 ⟨v2, rfl, hi2, hb2⟩
    obtain ⟨a2, cap2, hv2⟩ := hi2.shape
    rw [List.length_drop] at hv2
    subst hv2
    have hz1 := (uh Hb1).size
    have hz2 := hb2.size
    have Hb2 : Hid (Below W0.heap.size W0 w2) := hide ((uh Hb1).trans (hb2.mono hz1))
    have e0 := ((uh Hb2).cell (p := ⟨w.heap.size, 0, none⟩) hlt0).trans (uh D0)
    have e1 := ((uh Hb2).cell (p := ⟨w.heap.size, 1, none⟩) hlt0).trans (uh D1)
    have B2 : Hid (Below w.heap.size w w2) := hide ((uh HB0).trans ((uh Hb2).mono (by omega)))
    have Hi2 := hide hi2
    have HC := hide ((uh Hcut).below (uh B2))
    clear hi2 hb2
    have hlt2 : w.heap.size < w2.heap.size := by omega
    have hkl : (ps.take k).length = k := by simp; omega
    go_wp2_with fail
    go_region_law (first
     | (refine step_append_ents rfl (.tmp 28) (.tmp 30) 191 Tryz.underlying191 rfl w2.heap.size _ _ (ps.take k) [(f, z)] rfl rfl (E3.later ((Below.refl _ _).alloc (Nat.le_refl _) _)) (ents_one rfl (Nat.le_refl _) (by omega)) (by simp; omega) (by simp; omega) ?_; intro v4 w4 hown4 hg4 hat4; have X4 : Below w2.heap.size w2 w4 := (X3.alloc X3.size _).trans ((Below.refl _ _).grown hg4 (by simp; omega) (fun i e => (E3.lt e).1)))
     | (refine step_append_ents rfl (.tmp 28) (.tmp 30) 191 Tryz.underlying191 rfl w2.heap.size _ _ (ps.take k) [(f, z)] rfl rfl E3 ((ents_one (w := w2) rfl (Nat.le_refl _) (by omega)).below (((Below.refl _ _).drew).trans hb3)) (by simp; omega) (by omega) ?_; intro v4 w4 hown4 hg4 hat4; have X4 : Below w2.heap.size w2 w4 := X3.trans ((Below.refl _ _).grown hg4 (by omega) (fun i e => (E3.lt e).1)))
     | (refine step_append_ents rfl (.tmp 31) (.tmp 32) 191 Tryz.underlying191 rfl w2.heap.size _ _ (ps.take k ++ [(f, z)]) (ps.drop k) rfl rfl hown4 ((uh Hi2).paces.below X4) (by simp; omega) (by have := X4.size; omega) ?_; intro v5 w5 hown5 hg5 hat5)
     | (go_simp; go_at_call 279; refine (l6Copy_any (ps := ps.take k) ?_ (by simp; omega)).mono ?_; (exact (uh HC).below (by first | exact (Below.refl _ _).drew | exact ((Below.refl _ _).alloc (Nat.le_refl _) _).drew)); rintro e w3 ⟨v3, rfl, hi3, hb3⟩; obtain ⟨a3, cap3, hv3⟩ := hi3.shape; rw [hkl] at hv3; subst hv3; have E3 := hi3.mono (n₁ := w2.heap.size) (by simp); have X3 : Below w2.heap.size w2 w3 := (by first | exact ((Below.refl _ _).drew).trans (hb3.mono (by simp)) | exact (((Below.refl _ _).alloc (Nat.le_refl _) _).drew).trans (hb3.mono (by simp))); have hz3 := X3.size; have q0 := (X3.cell (p := ⟨w.heap.size, 0, none⟩) hlt2).trans e0; have q1 := (X3.cell (p := ⟨w.heap.size, 1, none⟩) hlt2).trans e1))
    all_goals
     have X5 : Below w2.heap.size w2 w5 := X4.trans ((Below.refl _ _).grown hg5 X4.size (fun i e => (hown4.lt e).1))
     rw [uh HQ] at hown5
     have HX5 := hide X5
     have HO5 := hide hown5
     clear hown5 hg5 hat5 X4 X5 hown4 hg4 hat4 X3 E3 hi3 hb3 q0 q1
     go_wp2_with fail
     go_ret
     exact ⟨_, rfl, (uh HO5).mono (uh B2).size, (uh B2).trans ((uh HX5).mono (uh B2).size)⟩
   ·have hd : decide (k < ps.length) = false := decide_eq_false hlt
    clear hb g0 g1 hgo
    go_wp2_with fail
    refine wp_region_quiet_below (by kernel_rfl) (by kernel_rfl) ?_
    repeat (go_big_quiet_step (exact Calls.regrown_of (specLess_any _ _ _ _ _)))
    refine wpQuiet_nil ?_
    intro w1 hw'
    have Hb1 : Hid (Below W0.heap.size W0 w1) := hide (by obtain ⟨q, rfl⟩ := hw'; exact (uh Hb).trans ((below_regrown _ _ _).mono (uh Hb).size))
    clear hw' k0 k1
    go_wp2_with fail
    have B1 : Hid (Below w.heap.size w w1) := hide ((uh HB0).trans ((uh Hb1).mono (by omega)))
    refine (l6Copy_any ((uh Hfrom).below (uh B1)) (by simp; omega)).mono ?_
    rintro e w2 ⟨v2, rfl, hi2, hb2⟩
    obtain ⟨a2, cap2, hv2⟩ := hi2.shape
    rw [List.length_drop] at hv2
    subst hv2
    have hz1 := (uh Hb1).size
    have hz2 := hb2.size
    have Hb2 : Hid (Below W0.heap.size W0 w2) := hide ((uh Hb1).trans (hb2.mono hz1))
    have e0 := ((uh Hb2).cell (p := ⟨w.heap.size, 0, none⟩) hlt0).trans (uh D0)
    have e1 := ((uh Hb2).cell (p := ⟨w.heap.size, 1, none⟩) hlt0).trans (uh D1)
    have B2 : Hid (Below w.heap.size w w2) := hide ((uh HB0).trans ((uh Hb2).mono (by omega)))
    have Hi2 := hide hi2
    have HC := hide ((uh Hcut).below (uh B2))
    clear hi2 hb2
    have hlt2 : w.heap.size < w2.heap.size := by omega
    have hkl : (ps.take k).length = k := by simp; omega
    go_wp2_with fail
    go_region_law (first
     | (refine step_append_ents rfl (.tmp 28) (.tmp 30) 191 Tryz.underlying191 rfl w2.heap.size _ _ (ps.take k) [(f, z)] rfl rfl (E3.later ((Below.refl _ _).alloc (Nat.le_refl _) _)) (ents_one rfl (Nat.le_refl _) (by omega)) (by simp; omega) (by simp; omega) ?_; intro v4 w4 hown4 hg4 hat4; have X4 : Below w2.heap.size w2 w4 := (X3.alloc X3.size _).trans ((Below.refl _ _).grown hg4 (by simp; omega) (fun i e => (E3.lt e).1)))
     | (refine step_append_ents rfl (.tmp 28) (.tmp 30) 191 Tryz.underlying191 rfl w2.heap.size _ _ (ps.take k) [(f, z)] rfl rfl E3 ((ents_one (w := w2) rfl (Nat.le_refl _) (by omega)).below (((Below.refl _ _).drew).trans hb3)) (by simp; omega) (by omega) ?_; intro v4 w4 hown4 hg4 hat4; have X4 : Below w2.heap.size w2 w4 := X3.trans ((Below.refl _ _).grown hg4 (by omega) (fun i e => (E3.lt e).1)))
     | (refine step_append_ents rfl (.tmp 31) (.tmp 32) 191 Tryz.underlying191 rfl w2.heap.size _ _ (ps.take k ++ [(f, z)]) (ps.drop k) rfl rfl hown4 ((uh Hi2).paces.below X4) (by simp; omega) (by have := X4.size; omega) ?_; intro v5 w5 hown5 hg5 hat5)
     | (go_simp; go_at_call 279; refine (l6Copy_any (ps := ps.take k) ?_ (by simp; omega)).mono ?_; (exact (uh HC).below (by first | exact (Below.refl _ _).drew | exact ((Below.refl _ _).alloc (Nat.le_refl _) _).drew)); rintro e w3 ⟨v3, rfl, hi3, hb3⟩; obtain ⟨a3, cap3, hv3⟩ := hi3.shape; rw [hkl] at hv3; subst hv3; have E3 := hi3.mono (n₁ := w2.heap.size) (by simp); have X3 : Below w2.heap.size w2 w3 := (by first | exact ((Below.refl _ _).drew).trans (hb3.mono (by simp)) | exact (((Below.refl _ _).alloc (Nat.le_refl _) _).drew).trans (hb3.mono (by simp))); have hz3 := X3.size; have q0 := (X3.cell (p := ⟨w.heap.size, 0, none⟩) hlt2).trans e0; have q1 := (X3.cell (p := ⟨w.heap.size, 1, none⟩) hlt2).trans e1))
    all_goals
     have X5 : Below w2.heap.size w2 w5 := X4.trans ((Below.refl _ _).grown hg5 X4.size (fun i e => (hown4.lt e).1))
     rw [uh HQ] at hown5
     have HX5 := hide X5
     have HO5 := hide hown5
     clear hown5 hg5 hat5 X4 X5 hown4 hg4 hat4 X3 E3 hi3 hb3 q0 q1
     go_wp2_with fail
     go_ret
     exact ⟨_, rfl, (uh HO5).mono (uh B2).size, (uh B2).trans ((uh HX5).mono (uh B2).size)⟩
theorem l11At_any {w : World} {v0 v1 v2 v3 v4 : Value} {m : SmyV} (b : Int) (h : Smy w v0 v1 v2 v3 v4 m) (hl : m.smiths.length ≤ 800) :
  Calls Tryz.prog 179 #[.agg #[v0, v1, v2, v3, v4, .int .i64 m.now], .int .i64 b] w fun e w' => ∃ v', e = .returned v' ∧ EntsAt w.heap.size w' v' (atV m.smiths b m.smiths.length) ∧ Below w.heap.size w w' := by
 obtain ⟨h0, h1, h2, h3, h4⟩ := h
 obtain ⟨a0, p0, rfl, hc0, hm0, _⟩ := h0
 obtain ⟨a1, p1, rfl, hc1, hm1, _⟩ := h1
 obtain ⟨a2, p2, rfl, hc2, hm2, r2⟩ := h2
 obtain ⟨a3, p3, rfl, hc3, hm3, _⟩ := h3
 obtain ⟨a4, p4, rfl, hc4, hm4, _⟩ := h4
 have R2 := hide r2
 clear r2
 have kb0 : Hid (Blk ((w.alloc (.cells #[.slice a0 m.rooms.length p0, .slice a1 m.guilds.length p1, .slice a2 m.smiths.length p2, .slice a3 m.desks.length p3, .slice a4 m.paces.length p4, .int .i64 m.now] 32)).alloc (.cells #[] 194)) w.heap.size 32 #[.slice a0 m.rooms.length p0, .slice a1 m.guilds.length p1, .slice a2 m.smiths.length p2, .slice a3 m.desks.length p3, .slice a4 m.paces.length p4, .int .i64 m.now]) := hide ((Blk.new w _ _).alloc _)
 have BB0 : Hid (Below w.heap.size w ((w.alloc (.cells #[.slice a0 m.rooms.length p0, .slice a1 m.guilds.length p1, .slice a2 m.smiths.length p2, .slice a3 m.desks.length p3, .slice a4 m.paces.length p4, .int .i64 m.now] 32)).alloc (.cells #[] 194))) := hide (((Below.refl _ _).alloc (Nat.le_refl _) _).alloc (by simp) _)
 have E0 : Hid (EntsAt w.heap.size ((w.alloc (.cells #[.slice a0 m.rooms.length p0, .slice a1 m.guilds.length p1, .slice a2 m.smiths.length p2, .slice a3 m.desks.length p3, .slice a4 m.paces.length p4, .int .i64 m.now] 32)).alloc (.cells #[] 194)) (.slice (some ⟨w.heap.size + 1, 0, none⟩) 0 0) []) := hide (ents_empty (by simp) (by omega))
 go_enter Tryz.func179, Tryz.ntmps179
 go_wp2_with fail
 go_loopw [5, 6] (fun q i wr => ∃ k : Nat, k ≤ m.smiths.length ∧ i = .int .i64 k ∧ EntsAt w.heap.size wr q (atV m.smiths b k) ∧ Blk wr w.heap.size 32 #[.slice a0 m.rooms.length p0, .slice a1 m.guilds.length p1, .slice a2 m.smiths.length p2, .slice a3 m.desks.length p3, .slice a4 m.paces.length p4, .int .i64 m.now] ∧ Below w.heap.size w wr) (fun _ i _ => m.smiths.length - (intOf i).toNat)
 case atStart => exact ⟨0, Nat.zero_le _, rfl, uh E0, uh kb0, uh BB0⟩
 case round =>
  obtain ⟨k, hk, rfl, he, kb1, hb1⟩ := hrel
  obtain ⟨qa, qcap, rfl⟩ := EntsAt.shape he
  have kb := hide kb1
  have BB := hide hb1
  have He := hide he
  clear kb1 hb1 he kb0 BB0 E0
  have hal := atV_len m.smiths b k
  have c2 := (uh kb).cell (i := 2) (v := .slice a2 m.smiths.length p2) rfl
  by_cases hls : k < m.smiths.length
  ·rcases uh R2 with e0 | ⟨sb, off, rfl, hbw, hcl⟩
   ·rw [e0] at hls; simp at hls
   obtain ⟨d0, d1, d2, d3, d4, d5, d6, d7, d8, d9, d10⟩ := smith_cells hcl hls
   rw [← (uh BB).cell (p := ⟨sb, off + k * 11, none⟩) hbw] at d0
   rw [← (uh BB).cell (p := ⟨sb, off + k * 11 + 1, none⟩) hbw] at d1
   rw [← (uh BB).cell (p := ⟨sb, off + k * 11 + 2, none⟩) hbw] at d2
   rw [← (uh BB).cell (p := ⟨sb, off + k * 11 + 3, none⟩) hbw] at d3
   rw [← (uh BB).cell (p := ⟨sb, off + k * 11 + 4, none⟩) hbw] at d4
   rw [← (uh BB).cell (p := ⟨sb, off + k * 11 + 5, none⟩) hbw] at d5
   rw [← (uh BB).cell (p := ⟨sb, off + k * 11 + 6, none⟩) hbw] at d6
   rw [← (uh BB).cell (p := ⟨sb, off + k * 11 + 7, none⟩) hbw] at d7
   rw [← (uh BB).cell (p := ⟨sb, off + k * 11 + 8, none⟩) hbw] at d8
   rw [← (uh BB).cell (p := ⟨sb, off + k * 11 + 9, none⟩) hbw] at d9
   rw [← (uh BB).cell (p := ⟨sb, off + k * 11 + 10, none⟩) hbw] at d10
   clear hcl
   have S1 := hide (fun hs => atV_no (ss := m.smiths) (b := b) (k := k) hs)
   have S2 := hide (fun h1 h2 => atV_yes (ss := m.smiths) (b := b) (k := k) h1 h2)
   generalize recAt m.smiths k = ss at *
   obtain ⟨st, be, rk, my, gu, lo, hi, hd, ca, ut, wk⟩ := ss
   simp only at d0 d1 d2 d3 d4 d5 d6 d7 d8 d9 d10
   have hl0 : w.heap.size < wr.heap.size := (uh kb).lt
   by_cases hbe : be = b
   rotate_left
   ·have hbn : (be == b) = false := by simpa using hbe
    go_wp2_with fail
    go_roundw
    case rel => exact ⟨k + 1, by omega, by go_num, by rw [uh S1 (fun h9 => hbe h9.1)]; exact EntsAt.later (uh He) ((Below.refl _ _).alloc (Nat.le_refl _) _), (uh kb).alloc _, (uh BB).alloc (uh BB).size _⟩
    case measure => simp [intOf]; omega
   subst hbe
   have hbn : (be == be) = true := by simp
   obtain ⟨ps, hps⟩ : ∃ q, presS (st, be, rk, my, gu, lo, hi, hd, ca, ut, wk) = q := ⟨_, rfl⟩
   have Hps := hide hps
   clear hps
   go_wp2_with fail
   clear c2 d0 d1 d2 d3 d4 d5 d6 d7 d8 d9 d10
   refine (l11Present_q (uh Hps) _).mono ?_
   rintro e w2 ⟨rfl, hb⟩
   have ks : Hid (Blk w2 wr.heap.size 40 #[.int .i64 st, .int .i64 be, .int .i64 rk, .int .i64 my, .int .i64 gu, .int .i64 lo, .int .i64 hi, .int .i64 hd, .int .i64 ca, .int .i64 ut, .int .i64 wk]) := hide ((Blk.new wr _ _).below hb (by simp))
   replace kb := hide (((uh kb).alloc (.cells #[.int .i64 st, .int .i64 be, .int .i64 rk, .int .i64 my, .int .i64 gu, .int .i64 lo, .int .i64 hi, .int .i64 hd, .int .i64 ca, .int .i64 ut, .int .i64 wk] 40)).below hb (by simp; omega))
   have hba := ((Below.refl wr.heap.size wr).alloc (Nat.le_refl _) (.cells #[.int .i64 st, .int .i64 be, .int .i64 rk, .int .i64 my, .int .i64 gu, .int .i64 lo, .int .i64 hi, .int .i64 hd, .int .i64 ca, .int .i64 ut, .int .i64 wk] 40)).trans (hb.mono (by simp))
   replace He := hide (EntsAt.later (uh He) hba)
   replace BB := bt BB hba
   clear hb hl0 hba
   have d7 := (uh ks).cell (i := 7) (v := .int .i64 hd) rfl
   cases ps
   ·go_wp2_with fail
    go_roundw
    case rel => exact ⟨k + 1, by omega, by go_num, by rw [uh S1 (fun h9 => by have h8 := h9.2; rw [uh Hps] at h8; cases h8)]; exact uh He, uh kb, uh BB⟩
    case measure => simp [intOf]; omega
   go_wp2_with fail
   refine (l6Put_any hd (k : Int) (EntsAt.paces (uh He)) (by omega)).mono ?_
   rintro e w3 ⟨v3, rfl, he3, hb⟩
   have hsz := (uh BB).size
   have he4 := EntsAt.mono he3 hsz
   replace kb := bl kb hb
   replace BB := hide ((uh BB).trans (hb.mono hsz))
   obtain ⟨qa3, qcap3, rfl⟩ := EntsAt.shape he4
   have He4 := hide he4
   clear hb he3 he4 d7
   go_wp2_with fail
   go_roundw
   case rel => exact ⟨k + 1, by omega, by go_num, by rw [uh S2 (by first | rfl | trivial) (uh Hps)]; exact uh He4, uh kb, uh BB⟩
   case measure => simp [intOf]; omega
  ·obtain rfl : k = m.smiths.length := by omega
   go_wp2_with fail
   go_ret
   exact ⟨_, rfl, uh He, uh BB⟩
structure Guilded (m : SmyV) : Prop where
 guilds : guildsB m.guilds = true
 lo : ∀ i, i < m.smiths.length → (recAt m.smiths i).1 ≠ 0 → -1 ≤ (recAt m.smiths i).2.2.2.2.1
 hi : ∀ i, i < m.smiths.length → (recAt m.smiths i).1 ≠ 0 → (recAt m.smiths i).2.2.2.2.1 < m.guilds.length
theorem pres_ne {s : SmithV} (h : presS s = true) : s.1 ≠ 0 := fun e => by unfold presS at h; rw [e] at h; cases h
theorem l11Want_any {w : World} {v0 v1 v2 v3 v4 : Value} {m : SmyV} {k : Nat} (h : Smy w v0 v1 v2 v3 v4 m) (hg : guildsB m.guilds = true) (hk : k < m.smiths.length) (g0 : -1 ≤ (recAt m.smiths k).2.2.2.2.1) (g1 : (recAt m.smiths k).2.2.2.2.1 < m.guilds.length) :
  Calls Tryz.prog 175 #[.agg #[v0, v1, v2, v3, v4, .int .i64 m.now], .int .i64 (k : Int)] w fun e w' => e = .returned (.int .i64 (wantV m (k : Int))) ∧ Below w.heap.size w w' := by
 have hw : wantV m (k : Int) = wantS m.guilds (recAt m.smiths k) := rfl
 rw [hw]
 clear hw
 have Hv := hide h
 obtain ⟨h0, h1, h2, h3, h4⟩ := h
 obtain ⟨a0, p0, rfl, hc0, hm0⟩ := IsRooms.shape h0
 obtain ⟨a1, p1, rfl, hc1, hm1⟩ := IsRec.shape h1
 obtain ⟨a2, p2, rfl, hc2, hm2, r2⟩ := h2
 obtain ⟨a3, p3, rfl, hc3, hm3⟩ := IsRec.shape h3
 obtain ⟨a4, p4, rfl, hc4, hm4⟩ := IsRec.shape h4
 clear h0 h1 h3 h4
 rcases r2 with e0 | ⟨sb, off, rfl, hbw, hcl⟩
 ·rw [e0] at hk; simp at hk
 obtain ⟨d0, d1, d2, d3, d4, d5, d6, d7, d8, d9, d10⟩ := smith_cells hcl hk
 clear hcl
 generalize recAt m.smiths k = ss at *
 obtain ⟨st, be, rk, my, gu, lo, hi, hd, ca, ut, wk⟩ := ss
 simp only at d0 d1 d2 d3 d4 d5 d6 d7 d8 d9 d10 g0 g1
 have Hg := hide hg
 clear hg
 go_enter Tryz.func175, Tryz.ntmps175
 go_wp2_with fail
 have BB : Hid (Below w.heap.size w ((w.alloc (.cells #[.slice a0 m.rooms.length p0, .slice a1 m.guilds.length p1, .slice (some ⟨sb, off, none⟩) m.smiths.length p2, .slice a3 m.desks.length p3, .slice a4 m.paces.length p4, .int .i64 m.now] 32)).alloc (.cells #[.int .i64 st, .int .i64 be, .int .i64 rk, .int .i64 my, .int .i64 gu, .int .i64 lo, .int .i64 hi, .int .i64 hd, .int .i64 ca, .int .i64 ut, .int .i64 wk] 40))) := hide (((Below.refl _ _).alloc (Nat.le_refl _) _).alloc (by simp) _)
 have Hv2 := hide ((uh Hv).below (uh BB)).guilds
 have ks := hide (Blk.new (w.alloc (.cells #[.slice a0 m.rooms.length p0, .slice a1 m.guilds.length p1, .slice (some ⟨sb, off, none⟩) m.smiths.length p2, .slice a3 m.desks.length p3, .slice a4 m.paces.length p4, .int .i64 m.now] 32)) 40 #[.int .i64 st, .int .i64 be, .int .i64 rk, .int .i64 my, .int .i64 gu, .int .i64 lo, .int .i64 hi, .int .i64 hd, .int .i64 ca, .int .i64 ut, .int .i64 wk])
 simp only [World.size_alloc] at ks
 generalize (w.alloc (.cells #[.slice a0 m.rooms.length p0, .slice a1 m.guilds.length p1, .slice (some ⟨sb, off, none⟩) m.smiths.length p2, .slice a3 m.desks.length p3, .slice a4 m.paces.length p4, .int .i64 m.now] 32)).alloc (.cells #[.int .i64 st, .int .i64 be, .int .i64 rk, .int .i64 my, .int .i64 gu, .int .i64 lo, .int .i64 hi, .int .i64 hd, .int .i64 ca, .int .i64 ut, .int .i64 wk] 40) = W at *
 refine (l8Within_of gu lo hi (uh Hv2) (l8Bounds_any (uh Hg) m.guilds.length gu (uh Hv2) g0 g1 g1)).mono ?_
 rintro e w1 ⟨rfl, hb⟩
 replace ks := bl ks hb
 replace BB := bt BB hb
 have x9 := (uh ks).cell (i := 9) (v := .int .i64 ut) rfl
 clear hb d0 d1 d2 d3 d4 d5 d6 d7 d8 d9 d10
 go_wp2_with (go_at_call 224; refine (specClamped_any _ _ _ _).mono ?_; rintro e w' ⟨rfl, h9⟩; subst w')
 go_ret
 exact ⟨rfl, uh BB⟩
theorem usedL_step (m : SmyV) (but : Int) {q : List PaceV} {k : Nat} (hk : k < q.length) : usedL m but (q.take (k + 1)) = if (paceAt q k).2 = but then usedL m but (q.take k) else usedL m but (q.take k) + wantV m (paceAt q k).2 := by
 have : q.take (k + 1) = q.take k ++ [paceAt q k] := by
  rw [List.take_succ_eq_append_getElem hk]; unfold paceAt; simp [List.getD, hk]
 rw [this, usedL_snoc]
theorem l11Used_any {w : World} {v0 v1 v2 v3 v4 : Value} {m : SmyV} (b but : Int) (h : Smy w v0 v1 v2 v3 v4 m) (hG : Guilded m) (hl : m.smiths.length ≤ 800) :
  Calls Tryz.prog 117 #[.agg #[v0, v1, v2, v3, v4, .int .i64 m.now], .int .i64 b, .int .i64 but] w fun e w' => e = .returned (.int .i64 (usedV m b but)) ∧ Below w.heap.size w w' := by
 have Hv := hide (h.alloc (.cells #[v0, v1, v2, v3, v4, .int .i64 m.now] 32))
 obtain ⟨a0, p0, a1, p1, a2, p2, a3, p3, a4, p4, rfl, rfl, rfl, rfl, rfl, _, _, _, _, _, _, _, _, _, _⟩ := h.five
 clear h
 have HG := hide hG
 clear hG
 go_enter Tryz.func117, Tryz.ntmps117
 go_wp2_with fail
 refine (l11At_any b (uh Hv) hl).mono ?_
 rintro e w1 ⟨v', rfl, he, hb⟩
 have kb : Hid (Blk w1 w.heap.size 32 #[.slice a0 m.rooms.length p0, .slice a1 m.guilds.length p1, .slice a2 m.smiths.length p2, .slice a3 m.desks.length p3, .slice a4 m.paces.length p4, .int .i64 m.now]) := hide ((Blk.new w _ _).below hb (by simp))
 have BB : Hid (Below w.heap.size w w1) := hide (((Below.refl _ _).alloc (Nat.le_refl _) _).trans (hb.mono (by simp)))
 replace Hv := hide ((uh Hv).below hb)
 have hq := atV_len m.smiths b m.smiths.length
 have hmem := atV_mem m.smiths b
 have Hu : Hid (usedV m b but = usedL m but (atV m.smiths b m.smiths.length)) := hide rfl
 have hmq : ∀ x ∈ atV m.smiths b m.smiths.length, ∃ j : Nat, j < m.smiths.length ∧ presS (recAt m.smiths j) = true ∧ x.2 = (j : Int) := fun x hx => by
  obtain ⟨j, hj, _, hp, rfl⟩ := (hmem x m.smiths.length).1 hx
  exact ⟨j, hj, hp, rfl⟩
 have Hm := hide hmq
 clear hmem hmq hb
 have hp := EntsAt.paces he
 clear he
 generalize atV m.smiths b m.smiths.length = q at *
 obtain ⟨qa, qc, rfl, hqc, hqm, hr⟩ := hp
 have Hr := hide hr
 clear hr
 go_wp2_with fail
 go_loopw [7, 9] (fun n i wr => ∃ k : Nat, k ≤ q.length ∧ i = .int .i64 k ∧ n = .int .i64 (usedL m but (q.take k)) ∧ Below w1.heap.size w1 wr) (fun _ i _ => q.length - (intOf i).toNat)
 case atStart => exact ⟨0, Nat.zero_le _, rfl, rfl, Below.refl _ _⟩
 case round =>
  obtain ⟨k, hk, rfl, rfl, hbr⟩ := hrel
  have hub := usedL_bd m but (q.take k)
  have htl : (q.take k).length ≤ k := by rw [List.length_take]; omega
  by_cases hlt : k < q.length
  ·rcases uh Hr with e0 | ⟨eb, eo, rfl, hbw, hcl⟩
   ·rw [e0] at hlt; simp at hlt
   obtain ⟨c0, c1⟩ := hcl k hlt
   rw [← hbr.cell (p := ⟨eb, eo + k * 2, none⟩) hbw] at c0
   rw [← hbr.cell (p := ⟨eb, eo + k * 2 + 1, none⟩) hbw] at c1
   obtain ⟨j, hj, hjp, hje⟩ := uh Hm _ (paceAt_mem hlt)
   have Hjp := hide (pres_ne hjp)
   clear hjp
   have hst := usedL_step m but hlt
   have hwb := wantV_bd m (j : Int)
   rw [hje] at c1 hst
   clear hje hcl
   generalize (paceAt q k).1 = hd at *
   have Hst := hide hst
   clear hst
   generalize usedL m but (q.take k) = u at *
   have u1 : u ≤ 1024 * 800 := by omega
   have kb1 := (uh kb).below hbr (uh kb).lt
   have Hv1 := hide ((uh Hv).below hbr)
   have Kb1 := hide kb1
   have Hbr := hide hbr
   clear hbr kb1
   obtain ⟨x0, x1, x2, x3, x4, x5⟩ := (uh Kb1).c6
   by_cases hbut : (j : Int) = but
   ·have hbn : ((j : Int) == but) = true := by simpa using hbut
    go_wp2_with fail
    go_roundw
    case rel => exact ⟨k + 1, by omega, by go_num, by rw [uh Hst, if_pos hbut], uh Hbr⟩
    case measure => simp [intOf]; omega
   ·have hbn : ((j : Int) == but) = false := by simpa using hbut
    have Hw := hide (fun (W : World) (hW : Below wr.heap.size wr W) => l11Want_any ((uh Hv1).below hW) (uh HG).guilds hj ((uh HG).lo j hj (uh Hjp)) ((uh HG).hi j hj (uh Hjp)))
    generalize wantV m (j : Int) = wa at *
    have y0 := cell_regrown x0
    have y1 := cell_regrown x1
    have y2 := cell_regrown x2
    have y3 := cell_regrown x3
    have y4 := cell_regrown x4
    have y5 := cell_regrown x5
    have z0 := cell_regrown c0
    have z1 := cell_regrown c1
    go_wp2_with fail
    refine wp_region_quiet_below (by kernel_rfl) (by kernel_rfl) ?_
    repeat (go_big_quiet_step (exact Calls.regrown_of (uh Hw _ (below_regrown _ _ _))))
    refine wpQuiet_nil ?_
    intro _ hw'
    obtain ⟨⟨dq, osq⟩, hw''⟩ := hw'
    subst hw''
    go_wp2_with fail
    go_roundw
    case rel => exact ⟨k + 1, by omega, by go_num, by rw [uh Hst, if_neg hbut], (uh Hbr).trans ((below_regrown _ _ _).mono (uh Hbr).size)⟩
    case measure => simp [intOf]; omega
  ·obtain rfl : k = q.length := by omega
   rw [List.take_length]
   go_wp2_with fail
   go_ret
   exact ⟨ret_int (uh Hu).symm, (uh BB).trans (hbr.mono (uh BB).size)⟩
structure Sane (m : SmyV) : Prop where
 hall : hallB m.rooms = true
 desks : (m.desks.length : Int) = benchSum m.rooms
 guilded : Guilded m
 few : m.smiths.length ≤ 12
theorem Sane.bench {m : SmyV} (h : Sane m) {b : Nat} (hb : b < m.desks.length) : isBench m.rooms (b : Int) = true := isBench_t h.hall (by omega) (by have := h.desks; omega)
theorem Sane.eight {m : SmyV} (h : Sane m) : m.desks.length ≤ 8 := by have := (hallB_of h.hall).2.2.2; have := h.desks; omega
theorem Loose.sane {m : SmyV} (h : Loose m) : Sane m := by
 have hd := h.head
 unfold headB at hd
 simp only [Bool.and_eq_true, decide_eq_true_eq] at hd
 obtain ⟨h1, h2, h3, h4, _⟩ := hd
 refine ⟨h1, h4, ⟨h2, fun i hi hs => ?_, fun i hi hs => (h.limits hi hs).2.1⟩, h3⟩
 have hp := (h.limits hi hs).1
 generalize recAt m.smiths i = s at *
 obtain ⟨st, be, rk, my, gu, lo', hi', hd, ca, ut, wk⟩ := s
 exact (presB_of hp).2.2.2.2.1.1
theorem Sane.with {m : SmyV} (h : Sane m) {k : Nat} (hk : k < m.smiths.length) (hs : (recAt m.smiths k).1 ≠ 0) (b : Int) : Sane (withM m (k : Int) b) := by
 have hset : ∀ i, recAt (withM m (k : Int) b).smiths i = if i = k then atBench (recAt m.smiths k) b else recAt m.smiths i := fun i => by
  unfold withM
  simp only [Int.toNat_natCast]
  exact recAt_set hk i
 refine ⟨h.hall, h.desks, ⟨h.guilded.guilds, fun i hi hne => ?_, fun i hi hne => ?_⟩, by unfold withM; simpa using h.few⟩
 ·have hi' : i < m.smiths.length := by unfold withM at hi; simpa using hi
  rw [hset] at hne ⊢
  by_cases e : i = k
  ·rw [if_pos e]; exact h.guilded.lo k hk hs
  ·rw [if_neg e] at hne ⊢; exact h.guilded.lo i hi' hne
 ·have hi' : i < m.smiths.length := by unfold withM at hi; simpa using hi
  rw [hset] at hne ⊢
  by_cases e : i = k
  ·rw [if_pos e]; exact h.guilded.hi k hk hs
  ·rw [if_neg e] at hne ⊢; exact h.guilded.hi i hi' hne
theorem Sane.few' {m : SmyV} (h : Sane m) (hp : m.paces.length ≤ 1000) : Few m := by
 obtain ⟨r1, r2, r3, r4⟩ := hallB_of h.hall
 have hg := (guildsB_of h.guilded.guilds).2
 refine ⟨by omega, fun r hr => ?_, by omega, by have := h.few; omega, by have := h.eight; omega, hp⟩
 have hrb := List.all_eq_true.1 r3 r hr
 unfold roomB at hrb
 simp only [Bool.and_eq_true] at hrb
 have := inB_of hrb.2.1
 omega
end Go.Proofs.YthbbahagpmdooaaGreatDoor
