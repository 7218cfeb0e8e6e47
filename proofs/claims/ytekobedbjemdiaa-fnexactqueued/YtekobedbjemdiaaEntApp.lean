/- Entries appended to a row of the call's own; contracts of the copies, of the heap that is made of a queue, and of the heap that is emptied from its top. Conditions: those that each theorem names. -/
import Derived.Test.YtekobedbjemdiaaEntHeap3
namespace Go.Proofs.Ytekobedbjemdiaa
open Go.ChangeShapes Go.WideShapes Go.ChangeAt Go.RowKit Go.Sort
set_option linter.unusedVariables false

theorem addr_at (g o i : Nat) : (⟨g, o, none⟩ : Addr).add i = ⟨g, o + i, none⟩ := by unfold Addr.add; split <;> simp_all
theorem run_append_zero {w : World} {base t ty e size n : Nat} {i : TypeInfo} (ht : Try.prog.underlying t = some (.slice e)) (hi : Try.prog.info? e = some i) {v : Value} {xs : List Value} (hown : w.ownsRow base e size v n xs) (a : Option Addr) (c : Nat) :
    (Builtin.append_ #[t, t] ty #[v, .slice a 0 c]).run Try.prog w = .ok v w := by
  rcases hown.2 with ⟨rfl, rfl⟩ | ⟨g, cap, cur, rfl, _, _, hnc, _⟩
  · cases a <;> simp [Builtin.append_, run_underlying ht, sizeOf, typeInfo, hi, Builtin.lenOf, Builtin.firstCells, loadCells, loadCellsFrom]
  · cases a <;> simp [Builtin.append_, run_underlying ht, sizeOf, typeInfo, hi, Builtin.lenOf, Builtin.firstCells, hnc, storeCells, loadCells, loadCellsFrom]
theorem cells_of {w : World} {b off : Nat} {qs : List PaceV} (h : ∀ k, k < qs.length → w.cell? ⟨b, off + k * 2, none⟩ = some (.int .i64 (paceAt qs k).1) ∧ w.cell? ⟨b, off + k * 2 + 1, none⟩ = some (.int .i64 (paceAt qs k).2)) :
    ∀ (j : Nat) (u : Value), (pcells qs)[j]? = some u → w.cell? ((⟨b, off, none⟩ : Addr).add j) = some u := fun j u hj => by
  have hlt : j < qs.length * 2 := by
    rcases Nat.lt_or_ge j (qs.length * 2) with h | h
    · exact h
    · rw [List.getElem?_eq_none (by rw [pcells_len]; exact h)] at hj; cases hj
  rw [addr_at]
  have hp := pairs_get (f := fun p : PaceV => Value.int .i64 p.1) (g := fun p : PaceV => Value.int .i64 p.2) qs (j / 2) (by omega)
  have e : paceAt qs (j / 2) = qs[j / 2]'(by omega) := by unfold paceAt; simp [List.getD, (by omega : j / 2 < qs.length)]
  obtain ⟨h1, h2⟩ := h (j / 2) (by omega)
  rw [e] at h1 h2
  rcases Nat.mod_two_eq_zero_or_one j with e2 | e2
  · rw [show off + j = off + j / 2 * 2 by omega, h1, ← hj]
    conv => rhs; rw [show j = j / 2 * 2 by omega]
    exact hp.1.symm
  · rw [show off + j = off + j / 2 * 2 + 1 by omega, h2, ← hj]
    conv => rhs; rw [show j = j / 2 * 2 + 1 by omega]
    exact hp.2.symm
theorem one_cells (qs : List PaceV) : ∀ u ∈ pcells qs, u.oneCell' = true := fun u hu => by
  unfold pcells at hu
  obtain ⟨p, _, hp⟩ := List.mem_flatMap.1 hu
  simp only [List.mem_cons, List.not_mem_nil, or_false] at hp
  rcases hp with rfl | rfl <;> rfl
/-- Entries that read as qs, appended to a row of the call's own. -/
theorem run_append_ents {w : World} {base t ty : Nat} (ht : Try.prog.underlying t = some (.slice 26)) {v x : Value} {ps qs : List PaceV} (hown : EntsAt base w v ps) (hx : IsPaces w x qs) (hb : ps.length + qs.length ≤ 4000) (hbase : base ≤ w.heap.size) :
    ∃ v' w', (Builtin.append_ #[t, t] ty #[v, x]).run Try.prog w = .ok v' w' ∧ EntsAt base w' v' (ps ++ qs) ∧ w.grownBy w' v.ownBlock ∧ (v'.ownBlock = v.ownBlock ∨ v'.ownBlock = some w.heap.size) := by
  obtain ⟨i0, hi, hz0, hz1, hz2⟩ := info_parts infoEntry
  obtain ⟨a, c, rfl, hc, hm, hr⟩ := hx
  by_cases h0 : qs = []
  · subst h0
    refine ⟨v, w, run_append_zero ht hi hown a c, by simpa using hown, grown_refl _ _, .inl rfl⟩
  · rcases hr with hr | ⟨b, off, rfl, hlt, hcl⟩
    · exact absurd hr h0
    · obtain ⟨v', w', hr, h2, h3, _, h5⟩ := run_append_own_at (P := Try.prog) w base t ty 26 i0 (.agg #[.int .i64 0, .int .i64 0]) 2 16 ht hi hz0 hz1 hz2 rfl (by decide) v ps.length _ hown ⟨b, off, none⟩ qs.length c (pcells qs) (pcells_len qs)
        (cells_of hcl) (one_cells qs) (by simp only [maxLen]; omega) (by omega) hbase
      refine ⟨v', w', hr, ?_, h3, h5⟩
      unfold EntsAt
      rw [pcells_append, List.length_append]
      exact h2
/-- At a plain region's list. -/
theorem wpList_append_ents {w : World} {ops : Array Oper} {rest : List Oper} {o : Oper} {a : Act} {Q : Exit → Act → World → Prop} (hgd : o.guard = none) (s x : Operand) (t : TypeId) (ht : Try.prog.underlying t = some (.slice 26))
    (ho : o.op = .call { callee := .builtin .append, args := #[s, x], argTypes := #[t, t] }) (base : Nat) (v u : Value) (ps qs : List PaceV) (hs : a.eval s = v) (hx : a.eval x = u) (hown : EntsAt base w v ps) (hr : IsPaces w u qs)
    (hb : ps.length + qs.length ≤ 4000) (hbase : base ≤ w.heap.size)
    (h : ∀ v' w', EntsAt base w' v' (ps ++ qs) → w.grownBy w' v.ownBlock → (v'.ownBlock = v.ownBlock ∨ v'.ownBlock = some w.heap.size) → wpList Try.prog ops Q rest (a.put o.dst v') w') :
    wpList Try.prog ops Q (o :: rest) a w := by
  refine wpList_plain hgd fun K hK => ?_
  obtain ⟨v', w', hrun, h2, h3, h5⟩ := run_append_ents (ty := o.type) ht hown hr hb hbase
  unfold Oper.wp execOp
  simp only [ho, resolve, invoke, builtin, Sem.run_bind, Sem.run_pure, Result.andThen_ok, List.map_toArray, List.map_cons, List.map_nil, hs, hx, hrun]
  exact hK _ _ (h v' w' h2 h3 h5)
/-- At a step of a region that draws its order. -/
theorem step_append_ents {ops : Array Oper} {o : Oper} {a : Act} {w : World} {K : Act → World → Prop} {Q : Exit → Act → World → Prop} {E : Prop} (hgd : o.guard = none) (s x : Operand) (t : TypeId) (ht : Try.prog.underlying t = some (.slice 26))
    (ho : o.op = .call { callee := .builtin .append, args := #[s, x], argTypes := #[t, t] }) (base : Nat) (v u : Value) (ps qs : List PaceV) (hs : a.eval s = v) (hx : a.eval x = u) (hown : EntsAt base w v ps) (hr : IsPaces w u qs)
    (hb : ps.length + qs.length ≤ 4000) (hbase : base ≤ w.heap.size)
    (h : ∀ v' w', EntsAt base w' v' (ps ++ qs) → w.grownBy w' v.ownBlock → (v'.ownBlock = v.ownBlock ∨ v'.ownBlock = some w.heap.size) → K (a.put o.dst v') w') :
    if Region.wanted o (yielded ops a.tmps) = true then Oper.wp Try.prog o a w K Q else E := by
  have hw : Region.wanted o (yielded ops a.tmps) = true := by simp [Region.wanted, hgd]
  rw [if_pos hw]
  obtain ⟨v', w', hrun, h2, h3, h5⟩ := run_append_ents (ty := o.type) ht hown hr hb hbase
  unfold Oper.wp execOp
  simp only [ho, resolve, invoke, builtin, Sem.run_bind, Sem.run_pure, Result.andThen_ok, List.map_toArray, List.map_cons, List.map_nil, hs, hx, hrun]
  exact h v' w' h2 h3 h5
theorem ents_empty {B g : Nat} {w : World} (hg : g = w.heap.size) (hB : B ≤ g) : EntsAt B (w.alloc (.cells #[] 26)) (.slice (some ⟨g, 0, none⟩) 0 0) [] := by
  subst hg
  exact ⟨by simp [pcells], .inr ⟨_, 0, #[], rfl, hB, heap_alloc_new w _, Nat.le_refl _, Nat.zero_le _, by simp, by simp [pcells]⟩⟩
theorem ents_one {w : World} {f z : Int} {g c : Nat} (hg : g = w.heap.size) (hc : 1 ≤ c) (hc2 : c ≤ 4000) : IsPaces (w.alloc (.cells #[.int .i64 f, .int .i64 z] 26)) (.slice (some ⟨g, 0, none⟩) 1 c) [(f, z)] := by
  subst hg
  refine ⟨_, c, rfl, hc, by omega, .inr ⟨_, 0, rfl, by simp, fun k hk => ?_⟩⟩
  obtain rfl : k = 0 := by simpa using hk
  simp [paceAt]

set_option maxHeartbeats 1000000 in
theorem copyOf_any {w : World} {v : Value} {ps : List PaceV} (h : IsPaces w v ps) (hl : ps.length ≤ 1000) :
    Calls Try.prog 37 #[v] w fun e w' => ∃ v', e = .returned v' ∧ EntsAt w.heap.size w' v' ps ∧ Below w.heap.size w w' := by
  have Hv := hide h
  obtain ⟨a, cap, rfl, hc, hm, hr⟩ := h
  clear hr
  go_enter Try.func37, Try.ntmps37
  go_wp2_with (at_builtin; refine wpList_append_ents rfl (.tmp 3) (.tmp 4) 24 Try.underlying24 rfl w.heap.size _ _ [] ps rfl rfl (ents_empty rfl (Nat.le_refl _)) ((unhide Hv).below ((Below.refl _ _).alloc (Nat.le_refl _) _)) (by simp; omega) (by simp) ?_; intro v' w1 hown hgrow hat)
  go_ret
  refine ⟨v', rfl, by simpa using hown, ((Below.refl _ _).alloc (Nat.le_refl _) _).trans ((Below.refl _ _).grown hgrow (by simp) (fun k e => ?_))⟩
  cases e; exact Nat.le_refl _

set_option maxHeartbeats 1000000 in
theorem l6Copy_any {w : World} {v : Value} {ps : List PaceV} (h : IsPaces w v ps) (hl : ps.length ≤ 1000) :
    Calls Try.prog 42 #[v] w fun e w' => ∃ v', e = .returned v' ∧ EntsAt w.heap.size w' v' ps ∧ Below w.heap.size w w' := by
  have Hv := hide h
  obtain ⟨a, cap, rfl, hc, hm, hr⟩ := h
  clear hr
  go_enter Try.func42, Try.ntmps42
  go_wp2_with (at_builtin; refine wpList_append_ents rfl (.tmp 3) (.tmp 4) 24 Try.underlying24 rfl w.heap.size _ _ [] ps rfl rfl (ents_empty rfl (Nat.le_refl _)) ((unhide Hv).below ((Below.refl _ _).alloc (Nat.le_refl _) _)) (by simp; omega) (by simp) ?_; intro v' w1 hown hgrow hat)
  go_ret
  refine ⟨v', rfl, by simpa using hown, ((Below.refl _ _).alloc (Nat.le_refl _) _).trans ((Below.refl _ _).grown hgrow (by simp) (fun k e => ?_))⟩
  cases e; exact Nat.le_refl _

set_option maxHeartbeats 1000000 in
theorem heapOf_any {w : World} {v : Value} {ps : List PaceV} (h : IsPaces w v ps) (hl : ps.length ≤ 1000) :
    Calls Try.prog 34 #[v] w fun e w' => ∃ bx v', e = .returned (.pointer (some ⟨bx, 0, none⟩)) ∧ w.heap.size ≤ bx ∧ HeapIs w.heap.size bx v' w' ps ∧ Below w.heap.size w w' := by
  have Hv := hide h
  obtain ⟨a, cap, rfl, hc, hm, hr⟩ := h
  clear hr
  go_enter Try.func34, Try.ntmps34
  go_wp2_with fail
  refine (copyOf_any (unhide Hv) hl).mono ?_
  rintro e w1 ⟨v1, rfl, hi1, hb1⟩
  obtain ⟨a1, cap1, rfl⟩ := hi1.shape
  have H1 := hide hi1
  have B1 := hide hb1
  have hz1 := hb1.size
  clear hi1 hb1
  go_wp2_with fail
  go_ret
  refine ⟨w1.heap.size, .slice a1 ps.length cap1, rfl, hz1, ⟨by simp, by simp, by simp, (unhide H1).later ((Below.refl _ _).alloc (Nat.le_refl _) _), fun e => ?_⟩, (unhide B1).alloc hz1 _⟩
  have := (unhide H1).lt e
  omega

end Go.Proofs.Ytekobedbjemdiaa
