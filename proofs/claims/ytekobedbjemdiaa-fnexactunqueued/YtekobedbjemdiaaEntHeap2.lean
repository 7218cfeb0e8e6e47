/- Contracts of the heap's methods Pop and Push. Conditions: those that each theorem names. -/
import Derived.Test.YtekobedbjemdiaaEntSwap
import Derived.Deep.RegionLawGrows
namespace Go.Proofs.Ytekobedbjemdiaa
open Go.ChangeShapes Go.WideShapes Go.ChangeAt Go.RowKit Go.Sort
set_option linter.unusedVariables false

theorem setBox {n₀ bx : Nat} {v v' : Value} {w W : World} {ps qs : List PaceV} (h : HeapIs n₀ bx v w ps) (hb : Fr bx v.ownBlock w W) (hc : W.cell? ⟨bx, 0, none⟩ = some v) (hf : W.frozen? ⟨bx, 0, none⟩ = false) (hr : EntsAt n₀ W v' qs) (ho : v'.ownBlock ≠ some bx) :
    HeapIs n₀ bx v' (W.setCell ⟨bx, 0, none⟩ v') qs ∧ Fr bx v.ownBlock w (W.setCell ⟨bx, 0, none⟩ v') := by
  refine ⟨⟨World.cell?_setCell_same _ _ _ hc, by rw [World.frozen?_setCell]; exact hf, by simpa using Nat.lt_of_lt_of_le h.lt hb.size, hr.same fun k hk => Below.heap_setCell W ⟨bx, 0, none⟩ v' k (fun e => ho (by rw [hk]; exact congrArg some e)), ho⟩, hb.trans (Fr.box W v')⟩

set_option maxRecDepth 100000 in
set_option maxHeartbeats 2000000 in
theorem popM_any {n₀ bx : Nat} {v : Value} {w : World} {ps : List PaceV} {m : Nat} (h : HeapIs n₀ bx v w ps) (hm : ps.length = m + 1) :
    Calls Try.prog 78 #[.pointer (some ⟨bx, 0, none⟩)] w fun e w' => e = .returned (.iface 26 (.agg #[.int .i64 (paceAt ps m).1, .int .i64 (paceAt ps m).2])) ∧ ∃ v', HeapIs n₀ bx v' w' (ps.take m) ∧ v'.ownBlock = v.ownBlock ∧ Fr bx v.ownBlock w w' := by
  have H := hide h
  obtain ⟨g, cap, rfl, hne, hlt, hn0, hnc, hcm, hcl, hfz⟩ := h.view (by omega)
  have hc := h.cell
  have hbf := h.free
  have hbx := h.lt
  obtain ⟨a0, a1⟩ := hcl m (by omega)
  have HL := hide (len_any h)
  clear hcl h hfz
  rw [hm] at hnc hc
  generalize paceAt ps m = p at *
  obtain ⟨f, z⟩ := p
  simp only at a0 a1
  have hn1 : g ≠ w.heap.size := Nat.ne_of_lt hlt
  have hn2 : bx ≠ w.heap.size := Nat.ne_of_lt hbx
  go_enter Try.func78, Try.ntmps78
  go_wp2_with fail
  refine (unhide HL).mono ?_
  rw [hm]
  rintro e w' ⟨rfl, h1⟩
  subst w'
  go_wp2_with fail
  go_ret
  have hcut := (unhide H).row.cut (n := m) (by omega) (by simp)
  obtain ⟨r1, r2⟩ := setBox (unhide H) (Fr.refl _ _ _) (unhide H).cell (unhide H).free hcut (by simpa [Value.ownBlock] using hne)
  exact ⟨rfl, .slice (some ⟨g, 0, none⟩) m cap, r1.later ((Below.refl _ _).alloc (Nat.le_refl _) _), rfl, r2.trans (Fr.of_below ((Below.refl _ _).alloc (Nat.le_refl _) _))⟩

/-- One entry appended to a row of the call's own, at a step of a region that draws its order. -/
theorem step_append_ent {ops : Array Oper} {o : Oper} {a : Act} {w : World} {K : Act → World → Prop} {Q : Exit → Act → World → Prop} {E : Prop} (hgd : o.guard = none) (s x : Operand) (t : TypeId) (ht : Try.prog.underlying t = some (.slice 26))
    (ho : o.op = .call { callee := .builtin .append, args := #[s, x], argTypes := #[t, t] }) (base : Nat)
    (v : Value) (ps : List PaceV) (hs : a.eval s = v) (hown : EntsAt base w v ps)
    (ad : Addr) (c : Nat) (f z : Int) (hx : a.eval x = .slice (some ad) 1 c) (hnews : ∀ (j : Nat) (u : Value), ([.int .i64 f, .int .i64 z] : List Value)[j]? = some u → w.cell? (ad.add j) = some u)
    (hb : ps.length ≤ 4000) (hbase : base ≤ w.heap.size)
    (h : ∀ v' w', EntsAt base w' v' (ps ++ [(f, z)]) → w.grownBy w' v.ownBlock → (v'.ownBlock = v.ownBlock ∨ v'.ownBlock = some w.heap.size) → K (a.put o.dst v') w') :
    if Region.wanted o (yielded ops a.tmps) = true then Oper.wp Try.prog o a w K Q else E := by
  have hw : Region.wanted o (yielded ops a.tmps) = true := by simp [Region.wanted, hgd]
  rw [if_pos hw]
  obtain ⟨i0, hi, hz0, hz1, hz2⟩ := info_parts infoEntry
  obtain ⟨v', w', hr, h2, h3, _, h5⟩ := run_append_own_at (P := Try.prog) w base t o.type 26 i0 (.agg #[.int .i64 0, .int .i64 0]) 2 16 ht hi hz0 hz1 hz2 rfl (by decide) v ps.length _ hown ad 1 c [.int .i64 f, .int .i64 z] rfl
    hnews (by simp [Value.oneCell']) (by simp only [maxLen]; omega) (by omega) hbase
  unfold Oper.wp execOp
  simp only [ho, resolve, invoke, builtin, Sem.run_bind, Sem.run_pure, Result.andThen_ok, List.map_toArray, List.map_cons, List.map_nil, hs, hx, hr]
  refine h v' w' ?_ h3 h5
  unfold EntsAt
  rw [pcells_append, List.length_append]
  exact h2
theorem two_new (w : World) (u u' : Value) (t : TypeId) (b : Nat) (hb : b = w.heap.size) : ∀ (j : Nat) (x : Value), ([u, u'] : List Value)[j]? = some x → (w.alloc (.cells #[u, u'] t)).cell? ((⟨b, 0, none⟩ : Addr).add j) = some x := by
  subst hb
  intro j x hj
  match j, hj with
  | 0, hj => simp at hj; subst hj; simp [Addr.add]
  | 1, hj => simp at hj; subst hj; simp [Addr.add]

theorem assert_ent (f z : Int) (w : World) : (Instr.typeAssert (.iface 26 (.agg #[.int .i64 f, .int .i64 z])) 20 26 false).run Try.prog w = .ok (.agg #[.int .i64 f, .int .i64 z]) w := by kernel_rfl

theorem HeapIs.after {n₀ bx : Nat} {v : Value} {w W W1 : World} {ps : List PaceV} (h : HeapIs n₀ bx v w ps) (hb : Below w.heap.size w W) (hg : W.grownBy W1 v.ownBlock) :
    W1.cell? ⟨bx, 0, none⟩ = some v ∧ W1.frozen? ⟨bx, 0, none⟩ = false ∧ Fr bx v.ownBlock w W1 := by
  have hk := hg.block bx (Nat.lt_of_lt_of_le h.lt hb.size) (fun e => h.off e.symm)
  exact ⟨(World.cell?_of_block (w := W) (a := ⟨bx, 0, none⟩) hk).trans ((hb.cell (p := ⟨bx, 0, none⟩) h.lt).trans h.cell), (World.frozen?_of_block (w := W) (a := ⟨bx, 0, none⟩) hk).trans ((hb.frozen (p := ⟨bx, 0, none⟩) h.lt).trans h.free), (Fr.of_below hb).trans (Fr.of_grown hg)⟩

set_option maxRecDepth 100000 in
set_option maxHeartbeats 2000000 in
theorem pushM_any {n₀ bx : Nat} {v : Value} {w : World} {ps : List PaceV} (f z : Int) (h : HeapIs n₀ bx v w ps) (hl : ps.length ≤ 1000) (hn : n₀ ≤ w.heap.size) :
    Calls Try.prog 79 #[.pointer (some ⟨bx, 0, none⟩), .iface 26 (.agg #[.int .i64 f, .int .i64 z])] w fun e w' => e = .returned (.tuple #[]) ∧ ∃ v', HeapIs n₀ bx v' w' (ps ++ [(f, z)]) ∧ (v'.ownBlock = v.ownBlock ∨ ∃ k, v'.ownBlock = some k ∧ w.heap.size ≤ k) ∧ Fr bx v.ownBlock w w' := by
  have H := hide h
  obtain ⟨a, cap, rfl⟩ := h.row.shape
  have hc := h.cell
  have hbf := h.free
  have hbx := h.lt
  clear h
  have hn2 : bx ≠ w.heap.size := Nat.ne_of_lt hbx
  have hta := assert_ent f z
  go_enter Try.func79, Try.ntmps79
  go_wp2_with fail
  go_region_law (refine step_append_ent rfl (.tmp 7) (.tmp 10) 71 Try.underlying71 rfl n₀ _ ps rfl ((unhide H).row.later (((Below.refl _ _).alloc (Nat.le_refl _) _).drew)) ⟨w.heap.size, 0, none⟩ _ f z rfl (two_new _ _ _ _ _ rfl) (by omega) (by simp; omega) ?_; intro v' w1 hown hgrow hat; obtain ⟨hc1, hf1, hfr⟩ := (unhide H).after (((Below.refl _ _).alloc (Nat.le_refl _) _).drew) hgrow; obtain ⟨a1, cap1, rfl⟩ := hown.shape)
  all_goals
    go_end0
    have hoff : (Value.slice a1 (ps ++ [(f, z)]).length cap1).ownBlock ≠ some bx := by
      rcases hat with e | e
      · rw [e]; exact (unhide H).off
      · rw [e]; simp; omega
    obtain ⟨r1, r2⟩ := setBox (unhide H) hfr hc1 hf1 hown hoff
    have hle : (ps ++ [(f, z)]).length = ps.length + 1 := by simp
    rw [hle] at r1 r2 hat
    refine ⟨rfl, _, r1, ?_, r2⟩
    rcases hat with e | e
    · exact .inl e
    · exact .inr ⟨_, e, by simp⟩

end Go.Proofs.Ytekobedbjemdiaa
