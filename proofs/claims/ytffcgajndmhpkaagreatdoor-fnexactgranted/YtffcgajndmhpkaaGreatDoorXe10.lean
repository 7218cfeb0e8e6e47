/- Part 10 of what the proof rests on. No condition but those that a theorem names. -/
import Derived.Test.YtffcgajndmhpkaaGreatDoorXe09
set_option maxHeartbeats 8000000
set_option maxRecDepth 100000
namespace Go.Proofs.YtffcgajndmhpkaaGreatDoor
open Go.ChangeShapes Go.WideShapes Go.ChangeAt Go.RowKit Go.Sort
set_option linter.unusedVariables false
theorem set_some {w : World} {a p : Addr} {u v : Value} (h : w.cell? p = some v) : ∃ c, (w.setCell a u).cell? p = some c := by
 by_cases e : p = a
 ·subst e; exact ⟨_, World.cell?_setCell_same _ _ _ h⟩
 ·exact ⟨v, by rw [World.cell?_setCell_other _ _ _ _ (fun e2 => e e2.symm)]; exact h⟩
theorem HeapIs.swapped {n₀ bx g cap n : Nat} {w : World} {ps : List PaceV} (h : HeapIs n₀ bx (.slice (some ⟨g, 0, none⟩) n cap) w ps) (hn : n = ps.length) (hne : g ≠ bx) {i j : Nat} (hi : i < ps.length) (hj : j < ps.length) (f z f' z' : Int) (W : World) (hW : W = ((((w.setCell ⟨g, i * 2, none⟩ (.int .i64 f')).setCell ⟨g, i * 2 + 1, none⟩ (.int .i64 z')).setCell ⟨g, j * 2, none⟩ (.int .i64 f)).setCell ⟨g, j * 2 + 1, none⟩ (.int .i64 z))) :
  HeapIs n₀ bx (.slice (some ⟨g, 0, none⟩) n cap) W ((ps.set i (f', z')).set j (f, z)) ∧ Fr bx (some g) w W := by
 subst hn
 have r1 := own_pair h.row (i * 2) (.int .i64 f') (.int .i64 z')
 rw [pput _ _ _ _ hi] at r1
 have r2 := own_pair r1.1 (j * 2) (.int .i64 f) (.int .i64 z)
 rw [pput _ _ _ _ (by simpa using hj), ← hW] at r2
 have hg := grown_trans r1.2 r2.2
 clear r1 hW
 have hlt := h.lt
 have hb := hg.block bx hlt (by simpa using Ne.symm hne)
 refine ⟨⟨?_, ?_, Nat.lt_of_lt_of_le hlt hg.size, ?_, h.off⟩, Fr.of_grown hg⟩
 ·exact (World.cell?_of_block (w := w) (a := ⟨bx, 0, none⟩) hb).trans h.cell
 ·exact (World.frozen?_of_block (w := w) (a := ⟨bx, 0, none⟩) hb).trans h.free
 ·unfold EntsAt
  rw [List.length_set, List.length_set]
  exact r2.1
theorem swap_any {n₀ bx : Nat} {v : Value} {w : World} {ps : List PaceV} (h : HeapIs n₀ bx v w ps) {i j : Nat} (hi : i < ps.length) (hj : j < ps.length) :
  Calls Tryz.prog 376 #[.pointer (some ⟨bx, 0, none⟩), .int .i64 i, .int .i64 j] w fun e w' => e = .returned (.tuple #[]) ∧ HeapIs n₀ bx v w' (swp ps i j) ∧ Fr bx v.ownBlock w w' := by
 have H := hide h
 obtain ⟨g, cap, rfl, hne, hlt, hn0, hnc, hcm, hcl, hfz⟩ := h.view (by omega)
 have hc := h.cell
 obtain ⟨a0, a1⟩ := hcl i hi
 obtain ⟨b0, b1⟩ := hcl j hj
 have z0 := hfz (i * 2)
 have z1 := hfz (i * 2 + 1)
 have z2 := hfz (j * 2)
 have z3 := hfz (j * 2 + 1)
 have HX : Hid (swp ps i j = (ps.set i (paceAt ps j)).set j (paceAt ps i)) := hide rfl
 generalize paceAt ps i = p at *
 generalize paceAt ps j = q at *
 obtain ⟨f, z⟩ := p
 obtain ⟨f', z'⟩ := q
 simp only at a0 a1 b0 b1
 have hi0 : (0 : Int) ≤ (i : Int) := by omega
 have hj0 : (0 : Int) ≤ (j : Int) := by omega
 have hi1 : (i : Int) < (ps.length : Int) := by omega
 have hj1 : (j : Int) < (ps.length : Int) := by omega
 obtain ⟨c1, y1⟩ : ∃ c, (w.setCell ⟨g, i * 2, none⟩ (.int .i64 f')).cell? ⟨g, j * 2, none⟩ = some c := set_some b0
 obtain ⟨c2, y2⟩ : ∃ c, ((w.setCell ⟨g, i * 2, none⟩ (.int .i64 f')).setCell ⟨g, i * 2 + 1, none⟩ (.int .i64 z')).cell? ⟨g, j * 2 + 1, none⟩ = some c := by
  obtain ⟨c, hc9⟩ := set_some (a := ⟨g, i * 2, none⟩) (u := .int .i64 f') b1
  exact set_some hc9
 obtain ⟨c3, y3⟩ : ∃ c, ((w.setCell ⟨g, i * 2, none⟩ (.int .i64 f')).setCell ⟨g, i * 2 + 1, none⟩ (.int .i64 z')).cell? ⟨g, j * 2, none⟩ = some c := by
  obtain ⟨c, hc9⟩ := set_some (a := ⟨g, i * 2, none⟩) (u := .int .i64 f') b0
  exact set_some hc9
 clear hcl h hfz
 go_enter Tryz.func376, Tryz.ntmps376
 go_wp2_with fail
 go_region
 go_end0
 generalize hW : ((((w.setCell ⟨g, i * 2, none⟩ (.int .i64 f')).setCell ⟨g, i * 2 + 1, none⟩ (.int .i64 z')).setCell ⟨g, j * 2, none⟩ (.int .i64 f)).setCell ⟨g, j * 2 + 1, none⟩ (.int .i64 z)) = W
 obtain ⟨h1, h2⟩ := (uh H).swapped rfl hne hi hj f z f' z' W hW.symm
 exact ⟨rfl, by rw [uh HX]; exact h1.later ((Below.refl _ _).drew), h2.trans (Fr.of_below ((Below.refl _ _).drew))⟩
theorem setBox {n₀ bx : Nat} {v v' : Value} {w W : World} {ps qs : List PaceV} (h : HeapIs n₀ bx v w ps) (hb : Fr bx v.ownBlock w W) (hc : W.cell? ⟨bx, 0, none⟩ = some v) (hf : W.frozen? ⟨bx, 0, none⟩ = false) (hr : EntsAt n₀ W v' qs) (ho : v'.ownBlock ≠ some bx) :
  HeapIs n₀ bx v' (W.setCell ⟨bx, 0, none⟩ v') qs ∧ Fr bx v.ownBlock w (W.setCell ⟨bx, 0, none⟩ v') := by
 refine ⟨⟨World.cell?_setCell_same _ _ _ hc, by rw [World.frozen?_setCell]; exact hf, by simpa using Nat.lt_of_lt_of_le h.lt hb.size, hr.same fun k hk => Below.heap_setCell W ⟨bx, 0, none⟩ v' k (fun e => ho (by rw [hk]; exact congrArg some e)), ho⟩, hb.trans (Fr.box W v')⟩
theorem popM_any {n₀ bx : Nat} {v : Value} {w : World} {ps : List PaceV} {m : Nat} (h : HeapIs n₀ bx v w ps) (hm : ps.length = m + 1) :
  Calls Tryz.prog 374 #[.pointer (some ⟨bx, 0, none⟩)] w fun e w' => e = .returned (.iface 151 (.agg #[.int .i64 (paceAt ps m).1, .int .i64 (paceAt ps m).2])) ∧ ∃ v', HeapIs n₀ bx v' w' (ps.take m) ∧ v'.ownBlock = v.ownBlock ∧ Fr bx v.ownBlock w w' := by
 have H := hide h
 obtain ⟨g, cap, rfl, hne, hlt, hn0, hnc, hcm, hcl, hfz⟩ := h.view (by omega)
 have hc := h.cell
 have hbf := h.free
 have hbx := h.lt
 obtain ⟨a0, a1⟩ := hcl m (by omega)
 have HL := hide (len_any h)
 clear hcl h hfz
 rw [hm] at hnc hc
 generalize paceAt ps m = p at *
 obtain ⟨f, z⟩ := p
 simp only at a0 a1
 have hn1 : g ≠ w.heap.size := Nat.ne_of_lt hlt
 have hn2 : bx ≠ w.heap.size := Nat.ne_of_lt hbx
 go_enter Tryz.func374, Tryz.ntmps374
 go_wp2_with fail
 refine (uh HL).mono ?_
 rw [hm]
 rintro e w' ⟨rfl, h1⟩
 subst w'
 go_wp2_with fail
 go_ret
 have hcut := (uh H).row.cut (n := m) (by omega) (by simp)
 obtain ⟨r1, r2⟩ := setBox (uh H) (Fr.refl _ _ _) (uh H).cell (uh H).free hcut (by simpa [Value.ownBlock] using hne)
 exact ⟨rfl, .slice (some ⟨g, 0, none⟩) m cap, r1.later ((ba _ _)), rfl, r2.trans (Fr.of_below ((ba _ _)))⟩
theorem step_append_ent {ops : Array Oper} {o : Oper} {a : Act} {w : World} {K : Act → World → Prop} {Q : Exit → Act → World → Prop} {E : Prop} (hgd : o.guard = none) (s x : Operand) (t : TypeId) (ht : Tryz.prog.underlying t = some (.slice 151))
  (ho : o.op = .call { callee := .builtin .append, args := #[s, x], argTypes := #[t, t] }) (base : Nat)
  (v : Value) (ps : List PaceV) (hs : a.eval s = v) (hown : EntsAt base w v ps)
  (ad : Addr) (c : Nat) (f z : Int) (hx : a.eval x = .slice (some ad) 1 c) (hnews : ∀ (j : Nat) (u : Value), ([.int .i64 f, .int .i64 z] : List Value)[j]? = some u → w.cell? (ad.add j) = some u)
  (hb : ps.length ≤ 4000) (hbase : base ≤ w.heap.size)
  (h : ∀ v' w', EntsAt base w' v' (ps ++ [(f, z)]) → w.grownBy w' v.ownBlock → (v'.ownBlock = v.ownBlock ∨ v'.ownBlock = some w.heap.size) → K (a.put o.dst v') w') :
  if Region.wanted o (yielded ops a.tmps) = true then Oper.wp Tryz.prog o a w K Q else E := by
 have hw : Region.wanted o (yielded ops a.tmps) = true := by simp [Region.wanted, hgd]
 rw [if_pos hw]
 obtain ⟨i0, hi, hz0, hz1, hz2⟩ := info_parts infoEntry
 obtain ⟨v', w', hr, h2, h3, _, h5⟩ := run_append_own_at (P := Tryz.prog) w base t o.type 151 i0 (.agg #[.int .i64 0, .int .i64 0]) 2 16 ht hi hz0 hz1 hz2 rfl (by decide) v ps.length _ hown ad 1 c [.int .i64 f, .int .i64 z] rfl
  hnews (by simp [Value.oneCell']) (by simp only [maxLen]; omega) (by omega) hbase
 unfold Oper.wp execOp
 simp only [ho, resolve, invoke, builtin, Sem.run_bind, Sem.run_pure, Result.andThen_ok, List.map_toArray, List.map_cons, List.map_nil, hs, hx, hr]
 refine h v' w' ?_ h3 h5
 unfold EntsAt
 rw [pcells_append, List.length_append]
 exact h2
theorem two_new (w : World) (u u' : Value) (t : TypeId) (b : Nat) (hb : b = w.heap.size) : ∀ (j : Nat) (x : Value), ([u, u'] : List Value)[j]? = some x → (w.alloc (.cells #[u, u'] t)).cell? ((⟨b, 0, none⟩ : Addr).add j) = some x := by
 subst hb
 intro j x hj
 match j, hj with
 | 0, hj => simp at hj; subst hj; simp [Addr.add]
 | 1, hj => simp at hj; subst hj; simp [Addr.add]
theorem assert_ent (f z : Int) (w : World) : (Instr.typeAssert (.iface 151 (.agg #[.int .i64 f, .int .i64 z])) 20 151 false).run Tryz.prog w = .ok (.agg #[.int .i64 f, .int .i64 z]) w := by kernel_rfl
theorem HeapIs.after {n₀ bx : Nat} {v : Value} {w W W1 : World} {ps : List PaceV} (h : HeapIs n₀ bx v w ps) (hb : Below w.heap.size w W) (hg : W.grownBy W1 v.ownBlock) :
  W1.cell? ⟨bx, 0, none⟩ = some v ∧ W1.frozen? ⟨bx, 0, none⟩ = false ∧ Fr bx v.ownBlock w W1 := by
 have hk := hg.block bx (Nat.lt_of_lt_of_le h.lt hb.size) (fun e => h.off e.symm)
 exact ⟨(World.cell?_of_block (w := W) (a := ⟨bx, 0, none⟩) hk).trans ((hb.cell (p := ⟨bx, 0, none⟩) h.lt).trans h.cell), (World.frozen?_of_block (w := W) (a := ⟨bx, 0, none⟩) hk).trans ((hb.frozen (p := ⟨bx, 0, none⟩) h.lt).trans h.free), (Fr.of_below hb).trans (Fr.of_grown hg)⟩
theorem pushM_any {n₀ bx : Nat} {v : Value} {w : World} {ps : List PaceV} (f z : Int) (h : HeapIs n₀ bx v w ps) (hl : ps.length ≤ 1000) (hn : n₀ ≤ w.heap.size) :
  Calls Tryz.prog 375 #[.pointer (some ⟨bx, 0, none⟩), .iface 151 (.agg #[.int .i64 f, .int .i64 z])] w fun e w' => e = .returned (.tuple #[]) ∧ ∃ v', HeapIs n₀ bx v' w' (ps ++ [(f, z)]) ∧ (v'.ownBlock = v.ownBlock ∨ ∃ k, v'.ownBlock = some k ∧ w.heap.size ≤ k) ∧ Fr bx v.ownBlock w w' := by
 have H := hide h
 obtain ⟨a, cap, rfl⟩ := h.row.shape
 have hc := h.cell
 have hbf := h.free
 have hbx := h.lt
 clear h
 have hn2 : bx ≠ w.heap.size := Nat.ne_of_lt hbx
 have hta := assert_ent f z
 go_enter Tryz.func375, Tryz.ntmps375
 go_wp2_with fail
 go_region_law (refine step_append_ent rfl (.tmp 7) (.tmp 10) 303 Tryz.underlying303 rfl n₀ _ ps rfl ((uh H).row.later (((ba _ _)).drew)) ⟨w.heap.size, 0, none⟩ _ f z rfl (two_new _ _ _ _ _ rfl) (by omega) (by simp; omega) ?_; intro v' w1 hown hgrow hat; obtain ⟨hc1, hf1, hfr⟩ := (uh H).after (((ba _ _)).drew) hgrow; obtain ⟨a1, cap1, rfl⟩ := hown.shape)
 all_goals
  go_end0
  have hoff : (Value.slice a1 (ps ++ [(f, z)]).length cap1).ownBlock ≠ some bx := by
   rcases hat with e | e
   ·rw [e]; exact (uh H).off
   ·rw [e]; simp; omega
  obtain ⟨r1, r2⟩ := setBox (uh H) hfr hc1 hf1 hown hoff
  have hle : (ps ++ [(f, z)]).length = ps.length + 1 := by simp
  rw [hle] at r1 r2 hat
  refine ⟨rfl, _, r1, ?_, r2⟩
  rcases hat with e | e
  ·exact .inl e
  ·exact .inr ⟨_, e, by simp⟩
theorem m_len (a : Addr) (w : World) : (method 464 286 (.pointer (some a)) "Len").run Tryz.prog w = .ok (308, .pointer (some a)) w := by kernel_rfl
theorem m_less (a : Addr) (w : World) : (method 464 286 (.pointer (some a)) "Less").run Tryz.prog w = .ok (373, .pointer (some a)) w := by kernel_rfl
theorem m_swap (a : Addr) (w : World) : (method 464 286 (.pointer (some a)) "Swap").run Tryz.prog w = .ok (376, .pointer (some a)) w := by kernel_rfl
theorem m_push (a : Addr) (w : World) : (method 464 286 (.pointer (some a)) "Push").run Tryz.prog w = .ok (375, .pointer (some a)) w := by kernel_rfl
theorem m_pop (a : Addr) (w : World) : (method 464 286 (.pointer (some a)) "Pop").run Tryz.prog w = .ok (374, .pointer (some a)) w := by kernel_rfl
theorem up_any {n₀ bx : Nat} {v : Value} {w : World} {ps : List PaceV} {n j0 : Nat} (h : HeapIs n₀ bx v w ps) (hu : UpTo ps n j0) (hj0 : j0 < n) (hn : n ≤ ps.length) (hl : ps.length ≤ 1000) :
  Calls Tryz.prog 307 #[.iface 286 (.pointer (some ⟨bx, 0, none⟩)), .int .i64 j0] w fun e w' => e = .returned (.tuple #[]) ∧ ∃ qs, HeapIs n₀ bx v w' qs ∧ HeapTo qs n ∧ qs.Perm ps ∧ (∀ k, n ≤ k → paceAt qs k = paceAt ps k) ∧ Fr bx v.ownBlock w w' := by
 have H := hide h
 have HU := hide hu
 clear h hu
 go_enter Tryz.func307, Tryz.ntmps307
 go_wp2_with fail
 go_loopw [1, 4] (fun q _ wr => ∃ (j : Nat) (qs : List PaceV), j < n ∧ q = .int .i64 j ∧ HeapIs n₀ bx v wr qs ∧ UpTo qs n j ∧ qs.Perm ps ∧ (∀ k, n ≤ k → paceAt qs k = paceAt ps k) ∧ Fr bx v.ownBlock w wr) (fun q _ _ => (intOf q).toNat)
 case atStart => exact ⟨j0, ps, hj0, rfl, uh H, uh HU, List.Perm.refl _, fun _ _ => rfl, Fr.refl _ _ _⟩
 case round =>
  obtain ⟨j, qs, hj, rfl, hh, hup, hperm, hsame, hfr⟩ := hrel
  have hql : qs.length = ps.length := hperm.length_eq
  have Hh := hide hh
  have Hup := hide hup
  have Hpe := hide hperm
  have Hsa := hide hsame
  have Hfr := hide hfr
  clear hh hup hperm hsame hfr
  by_cases hz : j = 0
  ·subst hz
   go_wp2_with fail
   go_end0
   exact ⟨rfl, qs, uh Hh, (uh Hup).done (.inl rfl), uh Hpe, uh Hsa, uh Hfr⟩
  ·obtain ⟨i, hi⟩ : ∃ i, i = (j - 1) / 2 := ⟨_, rfl⟩
   have hj1 : (0 : Int) ≤ (j : Int) - 1 := by omega
   have hpar : ((j : Int) - 1) / 2 = (i : Int) := by omega
   have hij : ((i : Int) == (j : Int)) = false := beq_eq_false_iff_ne.2 (by omega)
   have hm1 := m_less ⟨bx, 0, none⟩
   have hm2 := m_swap ⟨bx, 0, none⟩
   have hjl : j < qs.length := by omega
   have hil : i < qs.length := by omega
   have Hless := hide (less_any (uh Hh) hjl hil)
   have Hi := hide hi
   clear hi
   cases hlt : ltB (paceAt qs j) (paceAt qs i)
   ·go_wp2_with fail
    refine (uh Hless).mono ?_
    rw [hlt]
    rintro e w1 ⟨rfl, hb1⟩
    have H1 := hide ((uh Hh).later hb1)
    have F1 := hide ((uh Hfr).trans (Fr.of_below hb1))
    clear hb1
    go_wp2_with fail
    go_end0
    exact ⟨rfl, qs, uh H1, (uh Hup).done (.inr (by rw [← uh Hi]; exact hlt)), uh Hpe, uh Hsa, uh F1⟩
   ·go_wp2_with fail
    refine (uh Hless).mono ?_
    rw [hlt]
    rintro e w1 ⟨rfl, hb1⟩
    have H1 := hide ((uh Hh).later hb1)
    have F1 := hide ((uh Hfr).trans (Fr.of_below hb1))
    clear hb1
    go_wp2_with fail
    refine (swap_any (uh H1) hil hjl).mono ?_
    rintro e w2 ⟨rfl, hh2, hf2⟩
    have H2 := hide hh2
    have F2 := hide ((uh F1).trans hf2)
    clear hh2 hf2
    have HS : Hid (UpTo (swp qs i j) n i) := hide (by rw [uh Hi]; exact (uh Hup).step (by omega) hj (by omega) (by rw [← uh Hi]; exact hlt))
    have HA : Hid (∀ k, n ≤ k → paceAt (swp qs i j) k = paceAt ps k) := hide (fun k hk => by rw [swp_at hil hjl, if_neg (by omega), if_neg (by omega)]; exact uh Hsa k hk)
    go_wp2_with fail
    go_roundw
    case rel => exact ⟨i, swp qs i j, by omega, rfl, uh H2, uh HS, (swp_perm hil hjl).trans (uh Hpe), uh HA, uh F2⟩
    case measure => exact ms
def DownPost (n₀ bx : Nat) (v : Value) (w : World) (ps : List PaceV) (n i0 : Nat) (e : Ending) (w' : World) : Prop :=
 ∃ (b : Bool) (qs : List PaceV), e = .returned (.bool b) ∧ HeapIs n₀ bx v w' qs ∧ qs.Perm ps ∧ (∀ k, n ≤ k → paceAt qs k = paceAt ps k) ∧ Fr bx v.ownBlock w w' ∧ (b = true → HeapTo qs n) ∧ (b = false → UpTo qs n i0)
theorem down_end {n₀ bx : Nat} {v : Value} {w wr : World} {ps qs : List PaceV} {n i0 i : Nat} (hi : i0 ≤ i) (hh : HeapIs n₀ bx v wr qs) (hdn : DnTo qs n i0 i) (hp : qs.Perm ps) (hs : ∀ k, n ≤ k → paceAt qs k = paceAt ps k) (hf : Fr bx v.ownBlock w wr)
  (hd : ∀ k, 0 < k → k < n → (k - 1) / 2 = i → ltB (paceAt qs k) (paceAt qs i) = false) : DownPost n₀ bx v w ps n i0 (.returned (.bool (decide (i0 < i)))) wr := by
 refine ⟨_, qs, rfl, hh, hp, hs, hf, fun h => ?_, fun h => ?_⟩
 ·have := of_decide_eq_true h
  exact hdn.moved (by omega) hd
 ·have := of_decide_eq_false h
  obtain rfl : i = i0 := by omega
  exact hdn.still hd
theorem kid {k i : Nat} (h0 : 0 < k) (h : (k - 1) / 2 = i) : k = 2 * i + 1 ∨ k = 2 * i + 2 := by omega
theorem down_any {n₀ bx : Nat} {v : Value} {w : World} {ps : List PaceV} {n i0 : Nat} (h : HeapIs n₀ bx v w ps) (hu : DnTo ps n i0 i0) (hi0 : i0 ≤ n) (hn : n ≤ ps.length) (hl : ps.length ≤ 1000) :
  Calls Tryz.prog 318 #[.iface 286 (.pointer (some ⟨bx, 0, none⟩)), .int .i64 i0, .int .i64 n] w (DownPost n₀ bx v w ps n i0) := by
 have H := hide h
 have HU := hide hu
 have hm1 := m_less ⟨bx, 0, none⟩
 have hm2 := m_swap ⟨bx, 0, none⟩
 clear h hu
 go_enter Tryz.func318, Tryz.ntmps318
 go_wp2_with fail
 go_loopw [7] (fun q wr => ∃ (i : Nat) (qs : List PaceV), i0 ≤ i ∧ i ≤ n ∧ q = .int .i64 i ∧ HeapIs n₀ bx v wr qs ∧ DnTo qs n i0 i ∧ qs.Perm ps ∧ (∀ k, n ≤ k → paceAt qs k = paceAt ps k) ∧ Fr bx v.ownBlock w wr) (fun q _ => n - (intOf q).toNat)
 case atStart => exact ⟨i0, ps, Nat.le_refl _, hi0, rfl, uh H, uh HU, List.Perm.refl _, fun _ _ => rfl, Fr.refl _ _ _⟩
 case round =>
  obtain ⟨i, qs, hii, hin, rfl, hh, hdn, hperm, hsame, hfr⟩ := hrel
  have hql : qs.length = ps.length := hperm.length_eq
  have Hh := hide hh
  have Hdn := hide hdn
  have Hpe := hide hperm
  have Hsa := hide hsame
  have Hfr := hide hfr
  clear hh hdn hperm hsame hfr
  obtain ⟨j1, hj1⟩ : ∃ j1, j1 = 2 * i + 1 := ⟨_, rfl⟩
  obtain ⟨j2, hj2⟩ : ∃ j2, j2 = 2 * i + 2 := ⟨_, rfl⟩
  have e1 : 2 * (i : Int) + 1 = (j1 : Int) := by omega
  have e2 : (j1 : Int) + 1 = (j2 : Int) := by omega
  have Hj1 := hide hj1
  have Hj2 := hide hj2
  by_cases hn1 : n ≤ j1
  ·have hg1 : (n : Int) ≤ (j1 : Int) := by omega
   clear hj1 hj2
   go_wp2_with fail
   go_ret
   exact down_end hii (uh Hh) (uh Hdn) (uh Hpe) (uh Hsa) (uh Hfr) (fun k k0 kn kp => by have := kid k0 kp; have := uh Hj1; omega)
  ·have hg1 : ¬ (n : Int) ≤ (j1 : Int) := by omega
   have hg2 : ¬ (j1 : Int) < 0 := by omega
   have hil : i < qs.length := by omega
   have hjl : j1 < qs.length := by omega
   have hij1 : i < j1 := by omega
   by_cases hn2 : j2 < n
   ·have hg3 : (j2 : Int) < (n : Int) := by omega
    have hkl : j2 < qs.length := by omega
    have hij2 : i < j2 := by omega
    clear hj1 hj2
    have HL := hide (less_any (uh Hh) hkl hjl)
    cases hlt : ltB (paceAt qs j2) (paceAt qs j1)
    ·have HM : Hid (∀ k, 0 < k → k < n → (k - 1) / 2 = i → ltB (paceAt qs k) (paceAt qs j1) = false) := hide (fun k k0 kn kp => by
      have e3 := uh Hj1; have e4 := uh Hj2
      rcases kid k0 kp with e | e
      ·rw [show k = j1 by omega]; exact ltB_self _
      ·rw [show k = j2 by omega]; exact hlt)
     have HP : Hid ((j1 - 1) / 2 = i) := hide (by have := uh Hj1; omega)
     go_wp2_with fail
     refine (uh HL).mono ?_
     rw [hlt]
     rintro e w1 ⟨rfl, hb1⟩
     have H1 := hide ((uh Hh).later hb1)
     have F1 := hide ((uh Hfr).trans (Fr.of_below hb1))
     clear hb1 hlt HL Hh Hfr
     have HL2 := hide (less_any (uh H1) hjl hil)
     cases hlt2 : ltB (paceAt qs j1) (paceAt qs i)
     ·go_wp2_with fail
      refine (uh HL2).mono ?_
      rw [hlt2]
      rintro e w2 ⟨rfl, hb2⟩
      have H2 := hide ((uh H1).later hb2)
      have F2 := hide ((uh F1).trans (Fr.of_below hb2))
      clear hb2 HL2
      go_wp2_with fail
      go_ret
      exact down_end hii (uh H2) (uh Hdn) (uh Hpe) (uh Hsa) (uh F2) (fun k k0 kn kp => ltB_le hlt2 (uh HM k k0 kn kp))
     ·go_wp2_with fail
      refine (uh HL2).mono ?_
      rw [hlt2]
      rintro e w2 ⟨rfl, hb2⟩
      have H2 := hide ((uh H1).later hb2)
      have F2 := hide ((uh F1).trans (Fr.of_below hb2))
      clear hb2 HL2
      go_wp2_with fail
      refine (swap_any (uh H2) hil hjl).mono ?_
      rintro e w3 ⟨rfl, hh3, hf3⟩
      have H3 := hide hh3
      have F3 := hide ((uh F2).trans hf3)
      clear hh3 hf3
      have HS : Hid (DnTo (swp qs i j1) n i0 j1) := hide ((uh Hdn).step hii (by omega) (uh HP) (by omega) (by omega) hlt2 (uh HM))
      have HA : Hid (∀ k, n ≤ k → paceAt (swp qs i j1) k = paceAt ps k) := hide (fun k hk => by rw [swp_at hil hjl, if_neg (by omega), if_neg (by omega)]; exact uh Hsa k hk)
      go_wp2_with fail
      go_roundw
      case rel => exact ⟨j1, swp qs i j1, by omega, by omega, rfl, uh H3, uh HS, (swp_perm hil hjl).trans (uh Hpe), uh HA, uh F3⟩
      case measure => exact ms
    ·have HM : Hid (∀ k, 0 < k → k < n → (k - 1) / 2 = i → ltB (paceAt qs k) (paceAt qs j2) = false) := hide (fun k k0 kn kp => by
      have e3 := uh Hj1; have e4 := uh Hj2
      rcases kid k0 kp with e | e
      ·rw [show k = j1 by omega]; exact ltB_not hlt
      ·rw [show k = j2 by omega]; exact ltB_self _)
     have HP : Hid ((j2 - 1) / 2 = i) := hide (by have := uh Hj2; omega)
     go_wp2_with fail
     refine (uh HL).mono ?_
     rw [hlt]
     rintro e w1 ⟨rfl, hb1⟩
     have H1 := hide ((uh Hh).later hb1)
     have F1 := hide ((uh Hfr).trans (Fr.of_below hb1))
     clear hb1 hlt HL Hh Hfr
     have HL2 := hide (less_any (uh H1) hkl hil)
     cases hlt2 : ltB (paceAt qs j2) (paceAt qs i)
     ·go_wp2_with fail
      refine (uh HL2).mono ?_
      rw [hlt2]
      rintro e w2 ⟨rfl, hb2⟩
      have H2 := hide ((uh H1).later hb2)
      have F2 := hide ((uh F1).trans (Fr.of_below hb2))
      clear hb2 HL2
      go_wp2_with fail
      go_ret
      exact down_end hii (uh H2) (uh Hdn) (uh Hpe) (uh Hsa) (uh F2) (fun k k0 kn kp => ltB_le hlt2 (uh HM k k0 kn kp))
     ·go_wp2_with fail
      refine (uh HL2).mono ?_
      rw [hlt2]
      rintro e w2 ⟨rfl, hb2⟩
      have H2 := hide ((uh H1).later hb2)
      have F2 := hide ((uh F1).trans (Fr.of_below hb2))
      clear hb2 HL2
      go_wp2_with fail
      refine (swap_any (uh H2) hil hkl).mono ?_
      rintro e w3 ⟨rfl, hh3, hf3⟩
      have H3 := hide hh3
      have F3 := hide ((uh F2).trans hf3)
      clear hh3 hf3
      have HS : Hid (DnTo (swp qs i j2) n i0 j2) := hide ((uh Hdn).step hii (by omega) (uh HP) (by omega) (by omega) hlt2 (uh HM))
      have HA : Hid (∀ k, n ≤ k → paceAt (swp qs i j2) k = paceAt ps k) := hide (fun k hk => by rw [swp_at hil hkl, if_neg (by omega), if_neg (by omega)]; exact uh Hsa k hk)
      go_wp2_with fail
      go_roundw
      case rel => exact ⟨j2, swp qs i j2, by omega, by omega, rfl, uh H3, uh HS, (swp_perm hil hkl).trans (uh Hpe), uh HA, uh F3⟩
      case measure => exact ms
   ·have hg3 : ¬ (j2 : Int) < (n : Int) := by omega
    have HM : Hid (∀ k, 0 < k → k < n → (k - 1) / 2 = i → ltB (paceAt qs k) (paceAt qs j1) = false) := hide (fun k k0 kn kp => by
      have e3 := uh Hj1; have e4 := uh Hj2
      rcases kid k0 kp with e | e
      ·rw [show k = j1 by omega]; exact ltB_self _
      ·omega)
    have HP : Hid ((j1 - 1) / 2 = i) := hide (by have := uh Hj1; omega)
    clear hj1 hj2
    have HL2 := hide (less_any (uh Hh) hjl hil)
    cases hlt2 : ltB (paceAt qs j1) (paceAt qs i)
    ·go_wp2_with fail
     refine (uh HL2).mono ?_
     rw [hlt2]
     rintro e w2 ⟨rfl, hb2⟩
     have H2 := hide ((uh Hh).later hb2)
     have F2 := hide ((uh Hfr).trans (Fr.of_below hb2))
     clear hb2 HL2
     go_wp2_with fail
     go_ret
     exact down_end hii (uh H2) (uh Hdn) (uh Hpe) (uh Hsa) (uh F2) (fun k k0 kn kp => ltB_le hlt2 (uh HM k k0 kn kp))
    ·go_wp2_with fail
     refine (uh HL2).mono ?_
     rw [hlt2]
     rintro e w2 ⟨rfl, hb2⟩
     have H2 := hide ((uh Hh).later hb2)
     have F2 := hide ((uh Hfr).trans (Fr.of_below hb2))
     clear hb2 HL2
     go_wp2_with fail
     refine (swap_any (uh H2) hil hjl).mono ?_
     rintro e w3 ⟨rfl, hh3, hf3⟩
     have H3 := hide hh3
     have F3 := hide ((uh F2).trans hf3)
     clear hh3 hf3
     have HS : Hid (DnTo (swp qs i j1) n i0 j1) := hide ((uh Hdn).step hii (by omega) (uh HP) (by omega) (by omega) hlt2 (uh HM))
     have HA : Hid (∀ k, n ≤ k → paceAt (swp qs i j1) k = paceAt ps k) := hide (fun k hk => by rw [swp_at hil hjl, if_neg (by omega), if_neg (by omega)]; exact uh Hsa k hk)
     go_wp2_with fail
     go_roundw
     case rel => exact ⟨j1, swp qs i j1, by omega, by omega, rfl, uh H3, uh HS, (swp_perm hil hjl).trans (uh Hpe), uh HA, uh F3⟩
     case measure => exact ms
theorem HeapTo.take {ps : List PaceV} {n m : Nat} (h : HeapTo ps n) (hm : n ≤ m) : HeapTo (ps.take m) n := fun k k0 kn => by
 rw [paceAt_take (by omega), paceAt_take (by omega)]; exact h k k0 kn
theorem HeapIs.below {n₀ bx : Nat} {v v' : Value} {w w' : World} {ps qs : List PaceV} (h : HeapIs n₀ bx v w ps) (hf : Fr bx v.ownBlock w w') (hx : n₀ ≤ bx) (hn : n₀ ≤ w.heap.size) : Below n₀ w w' :=
 hf.below hx (fun k e => (h.row.lt e).1) hn
theorem heapPush_any {n₀ bx : Nat} {v : Value} {w : World} {ps : List PaceV} (f z : Int) (h : HeapIs n₀ bx v w ps) (hp : HeapTo ps ps.length) (hl : ps.length ≤ 900) (hx : n₀ ≤ bx) (hn : n₀ ≤ w.heap.size) :
  Calls Tryz.prog 286 #[.iface 286 (.pointer (some ⟨bx, 0, none⟩)), .iface 151 (.agg #[.int .i64 f, .int .i64 z])] w fun e w' => e = .returned (.tuple #[]) ∧ ∃ v' qs, HeapIs n₀ bx v' w' qs ∧ HeapTo qs qs.length ∧ qs.Perm (ps ++ [(f, z)]) ∧ Below n₀ w w' := by
 have H := hide h
 have HP := hide hp
 have hm1 := m_push ⟨bx, 0, none⟩
 have hm2 := m_len ⟨bx, 0, none⟩
 clear h hp
 go_enter Tryz.func286, Tryz.ntmps286
 go_wp2_with fail
 refine (pushM_any f z (uh H) (by omega) hn).mono ?_
 rintro e w1 ⟨rfl, v1, hh1, hat, hf1⟩
 have H1 := hide hh1
 have B1 := hide ((uh H).below (v' := v1) (qs := ps) hf1 hx hn)
 have hz1 := hf1.size
 clear hh1 hat hf1
 go_wp2_with fail
 refine (len_any (uh H1)).mono ?_
 rintro e w' ⟨rfl, h2⟩
 subst w'
 have hlen : (ps ++ [(f, z)]).length = ps.length + 1 := by simp
 rw [hlen]
 go_wp2_with fail
 refine (up_any (j0 := ps.length) (n := ps.length + 1) (uh H1) ((uh HP).push (f, z)) (by omega) (by rw [hlen]; exact Nat.le_refl _) (by rw [hlen]; omega)).mono ?_
 rintro e w2 ⟨rfl, qs, hh2, hq, hpe, _, hf2⟩
 have hql : qs.length = ps.length + 1 := by rw [hpe.length_eq, hlen]
 have H2 := hide hh2
 have HQ := hide hq
 have HE := hide hpe
 have B2 := hide ((uh B1).trans ((uh H1).below (v' := v1) (qs := ps) hf2 hx (by omega)))
 clear hh2 hq hpe hf2
 go_wp2_with fail
 go_end0
 exact ⟨rfl, v1, qs, uh H2, by rw [hql]; exact uh HQ, uh HE, uh B2⟩
theorem DnTo.none {ps : List PaceV} {i0 i : Nat} : DnTo ps 0 i0 i := ⟨fun k k0 kn => by omega, fun k k0 kn => by omega⟩
theorem DownPost.zero {n₀ bx : Nat} {v : Value} {w : World} {ps : List PaceV} {n : Nat} {e : Ending} {w' : World} (h : DownPost n₀ bx v w ps n 0 e w') :
  ∃ (b : Bool) (qs : List PaceV), e = .returned (.bool b) ∧ HeapIs n₀ bx v w' qs ∧ qs.Perm ps ∧ (∀ k, n ≤ k → paceAt qs k = paceAt ps k) ∧ Fr bx v.ownBlock w w' ∧ HeapTo qs n := by
 obtain ⟨b, qs, he, hh, hp, hs, hf, h1, h2⟩ := h
 refine ⟨b, qs, he, hh, hp, hs, hf, ?_⟩
 cases b
 ·exact (h2 rfl).done (.inl rfl)
 ·exact h1 rfl
theorem heapPop_any {n₀ bx : Nat} {v : Value} {w : World} {ps : List PaceV} {m : Nat} (h : HeapIs n₀ bx v w ps) (hp : HeapTo ps ps.length) (hm : ps.length = m + 1) (hl : ps.length ≤ 900) :
  Calls Tryz.prog 309 #[.iface 286 (.pointer (some ⟨bx, 0, none⟩))] w fun e w' => e = .returned (.iface 151 (.agg #[.int .i64 (paceAt ps 0).1, .int .i64 (paceAt ps 0).2])) ∧ ∃ v' qs, HeapIs n₀ bx v' w' qs ∧ HeapTo qs qs.length ∧ (qs ++ [paceAt ps 0]).Perm ps ∧ v'.ownBlock = v.ownBlock ∧ Fr bx v.ownBlock w w' := by
 have H := hide h
 rw [hm] at hp
 have HP := hide hp
 have hm1 := m_pop ⟨bx, 0, none⟩
 have hm2 := m_len ⟨bx, 0, none⟩
 have hm3 := m_swap ⟨bx, 0, none⟩
 clear h hp
 go_enter Tryz.func309, Tryz.ntmps309
 go_wp2_with fail
 refine (len_any (uh H)).mono ?_
 rw [hm]
 rintro e w' ⟨rfl, h2⟩
 subst w'
 go_wp2_with fail
 refine (swap_any (i := 0) (j := m) (uh H) (by omega) (by omega)).mono ?_
 rintro e w1 ⟨rfl, hh1, hf1⟩
 have H1 := hide hh1
 have F1 := hide hf1
 have hl1 : (swp ps 0 m).length = m + 1 := by rw [swp_len]; exact hm
 have HD : Hid (DnTo (swp ps 0 m) m 0 0) := hide (by
  by_cases e : m = 0
  ·subst e; exact DnTo.none
  ·exact (uh HP).swap hm (by omega))
 have HA : Hid (paceAt (swp ps 0 m) m = paceAt ps 0) := hide (by rw [swp_at (by omega) (by omega), if_pos rfl])
 have HPm : Hid ((swp ps 0 m).Perm ps) := hide (swp_perm (by omega) (by omega))
 clear hh1 hf1
 go_wp2_with fail
 refine (down_any (n := m) (i0 := 0) (uh H1) (uh HD) (by omega) (by omega) (by omega)).mono ?_
 intro e w2 hpost
 obtain ⟨b, qs, rfl, hh2, hp2, hs2, hf2, hq2⟩ := hpost.zero
 have hql : qs.length = m + 1 := by rw [hp2.length_eq, hl1]
 have H2 := hide hh2
 have HE : Hid ((qs.take m ++ [paceAt ps 0]).Perm ps) := hide (by rw [← uh HA, ← hs2 m (Nat.le_refl _), take_snoc_last hql]; exact hp2.trans (uh HPm))
 have HV : Hid (paceAt qs m = paceAt ps 0) := hide ((hs2 m (Nat.le_refl _)).trans (uh HA))
 have HQ : Hid (HeapTo (qs.take m) (qs.take m).length) := hide (by rw [List.length_take, Nat.min_eq_left (by omega)]; exact hq2.take (Nat.le_refl _))
 have F2 := hide ((uh F1).trans hf2)
 clear hpost hh2 hp2 hs2 hf2 hq2
 go_wp2_with fail
 refine (popM_any (uh H2) hql).mono ?_
 rw [uh HV]
 rintro e w3 ⟨rfl, v3, hh3, ho3, hf3⟩
 have H3 := hide hh3
 have F3 := hide ((uh F2).trans hf3)
 clear hh3 hf3
 go_wp2_with fail
 go_ret
 exact ⟨rfl, v3, qs.take m, uh H3, uh HQ, uh HE, ho3, uh F3⟩
theorem addr_at (g o i : Nat) : (⟨g, o, none⟩ : Addr).add i = ⟨g, o + i, none⟩ := by unfold Addr.add; split <;> simp_all
theorem run_append_zero {w : World} {base t ty e size n : Nat} {i : TypeInfo} (ht : Tryz.prog.underlying t = some (.slice e)) (hi : Tryz.prog.info? e = some i) {v : Value} {xs : List Value} (hown : w.ownsRow base e size v n xs) (a : Option Addr) (c : Nat) :
  (Builtin.append_ #[t, t] ty #[v, .slice a 0 c]).run Tryz.prog w = .ok v w := by
 rcases hown.2 with ⟨rfl, rfl⟩ | ⟨g, cap, cur, rfl, _, _, hnc, _⟩
 ·cases a <;> simp [Builtin.append_, run_underlying ht, sizeOf, typeInfo, hi, Builtin.lenOf, Builtin.firstCells, loadCells, loadCellsFrom]
 ·cases a <;> simp [Builtin.append_, run_underlying ht, sizeOf, typeInfo, hi, Builtin.lenOf, Builtin.firstCells, hnc, storeCells, loadCells, loadCellsFrom]
theorem cells_of {w : World} {b off : Nat} {qs : List PaceV} (h : ∀ k, k < qs.length → w.cell? ⟨b, off + k * 2, none⟩ = some (.int .i64 (paceAt qs k).1) ∧ w.cell? ⟨b, off + k * 2 + 1, none⟩ = some (.int .i64 (paceAt qs k).2)) :
  ∀ (j : Nat) (u : Value), (pcells qs)[j]? = some u → w.cell? ((⟨b, off, none⟩ : Addr).add j) = some u := fun j u hj => by
 have hlt : j < qs.length * 2 := by
  rcases Nat.lt_or_ge j (qs.length * 2) with h | h
  ·exact h
  ·rw [List.getElem?_eq_none (by rw [pcells_len]; exact h)] at hj; cases hj
 rw [addr_at]
 have hp := pairs_get (f := fun p : PaceV => Value.int .i64 p.1) (g := fun p : PaceV => Value.int .i64 p.2) qs (j / 2) (by omega)
 have e : paceAt qs (j / 2) = qs[j / 2]'(by omega) := by unfold paceAt; simp [List.getD, (by omega : j / 2 < qs.length)]
 obtain ⟨h1, h2⟩ := h (j / 2) (by omega)
 rw [e] at h1 h2
 rcases Nat.mod_two_eq_zero_or_one j with e2 | e2
 ·rw [show off + j = off + j / 2 * 2 by omega, h1, ← hj]
  conv => rhs; rw [show j = j / 2 * 2 by omega]
  exact hp.1.symm
 ·rw [show off + j = off + j / 2 * 2 + 1 by omega, h2, ← hj]
  conv => rhs; rw [show j = j / 2 * 2 + 1 by omega]
  exact hp.2.symm
theorem one_cells (qs : List PaceV) : ∀ u ∈ pcells qs, u.oneCell' = true := fun u hu => by
 unfold pcells at hu
 obtain ⟨p, _, hp⟩ := List.mem_flatMap.1 hu
 simp only [List.mem_cons, List.not_mem_nil, or_false] at hp
 rcases hp with rfl | rfl <;> rfl
theorem run_append_ents {w : World} {base t ty : Nat} (ht : Tryz.prog.underlying t = some (.slice 151)) {v x : Value} {ps qs : List PaceV} (hown : EntsAt base w v ps) (hx : IsPaces w x qs) (hb : ps.length + qs.length ≤ 4000) (hbase : base ≤ w.heap.size) :
  ∃ v' w', (Builtin.append_ #[t, t] ty #[v, x]).run Tryz.prog w = .ok v' w' ∧ EntsAt base w' v' (ps ++ qs) ∧ w.grownBy w' v.ownBlock ∧ (v'.ownBlock = v.ownBlock ∨ v'.ownBlock = some w.heap.size) := by
 obtain ⟨i0, hi, hz0, hz1, hz2⟩ := info_parts infoEntry
 obtain ⟨a, c, rfl, hc, hm, hr⟩ := hx
 by_cases h0 : qs = []
 ·subst h0
  refine ⟨v, w, run_append_zero ht hi hown a c, by simpa using hown, grown_refl _ _, .inl rfl⟩
 ·rcases hr with hr | ⟨b, off, rfl, hlt, hcl⟩
  ·exact absurd hr h0
  ·obtain ⟨v', w', hr, h2, h3, _, h5⟩ := run_append_own_at (P := Tryz.prog) w base t ty 151 i0 (.agg #[.int .i64 0, .int .i64 0]) 2 16 ht hi hz0 hz1 hz2 rfl (by decide) v ps.length _ hown ⟨b, off, none⟩ qs.length c (pcells qs) (pcells_len qs)
    (cells_of hcl) (one_cells qs) (by simp only [maxLen]; omega) (by omega) hbase
   refine ⟨v', w', hr, ?_, h3, h5⟩
   unfold EntsAt
   rw [pcells_append, List.length_append]
   exact h2
theorem wpList_append_ents {w : World} {ops : Array Oper} {rest : List Oper} {o : Oper} {a : Act} {Q : Exit → Act → World → Prop} (hgd : o.guard = none) (s x : Operand) (t : TypeId) (ht : Tryz.prog.underlying t = some (.slice 151))
  (ho : o.op = .call { callee := .builtin .append, args := #[s, x], argTypes := #[t, t] }) (base : Nat) (v u : Value) (ps qs : List PaceV) (hs : a.eval s = v) (hx : a.eval x = u) (hown : EntsAt base w v ps) (hr : IsPaces w u qs)
  (hb : ps.length + qs.length ≤ 4000) (hbase : base ≤ w.heap.size)
  (h : ∀ v' w', EntsAt base w' v' (ps ++ qs) → w.grownBy w' v.ownBlock → (v'.ownBlock = v.ownBlock ∨ v'.ownBlock = some w.heap.size) → wpList Tryz.prog ops Q rest (a.put o.dst v') w') :
  wpList Tryz.prog ops Q (o :: rest) a w := by
 refine wpList_plain hgd fun K hK => ?_
 obtain ⟨v', w', hrun, h2, h3, h5⟩ := run_append_ents (ty := o.type) ht hown hr hb hbase
 unfold Oper.wp execOp
 simp only [ho, resolve, invoke, builtin, Sem.run_bind, Sem.run_pure, Result.andThen_ok, List.map_toArray, List.map_cons, List.map_nil, hs, hx, hrun]
 exact hK _ _ (h v' w' h2 h3 h5)
theorem step_append_ents {ops : Array Oper} {o : Oper} {a : Act} {w : World} {K : Act → World → Prop} {Q : Exit → Act → World → Prop} {E : Prop} (hgd : o.guard = none) (s x : Operand) (t : TypeId) (ht : Tryz.prog.underlying t = some (.slice 151))
  (ho : o.op = .call { callee := .builtin .append, args := #[s, x], argTypes := #[t, t] }) (base : Nat) (v u : Value) (ps qs : List PaceV) (hs : a.eval s = v) (hx : a.eval x = u) (hown : EntsAt base w v ps) (hr : IsPaces w u qs)
  (hb : ps.length + qs.length ≤ 4000) (hbase : base ≤ w.heap.size)
  (h : ∀ v' w', EntsAt base w' v' (ps ++ qs) → w.grownBy w' v.ownBlock → (v'.ownBlock = v.ownBlock ∨ v'.ownBlock = some w.heap.size) → K (a.put o.dst v') w') :
  if Region.wanted o (yielded ops a.tmps) = true then Oper.wp Tryz.prog o a w K Q else E := by
 have hw : Region.wanted o (yielded ops a.tmps) = true := by simp [Region.wanted, hgd]
 rw [if_pos hw]
 obtain ⟨v', w', hrun, h2, h3, h5⟩ := run_append_ents (ty := o.type) ht hown hr hb hbase
 unfold Oper.wp execOp
 simp only [ho, resolve, invoke, builtin, Sem.run_bind, Sem.run_pure, Result.andThen_ok, List.map_toArray, List.map_cons, List.map_nil, hs, hx, hrun]
 exact h v' w' h2 h3 h5
theorem ents_empty {B g : Nat} {w : World} (hg : g = w.heap.size) (hB : B ≤ g) : EntsAt B (w.alloc (.cells #[] 151)) (.slice (some ⟨g, 0, none⟩) 0 0) [] := by
 subst hg
 exact ⟨by simp [pcells], .inr ⟨_, 0, #[], rfl, hB, heap_alloc_new w _, Nat.le_refl _, Nat.zero_le _, by simp, by simp [pcells]⟩⟩
theorem ents_one {w : World} {f z : Int} {g c : Nat} (hg : g = w.heap.size) (hc : 1 ≤ c) (hc2 : c ≤ 4000) : IsPaces (w.alloc (.cells #[.int .i64 f, .int .i64 z] 151)) (.slice (some ⟨g, 0, none⟩) 1 c) [(f, z)] := by
 subst hg
 refine ⟨_, c, rfl, hc, by omega, .inr ⟨_, 0, rfl, by simp, fun k hk => ?_⟩⟩
 obtain rfl : k = 0 := by simpa using hk
 simp [paceAt]
theorem copyOf_any {w : World} {v : Value} {ps : List PaceV} (h : IsPaces w v ps) (hl : ps.length ≤ 1000) :
  Calls Tryz.prog 288 #[v] w fun e w' => ∃ v', e = .returned v' ∧ EntsAt w.heap.size w' v' ps ∧ Below w.heap.size w w' := by
 have Hv := hide h
 obtain ⟨a, cap, rfl, hc, hm, hr⟩ := h
 clear hr
 go_enter Tryz.func288, Tryz.ntmps288
 go_wp2_with (at_builtin; refine wpList_append_ents rfl (.tmp 3) (.tmp 4) 148 Tryz.underlying148 rfl w.heap.size _ _ [] ps rfl rfl (ents_empty rfl (Nat.le_refl _)) ((uh Hv).below ((ba _ _))) (by simp; omega) (by simp) ?_; intro v' w1 hown hgrow hat)
 go_ret
 refine ⟨v', rfl, by simpa using hown, ((ba _ _)).trans ((Below.refl _ _).grown hgrow (by simp) (fun k e => ?_))⟩
 cases e; exact Nat.le_refl _
theorem l6Copy_any {w : World} {v : Value} {ps : List PaceV} (h : IsPaces w v ps) (hl : ps.length ≤ 1000) :
  Calls Tryz.prog 235 #[v] w fun e w' => ∃ v', e = .returned v' ∧ EntsAt w.heap.size w' v' ps ∧ Below w.heap.size w w' := by
 have Hv := hide h
 obtain ⟨a, cap, rfl, hc, hm, hr⟩ := h
 clear hr
 go_enter Tryz.func235, Tryz.ntmps235
 go_wp2_with (at_builtin; refine wpList_append_ents rfl (.tmp 3) (.tmp 4) 148 Tryz.underlying148 rfl w.heap.size _ _ [] ps rfl rfl (ents_empty rfl (Nat.le_refl _)) ((uh Hv).below ((ba _ _))) (by simp; omega) (by simp) ?_; intro v' w1 hown hgrow hat)
 go_ret
 refine ⟨v', rfl, by simpa using hown, ((ba _ _)).trans ((Below.refl _ _).grown hgrow (by simp) (fun k e => ?_))⟩
 cases e; exact Nat.le_refl _
theorem heapOf_any {w : World} {v : Value} {ps : List PaceV} (h : IsPaces w v ps) (hl : ps.length ≤ 1000) :
  Calls Tryz.prog 285 #[v] w fun e w' => ∃ bx v', e = .returned (.pointer (some ⟨bx, 0, none⟩)) ∧ w.heap.size ≤ bx ∧ HeapIs w.heap.size bx v' w' ps ∧ Below w.heap.size w w' := by
 have Hv := hide h
 obtain ⟨a, cap, rfl, hc, hm, hr⟩ := h
 clear hr
 go_enter Tryz.func285, Tryz.ntmps285
 go_wp2_with fail
 refine (copyOf_any (uh Hv) hl).mono ?_
 rintro e w1 ⟨v1, rfl, hi1, hb1⟩
 obtain ⟨a1, cap1, rfl⟩ := hi1.shape
 have H1 := hide hi1
 have B1 := hide hb1
 have hz1 := hb1.size
 clear hi1 hb1
 go_wp2_with fail
 go_ret
 refine ⟨w1.heap.size, .slice a1 ps.length cap1, rfl, hz1, ⟨by simp, by simp, by simp, (uh H1).later ((ba _ _)), fun e => ?_⟩, (uh B1).alloc hz1 _⟩
 have := (uh H1).lt e
 omega
theorem slice_to (a : Option Addr) (n cap k : Nat) (hk : k ≤ cap) (W : World) : (Instr.slice 148 (.slice a n cap) none (some (.int .i64 k)) none).run Tryz.prog W = .ok (.slice a k cap) W := by
 obtain ⟨i0, hi, hz0, hz1, hz2⟩ := info_parts infoEntry
 have hs : ∀ W, (sizeOf 151).run Tryz.prog W = .ok 2 W := fun W => by simp [sizeOf, typeInfo, hi, hz1]
 have hb : ∀ W, (Instr.sliceBounds true n cap none (some (.int .i64 k)) none).run Tryz.prog W = .ok (0, k, cap) W := fun W => by
  simp [Instr.sliceBounds, Instr.sliceBound, asIntOf]
  intro h; omega
 simp only [Instr.slice, Sem.run_bind, run_underlying Tryz.underlying148, Result.andThen, hb, hs, Sem.run_pure]
 simp
 cases a <;> simp [Addr.add]
def fromV (a : Option Addr) (n cap k : Nat) : Value := .slice (if cap = k then a else a.map (·.add (k * 2))) (n - k) (cap - k)
theorem slice_from (a : Option Addr) (n cap k : Nat) (hk : k ≤ n) (W : World) : (Instr.slice 148 (.slice a n cap) (some (.int .i64 k)) none none).run Tryz.prog W = .ok (fromV a n cap k) W := by
 obtain ⟨i0, hi, hz0, hz1, hz2⟩ := info_parts infoEntry
 have hs : ∀ W, (sizeOf 151).run Tryz.prog W = .ok 2 W := fun W => by simp [sizeOf, typeInfo, hi, hz1]
 have hb : ∀ W, (Instr.sliceBounds true n cap (some (.int .i64 k)) none none).run Tryz.prog W = .ok (k, n, cap) W := fun W => by
  simp [Instr.sliceBounds, Instr.sliceBound, asIntOf]
  intro h; omega
 simp only [Instr.slice, Sem.run_bind, run_underlying Tryz.underlying148, Result.andThen, hb, hs, Sem.run_pure]
 rfl
theorem paceAt_drop (ps : List PaceV) (n k : Nat) : paceAt (ps.drop n) k = paceAt ps (n + k) := by unfold paceAt; simp [List.getD]
theorem IsPaces.from {w : World} {a : Option Addr} {n cap : Nat} {ps : List PaceV} (h : IsPaces w (.slice a n cap) ps) {k : Nat} (hk : k ≤ ps.length) : IsPaces w (fromV a n cap k) (ps.drop k) := by
 obtain ⟨a', cap', he, hc, hm, hr⟩ := h
 cases he
 refine ⟨_, cap - k, by unfold fromV; rw [List.length_drop], by rw [List.length_drop]; omega, by omega, ?_⟩
 rcases hr with hr | ⟨b, off, rfl, hlt, hcl⟩
 ·exact .inl (by rw [hr]; simp)
 ·by_cases hz : ps.length = k
  ·exact .inl (by rw [List.drop_eq_nil_iff]; omega)
  ·rw [if_neg (by omega)]
   refine .inr ⟨b, off + k * 2, by simp [addr_at], hlt, fun j hj => ?_⟩
   rw [List.length_drop] at hj
   rw [paceAt_drop]
   have := hcl (k + j) (by omega)
   rw [show off + (k + j) * 2 = off + k * 2 + j * 2 by omega] at this
   exact this
theorem fromV_shape (a : Option Addr) (n cap k : Nat) : ∃ a', fromV a n cap k = .slice a' (n - k) (cap - k) := ⟨_, rfl⟩
theorem l6Put_any {w : World} {v : Value} {ps : List PaceV} (f z : Int) (h : IsPaces w v ps) (hl : ps.length ≤ 900) :
  Calls Tryz.prog 186 #[v, .agg #[.int .i64 f, .int .i64 z]] w fun e w' => ∃ v', e = .returned v' ∧ EntsAt w.heap.size w' v' (putV ps (f, z)) ∧ Below w.heap.size w w' := by
 have Hv := hide h
 obtain ⟨a, cap, rfl, hc, hm, hr⟩ := h
 have Hr := hide hr
 clear hr
 go_enter Tryz.func186, Tryz.ntmps186
 go_wp2_with fail
 generalize hW : w.alloc (.cells #[.int .i64 f, .int .i64 z] 151) = W0
 have hs0 : W0.heap.size = w.heap.size + 1 := by rw [← hW]; simp
 have d0 : W0.cell? ⟨w.heap.size, 0, none⟩ = some (.int .i64 f) := by rw [← hW]; simp
 have d1 : W0.cell? ⟨w.heap.size, 1, none⟩ = some (.int .i64 z) := by rw [← hW]; simp
 have HB0 : Hid (Below w.heap.size w W0) := hide (by rw [← hW]; exact (ba _ _))
 have D0 := hide d0
 have D1 := hide d1
 clear hW d0 d1
 go_loopw [5] (fun i wr => ∃ k : Nat, k ≤ ps.length ∧ i = .int .i64 k ∧ (∀ j, j < k → ltB (paceAt ps j) (f, z) = true) ∧ Below W0.heap.size W0 wr) (fun i _ => ps.length - (intOf i).toNat)
 case atStart => exact ⟨0, Nat.zero_le _, rfl, fun j hj => by omega, Below.refl _ _⟩
 case round =>
  obtain ⟨k, hk, rfl, hst, hb⟩ := hrel
  have Hst := hide hst
  have Hb := hide hb
  have hszr := hb.size
  have hlt0 : w.heap.size < W0.heap.size := by omega
  have g0 := (hb.cell (p := ⟨w.heap.size, 0, none⟩) hlt0).trans (uh D0)
  have g1 := (hb.cell (p := ⟨w.heap.size, 1, none⟩) hlt0).trans (uh D1)
  have k0 := cell_regrown g0
  have k1 := cell_regrown g1
  clear hst
  by_cases hgo : k < ps.length ∧ ltB (paceAt ps k) (f, z) = true
  ·obtain ⟨hlt, hab⟩ := hgo
   rcases uh Hr with h0 | ⟨b, off, rfl, hbw, hcl⟩
   ·rw [h0] at hlt; simp at hlt
   obtain ⟨c0, c1⟩ := hcl k hlt
   have hbB := (uh HB0).trans (hb.mono (by omega))
   rw [← hbB.cell (p := ⟨b, off + k * 2, none⟩) hbw] at c0
   rw [← hbB.cell (p := ⟨b, off + k * 2 + 1, none⟩) hbw] at c1
   generalize hp : paceAt ps k = p at *
   obtain ⟨f', z'⟩ := p
   simp only at c0 c1
   have Hp := hide hp
   have m0 := cell_regrown c0
   have m1 := cell_regrown c1
   have hd : decide (k < ps.length) = true := decide_eq_true hlt
   clear hp hcl hb hbB g0 g1 c0 c1
   go_wp2_with fail
   refine wq ?_
   repeat (go_big_quiet_step (exact Calls.regrown_of (specLess_any _ _ _ _ _)))
   refine wpQuiet_nil ?_
   intro _ hw'
   obtain ⟨⟨dq, osq⟩, hw''⟩ := hw'
   subst hw''
   go_wp2_with fail
   go_roundw
   case rel => exact ⟨k + 1, by omega, by go_num, next_all (uh Hst) (by rw [uh Hp]; exact hab), (uh Hb).trans ((below_regrown _ _ _).mono (uh Hb).size)⟩
   case measure => exact ms
  ·have HK : Hid (lessN (f, z) ps = k) := hide (lessN_eq hk (uh Hst) (by
    by_cases e : k = ps.length
    ·exact .inl e
    ·right
     cases hq : ltB (paceAt ps k) (f, z)
     ·rfl
     ·exact absurd ⟨by omega, hq⟩ hgo))
   have HQ : Hid (ps.take k ++ [(f, z)] ++ ps.drop k = putV ps (f, z)) := hide (by unfold putV; rw [uh HK]; simp)
   have hto := slice_to a ps.length cap k (by omega)
   have hfr := slice_from a ps.length cap k hk
   obtain ⟨ra, hra⟩ := fromV_shape a ps.length cap k
   rw [hra] at hfr
   have Hfrom : Hid (IsPaces w (.slice ra (ps.length - k) (cap - k)) (ps.drop k)) := hide (by rw [← hra]; exact (uh Hv).from hk)
   have Hcut : Hid (IsPaces w (.slice a k cap) (ps.take k)) := hide ((uh Hv).cut hk)
   clear hra
   by_cases hlt : k < ps.length
   ·have hab : ltB (paceAt ps k) (f, z) = false := by
     cases hq : ltB (paceAt ps k) (f, z)
     ·rfl
     ·exact absurd ⟨hlt, hq⟩ hgo
    rcases uh Hr with h0 | ⟨b, off, rfl, hbw, hcl⟩
    ·rw [h0] at hlt; simp at hlt
    obtain ⟨c0, c1⟩ := hcl k hlt
    have hbB := (uh HB0).trans (hb.mono (by omega))
    rw [← hbB.cell (p := ⟨b, off + k * 2, none⟩) hbw] at c0
    rw [← hbB.cell (p := ⟨b, off + k * 2 + 1, none⟩) hbw] at c1
    generalize hp : paceAt ps k = p at *
    obtain ⟨f', z'⟩ := p
    simp only at c0 c1
    have m0 := cell_regrown c0
    have m1 := cell_regrown c1
    have hd : decide (k < ps.length) = true := decide_eq_true hlt
    clear hp hcl hb hbB g0 g1 c0 c1 hgo
    go_wp2_with fail
    refine wq ?_
    repeat (go_big_quiet_step (exact Calls.regrown_of (specLess_any _ _ _ _ _)))
    refine wpQuiet_nil ?_
    intro w1 hw'
    have Hb1 : Hid (Below W0.heap.size W0 w1) := hide (by obtain ⟨q, rfl⟩ := hw'; exact (uh Hb).trans ((below_regrown _ _ _).mono (uh Hb).size))
    clear k0 k1 m0 m1
    go_wp2_with fail
    have B1 : Hid (Below w.heap.size w w1) := hide ((uh HB0).trans ((uh Hb1).mono (by omega)))
    refine (l6Copy_any ((uh Hfrom).below (uh B1)) (by simp; omega)).mono ?_
    rintro e w2 ⟨v2, rfl, hi2, hb2⟩
    obtain ⟨a2, cap2, hv2⟩ := hi2.shape
    rw [List.length_drop] at hv2
    subst hv2
    have hz1 := (uh Hb1).size
    have hz2 := hb2.size
    have Hb2 : Hid (Below W0.heap.size W0 w2) := hide ((uh Hb1).trans (hb2.mono hz1))
    have e0 := ((uh Hb2).cell (p := ⟨w.heap.size, 0, none⟩) hlt0).trans (uh D0)
    have e1 := ((uh Hb2).cell (p := ⟨w.heap.size, 1, none⟩) hlt0).trans (uh D1)
    have B2 : Hid (Below w.heap.size w w2) := hide ((uh HB0).trans ((uh Hb2).mono (by omega)))
    have Hi2 := hide hi2
    have HC := hide ((uh Hcut).below (uh B2))
    clear hi2 hb2
    have hlt2 : w.heap.size < w2.heap.size := by omega
    have hkl : (ps.take k).length = k := by simp; omega
    go_wp2_with fail
    go_region_law (first
     | (refine step_append_ents rfl (.tmp 28) (.tmp 30) 148 Tryz.underlying148 rfl w2.heap.size _ _ (ps.take k) [(f, z)] rfl rfl (E3.later ((ba _ _))) (ents_one rfl (Nat.le_refl _) (by omega)) (by simp; omega) (by simp; omega) ?_; intro v4 w4 hown4 hg4 hat4; have X4 : Below w2.heap.size w2 w4 := (X3.alloc X3.size _).trans ((Below.refl _ _).grown hg4 (by simp; omega) (fun i e => (E3.lt e).1)))
     | (refine step_append_ents rfl (.tmp 28) (.tmp 30) 148 Tryz.underlying148 rfl w2.heap.size _ _ (ps.take k) [(f, z)] rfl rfl E3 ((ents_one (w := w2) rfl (Nat.le_refl _) (by omega)).below (((Below.refl _ _).drew).trans hb3)) (by simp; omega) (by omega) ?_; intro v4 w4 hown4 hg4 hat4; have X4 : Below w2.heap.size w2 w4 := X3.trans ((Below.refl _ _).grown hg4 (by omega) (fun i e => (E3.lt e).1)))
     | (refine step_append_ents rfl (.tmp 31) (.tmp 32) 148 Tryz.underlying148 rfl w2.heap.size _ _ (ps.take k ++ [(f, z)]) (ps.drop k) rfl rfl hown4 ((uh Hi2).paces.below X4) (by simp; omega) (by have := X4.size; omega) ?_; intro v5 w5 hown5 hg5 hat5)
     | (go_simp; go_at_call 235; refine (l6Copy_any (ps := ps.take k) ?_ (by simp; omega)).mono ?_; (exact (uh HC).below (by first | exact (Below.refl _ _).drew | exact ((ba _ _)).drew)); rintro e w3 ⟨v3, rfl, hi3, hb3⟩; obtain ⟨a3, cap3, hv3⟩ := hi3.shape; rw [hkl] at hv3; subst hv3; have E3 := hi3.mono (n₁ := w2.heap.size) (by simp); have X3 : Below w2.heap.size w2 w3 := (by first | exact ((Below.refl _ _).drew).trans (hb3.mono (by simp)) | exact (((ba _ _)).drew).trans (hb3.mono (by simp))); have hz3 := X3.size; have q0 := (X3.cell (p := ⟨w.heap.size, 0, none⟩) hlt2).trans e0; have q1 := (X3.cell (p := ⟨w.heap.size, 1, none⟩) hlt2).trans e1))
    all_goals
     have X5 : Below w2.heap.size w2 w5 := X4.trans ((Below.refl _ _).grown hg5 X4.size (fun i e => (hown4.lt e).1))
     rw [uh HQ] at hown5
     have HX5 := hide X5
     have HO5 := hide hown5
     clear hown5 hg5 hat5 X4 X5 hown4 hg4 hat4 X3 E3 hi3 hb3 q0 q1
     go_wp2_with fail
     go_ret
     exact ⟨_, rfl, (uh HO5).mono (uh B2).size, (uh B2).trans ((uh HX5).mono (uh B2).size)⟩
   ·have hd : decide (k < ps.length) = false := decide_eq_false hlt
    clear hb g0 g1 hgo
    go_wp2_with fail
    refine wq ?_
    repeat (go_big_quiet_step (exact Calls.regrown_of (specLess_any _ _ _ _ _)))
    refine wpQuiet_nil ?_
    intro w1 hw'
    have Hb1 : Hid (Below W0.heap.size W0 w1) := hide (by obtain ⟨q, rfl⟩ := hw'; exact (uh Hb).trans ((below_regrown _ _ _).mono (uh Hb).size))
    clear k0 k1
    go_wp2_with fail
    have B1 : Hid (Below w.heap.size w w1) := hide ((uh HB0).trans ((uh Hb1).mono (by omega)))
    refine (l6Copy_any ((uh Hfrom).below (uh B1)) (by simp; omega)).mono ?_
    rintro e w2 ⟨v2, rfl, hi2, hb2⟩
    obtain ⟨a2, cap2, hv2⟩ := hi2.shape
    rw [List.length_drop] at hv2
    subst hv2
    have hz1 := (uh Hb1).size
    have hz2 := hb2.size
    have Hb2 : Hid (Below W0.heap.size W0 w2) := hide ((uh Hb1).trans (hb2.mono hz1))
    have e0 := ((uh Hb2).cell (p := ⟨w.heap.size, 0, none⟩) hlt0).trans (uh D0)
    have e1 := ((uh Hb2).cell (p := ⟨w.heap.size, 1, none⟩) hlt0).trans (uh D1)
    have B2 : Hid (Below w.heap.size w w2) := hide ((uh HB0).trans ((uh Hb2).mono (by omega)))
    have Hi2 := hide hi2
    have HC := hide ((uh Hcut).below (uh B2))
    clear hi2 hb2
    have hlt2 : w.heap.size < w2.heap.size := by omega
    have hkl : (ps.take k).length = k := by simp; omega
    go_wp2_with fail
    go_region_law (first
     | (refine step_append_ents rfl (.tmp 28) (.tmp 30) 148 Tryz.underlying148 rfl w2.heap.size _ _ (ps.take k) [(f, z)] rfl rfl (E3.later ((ba _ _))) (ents_one rfl (Nat.le_refl _) (by omega)) (by simp; omega) (by simp; omega) ?_; intro v4 w4 hown4 hg4 hat4; have X4 : Below w2.heap.size w2 w4 := (X3.alloc X3.size _).trans ((Below.refl _ _).grown hg4 (by simp; omega) (fun i e => (E3.lt e).1)))
     | (refine step_append_ents rfl (.tmp 28) (.tmp 30) 148 Tryz.underlying148 rfl w2.heap.size _ _ (ps.take k) [(f, z)] rfl rfl E3 ((ents_one (w := w2) rfl (Nat.le_refl _) (by omega)).below (((Below.refl _ _).drew).trans hb3)) (by simp; omega) (by omega) ?_; intro v4 w4 hown4 hg4 hat4; have X4 : Below w2.heap.size w2 w4 := X3.trans ((Below.refl _ _).grown hg4 (by omega) (fun i e => (E3.lt e).1)))
     | (refine step_append_ents rfl (.tmp 31) (.tmp 32) 148 Tryz.underlying148 rfl w2.heap.size _ _ (ps.take k ++ [(f, z)]) (ps.drop k) rfl rfl hown4 ((uh Hi2).paces.below X4) (by simp; omega) (by have := X4.size; omega) ?_; intro v5 w5 hown5 hg5 hat5)
     | (go_simp; go_at_call 235; refine (l6Copy_any (ps := ps.take k) ?_ (by simp; omega)).mono ?_; (exact (uh HC).below (by first | exact (Below.refl _ _).drew | exact ((ba _ _)).drew)); rintro e w3 ⟨v3, rfl, hi3, hb3⟩; obtain ⟨a3, cap3, hv3⟩ := hi3.shape; rw [hkl] at hv3; subst hv3; have E3 := hi3.mono (n₁ := w2.heap.size) (by simp); have X3 : Below w2.heap.size w2 w3 := (by first | exact ((Below.refl _ _).drew).trans (hb3.mono (by simp)) | exact (((ba _ _)).drew).trans (hb3.mono (by simp))); have hz3 := X3.size; have q0 := (X3.cell (p := ⟨w.heap.size, 0, none⟩) hlt2).trans e0; have q1 := (X3.cell (p := ⟨w.heap.size, 1, none⟩) hlt2).trans e1))
    all_goals
     have X5 : Below w2.heap.size w2 w5 := X4.trans ((Below.refl _ _).grown hg5 X4.size (fun i e => (hown4.lt e).1))
     rw [uh HQ] at hown5
     have HX5 := hide X5
     have HO5 := hide hown5
     clear hown5 hg5 hat5 X4 X5 hown4 hg4 hat4 X3 E3 hi3 hb3 q0 q1
     go_wp2_with fail
     go_ret
     exact ⟨_, rfl, (uh HO5).mono (uh B2).size, (uh B2).trans ((uh HX5).mono (uh B2).size)⟩
theorem l11At_any {w : World} {v0 v1 v2 v3 v4 : Value} {m : SmyV} (b : Int) (h : Smy w v0 v1 v2 v3 v4 m) (hl : m.smiths.length ≤ 800) :
  Calls Tryz.prog 121 #[.agg #[v0, v1, v2, v3, v4, .int .i64 m.now], .int .i64 b] w fun e w' => ∃ v', e = .returned v' ∧ EntsAt w.heap.size w' v' (atV m.smiths b m.smiths.length) ∧ Below w.heap.size w w' := by
 obtain ⟨h0, h1, h2, h3, h4⟩ := h
 obtain ⟨a0, p0, rfl, hc0, hm0, _⟩ := h0
 obtain ⟨a1, p1, rfl, hc1, hm1, _⟩ := h1
 obtain ⟨a2, p2, rfl, hc2, hm2, r2⟩ := h2
 obtain ⟨a3, p3, rfl, hc3, hm3, _⟩ := h3
 obtain ⟨a4, p4, rfl, hc4, hm4, _⟩ := h4
 have R2 := hide r2
 clear r2
 have kb0 : Hid (Blk ((w.alloc (.cells (S6 a0 p0 a1 p1 a2 p2 a3 p3 a4 p4 m) 32)).alloc (.cells #[] 151)) w.heap.size 32 (S6 a0 p0 a1 p1 a2 p2 a3 p3 a4 p4 m)) := hide ((Blk.new w _ _).alloc _)
 have BB0 : Hid (Below w.heap.size w ((w.alloc (.cells (S6 a0 p0 a1 p1 a2 p2 a3 p3 a4 p4 m) 32)).alloc (.cells #[] 151))) := hide (((ba _ _)).alloc (by simp) _)
 have E0 : Hid (EntsAt w.heap.size ((w.alloc (.cells (S6 a0 p0 a1 p1 a2 p2 a3 p3 a4 p4 m) 32)).alloc (.cells #[] 151)) (.slice (some ⟨w.heap.size + 1, 0, none⟩) 0 0) []) := hide (ents_empty (by simp) (by omega))
 go_enter Tryz.func121, Tryz.ntmps121
 go_wp2_with fail
 go_loopw [5, 6] (fun q i wr => ∃ k : Nat, k ≤ m.smiths.length ∧ i = .int .i64 k ∧ EntsAt w.heap.size wr q (atV m.smiths b k) ∧ Blk wr w.heap.size 32 (S6 a0 p0 a1 p1 a2 p2 a3 p3 a4 p4 m) ∧ Below w.heap.size w wr) (fun _ i _ => m.smiths.length - (intOf i).toNat)
 case atStart => exact ⟨0, Nat.zero_le _, rfl, uh E0, uh kb0, uh BB0⟩
 case round =>
  obtain ⟨k, hk, rfl, he, kb1, hb1⟩ := hrel
  obtain ⟨qa, qcap, rfl⟩ := EntsAt.shape he
  have kb := hide kb1
  have BB := hide hb1
  have He := hide he
  clear kb1 hb1 he kb0 BB0 E0
  have hal := atV_len m.smiths b k
  have c2 := (uh kb).cell (i := 2) (v := .slice a2 m.smiths.length p2) rfl
  by_cases hls : k < m.smiths.length
  ·rcases uh R2 with e0 | ⟨sb, off, rfl, hbw, hcl⟩
   ·rw [e0] at hls; simp at hls
   obtain ⟨d0, d1, d2, d3, d4, d5, d6, d7, d8, d9, d10⟩ := smith_cells hcl hls
   rw [← (uh BB).cell (p := ⟨sb, off + k * 11, none⟩) hbw] at d0
   rw [← (uh BB).cell (p := ⟨sb, off + k * 11 + 1, none⟩) hbw] at d1
   rw [← (uh BB).cell (p := ⟨sb, off + k * 11 + 2, none⟩) hbw] at d2
   rw [← (uh BB).cell (p := ⟨sb, off + k * 11 + 3, none⟩) hbw] at d3
   rw [← (uh BB).cell (p := ⟨sb, off + k * 11 + 4, none⟩) hbw] at d4
   rw [← (uh BB).cell (p := ⟨sb, off + k * 11 + 5, none⟩) hbw] at d5
   rw [← (uh BB).cell (p := ⟨sb, off + k * 11 + 6, none⟩) hbw] at d6
   rw [← (uh BB).cell (p := ⟨sb, off + k * 11 + 7, none⟩) hbw] at d7
   rw [← (uh BB).cell (p := ⟨sb, off + k * 11 + 8, none⟩) hbw] at d8
   rw [← (uh BB).cell (p := ⟨sb, off + k * 11 + 9, none⟩) hbw] at d9
   rw [← (uh BB).cell (p := ⟨sb, off + k * 11 + 10, none⟩) hbw] at d10
   clear hcl
   have S1 := hide (fun hs => atV_no (ss := m.smiths) (b := b) (k := k) hs)
   have S2 := hide (fun h1 h2 => atV_yes (ss := m.smiths) (b := b) (k := k) h1 h2)
   generalize recAt m.smiths k = ss at *
   obtain ⟨st, be, rk, my, gu, lo, hi, hd, ca, ut, wk⟩ := ss
   simp only at d0 d1 d2 d3 d4 d5 d6 d7 d8 d9 d10
   have hl0 : w.heap.size < wr.heap.size := (uh kb).lt
   by_cases hbe : be = b
   rotate_left
   ·have hbn : (be == b) = false := by simpa using hbe
    go_wp2_with fail
    go_roundw
    case rel => exact ⟨k + 1, by omega, by go_num, by rw [uh S1 (fun h9 => hbe h9.1)]; exact EntsAt.later (uh He) ((ba _ _)), (uh kb).alloc _, (uh BB).alloc (uh BB).size _⟩
    case measure => exact ms
   subst hbe
   have hbn : (be == be) = true := by simp
   obtain ⟨ps, hps⟩ : ∃ q, presS (st, be, rk, my, gu, lo, hi, hd, ca, ut, wk) = q := ⟨_, rfl⟩
   have Hps := hide hps
   clear hps
   go_wp2_with fail
   clear c2 d0 d1 d2 d3 d4 d5 d6 d7 d8 d9 d10
   refine ck (l11Present_q (uh Hps) _) fun w2 hb => ?_
   have ks : Hid (Blk w2 wr.heap.size 39 (I11 st be rk my gu lo hi hd ca ut wk)) := hide ((Blk.new wr _ _).below hb (by simp))
   replace kb := hide (((uh kb).alloc (.cells (I11 st be rk my gu lo hi hd ca ut wk) 39)).below hb (by simp; omega))
   have hba := ((Below.refl wr.heap.size wr).alloc (Nat.le_refl _) (.cells (I11 st be rk my gu lo hi hd ca ut wk) 39)).trans (hb.mono (by simp))
   replace He := hide (EntsAt.later (uh He) hba)
   replace BB := bt BB hba
   clear hb hl0 hba
   have d7 := (uh ks).cell (i := 7) (v := .int .i64 hd) rfl
   cases ps
   ·go_wp2_with fail
    go_roundw
    case rel => exact ⟨k + 1, by omega, by go_num, by rw [uh S1 (fun h9 => by have h8 := h9.2; rw [uh Hps] at h8; cases h8)]; exact uh He, uh kb, uh BB⟩
    case measure => exact ms
   go_wp2_with fail
   refine (l6Put_any hd (k : Int) (EntsAt.paces (uh He)) (by omega)).mono ?_
   rintro e w3 ⟨v3, rfl, he3, hb⟩
   have hsz := (uh BB).size
   have he4 := EntsAt.mono he3 hsz
   replace kb := bl kb hb
   replace BB := hide ((uh BB).trans (hb.mono hsz))
   obtain ⟨qa3, qcap3, rfl⟩ := EntsAt.shape he4
   have He4 := hide he4
   clear hb he3 he4 d7
   go_wp2_with fail
   go_roundw
   case rel => exact ⟨k + 1, by omega, by go_num, by rw [uh S2 (by first | rfl | trivial) (uh Hps)]; exact uh He4, uh kb, uh BB⟩
   case measure => exact ms
  ·obtain rfl : k = m.smiths.length := by omega
   go_wp2_with fail
   go_ret
   exact ⟨_, rfl, uh He, uh BB⟩
structure Guilded (m : SmyV) : Prop where
 guilds : guildsB m.guilds = true
 lo : ∀ i, i < m.smiths.length → (recAt m.smiths i).1 ≠ 0 → -1 ≤ (recAt m.smiths i).2.2.2.2.1
 hi : ∀ i, i < m.smiths.length → (recAt m.smiths i).1 ≠ 0 → (recAt m.smiths i).2.2.2.2.1 < m.guilds.length
structure Sane (m : SmyV) : Prop where
 hall : hallB m.rooms = true
 desks : (m.desks.length : Int) = benchSum m.rooms
 guilded : Guilded m
 few : m.smiths.length ≤ 12
theorem Sane.bench {m : SmyV} (h : Sane m) {b : Nat} (hb : b < m.desks.length) : isBench m.rooms (b : Int) = true := isBench_t h.hall (by omega) (by have := h.desks; omega)
theorem Sane.eight {m : SmyV} (h : Sane m) : m.desks.length ≤ 8 := by have := (hallB_of h.hall).2.2.2; have := h.desks; omega
theorem Loose.sane {m : SmyV} (h : Loose m) : Sane m := by
 have hd := h.head
 unfold headB at hd
 simp only [Bool.and_eq_true, decide_eq_true_eq] at hd
 obtain ⟨h1, h2, h3, h4, _⟩ := hd
 refine ⟨h1, h4, ⟨h2, fun i hi hs => ?_, fun i hi hs => (h.limits hi hs).2.1⟩, h3⟩
 have hp := (h.limits hi hs).1
 generalize recAt m.smiths i = s at *
 obtain ⟨st, be, rk, my, gu, lo', hi', hd, ca, ut, wk⟩ := s
 exact (presB_of hp).2.2.2.2.1.1
end Go.Proofs.YtffcgajndmhpkaaGreatDoor
