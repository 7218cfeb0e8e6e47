/- What the proof rests on, part 22: lists and numbers, how they lie in memory, and contracts of the calls. No condition but those that a theorem names. -/
import Derived.Test.YtmhagllddhjgmabGreatXu01
import Derived.Test.YtmhagllddhjgmabGreatXu11
import Derived.Test.YtmhagllddhjgmabGreatXu21
import Derived.Deep.RegionLawGrows
import Derived.WalkKit
import Derived.ProofKit
import Derived.OpenShut
import Derived.Outline
import Derived.Deep.RegionHeld3
import Derived.Deep.DrawnRows
import Derived.BigRegion
import Derived.Deep.QuietTactic
import Derived.BigQuiet
import Derived.Laws.OwnMore
import Derived.OwnWalk
import Derived.Lib.QuietBelow
import Derived.Maps.AppendAt
/- Contracts of the heap's methods Pop and Push. Conditions: those that each theorem names. -/
namespace Go.Proofs.YtmhagllddhjgmabGreat
open Go.ChangeShapes Go.WideShapes Go.ChangeAt Go.RowKit Go.Sort
set_option linter.unusedVariables false

theorem setBox {n₀ bx : Nat} {v v' : Value} {w W : World} {ps qs : List PaceV} (h : HeapIs n₀ bx v w ps) (hb : Fr bx v.ownBlock w W) (hc : W.cell? ⟨bx, 0, none⟩ = some v) (hf : W.frozen? ⟨bx, 0, none⟩ = false) (hr : EntsAt n₀ W v' qs) (ho : v'.ownBlock ≠ some bx) :
    HeapIs n₀ bx v' (W.setCell ⟨bx, 0, none⟩ v') qs ∧ Fr bx v.ownBlock w (W.setCell ⟨bx, 0, none⟩ v') := by
  refine ⟨⟨World.cell?_setCell_same _ _ _ hc, by rw [World.frozen?_setCell]; exact hf, by simpa using Nat.lt_of_lt_of_le h.lt hb.size, hr.same fun k hk => Below.heap_setCell W ⟨bx, 0, none⟩ v' k (fun e => ho (by rw [hk]; exact congrArg some e)), ho⟩, hb.trans (Fr.box W v')⟩

set_option maxRecDepth 100000 in
set_option maxHeartbeats 2000000 in
theorem popM_any {n₀ bx : Nat} {v : Value} {w : World} {ps : List PaceV} {m : Nat} (h : HeapIs n₀ bx v w ps) (hm : ps.length = m + 1) :
    Calls Tryz.prog 177 #[.pointer (some ⟨bx, 0, none⟩)] w fun e w' => e = .returned (.iface 65 (.agg #[.int .i64 (paceAt ps m).1, .int .i64 (paceAt ps m).2])) ∧ ∃ v', HeapIs n₀ bx v' w' (ps.take m) ∧ v'.ownBlock = v.ownBlock ∧ Fr bx v.ownBlock w w' := by
  have H := hide h
  obtain ⟨g, cap, rfl, hne, hlt, hn0, hnc, hcm, hcl, hfz⟩ := h.view (by omega)
  have hc := h.cell
  have hbf := h.free
  have hbx := h.lt
  obtain ⟨a0, a1⟩ := hcl m (by omega)
  have HL := hide (len_any h)
  clear hcl h hfz
  rw [hm] at hnc hc
  generalize paceAt ps m = p at *
  obtain ⟨f, z⟩ := p
  simp only at a0 a1
  have hn1 : g ≠ w.heap.size := Nat.ne_of_lt hlt
  have hn2 : bx ≠ w.heap.size := Nat.ne_of_lt hbx
  go_enter Tryz.func177, Tryz.ntmps177
  go_wp2_with fail
  refine (unhide HL).mono ?_
  rw [hm]
  rintro e w' ⟨rfl, h1⟩
  subst w'
  go_wp2_with fail
  go_ret
  have hcut := (unhide H).row.cut (n := m) (by omega) (by simp)
  obtain ⟨r1, r2⟩ := setBox (unhide H) (Fr.refl _ _ _) (unhide H).cell (unhide H).free hcut (by simpa [Value.ownBlock] using hne)
  exact ⟨rfl, .slice (some ⟨g, 0, none⟩) m cap, r1.later ((Below.refl _ _).alloc (Nat.le_refl _) _), rfl, r2.trans (Fr.of_below ((Below.refl _ _).alloc (Nat.le_refl _) _))⟩

/-- One entry appended to a row of the call's own, at a step of a region that draws its order. -/
theorem step_append_ent {ops : Array Oper} {o : Oper} {a : Act} {w : World} {K : Act → World → Prop} {Q : Exit → Act → World → Prop} {E : Prop} (hgd : o.guard = none) (s x : Operand) (t : TypeId) (ht : Tryz.prog.underlying t = some (.slice 65))
    (ho : o.op = .call { callee := .builtin .append, args := #[s, x], argTypes := #[t, t] }) (base : Nat)
    (v : Value) (ps : List PaceV) (hs : a.eval s = v) (hown : EntsAt base w v ps)
    (ad : Addr) (c : Nat) (f z : Int) (hx : a.eval x = .slice (some ad) 1 c) (hnews : ∀ (j : Nat) (u : Value), ([.int .i64 f, .int .i64 z] : List Value)[j]? = some u → w.cell? (ad.add j) = some u)
    (hb : ps.length ≤ 4000) (hbase : base ≤ w.heap.size)
    (h : ∀ v' w', EntsAt base w' v' (ps ++ [(f, z)]) → w.grownBy w' v.ownBlock → (v'.ownBlock = v.ownBlock ∨ v'.ownBlock = some w.heap.size) → K (a.put o.dst v') w') :
    if Region.wanted o (yielded ops a.tmps) = true then Oper.wp Tryz.prog o a w K Q else E := by
  have hw : Region.wanted o (yielded ops a.tmps) = true := by simp [Region.wanted, hgd]
  rw [if_pos hw]
  obtain ⟨i0, hi, hz0, hz1, hz2⟩ := info_parts infoEntry
  obtain ⟨v', w', hr, h2, h3, _, h5⟩ := run_append_own_at (P := Tryz.prog) w base t o.type 65 i0 (.agg #[.int .i64 0, .int .i64 0]) 2 16 ht hi hz0 hz1 hz2 rfl (by decide) v ps.length _ hown ad 1 c [.int .i64 f, .int .i64 z] rfl
    hnews (by simp [Value.oneCell']) (by simp only [maxLen]; omega) (by omega) hbase
  unfold Oper.wp execOp
  simp only [ho, resolve, invoke, builtin, Sem.run_bind, Sem.run_pure, Result.andThen_ok, List.map_toArray, List.map_cons, List.map_nil, hs, hx, hr]
  refine h v' w' ?_ h3 h5
  unfold EntsAt
  rw [pcells_append, List.length_append]
  exact h2
theorem two_new (w : World) (u u' : Value) (t : TypeId) (b : Nat) (hb : b = w.heap.size) : ∀ (j : Nat) (x : Value), ([u, u'] : List Value)[j]? = some x → (w.alloc (.cells #[u, u'] t)).cell? ((⟨b, 0, none⟩ : Addr).add j) = some x := by
  subst hb
  intro j x hj
  match j, hj with
  | 0, hj => simp at hj; subst hj; simp [Addr.add]
  | 1, hj => simp at hj; subst hj; simp [Addr.add]

theorem assert_ent (f z : Int) (w : World) : (Instr.typeAssert (.iface 65 (.agg #[.int .i64 f, .int .i64 z])) 20 65 false).run Tryz.prog w = .ok (.agg #[.int .i64 f, .int .i64 z]) w := by kernel_rfl

theorem HeapIs.after {n₀ bx : Nat} {v : Value} {w W W1 : World} {ps : List PaceV} (h : HeapIs n₀ bx v w ps) (hb : Below w.heap.size w W) (hg : W.grownBy W1 v.ownBlock) :
    W1.cell? ⟨bx, 0, none⟩ = some v ∧ W1.frozen? ⟨bx, 0, none⟩ = false ∧ Fr bx v.ownBlock w W1 := by
  have hk := hg.block bx (Nat.lt_of_lt_of_le h.lt hb.size) (fun e => h.off e.symm)
  exact ⟨(World.cell?_of_block (w := W) (a := ⟨bx, 0, none⟩) hk).trans ((hb.cell (p := ⟨bx, 0, none⟩) h.lt).trans h.cell), (World.frozen?_of_block (w := W) (a := ⟨bx, 0, none⟩) hk).trans ((hb.frozen (p := ⟨bx, 0, none⟩) h.lt).trans h.free), (Fr.of_below hb).trans (Fr.of_grown hg)⟩

set_option maxRecDepth 100000 in
set_option maxHeartbeats 2000000 in
theorem pushM_any {n₀ bx : Nat} {v : Value} {w : World} {ps : List PaceV} (f z : Int) (h : HeapIs n₀ bx v w ps) (hl : ps.length ≤ 1000) (hn : n₀ ≤ w.heap.size) :
    Calls Tryz.prog 178 #[.pointer (some ⟨bx, 0, none⟩), .iface 65 (.agg #[.int .i64 f, .int .i64 z])] w fun e w' => e = .returned (.tuple #[]) ∧ ∃ v', HeapIs n₀ bx v' w' (ps ++ [(f, z)]) ∧ (v'.ownBlock = v.ownBlock ∨ ∃ k, v'.ownBlock = some k ∧ w.heap.size ≤ k) ∧ Fr bx v.ownBlock w w' := by
  have H := hide h
  obtain ⟨a, cap, rfl⟩ := h.row.shape
  have hc := h.cell
  have hbf := h.free
  have hbx := h.lt
  clear h
  have hn2 : bx ≠ w.heap.size := Nat.ne_of_lt hbx
  have hta := assert_ent f z
  go_enter Tryz.func178, Tryz.ntmps178
  go_wp2_with fail
  go_region_law (refine step_append_ent rfl (.tmp 7) (.tmp 10) 140 Tryz.underlying140 rfl n₀ _ ps rfl ((unhide H).row.later (((Below.refl _ _).alloc (Nat.le_refl _) _).drew)) ⟨w.heap.size, 0, none⟩ _ f z rfl (two_new _ _ _ _ _ rfl) (by omega) (by simp; omega) ?_; intro v' w1 hown hgrow hat; obtain ⟨hc1, hf1, hfr⟩ := (unhide H).after (((Below.refl _ _).alloc (Nat.le_refl _) _).drew) hgrow; obtain ⟨a1, cap1, rfl⟩ := hown.shape)
  all_goals
    go_end0
    have hoff : (Value.slice a1 (ps ++ [(f, z)]).length cap1).ownBlock ≠ some bx := by
      rcases hat with e | e
      · rw [e]; exact (unhide H).off
      · rw [e]; simp; omega
    obtain ⟨r1, r2⟩ := setBox (unhide H) hfr hc1 hf1 hown hoff
    have hle : (ps ++ [(f, z)]).length = ps.length + 1 := by simp
    rw [hle] at r1 r2 hat
    refine ⟨rfl, _, r1, ?_, r2⟩
    rcases hat with e | e
    · exact .inl e
    · exact .inr ⟨_, e, by simp⟩

end Go.Proofs.YtmhagllddhjgmabGreat

/- Contracts of container/heap's up and down at the program's heap. Conditions: those that each theorem names. -/
namespace Go.Proofs.YtmhagllddhjgmabGreat
open Go.ChangeShapes Go.WideShapes Go.ChangeAt Go.RowKit Go.Sort
set_option linter.unusedVariables false

theorem m_len (a : Addr) (w : World) : (method 310 115 (.pointer (some a)) "Len").run Tryz.prog w = .ok (112, .pointer (some a)) w := by kernel_rfl
theorem m_less (a : Addr) (w : World) : (method 310 115 (.pointer (some a)) "Less").run Tryz.prog w = .ok (176, .pointer (some a)) w := by kernel_rfl
theorem m_swap (a : Addr) (w : World) : (method 310 115 (.pointer (some a)) "Swap").run Tryz.prog w = .ok (179, .pointer (some a)) w := by kernel_rfl
theorem m_push (a : Addr) (w : World) : (method 310 115 (.pointer (some a)) "Push").run Tryz.prog w = .ok (178, .pointer (some a)) w := by kernel_rfl
theorem m_pop (a : Addr) (w : World) : (method 310 115 (.pointer (some a)) "Pop").run Tryz.prog w = .ok (177, .pointer (some a)) w := by kernel_rfl

set_option maxRecDepth 100000 in
set_option maxHeartbeats 2000000 in
theorem up_any {n₀ bx : Nat} {v : Value} {w : World} {ps : List PaceV} {n j0 : Nat} (h : HeapIs n₀ bx v w ps) (hu : UpTo ps n j0) (hj0 : j0 < n) (hn : n ≤ ps.length) (hl : ps.length ≤ 1000) :
    Calls Tryz.prog 111 #[.iface 115 (.pointer (some ⟨bx, 0, none⟩)), .int .i64 j0] w fun e w' => e = .returned (.tuple #[]) ∧ ∃ qs, HeapIs n₀ bx v w' qs ∧ HeapTo qs n ∧ qs.Perm ps ∧ (∀ k, n ≤ k → paceAt qs k = paceAt ps k) ∧ Fr bx v.ownBlock w w' := by
  have H := hide h
  have HU := hide hu
  clear h hu
  go_enter Tryz.func111, Tryz.ntmps111
  go_wp2_with fail
  go_loopw [1, 4] (fun q _ wr => ∃ (j : Nat) (qs : List PaceV), j < n ∧ q = .int .i64 j ∧ HeapIs n₀ bx v wr qs ∧ UpTo qs n j ∧ qs.Perm ps ∧ (∀ k, n ≤ k → paceAt qs k = paceAt ps k) ∧ Fr bx v.ownBlock w wr) (fun q _ _ => (intOf q).toNat)
  case atStart => exact ⟨j0, ps, hj0, rfl, unhide H, unhide HU, List.Perm.refl _, fun _ _ => rfl, Fr.refl _ _ _⟩
  case round =>
    obtain ⟨j, qs, hj, rfl, hh, hup, hperm, hsame, hfr⟩ := hrel
    have hql : qs.length = ps.length := hperm.length_eq
    have Hh := hide hh
    have Hup := hide hup
    have Hpe := hide hperm
    have Hsa := hide hsame
    have Hfr := hide hfr
    clear hh hup hperm hsame hfr
    by_cases hz : j = 0
    · subst hz
      go_wp2_with fail
      go_end0
      exact ⟨rfl, qs, unhide Hh, (unhide Hup).done (.inl rfl), unhide Hpe, unhide Hsa, unhide Hfr⟩
    · obtain ⟨i, hi⟩ : ∃ i, i = (j - 1) / 2 := ⟨_, rfl⟩
      have hj1 : (0 : Int) ≤ (j : Int) - 1 := by omega
      have hpar : ((j : Int) - 1) / 2 = (i : Int) := by omega
      have hij : ((i : Int) == (j : Int)) = false := beq_eq_false_iff_ne.2 (by omega)
      have hm1 := m_less ⟨bx, 0, none⟩
      have hm2 := m_swap ⟨bx, 0, none⟩
      have hjl : j < qs.length := by omega
      have hil : i < qs.length := by omega
      have Hless := hide (less_any (unhide Hh) hjl hil)
      have Hi := hide hi
      clear hi
      cases hlt : ltB (paceAt qs j) (paceAt qs i)
      · go_wp2_with fail
        refine (unhide Hless).mono ?_
        rw [hlt]
        rintro e w1 ⟨rfl, hb1⟩
        have H1 := hide ((unhide Hh).later hb1)
        have F1 := hide ((unhide Hfr).trans (Fr.of_below hb1))
        clear hb1
        go_wp2_with fail
        go_end0
        exact ⟨rfl, qs, unhide H1, (unhide Hup).done (.inr (by rw [← unhide Hi]; exact hlt)), unhide Hpe, unhide Hsa, unhide F1⟩
      · go_wp2_with fail
        refine (unhide Hless).mono ?_
        rw [hlt]
        rintro e w1 ⟨rfl, hb1⟩
        have H1 := hide ((unhide Hh).later hb1)
        have F1 := hide ((unhide Hfr).trans (Fr.of_below hb1))
        clear hb1
        go_wp2_with fail
        refine (swap_any (unhide H1) hil hjl).mono ?_
        rintro e w2 ⟨rfl, hh2, hf2⟩
        have H2 := hide hh2
        have F2 := hide ((unhide F1).trans hf2)
        clear hh2 hf2
        have HS : Hid (UpTo (swp qs i j) n i) := hide (by rw [unhide Hi]; exact (unhide Hup).step (by omega) hj (by omega) (by rw [← unhide Hi]; exact hlt))
        have HA : Hid (∀ k, n ≤ k → paceAt (swp qs i j) k = paceAt ps k) := hide (fun k hk => by rw [swp_at hil hjl, if_neg (by omega), if_neg (by omega)]; exact unhide Hsa k hk)
        go_wp2_with fail
        go_roundw
        case rel => exact ⟨i, swp qs i j, by omega, rfl, unhide H2, unhide HS, (swp_perm hil hjl).trans (unhide Hpe), unhide HA, unhide F2⟩
        case measure => simp [intOf]; omega

end Go.Proofs.YtmhagllddhjgmabGreat

/- A contract of container/heap's down at the program's heap. Conditions: those that the theorem names. -/
namespace Go.Proofs.YtmhagllddhjgmabGreat
open Go.ChangeShapes Go.WideShapes Go.ChangeAt Go.RowKit Go.Sort
set_option linter.unusedVariables false

/-- What down leaves: the first n are a heap where it answers true, else a heap but for i0. -/
def DownPost (n₀ bx : Nat) (v : Value) (w : World) (ps : List PaceV) (n i0 : Nat) (e : Ending) (w' : World) : Prop :=
  ∃ (b : Bool) (qs : List PaceV), e = .returned (.bool b) ∧ HeapIs n₀ bx v w' qs ∧ qs.Perm ps ∧ (∀ k, n ≤ k → paceAt qs k = paceAt ps k) ∧ Fr bx v.ownBlock w w' ∧ (b = true → HeapTo qs n) ∧ (b = false → UpTo qs n i0)
theorem down_end {n₀ bx : Nat} {v : Value} {w wr : World} {ps qs : List PaceV} {n i0 i : Nat} (hi : i0 ≤ i) (hh : HeapIs n₀ bx v wr qs) (hdn : DnTo qs n i0 i) (hp : qs.Perm ps) (hs : ∀ k, n ≤ k → paceAt qs k = paceAt ps k) (hf : Fr bx v.ownBlock w wr)
    (hd : ∀ k, 0 < k → k < n → (k - 1) / 2 = i → ltB (paceAt qs k) (paceAt qs i) = false) : DownPost n₀ bx v w ps n i0 (.returned (.bool (decide (i0 < i)))) wr := by
  refine ⟨_, qs, rfl, hh, hp, hs, hf, fun h => ?_, fun h => ?_⟩
  · have := of_decide_eq_true h
    exact hdn.moved (by omega) hd
  · have := of_decide_eq_false h
    obtain rfl : i = i0 := by omega
    exact hdn.still hd
theorem kid {k i : Nat} (h0 : 0 < k) (h : (k - 1) / 2 = i) : k = 2 * i + 1 ∨ k = 2 * i + 2 := by omega

set_option maxRecDepth 100000 in
set_option maxHeartbeats 4000000 in
theorem down_any {n₀ bx : Nat} {v : Value} {w : World} {ps : List PaceV} {n i0 : Nat} (h : HeapIs n₀ bx v w ps) (hu : DnTo ps n i0 i0) (hi0 : i0 ≤ n) (hn : n ≤ ps.length) (hl : ps.length ≤ 1000) :
    Calls Tryz.prog 137 #[.iface 115 (.pointer (some ⟨bx, 0, none⟩)), .int .i64 i0, .int .i64 n] w (DownPost n₀ bx v w ps n i0) := by
  have H := hide h
  have HU := hide hu
  have hm1 := m_less ⟨bx, 0, none⟩
  have hm2 := m_swap ⟨bx, 0, none⟩
  clear h hu
  go_enter Tryz.func137, Tryz.ntmps137
  go_wp2_with fail
  go_loopw [7] (fun q wr => ∃ (i : Nat) (qs : List PaceV), i0 ≤ i ∧ i ≤ n ∧ q = .int .i64 i ∧ HeapIs n₀ bx v wr qs ∧ DnTo qs n i0 i ∧ qs.Perm ps ∧ (∀ k, n ≤ k → paceAt qs k = paceAt ps k) ∧ Fr bx v.ownBlock w wr) (fun q _ => n - (intOf q).toNat)
  case atStart => exact ⟨i0, ps, Nat.le_refl _, hi0, rfl, unhide H, unhide HU, List.Perm.refl _, fun _ _ => rfl, Fr.refl _ _ _⟩
  case round =>
    obtain ⟨i, qs, hii, hin, rfl, hh, hdn, hperm, hsame, hfr⟩ := hrel
    have hql : qs.length = ps.length := hperm.length_eq
    have Hh := hide hh
    have Hdn := hide hdn
    have Hpe := hide hperm
    have Hsa := hide hsame
    have Hfr := hide hfr
    clear hh hdn hperm hsame hfr
    obtain ⟨j1, hj1⟩ : ∃ j1, j1 = 2 * i + 1 := ⟨_, rfl⟩
    obtain ⟨j2, hj2⟩ : ∃ j2, j2 = 2 * i + 2 := ⟨_, rfl⟩
    have e1 : 2 * (i : Int) + 1 = (j1 : Int) := by omega
    have e2 : (j1 : Int) + 1 = (j2 : Int) := by omega
    have Hj1 := hide hj1
    have Hj2 := hide hj2
    by_cases hn1 : n ≤ j1
    · have hg1 : (n : Int) ≤ (j1 : Int) := by omega
      clear hj1 hj2
      go_wp2_with fail
      go_ret
      exact down_end hii (unhide Hh) (unhide Hdn) (unhide Hpe) (unhide Hsa) (unhide Hfr) (fun k k0 kn kp => by have := kid k0 kp; have := unhide Hj1; omega)
    · have hg1 : ¬ (n : Int) ≤ (j1 : Int) := by omega
      have hg2 : ¬ (j1 : Int) < 0 := by omega
      have hil : i < qs.length := by omega
      have hjl : j1 < qs.length := by omega
      have hij1 : i < j1 := by omega
      by_cases hn2 : j2 < n
      · have hg3 : (j2 : Int) < (n : Int) := by omega
        have hkl : j2 < qs.length := by omega
        have hij2 : i < j2 := by omega
        clear hj1 hj2
        have HL := hide (less_any (unhide Hh) hkl hjl)
        cases hlt : ltB (paceAt qs j2) (paceAt qs j1)
        · have HM : Hid (∀ k, 0 < k → k < n → (k - 1) / 2 = i → ltB (paceAt qs k) (paceAt qs j1) = false) := hide (fun k k0 kn kp => by
            have e3 := unhide Hj1; have e4 := unhide Hj2
            rcases kid k0 kp with e | e
            · rw [show k = j1 by omega]; exact ltB_self _
            · rw [show k = j2 by omega]; exact hlt)
          have HP : Hid ((j1 - 1) / 2 = i) := hide (by have := unhide Hj1; omega)
          go_wp2_with fail
          refine (unhide HL).mono ?_
          rw [hlt]
          rintro e w1 ⟨rfl, hb1⟩
          have H1 := hide ((unhide Hh).later hb1)
          have F1 := hide ((unhide Hfr).trans (Fr.of_below hb1))
          clear hb1 hlt HL Hh Hfr
          have HL2 := hide (less_any (unhide H1) hjl hil)
          cases hlt2 : ltB (paceAt qs j1) (paceAt qs i)
          · go_wp2_with fail
            refine (unhide HL2).mono ?_
            rw [hlt2]
            rintro e w2 ⟨rfl, hb2⟩
            have H2 := hide ((unhide H1).later hb2)
            have F2 := hide ((unhide F1).trans (Fr.of_below hb2))
            clear hb2 HL2
            go_wp2_with fail
            go_ret
            exact down_end hii (unhide H2) (unhide Hdn) (unhide Hpe) (unhide Hsa) (unhide F2) (fun k k0 kn kp => ltB_le hlt2 (unhide HM k k0 kn kp))
          · go_wp2_with fail
            refine (unhide HL2).mono ?_
            rw [hlt2]
            rintro e w2 ⟨rfl, hb2⟩
            have H2 := hide ((unhide H1).later hb2)
            have F2 := hide ((unhide F1).trans (Fr.of_below hb2))
            clear hb2 HL2
            go_wp2_with fail
            refine (swap_any (unhide H2) hil hjl).mono ?_
            rintro e w3 ⟨rfl, hh3, hf3⟩
            have H3 := hide hh3
            have F3 := hide ((unhide F2).trans hf3)
            clear hh3 hf3
            have HS : Hid (DnTo (swp qs i j1) n i0 j1) := hide ((unhide Hdn).step hii (by omega) (unhide HP) (by omega) (by omega) hlt2 (unhide HM))
            have HA : Hid (∀ k, n ≤ k → paceAt (swp qs i j1) k = paceAt ps k) := hide (fun k hk => by rw [swp_at hil hjl, if_neg (by omega), if_neg (by omega)]; exact unhide Hsa k hk)
            go_wp2_with fail
            go_roundw
            case rel => exact ⟨j1, swp qs i j1, by omega, by omega, rfl, unhide H3, unhide HS, (swp_perm hil hjl).trans (unhide Hpe), unhide HA, unhide F3⟩
            case measure => simp [intOf]; omega
        · have HM : Hid (∀ k, 0 < k → k < n → (k - 1) / 2 = i → ltB (paceAt qs k) (paceAt qs j2) = false) := hide (fun k k0 kn kp => by
            have e3 := unhide Hj1; have e4 := unhide Hj2
            rcases kid k0 kp with e | e
            · rw [show k = j1 by omega]; exact ltB_not hlt
            · rw [show k = j2 by omega]; exact ltB_self _)
          have HP : Hid ((j2 - 1) / 2 = i) := hide (by have := unhide Hj2; omega)
          go_wp2_with fail
          refine (unhide HL).mono ?_
          rw [hlt]
          rintro e w1 ⟨rfl, hb1⟩
          have H1 := hide ((unhide Hh).later hb1)
          have F1 := hide ((unhide Hfr).trans (Fr.of_below hb1))
          clear hb1 hlt HL Hh Hfr
          have HL2 := hide (less_any (unhide H1) hkl hil)
          cases hlt2 : ltB (paceAt qs j2) (paceAt qs i)
          · go_wp2_with fail
            refine (unhide HL2).mono ?_
            rw [hlt2]
            rintro e w2 ⟨rfl, hb2⟩
            have H2 := hide ((unhide H1).later hb2)
            have F2 := hide ((unhide F1).trans (Fr.of_below hb2))
            clear hb2 HL2
            go_wp2_with fail
            go_ret
            exact down_end hii (unhide H2) (unhide Hdn) (unhide Hpe) (unhide Hsa) (unhide F2) (fun k k0 kn kp => ltB_le hlt2 (unhide HM k k0 kn kp))
          · go_wp2_with fail
            refine (unhide HL2).mono ?_
            rw [hlt2]
            rintro e w2 ⟨rfl, hb2⟩
            have H2 := hide ((unhide H1).later hb2)
            have F2 := hide ((unhide F1).trans (Fr.of_below hb2))
            clear hb2 HL2
            go_wp2_with fail
            refine (swap_any (unhide H2) hil hkl).mono ?_
            rintro e w3 ⟨rfl, hh3, hf3⟩
            have H3 := hide hh3
            have F3 := hide ((unhide F2).trans hf3)
            clear hh3 hf3
            have HS : Hid (DnTo (swp qs i j2) n i0 j2) := hide ((unhide Hdn).step hii (by omega) (unhide HP) (by omega) (by omega) hlt2 (unhide HM))
            have HA : Hid (∀ k, n ≤ k → paceAt (swp qs i j2) k = paceAt ps k) := hide (fun k hk => by rw [swp_at hil hkl, if_neg (by omega), if_neg (by omega)]; exact unhide Hsa k hk)
            go_wp2_with fail
            go_roundw
            case rel => exact ⟨j2, swp qs i j2, by omega, by omega, rfl, unhide H3, unhide HS, (swp_perm hil hkl).trans (unhide Hpe), unhide HA, unhide F3⟩
            case measure => simp [intOf]; omega
      · have hg3 : ¬ (j2 : Int) < (n : Int) := by omega
        have HM : Hid (∀ k, 0 < k → k < n → (k - 1) / 2 = i → ltB (paceAt qs k) (paceAt qs j1) = false) := hide (fun k k0 kn kp => by
            have e3 := unhide Hj1; have e4 := unhide Hj2
            rcases kid k0 kp with e | e
            · rw [show k = j1 by omega]; exact ltB_self _
            · omega)
        have HP : Hid ((j1 - 1) / 2 = i) := hide (by have := unhide Hj1; omega)
        clear hj1 hj2
        have HL2 := hide (less_any (unhide Hh) hjl hil)
        cases hlt2 : ltB (paceAt qs j1) (paceAt qs i)
        · go_wp2_with fail
          refine (unhide HL2).mono ?_
          rw [hlt2]
          rintro e w2 ⟨rfl, hb2⟩
          have H2 := hide ((unhide Hh).later hb2)
          have F2 := hide ((unhide Hfr).trans (Fr.of_below hb2))
          clear hb2 HL2
          go_wp2_with fail
          go_ret
          exact down_end hii (unhide H2) (unhide Hdn) (unhide Hpe) (unhide Hsa) (unhide F2) (fun k k0 kn kp => ltB_le hlt2 (unhide HM k k0 kn kp))
        · go_wp2_with fail
          refine (unhide HL2).mono ?_
          rw [hlt2]
          rintro e w2 ⟨rfl, hb2⟩
          have H2 := hide ((unhide Hh).later hb2)
          have F2 := hide ((unhide Hfr).trans (Fr.of_below hb2))
          clear hb2 HL2
          go_wp2_with fail
          refine (swap_any (unhide H2) hil hjl).mono ?_
          rintro e w3 ⟨rfl, hh3, hf3⟩
          have H3 := hide hh3
          have F3 := hide ((unhide F2).trans hf3)
          clear hh3 hf3
          have HS : Hid (DnTo (swp qs i j1) n i0 j1) := hide ((unhide Hdn).step hii (by omega) (unhide HP) (by omega) (by omega) hlt2 (unhide HM))
          have HA : Hid (∀ k, n ≤ k → paceAt (swp qs i j1) k = paceAt ps k) := hide (fun k hk => by rw [swp_at hil hjl, if_neg (by omega), if_neg (by omega)]; exact unhide Hsa k hk)
          go_wp2_with fail
          go_roundw
          case rel => exact ⟨j1, swp qs i j1, by omega, by omega, rfl, unhide H3, unhide HS, (swp_perm hil hjl).trans (unhide Hpe), unhide HA, unhide F3⟩
          case measure => simp [intOf]; omega

end Go.Proofs.YtmhagllddhjgmabGreat

