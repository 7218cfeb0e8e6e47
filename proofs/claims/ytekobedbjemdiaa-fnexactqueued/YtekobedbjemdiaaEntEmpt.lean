/- A contract of the heap that is emptied from its top: a rising list of all that was there, in memory of its own. Conditions: those that the theorem names. -/
import Derived.Test.YtekobedbjemdiaaEntApp
import Derived.Deep.LoopGhost
namespace Go.Proofs.Ytekobedbjemdiaa
open Go.ChangeShapes Go.WideShapes Go.ChangeAt Go.RowKit Go.Sort
set_option linter.unusedVariables false

theorem empt_step {ps qs hs hs' : List PaceV} (hr : Ris qs) (hle : ∀ x ∈ qs, ∀ y ∈ hs, ltB y x = false) (hh : HeapTo hs hs.length) (hl : 0 < hs.length) (hp : (qs ++ hs).Perm ps) (hp' : (hs' ++ [paceAt hs 0]).Perm hs) :
    Ris (qs ++ [paceAt hs 0]) ∧ (∀ x ∈ qs ++ [paceAt hs 0], ∀ y ∈ hs', ltB y x = false) ∧ ((qs ++ [paceAt hs 0]) ++ hs').Perm ps := by
  have hsub : ∀ y ∈ hs', y ∈ hs := fun y hy => hp'.subset (List.mem_append_left _ hy)
  refine ⟨ris_snoc hr (fun y hy => hle y hy _ (paceAt_mem hl)), fun x hx y hy => ?_, ?_⟩
  · rcases List.mem_append.1 hx with hx | hx
    · exact hle x hx y (hsub y hy)
    · obtain rfl : x = paceAt hs 0 := by simpa using hx
      obtain ⟨k, hk, rfl⟩ := mem_paceAt (hsub y hy)
      exact hh.least k hk
  · rw [List.append_assoc]
    exact ((List.perm_append_comm (l₁ := [paceAt hs 0]) (l₂ := hs')).trans hp').append_left qs |>.trans hp

set_option maxRecDepth 100000 in
set_option maxHeartbeats 4000000 in
theorem emptied_any {n₀ bx : Nat} {v : Value} {w : World} {ps : List PaceV} (h : HeapIs n₀ bx v w ps) (hp : HeapTo ps ps.length) (hl : ps.length ≤ 900) (hx : n₀ ≤ bx) (hn : n₀ ≤ w.heap.size) :
    Calls Try.prog 36 #[.pointer (some ⟨bx, 0, none⟩)] w fun e w' => ∃ v' qs, e = .returned v' ∧ EntsAt w.heap.size w' v' qs ∧ Ris qs ∧ qs.Perm ps ∧ Below n₀ w w' := by
  have H := hide h
  have HP := hide hp
  have hbx := h.lt
  have HO : Hid (∀ k, v.ownBlock = some k → n₀ ≤ k ∧ k < w.heap.size) := hide (fun k e => h.row.lt e)
  clear h hp
  go_enter Try.func36, Try.ntmps36
  go_wp2_with fail
  go_loopg [3] ps.length (fun gg q wr => ∃ (vh : Value) (qs hs : List PaceV), hs.length ≤ gg ∧ EntsAt w.heap.size wr q qs ∧ HeapIs n₀ bx vh wr hs ∧ HeapTo hs hs.length ∧ Ris qs ∧ (∀ x ∈ qs, ∀ y ∈ hs, ltB y x = false) ∧ (qs ++ hs).Perm ps ∧ vh.ownBlock = v.ownBlock ∧ Below n₀ w wr)
  case atStart => exact ⟨v, [], ps, Nat.le_refl _, ents_empty rfl (Nat.le_refl _), (unhide H).later ((Below.refl _ _).alloc (Nat.le_refl _) _), unhide HP, List.Pairwise.nil, fun _ hx => (by cases hx), List.Perm.refl _, rfl, (Below.refl _ _).alloc hn _⟩
  case round =>
    obtain ⟨vh, qs, hs, hgg, hq, hh, hto, hris, hle, hperm, hob, hbel⟩ := hrel
    have hlen : qs.length + hs.length = ps.length := by have := hperm.length_eq; simpa using this
    obtain ⟨qa, qcap, rfl⟩ := hq.shape
    have Hq := hide hq
    have Hh := hide hh
    have Hto := hide hto
    have Hris := hide hris
    have Hle := hide hle
    have Hpe := hide hperm
    have Hob := hide hob
    have Hbel := hide hbel
    have hsz := hbel.size
    clear hq hh hto hris hle hperm hob hbel
    by_cases h0 : hs.length = 0
    · have hz : ¬ (0 : Int) < (hs.length : Int) := by omega
      go_wp2_with fail
      refine (len_any (unhide Hh)).mono ?_
      rintro e w' ⟨rfl, h2⟩
      subst w'
      go_wp2_with fail
      go_ret
      obtain rfl : hs = [] := List.eq_nil_of_length_eq_zero h0
      exact ⟨_, qs, rfl, unhide Hq, unhide Hris, by have := unhide Hpe; simpa using this, unhide Hbel⟩
    · obtain ⟨m, hm⟩ : ∃ m, hs.length = m + 1 := ⟨hs.length - 1, by omega⟩
      have hz : (0 : Int) < (hs.length : Int) := by omega
      go_wp2_with fail
      refine (len_any (unhide Hh)).mono ?_
      rintro e w' ⟨rfl, h2⟩
      subst w'
      go_wp2_with fail
      refine (heapPop_any (unhide Hh) (unhide Hto) hm (by omega)).mono ?_
      rintro e w1 ⟨rfl, v1, hs', hh1, hto1, hpe1, hob1, hf1⟩
      obtain ⟨s1, s2, s3⟩ := empt_step (unhide Hris) (unhide Hle) (unhide Hto) (by omega) (unhide Hpe) hpe1
      have hlen' : hs'.length + 1 = hs.length := by have := hpe1.length_eq; simpa using this
      generalize paceAt hs 0 = p at *
      obtain ⟨f, z⟩ := p
      have hta := assert_ent f z
      have S1 := hide s1
      have S2 := hide s2
      have S3 := hide s3
      have H1 := hide hh1
      have T1 := hide hto1
      have O1 : Hid (v1.ownBlock = v.ownBlock) := hide (hob1.trans (unhide Hob))
      have Q1 : Hid (EntsAt w.heap.size w1 (.slice qa qs.length qcap) qs) := hide ((unhide Hq).fr hf1 (fun e => by have := (unhide Hq).lt e; omega) (fun k e e2 => by have h8 := (unhide Hq).lt e; have h9 := unhide HO k ((unhide Hob).symm.trans e2); omega))
      have hz1 := hf1.size
      have B1 : Hid (Below n₀ w w1) := hide ((unhide Hbel).trans ((unhide Hh).below (v' := v1) (qs := hs) hf1 hx (by omega)))
      clear s1 s2 s3 hh1 hto1 hpe1 hob1 hf1 Hh Hto Hris Hle Hpe Hob Hbel Hq
      go_wp2_with (at_builtin; refine wpList_append_ents rfl (.tmp 8) (.tmp 13) 24 Try.underlying24 rfl w.heap.size _ _ qs [(f, z)] rfl rfl ((unhide Q1).later ((Below.refl _ _).alloc (Nat.le_refl _) _)) (ents_one rfl (Nat.le_refl _) (by omega)) (by simp; omega) (by simp; omega) ?_; intro v' w2 hown hgrow hat)
      have hb0 : Below w1.heap.size w1 (w1.alloc (.cells #[.int .i64 f, .int .i64 z] 26)) := (Below.refl _ _).alloc (Nat.le_refl _) _
      have hq0 : ∀ k, (Value.slice qa qs.length qcap).ownBlock = some k → w.heap.size ≤ k := fun k e => ((unhide Q1).lt e).1
      have hw2 : Below w.heap.size (w1.alloc (.cells #[.int .i64 f, .int .i64 z] 26)) w2 := (Below.refl _ _).grown hgrow (by simp; omega) (fun k e => hq0 k e)
      have hh2 : HeapIs n₀ bx v1 w2 hs' := by
        have h3 := (unhide H1).later hb0
        have hk := hw2.block bx hbx
        refine ⟨(World.cell?_of_block (a := ⟨bx, 0, none⟩) hk).trans h3.cell, (World.frozen?_of_block (a := ⟨bx, 0, none⟩) hk).trans h3.free, Nat.lt_of_lt_of_le h3.lt hw2.size, h3.row.same (fun k e => hw2.block k ?_), h3.off⟩
        exact (unhide HO k ((unhide O1).symm.trans e)).2
      have H2 := hide hh2
      have N2 := hide hown
      have B2 : Hid (Below n₀ w w2) := hide ((unhide B1).trans ((hb0.mono (by omega)).trans (hw2.mono hn)))
      clear hown hgrow hat hb0 hw2 hh2 hq0
      go_roundg (m)
      case measure => omega
      case rel => exact ⟨v1, qs ++ [(f, z)], hs', by omega, unhide N2, unhide H2, unhide T1, unhide S1, unhide S2, unhide S3, unhide O1, unhide B2⟩

end Go.Proofs.Ytekobedbjemdiaa
