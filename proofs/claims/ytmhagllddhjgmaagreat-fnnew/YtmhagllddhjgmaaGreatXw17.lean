/- What the proof rests on, part 17: lists and numbers, how they lie in memory, and contracts of the calls. No condition but those that a theorem names. -/
import Derived.Test.YtmhagllddhjgmaaGreatXw01
import Derived.Test.YtmhagllddhjgmaaGreatXw02
import Derived.Test.YtmhagllddhjgmaaGreatXw03
import Derived.Test.YtmhagllddhjgmaaGreatXw12
import Derived.Test.YtmhagllddhjgmaaGreatXw13
import Derived.Test.YtmhagllddhjgmaaGreatXw14
import Derived.Test.YtmhagllddhjgmaaGreatXw15
import Derived.Test.YtmhagllddhjgmaaGreatXw16
import Derived.WalkKit
import Derived.ProofKit
import Derived.OpenShut
import Derived.Outline
import Derived.Deep.QuietTactic
import Derived.BigQuiet
import Derived.Deep.RegionWith
import Derived.Laws.OwnMore
import Derived.OwnWalk
import Derived.Maps.AppendAt
import Derived.Deep.DeepMust
import Derived.Lib.QuietBelow
import Derived.Lib.ItoaNum
import Derived.Lib.ItoaLen
import Derived.Lib.AtoiTie
import Derived.Lib.ParseIntBTie
import Derived.Lib.SplitLaws
import Derived.Lib.Join
/- Contract of the draw of any hall (l4DrawAny): a hall that can be read and has a room. Condition: the bytes of the draw can be read and are at most 4096. -/
namespace Go.Proofs.YtmhagllddhjgmaaGreat
open Go.ChangeShapes Go.WideShapes Go.ChangeAt Go.RowKit Go.Sort
open Draw (St Off Row Cur)
set_option linter.unusedVariables false

/-- One to six. -/
def FewR (rs : List RoomV) : Prop := 1 ≤ rs.length ∧ rs.length ≤ 6
theorem rooms_of {n₀ : Nat} {w : World} {v : Value} {qs : List (RoomV × Value)} (hrow : w.ownsRow n₀ 95 2 v qs.length (rcells qs)) (hps : ∀ q ∈ qs, IsPaces w q.2 q.1.2 ∧ ∀ k, q.2.ownBlock = some k → n₀ ≤ k) : RoomsFrom n₀ w v (qs.map (·.1)) := by
  have hlen : (qs.map (·.1)).length = qs.length := by simp
  have h' := hrow
  rcases hrow.2 with ⟨rfl, hz⟩ | ⟨g, cap, cur, rfl, hb, hg, hnc, hcm, r⟩
  · exact ⟨none, 0, by rw [hlen, hz], by omega, by omega, .inl (by rw [List.eq_nil_of_length_eq_zero hz]; rfl)⟩
  · refine ⟨_, cap, by rw [hlen], by rw [hlen]; exact hnc, by unfold maxLen at hcm; omega, .inr ⟨g, 0, rfl, hb, (Array.getElem?_eq_some_iff.1 hg).1, fun k hk => ?_⟩⟩
    rw [hlen] at hk
    have hp := pairs_get (f := fun q : RoomV × Value => Value.int .i64 q.1.1) (g := fun q : RoomV × Value => q.2) qs k hk
    have hat : roomAt (qs.map (·.1)) k = qs[k].1 := by unfold roomAt; simp [List.getD, hk]
    rw [Nat.zero_add, hat]
    exact ⟨(World.ownsRow.cellAt h' (k * 2) (by omega)).trans hp.1, qs[k].2, (World.ownsRow.cellAt h' (k * 2 + 1) (by omega)).trans hp.2, hps _ (List.getElem_mem hk)⟩
theorem rcells_set (b : Int) (x : List PaceV) : ∀ (qs : List (RoomV × Value)) (j : Nat) (h : j < qs.length), (rcells qs).set (j * 2) (.int .i64 b) = rcells (qs.set j ((b, x), qs[j].2))
  | q :: qs, 0, _ => by simp [rcells]
  | q :: qs, j + 1, h => by
    have ih := rcells_set b x qs j (by simpa using h)
    unfold rcells at ih ⊢
    rw [List.flatMap_cons, show (j + 1) * 2 = j * 2 + 2 by omega]
    simpa using ih
theorem rcells_keep (x : List PaceV) : ∀ (qs : List (RoomV × Value)) (j : Nat) (h : j < qs.length), rcells (qs.set j ((qs[j].1.1, x), qs[j].2)) = rcells qs
  | q :: qs, 0, _ => by simp [rcells]
  | q :: qs, j + 1, h => by
    have ih := rcells_keep x qs j (by simpa using h)
    unfold rcells at ih ⊢
    simpa using ih
/-- A room's benches are written. -/
theorem own_bench {n₀ g cap : Nat} {w : World} {qs : List (RoomV × Value)} (h : OwnHall n₀ w (.slice (some ⟨g, 0, none⟩) qs.length cap) qs) {j : Nat} (hj : j < qs.length) (h3 : qs.length ≤ 3) (b : Int) :
    ∃ rs, FewR rs ∧ RoomsFrom n₀ (w.setCell ⟨g, j * 2, none⟩ (.int .i64 b)) (.slice (some ⟨g, 0, none⟩) qs.length cap) rs := by
  have hst := (World.ownsRow.stored h.row (j * 2) (.int .i64 b)).1
  rw [rcells_set b qs[j].1.2 qs j hj] at hst
  refine ⟨(qs.set j ((b, qs[j].1.2), qs[j].2)).map (·.1), by unfold FewR; rw [List.length_map, List.length_set]; omega, ?_⟩
  have := rooms_of (n₀ := n₀) (w := w.setCell ⟨g, j * 2, none⟩ (.int .i64 b)) (v := .slice (some ⟨g, 0, none⟩) qs.length cap) (qs := qs.set j ((b, qs[j].1.2), qs[j].2)) (by simpa using hst) (fun q hq => by
    have hold : ∀ q ∈ qs, IsPaces (w.setCell ⟨g, j * 2, none⟩ (.int .i64 b)) q.2 q.1.2 ∧ ∀ k, q.2.ownBlock = some k → n₀ ≤ k := fun q hq => ⟨((h.paces q hq).paces).set _ _ _ (fun k e e' => h.off q hq k e (by rw [e']; rfl)), fun k e => ((h.paces q hq).lt e).1⟩
    rcases List.mem_or_eq_of_mem_set hq with hq | rfl
    · exact hold q hq
    · exact hold qs[j] (List.getElem_mem hj))
  exact this
/-- One number of a room's first pace is written. -/
theorem own_pace {n₀ gp pcap o : Nat} {w : World} {v : Value} {qs : List (RoomV × Value)} (h : OwnHall n₀ w v qs) {j : Nat} (hj : j < qs.length) (hp : 1 ≤ qs[j].1.2.length) (hpv : qs[j].2 = .slice (some ⟨gp, 0, none⟩) qs[j].1.2.length pcap) (ho : o = 0 ∨ o = 1) (h3 : qs.length ≤ 3) (x : Int) :
    ∃ rs, FewR rs ∧ RoomsFrom n₀ (w.setCell ⟨gp, o, none⟩ (.int .i64 x)) v rs := by
  have hpj := h.paces qs[j] (List.getElem_mem hj)
  unfold PacesAt at hpj
  have hb : qs[j].2.ownBlock = some gp := by rw [hpv]; rfl
  obtain ⟨ps', hps'⟩ : ∃ ps', IsPaces (w.setCell ⟨gp, o, none⟩ (.int .i64 x)) qs[j].2 ps' := by
    rw [hpv] at hpj ⊢
    have hst := (World.ownsRow.stored hpj o (.int .i64 x)).1
    generalize qs[j].1.2 = ps at *
    cases ps with
    | nil => simp at hp
    | cons p ps =>
      refine ⟨(if o = 0 then (x, p.2) else (p.1, x)) :: ps, ?_⟩
      refine PacesAt.paces (n₀ := n₀) ?_
      unfold PacesAt
      rcases ho with rfl | rfl <;> simpa [pcells] using hst
  refine ⟨(qs.set j ((qs[j].1.1, ps'), qs[j].2)).map (·.1), by unfold FewR; rw [List.length_map, List.length_set]; omega, ?_⟩
  have hrow : (w.setCell ⟨gp, o, none⟩ (.int .i64 x)).ownsRow n₀ 95 2 v qs.length (rcells qs) := own_same h.row (fun k e => Below.heap_setCell w ⟨gp, o, none⟩ _ k (fun e' => h.off qs[j] (List.getElem_mem hj) gp hb (by rw [← show k = gp from e']; exact e)))
  refine rooms_of (n₀ := n₀) (by rw [rcells_keep ps' qs j hj]; simpa using hrow) (fun q hq => ?_)
  obtain ⟨i, hi, rfl⟩ := List.getElem_of_mem hq
  have hi' : i < qs.length := by simpa using hi
  rw [List.getElem_set]
  split
  · exact ⟨hps', fun k e => ((h.paces qs[j] (List.getElem_mem hj)).lt e).1⟩
  · rename_i hne
    refine ⟨((h.paces qs[i] (List.getElem_mem hi')).paces).set _ _ _ (fun k e e' => ?_), fun k e => ((h.paces qs[i] (List.getElem_mem hi')).lt e).1⟩
    subst e'
    have hap := List.pairwise_iff_getElem.1 h.apart
    rcases Nat.lt_or_gt_of_ne (show i ≠ j from fun e => hne e.symm) with hlt | hgt
    · exact hap i j (by simpa using hi') (by simpa using hj) hlt k (by simpa using e) (by simpa using hb)
    · exact hap j i (by simpa using hj) (by simpa using hi') hgt k (by simpa using hb) (by simpa using e)

/-- All rooms are put to them once more, and a box in block m is written. -/
theorem own_twice {n₀ m : Nat} {w w6 : World} {v v' : Value} {qs : List (RoomV × Value)} (h : OwnHall n₀ w v qs) (hM : ∀ k, (v.ownBlock = some k ∨ ∃ q ∈ qs, q.2.ownBlock = some k) → k < m) (hMw : m < w.heap.size)
    (hown : w6.ownsRow n₀ 95 2 v' (qs.length + qs.length) (rcells qs ++ rcells qs)) (hg : w.grownBy w6 v.ownBlock) (hat : v'.ownBlock = v.ownBlock ∨ v'.ownBlock = some w.heap.size) (hq : 1 ≤ qs.length) (h3 : qs.length ≤ 3) (u : Value) :
    ∃ rs, FewR rs ∧ RoomsFrom n₀ (w6.setCell ⟨m, 0, none⟩ u) v' rs := by
  refine ⟨(qs ++ qs).map (·.1), by unfold FewR; rw [List.length_map, List.length_append]; omega, ?_⟩
  have hrow : w6.ownsRow n₀ 95 2 v' (qs ++ qs).length (rcells (qs ++ qs)) := by simpa [rcells] using hown
  refine rooms_of (n₀ := n₀) (own_same hrow (fun k e => Below.heap_setCell w6 ⟨m, 0, none⟩ u k (fun e' => ?_))) (fun q hq' => ?_)
  · have e2 : k = m := e'
    rcases hat with hh | hh
    · have := hM k (.inl (by rw [← hh]; exact e)); omega
    · rw [hh] at e; simp at e; omega
  · have hq2 : q ∈ qs := by rcases List.mem_append.1 hq' with h | h <;> exact h
    have hold := h.paces q hq2
    have h6 : PacesAt n₀ w6 q.2 q.1.2 := own_same hold (fun k e => hg.block k (hold.lt e).2 (fun e' => h.off q hq2 k e e'.symm))
    exact ⟨(h6.paces).set _ _ _ (fun k e => by have := hM k (.inr ⟨q, hq2, e⟩); omega), fun k e => (hold.lt e).1⟩

theorem RoomsFrom.same {n₀ : Nat} {w w' : World} {v : Value} {rs : List RoomV} (h : RoomsFrom n₀ w v rs) (hz : w.heap.size ≤ w'.heap.size) (hs : ∀ k, n₀ ≤ k → k < w.heap.size → w'.heap[k]? = w.heap[k]?) : RoomsFrom n₀ w' v rs := by
  obtain ⟨a, cap, rfl, hc, hm, hr⟩ := h
  refine ⟨a, cap, rfl, hc, hm, ?_⟩
  rcases hr with hr | ⟨b, off, rfl, hn, hlt, hcl⟩
  · exact .inl hr
  · refine .inr ⟨b, off, rfl, hn, Nat.lt_of_lt_of_le hlt hz, fun k hk => ?_⟩
    have hcell : ∀ o, w'.cell? ⟨b, o, none⟩ = w.cell? ⟨b, o, none⟩ := fun o => World.cell?_of_block (w := w) (hs b hn hlt)
    obtain ⟨h1, pv, h2, h3, h4⟩ := hcl k hk
    refine ⟨(hcell _).trans h1, pv, (hcell _).trans h2, ?_, h4⟩
    obtain ⟨pa, pc, rfl, hpc, hpm, hpr⟩ := h3
    refine ⟨pa, pc, rfl, hpc, hpm, ?_⟩
    rcases hpr with hpr | ⟨pb, po, rfl, hplt, hpcl⟩
    · exact .inl hpr
    · have hpcell : ∀ o, w'.cell? ⟨pb, o, none⟩ = w.cell? ⟨pb, o, none⟩ := fun o => World.cell?_of_block (w := w) (hs pb (h4 pb rfl) hplt)
      exact .inr ⟨pb, po, rfl, Nat.lt_of_lt_of_le hplt hz, fun i hi => ⟨(hpcell _).trans (hpcl i hi).1, (hpcell _).trans (hpcl i hi).2⟩⟩
theorem RoomsFrom.later {n₀ : Nat} {w w' : World} {v : Value} {rs : List RoomV} (h : RoomsFrom n₀ w v rs) (hb : Below w.heap.size w w') : RoomsFrom n₀ w' v rs := h.same hb.size (fun k _ hk => hb.block k hk)
theorem OwnHall.from {n₀ : Nat} {w : World} {v : Value} {qs : List (RoomV × Value)} (h : OwnHall n₀ w v qs) : RoomsFrom n₀ w v (qs.map (·.1)) := rooms_of h.row (fun q hq => ⟨(h.paces q hq).paces, fun k e => ((h.paces q hq).lt e).1⟩)

end Go.Proofs.YtmhagllddhjgmaaGreat

