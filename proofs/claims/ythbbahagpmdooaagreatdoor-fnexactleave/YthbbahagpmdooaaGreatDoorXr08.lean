/- What the proof rests on, part 8: lists and numbers, how they lie in memory, and contracts of the calls. No condition but those that a theorem names. -/
import Derived.Test.YthbbahagpmdooaaGreatDoorXr01
import Derived.Test.YthbbahagpmdooaaGreatDoorXr02
import Derived.Test.YthbbahagpmdooaaGreatDoorXr03
import Derived.Test.YthbbahagpmdooaaGreatDoorXr07
import Derived.WalkMore
import Derived.Below
import Derived.WalkKit
import Derived.ProofKit
import Derived.OpenShut
import Derived.Outline
import Derived.Lib.QuietBelow
import Derived.Deep.RegionWith
import Derived.Deep.QuietTactic
import Derived.BigQuiet
import Derived.Laws.OwnMore
import Derived.OwnWalk
import Derived.Maps.AppendAt
import Derived.Lib.SmallJoins
import Derived.Deep.Fields
import Derived.Deep.Slices
/- Heaps and queues of pairs of numbers, as lists: the order, what a heap is and how it is mended, what queues are, how one is put in and taken out. Nothing of the program. -/
namespace Go.Proofs.YthbbahagpmdooaaGreatDoor
set_option linter.unusedVariables false

/-! ### The order of entries -/
/-- By Had, then by Who. -/
def ltB (a b : PaceV) : Bool := decide (a.1 < b.1 ∨ (a.1 = b.1 ∧ a.2 < b.2))
theorem ltB_t {a b : PaceV} : ltB a b = true ↔ (a.1 < b.1 ∨ (a.1 = b.1 ∧ a.2 < b.2)) := by unfold ltB; exact decide_eq_true_iff
theorem ltB_f {a b : PaceV} : ltB a b = false ↔ ¬ (a.1 < b.1 ∨ (a.1 = b.1 ∧ a.2 < b.2)) := by unfold ltB; exact decide_eq_false_iff_not
theorem ltB_self (a : PaceV) : ltB a a = false := by rw [ltB_f]; omega
theorem ltB_not {a b : PaceV} (h : ltB a b = true) : ltB b a = false := by rw [ltB_t] at h; rw [ltB_f]; omega
theorem ltB_le {a b c : PaceV} (h : ltB b a = false) (k : ltB c b = false) : ltB c a = false := by rw [ltB_f] at *; omega
theorem ltB_lt {a b c : PaceV} (h : ltB a b = true) (k : ltB b c = true) : ltB a c = true := by rw [ltB_t] at *; omega
theorem ltB_eq {a b : PaceV} (h : ltB b a = false) (k : ltB a b = false) : a = b := by
  rw [ltB_f] at *; obtain ⟨a1, a2⟩ := a; obtain ⟨b1, b2⟩ := b; simp only at h k; rw [show a1 = b1 by omega, show a2 = b2 by omega]

/-! ### Two change places -/
def swp (ps : List PaceV) (i j : Nat) : List PaceV := (ps.set i (paceAt ps j)).set j (paceAt ps i)
theorem swp_len (ps : List PaceV) (i j : Nat) : (swp ps i j).length = ps.length := by simp [swp]
theorem paceAt_set {ps : List PaceV} {i : Nat} {x : PaceV} (h : i < ps.length) (k : Nat) : paceAt (ps.set i x) k = if k = i then x else paceAt ps k := by
  unfold paceAt
  by_cases e : k = i
  · subst e; simp [List.getD, h]
  · rw [if_neg e]; simp [List.getD, Ne.symm e]
theorem swp_at {ps : List PaceV} {i j : Nat} (hi : i < ps.length) (hj : j < ps.length) (k : Nat) : paceAt (swp ps i j) k = if k = j then paceAt ps i else if k = i then paceAt ps j else paceAt ps k := by
  unfold swp
  rw [paceAt_set (by simpa using hj), paceAt_set hi]
theorem swp_perm {ps : List PaceV} {i j : Nat} (hi : i < ps.length) (hj : j < ps.length) : (swp ps i j).Perm ps := by
  have := List.set_set_perm hi hj
  unfold swp paceAt
  simpa [List.getD, hi, hj] using this

/-! ### Heaps -/
def HeapTo (ps : List PaceV) (n : Nat) : Prop := ∀ k, 0 < k → k < n → ltB (paceAt ps k) (paceAt ps ((k - 1) / 2)) = false
/-- A heap, but for j, which may be less than what is above it. -/
def UpTo (ps : List PaceV) (n j : Nat) : Prop :=
  (∀ k, 0 < k → k < n → k ≠ j → ltB (paceAt ps k) (paceAt ps ((k - 1) / 2)) = false) ∧
  (∀ k, 0 < k → k < n → (k - 1) / 2 = j → 0 < j → ltB (paceAt ps k) (paceAt ps ((j - 1) / 2)) = false)
/-- A heap, but for i, which may be greater than what is below it (and, where it has not been moved from i0, less than what is above it). -/
def DnTo (ps : List PaceV) (n i0 i : Nat) : Prop :=
  (∀ k, 0 < k → k < n → (k - 1) / 2 ≠ i → (k ≠ i0 ∨ i ≠ i0) → ltB (paceAt ps k) (paceAt ps ((k - 1) / 2)) = false) ∧
  (∀ k, 0 < k → k < n → (k - 1) / 2 = i → 0 < i → ltB (paceAt ps k) (paceAt ps ((i - 1) / 2)) = false)

theorem UpTo.done {ps : List PaceV} {n j : Nat} (h : UpTo ps n j) (hd : j = 0 ∨ ltB (paceAt ps j) (paceAt ps ((j - 1) / 2)) = false) : HeapTo ps n := fun k h0 hn => by
  by_cases e : k = j
  · subst e
    rcases hd with hd | hd
    · omega
    · exact hd
  · exact h.1 k h0 hn e
theorem UpTo.step {ps : List PaceV} {n j : Nat} (h : UpTo ps n j) (hj0 : 0 < j) (hj : j < n) (hn : n ≤ ps.length) (hl : ltB (paceAt ps j) (paceAt ps ((j - 1) / 2)) = true) : UpTo (swp ps ((j - 1) / 2) j) n ((j - 1) / 2) := by
  have hi : (j - 1) / 2 < j := by omega
  have at' := fun k => swp_at (ps := ps) (i := (j - 1) / 2) (j := j) (by omega) (by omega) k
  generalize hi' : (j - 1) / 2 = i at *
  have hp : ltB (paceAt ps i) (paceAt ps j) = false := ltB_not hl
  refine ⟨fun k k0 kn kne => ?_, fun k k0 kn kp i0 => ?_⟩
  · rw [at' k, at' ((k - 1) / 2)]
    by_cases e1 : k = j
    · subst e1
      rw [if_pos rfl, hi', if_neg (by omega), if_pos rfl]
      exact hp
    · rw [if_neg e1, if_neg kne]
      by_cases e2 : (k - 1) / 2 = j
      · rw [if_pos e2]
        have := h.2 k k0 kn e2 hj0
        rwa [hi'] at this
      · rw [if_neg e2]
        by_cases e3 : (k - 1) / 2 = i
        · rw [if_pos e3]
          have := h.1 k k0 kn e1
          rw [e3] at this
          exact ltB_le hp this
        · rw [if_neg e3]
          exact h.1 k k0 kn e1
  · rw [at' k, at' ((i - 1) / 2), if_neg (by omega : (i - 1) / 2 ≠ j), if_neg (by omega : (i - 1) / 2 ≠ i)]
    by_cases e1 : k = j
    · rw [if_pos e1]
      exact h.1 i i0 (by omega) (by omega)
    · rw [if_neg e1, if_neg (by omega)]
      have h1 := h.1 k k0 kn e1
      rw [kp] at h1
      exact ltB_le (h.1 i i0 (by omega) (by omega)) h1

theorem DnTo.still {ps : List PaceV} {n i : Nat} (h : DnTo ps n i i) (hd : ∀ k, 0 < k → k < n → (k - 1) / 2 = i → ltB (paceAt ps k) (paceAt ps i) = false) : UpTo ps n i :=
  ⟨fun k k0 kn kne => by
    by_cases e : (k - 1) / 2 = i
    · rw [e]; exact hd k k0 kn e
    · exact h.1 k k0 kn e (.inl kne), h.2⟩
theorem DnTo.moved {ps : List PaceV} {n i0 i : Nat} (h : DnTo ps n i0 i) (hm : i ≠ i0) (hd : ∀ k, 0 < k → k < n → (k - 1) / 2 = i → ltB (paceAt ps k) (paceAt ps i) = false) : HeapTo ps n := fun k k0 kn => by
  by_cases e : (k - 1) / 2 = i
  · rw [e]; exact hd k k0 kn e
  · exact h.1 k k0 kn e (.inr hm)
theorem DnTo.step {ps : List PaceV} {n i0 i j : Nat} (h : DnTo ps n i0 i) (hi0 : i0 ≤ i) (hj0 : 0 < j) (hji : (j - 1) / 2 = i) (hj : j < n) (hn : n ≤ ps.length) (hl : ltB (paceAt ps j) (paceAt ps i) = true)
    (hm : ∀ k, 0 < k → k < n → (k - 1) / 2 = i → ltB (paceAt ps k) (paceAt ps j) = false) : DnTo (swp ps i j) n i0 j := by
  have at' := fun k => swp_at (ps := ps) (i := i) (j := j) (by omega) (by omega) k
  have hp : ltB (paceAt ps i) (paceAt ps j) = false := ltB_not hl
  refine ⟨fun k k0 kn kne _ => ?_, fun k k0 kn kp _ => ?_⟩
  · rw [at' k, at' ((k - 1) / 2), if_neg kne]
    by_cases e1 : k = j
    · subst e1
      rw [if_pos rfl, if_pos hji]
      exact hp
    · rw [if_neg e1]
      by_cases e2 : k = i
      · subst e2
        rw [if_pos rfl, if_neg (by omega)]
        exact h.2 j hj0 hj hji k0
      · rw [if_neg e2]
        by_cases e3 : (k - 1) / 2 = i
        · rw [if_pos e3]
          exact hm k k0 kn e3
        · rw [if_neg e3]
          exact h.1 k k0 kn e3 (by omega)
  · rw [at' k, at' ((j - 1) / 2), hji, if_neg (by omega : k ≠ j), if_neg (by omega : k ≠ i), if_neg (by omega : i ≠ j), if_pos rfl]
    have := h.1 k k0 kn (by omega) (by omega)
    rwa [kp] at this

theorem HeapTo.least {ps : List PaceV} {n : Nat} (h : HeapTo ps n) : ∀ k, k < n → ltB (paceAt ps k) (paceAt ps 0) = false := by
  intro k
  induction k using Nat.strongRecOn with
  | ind k ih =>
    intro hk
    by_cases e : k = 0
    · subst e; exact ltB_self _
    · exact ltB_le (ih ((k - 1) / 2) (by omega) (by omega)) (h k (by omega) hk)
theorem paceAt_append {ps qs : List PaceV} {k : Nat} (h : k < ps.length) : paceAt (ps ++ qs) k = paceAt ps k := by unfold paceAt; simp [List.getD, List.getElem?_append_left h]
theorem paceAt_take {ps : List PaceV} {n k : Nat} (h : k < n) : paceAt (ps.take n) k = paceAt ps k := by unfold paceAt; simp [List.getD, h]
/-- What is put behind a heap. -/
theorem HeapTo.push {ps : List PaceV} (e : PaceV) (h : HeapTo ps ps.length) : UpTo (ps ++ [e]) (ps.length + 1) ps.length :=
  ⟨fun k k0 kn kne => by rw [paceAt_append (by omega), paceAt_append (by omega)]; exact h k k0 (by omega), fun k k0 kn kp h0 => by omega⟩
/-- The last one in i's place: the first n are a heap but for i. -/
theorem HeapTo.swap {ps : List PaceV} {n i : Nat} (h : HeapTo ps (n + 1)) (hl : ps.length = n + 1) (hi : i < n) : DnTo (swp ps i n) n i i := by
  have at' := fun k => swp_at (ps := ps) (i := i) (j := n) (by omega) (by omega) k
  refine ⟨fun k k0 kn kne kd => ?_, fun k k0 kn kp i0 => ?_⟩
  · rw [at' k, at' ((k - 1) / 2), if_neg (by omega), if_neg (by omega), if_neg (by omega), if_neg kne]
    exact h k k0 (by omega)
  · rw [at' k, at' ((i - 1) / 2), if_neg (by omega), if_neg (by omega), if_neg (by omega), if_neg (by omega)]
    have h1 := h k k0 (by omega)
    rw [kp] at h1
    exact ltB_le (h i i0 (by omega)) h1

/-! ### Rising lists -/
/-- Nothing is less than what stands ahead of it. -/
abbrev Ris (ps : List PaceV) : Prop := ps.Pairwise fun a b => ltB b a = false
theorem ris_eq {ps qs : List PaceV} (h : Ris ps) (k : Ris qs) (hp : ps.Perm qs) : ps = qs :=
  hp.eq_of_pairwise (le := fun a b => ltB b a = false) (fun _ _ _ _ h1 h2 => ltB_eq h1 h2) h k
theorem ris_heap {ps : List PaceV} (h : Ris ps) : HeapTo ps ps.length := fun k k0 kn => by
  have hk : (k - 1) / 2 < k := by omega
  have := List.pairwise_iff_getElem.1 h ((k - 1) / 2) k (by omega) kn hk
  unfold paceAt
  simpa [List.getD, kn, (by omega : (k - 1) / 2 < ps.length)] using this
theorem ris_snoc {ps : List PaceV} {x : PaceV} (h : Ris ps) (hx : ∀ y ∈ ps, ltB x y = false) : Ris (ps ++ [x]) := by
  unfold Ris; rw [List.pairwise_append]
  exact ⟨h, by simp, fun a ha b hb => by obtain rfl : b = x := by simpa using hb
                                         exact hx a ha⟩
theorem take_snoc_last {ps : List PaceV} {n : Nat} (h : ps.length = n + 1) : ps.take n ++ [paceAt ps n] = ps := by
  have e : paceAt ps n = ps[n] := by unfold paceAt; simp [List.getD, h]
  rw [e, ← List.take_succ_eq_append_getElem (by omega), List.take_of_length_le (by omega)]
theorem paceAt_mem {ps : List PaceV} {k : Nat} (h : k < ps.length) : paceAt ps k ∈ ps := by unfold paceAt; simp [List.getD, h]
theorem mem_paceAt {ps : List PaceV} {x : PaceV} (h : x ∈ ps) : ∃ k, k < ps.length ∧ paceAt ps k = x := by
  obtain ⟨k, hk, rfl⟩ := List.getElem_of_mem h
  exact ⟨k, hk, by unfold paceAt; simp [List.getD, hk]⟩
/-! ### Queues -/
def entB (p : PaceV) : Bool := inB p.1 (-1000000000000) 1000000000000 && inB p.2 0 99
/-- The first place of who; -1 where there is none. -/
def findV (ps : List PaceV) (who : Int) : Int := match ps.findIdx? (fun p => p.2 == who) with
  | some k => k
  | none => -1
def stepQ (ps : List PaceV) (k : Nat) : Bool := entB (paceAt ps k) && ((k == 0 || ltB (paceAt ps (k - 1)) (paceAt ps k)) && decide (findV (ps.take k) (paceAt ps k).2 < 0))
def queueB (ps : List PaceV) : Bool := decide (ps.length ≤ 100) && (List.range ps.length).all (stepQ ps)
/-- How many are less, ahead of the first that isn't. -/
def lessN (e : PaceV) : List PaceV → Nat
  | [] => 0
  | p :: ps => if ltB p e then lessN e ps + 1 else 0
def putV (ps : List PaceV) (e : PaceV) : List PaceV := ps.take (lessN e ps) ++ e :: ps.drop (lessN e ps)
def queuedV (ps : List PaceV) (e : PaceV) : List PaceV × Bool := if queueB ps then if queueB (putV ps e) then (putV ps e, true) else (ps, false) else ([], false)
def firstV (ps : List PaceV) : PaceV × Bool := if queueB ps && decide (0 < ps.length) then (paceAt ps 0, true) else ((0, 0), false)

theorem findV_none {ps : List PaceV} {who : Int} (h : ∀ j, j < ps.length → (paceAt ps j).2 ≠ who) : findV ps who = -1 := by
  unfold findV
  rw [List.findIdx?_eq_none_iff.2]
  intro p hp
  obtain ⟨k, hk, rfl⟩ := mem_paceAt hp
  simpa using h k hk
theorem findV_some {ps : List PaceV} {who : Int} {k : Nat} (hk : k < ps.length) (h : (paceAt ps k).2 = who) (hn : ∀ j, j < k → (paceAt ps j).2 ≠ who) : findV ps who = k := by
  have e : ∀ j (hj : j < ps.length), paceAt ps j = ps[j] := fun j hj => by unfold paceAt; simp [List.getD, hj]
  unfold findV
  rw [List.findIdx?_eq_some_iff_getElem.2 ⟨hk, by rw [← e k hk]; simpa using h, fun j hj => by rw [← e j (by omega)]; simpa using hn j hj⟩]
theorem findV_cases (ps : List PaceV) (who : Int) : (findV ps who = -1 ∧ ∀ j, j < ps.length → (paceAt ps j).2 ≠ who) ∨ ∃ k : Nat, findV ps who = k ∧ k < ps.length ∧ (paceAt ps k).2 = who ∧ ∀ j, j < k → (paceAt ps j).2 ≠ who := by
  have e : ∀ j (hj : j < ps.length), paceAt ps j = ps[j] := fun j hj => by unfold paceAt; simp [List.getD, hj]
  cases hf : ps.findIdx? (fun p => p.2 == who) with
  | none =>
    left
    refine ⟨by unfold findV; rw [hf], fun j hj => ?_⟩
    have := List.findIdx?_eq_none_iff.1 hf _ (paceAt_mem hj)
    simpa using this
  | some k =>
    right
    obtain ⟨hk, h1, h2⟩ := List.findIdx?_eq_some_iff_getElem.1 hf
    refine ⟨k, by unfold findV; rw [hf], hk, by rw [e k hk]; simpa using h1, fun j hj => ?_⟩
    have := h2 j hj
    rw [e j (by omega)]; simpa using this
theorem findV_bd (ps : List PaceV) (who : Int) : -1 ≤ findV ps who ∧ findV ps who < ps.length := by
  rcases findV_cases ps who with ⟨h, _⟩ | ⟨k, h, hk, _⟩ <;> omega

theorem queueB_t {ps : List PaceV} (hl : ps.length ≤ 100) (h : ∀ j, j < ps.length → stepQ ps j = true) : queueB ps = true := by
  unfold queueB; simp only [Bool.and_eq_true, decide_eq_true_eq, List.all_eq_true]; exact ⟨hl, fun j hj => h j (List.mem_range.1 hj)⟩
theorem queueB_f {ps : List PaceV} {j : Nat} (hj : j < ps.length) (h : stepQ ps j = false) : queueB ps = false := by
  unfold queueB; rw [Bool.and_eq_false_iff]; right; rw [List.all_eq_false]; exact ⟨j, List.mem_range.2 hj, by simp [h]⟩
theorem queueB_big {ps : List PaceV} (hl : 100 < ps.length) : queueB ps = false := by
  unfold queueB; rw [Bool.and_eq_false_iff]; left; exact decide_eq_false (by omega)
theorem queueB_of {ps : List PaceV} (h : queueB ps = true) : ps.length ≤ 100 ∧ ∀ j, j < ps.length → stepQ ps j = true := by
  unfold queueB at h; simp only [Bool.and_eq_true, decide_eq_true_eq, List.all_eq_true] at h; exact ⟨h.1, fun j hj => h.2 j (List.mem_range.2 hj)⟩
theorem stepQ_of {ps : List PaceV} {k : Nat} (h : stepQ ps k = true) : entB (paceAt ps k) = true ∧ (0 < k → ltB (paceAt ps (k - 1)) (paceAt ps k) = true) ∧ findV (ps.take k) (paceAt ps k).2 < 0 := by
  unfold stepQ at h; simp only [Bool.and_eq_true, Bool.or_eq_true, decide_eq_true_eq, beq_iff_eq] at h
  exact ⟨h.1, fun h0 => by rcases h.2.1 with e | e; · omega
                           · exact e, h.2.2⟩
/-- What a queue is, without places. -/
structure IsQ (ps : List PaceV) : Prop where
  len : ps.length ≤ 100
  ent : ∀ p ∈ ps, entB p = true
  ord : ps.Pairwise fun a b => ltB a b = true
  who : ps.Pairwise fun a b => a.2 ≠ b.2
theorem ord_of {ps : List PaceV} (h : ∀ k, 0 < k → k < ps.length → ltB (paceAt ps (k - 1)) (paceAt ps k) = true) : ∀ i j, i < j → j < ps.length → ltB (paceAt ps i) (paceAt ps j) = true := by
  intro i j
  induction j with
  | zero => intro h; omega
  | succ j ih =>
    intro hij hj
    have h1 := h (j + 1) (by omega) hj
    by_cases e : i = j
    · subst e; simpa using h1
    · exact ltB_lt (ih (by omega) (by omega)) (by simpa using h1)
theorem isQ_of {ps : List PaceV} (h : queueB ps = true) : IsQ ps := by
  obtain ⟨hl, hs⟩ := queueB_of h
  have e : ∀ j (hj : j < ps.length), paceAt ps j = ps[j] := fun j hj => by unfold paceAt; simp [List.getD, hj]
  refine ⟨hl, fun p hp => ?_, ?_, ?_⟩
  · obtain ⟨k, hk, rfl⟩ := mem_paceAt hp
    exact (stepQ_of (hs k hk)).1
  · rw [List.pairwise_iff_getElem]
    intro i j hi hj hij
    rw [← e i hi, ← e j hj]
    exact ord_of (fun k k0 kn => (stepQ_of (hs k kn)).2.1 k0) i j hij hj
  · rw [List.pairwise_iff_getElem]
    intro i j hi hj hij
    rw [← e i hi, ← e j hj]
    have h3 := (stepQ_of (hs j hj)).2.2
    rcases findV_cases (ps.take j) (paceAt ps j).2 with ⟨_, h4⟩ | ⟨k, h4, _⟩
    · have := h4 i (by simp; omega)
      rwa [paceAt_take hij] at this
    · omega
theorem queueB_isQ {ps : List PaceV} (h : IsQ ps) : queueB ps = true := by
  have e : ∀ j (hj : j < ps.length), paceAt ps j = ps[j] := fun j hj => by unfold paceAt; simp [List.getD, hj]
  refine queueB_t h.len fun j hj => ?_
  unfold stepQ
  simp only [Bool.and_eq_true, Bool.or_eq_true, decide_eq_true_eq, beq_iff_eq]
  refine ⟨h.ent _ (paceAt_mem hj), ?_, ?_⟩
  · by_cases h0 : j = 0
    · exact .inl h0
    · right
      rw [e j hj, e (j - 1) (by omega)]
      exact List.pairwise_iff_getElem.1 h.ord (j - 1) j (by omega) hj (by omega)
  · rw [findV_none (fun i hi => ?_)]
    · omega
    · have hi' : i < j := by simp at hi; omega
      rw [paceAt_take hi', e i (by omega), e j hj]
      exact List.pairwise_iff_getElem.1 h.who i j (by omega) hj hi'
theorem IsQ.ris {ps : List PaceV} (h : IsQ ps) : Ris ps := h.ord.imp fun hab => ltB_not hab
theorem lessN_le (e : PaceV) : ∀ ps : List PaceV, lessN e ps ≤ ps.length
  | [] => Nat.le_refl _
  | p :: ps => by have := lessN_le e ps; unfold lessN; split <;> simp <;> omega
theorem lessN_lt (e : PaceV) : ∀ (ps : List PaceV) (k : Nat), k < lessN e ps → ltB (paceAt ps k) e = true
  | [], k, h => by simp [lessN] at h
  | p :: ps, k, h => by
    unfold lessN at h
    split at h
    · cases k with
      | zero => simpa [paceAt] using ‹ltB p e = true›
      | succ k =>
        have := lessN_lt e ps k (by omega)
        simpa [paceAt] using this
    · omega
theorem lessN_at (e : PaceV) : ∀ (ps : List PaceV), lessN e ps < ps.length → ltB (paceAt ps (lessN e ps)) e = false
  | [], h => by simp at h
  | p :: ps, h => by
    unfold lessN at h ⊢
    by_cases hp : ltB p e = true
    · rw [if_pos hp] at h ⊢
      have := lessN_at e ps (by simpa using h)
      simpa [paceAt] using this
    · rw [if_neg hp] at h ⊢
      simpa [paceAt] using hp
theorem lessN_eq {e : PaceV} {ps : List PaceV} {k : Nat} (hk : k ≤ ps.length) (h : ∀ j, j < k → ltB (paceAt ps j) e = true) (hn : k = ps.length ∨ ltB (paceAt ps k) e = false) : lessN e ps = k := by
  rcases Nat.lt_trichotomy (lessN e ps) k with h1 | h1 | h1
  · have h2 := lessN_at e ps (by omega)
    rw [h _ h1] at h2; cases h2
  · exact h1
  · rcases hn with hn | hn
    · have := lessN_le e ps; omega
    · have := lessN_lt e ps k h1
      rw [hn] at this; cases this
theorem putV_perm (ps : List PaceV) (e : PaceV) : (putV ps e).Perm (ps ++ [e]) := by
  unfold putV
  have h1 : (ps.take (lessN e ps) ++ e :: ps.drop (lessN e ps)).Perm (e :: (ps.take (lessN e ps) ++ ps.drop (lessN e ps))) := List.perm_middle
  rw [List.take_append_drop] at h1
  exact h1.trans (List.perm_append_comm (l₁ := [e]) (l₂ := ps))
theorem putV_len (ps : List PaceV) (e : PaceV) : (putV ps e).length = ps.length + 1 := by have := (putV_perm ps e).length_eq; simpa using this
theorem putV_ris {ps : List PaceV} (h : Ris ps) (e : PaceV) : Ris (putV ps e) := by
  have hle := lessN_le e ps
  have hdr : ∀ y ∈ ps.drop (lessN e ps), ltB y e = false := fun y hy => by
    obtain ⟨k, hk, rfl⟩ := List.getElem_of_mem hy
    have hk' : lessN e ps + k < ps.length := by simp at hk; omega
    rw [List.getElem_drop]
    have h0 := lessN_at e ps (by omega)
    have e0 : paceAt ps (lessN e ps) = ps[lessN e ps]'(by omega) := by unfold paceAt; simp [List.getD, (by omega : lessN e ps < ps.length)]
    rw [e0] at h0
    by_cases hz : k = 0
    · subst hz; simpa using h0
    · have h1 := List.pairwise_iff_getElem.1 h (lessN e ps) (lessN e ps + k) (by omega) hk' (by omega)
      exact ltB_le h0 h1
  have hta : ∀ y ∈ ps.take (lessN e ps), ltB y e = true := fun y hy => by
    obtain ⟨k, hk, rfl⟩ := List.getElem_of_mem hy
    have hk' : k < lessN e ps := by simp at hk; omega
    have := lessN_lt e ps k hk'
    rw [List.getElem_take]
    unfold paceAt at this
    simpa [List.getD, (by omega : k < ps.length)] using this
  unfold putV Ris
  rw [List.pairwise_append, List.pairwise_cons]
  refine ⟨h.sublist (List.take_sublist _ _), ⟨fun y hy => hdr y hy, h.sublist (List.drop_sublist _ _)⟩, fun a ha b hb => ?_⟩
  rcases List.mem_cons.1 hb with rfl | hb
  · exact ltB_not (hta a ha)
  · exact ltB_le (ltB_not (hta a ha)) (hdr b hb)
/-- What a rising list with e is, once it is taken from the top of a heap. -/
theorem sorted_put {ps qs : List PaceV} {e : PaceV} (h : IsQ ps) (hq : Ris qs) (hp : qs.Perm (ps ++ [e])) : qs = putV ps e :=
  ris_eq hq (putV_ris h.ris e) (hp.trans (putV_perm ps e).symm)
end Go.Proofs.YthbbahagpmdooaaGreatDoor

/- Who is at a bench, as plain lists: who is in the queue, and that its first one had least. Lists and numbers alone; no condition but those that a theorem names. -/
namespace Go.Proofs.YthbbahagpmdooaaGreatDoor
open Go.ChangeShapes Go.WideShapes Go.ChangeAt Go.RowKit Go.Sort
set_option linter.unusedVariables false

/-- Of the first k smiths those that are at b, as a queue. -/
def atV (ss : List SmithV) (b : Int) : Nat → List PaceV
  | 0 => []
  | k + 1 => if (recAt ss k).2.1 = b ∧ presS (recAt ss k) = true then putV (atV ss b k) ((recAt ss k).2.2.2.2.2.2.2.1, (k : Int)) else atV ss b k
theorem atV_len (ss : List SmithV) (b : Int) : ∀ k, (atV ss b k).length ≤ k
  | 0 => Nat.le_refl _
  | k + 1 => by
    have := atV_len ss b k
    unfold atV
    split
    · rw [putV_len]; omega
    · omega
theorem atV_no {ss : List SmithV} {b : Int} {k : Nat} (h : ¬ ((recAt ss k).2.1 = b ∧ presS (recAt ss k) = true)) : atV ss b (k + 1) = atV ss b k := by rw [atV, if_neg h]
theorem atV_yes {ss : List SmithV} {b : Int} {k : Nat} (h1 : (recAt ss k).2.1 = b) (h2 : presS (recAt ss k) = true) : atV ss b (k + 1) = putV (atV ss b k) ((recAt ss k).2.2.2.2.2.2.2.1, (k : Int)) := by rw [atV, if_pos ⟨h1, h2⟩]

def hadS (s : SmithV) : Int := s.2.2.2.2.2.2.2.1
theorem putV_mem {ps : List PaceV} {x e : PaceV} : e ∈ putV ps x ↔ e ∈ ps ∨ e = x := by
  rw [(putV_perm ps x).mem_iff]; simp
theorem atV_mem (ss : List SmithV) (b : Int) (e : PaceV) : ∀ k, e ∈ atV ss b k ↔ ∃ i : Nat, i < k ∧ (recAt ss i).2.1 = b ∧ presS (recAt ss i) = true ∧ e = (hadS (recAt ss i), (i : Int))
  | 0 => by simp [atV]
  | k + 1 => by
    have ih := atV_mem ss b e k
    by_cases h : (recAt ss k).2.1 = b ∧ presS (recAt ss k) = true
    · rw [atV_yes h.1 h.2, putV_mem, ih]
      constructor
      · rintro (⟨i, hi, h1, h2, h3⟩ | h3)
        · exact ⟨i, by omega, h1, h2, h3⟩
        · exact ⟨k, by omega, h.1, h.2, h3⟩
      · rintro ⟨i, hi, h1, h2, h3⟩
        by_cases hik : i = k
        · subst hik; exact .inr h3
        · exact .inl ⟨i, by omega, h1, h2, h3⟩
    · rw [atV_no h, ih]
      constructor
      · rintro ⟨i, hi, h1, h2, h3⟩
        exact ⟨i, by omega, h1, h2, h3⟩
      · rintro ⟨i, hi, h1, h2, h3⟩
        by_cases hik : i = k
        · subst hik; exact absurd ⟨h1, h2⟩ h
        · exact ⟨i, by omega, h1, h2, h3⟩
theorem atV_ris (ss : List SmithV) (b : Int) : ∀ k, Ris (atV ss b k)
  | 0 => List.Pairwise.nil
  | k + 1 => by
    by_cases h : (recAt ss k).2.1 = b ∧ presS (recAt ss k) = true
    · rw [atV_yes h.1 h.2]; exact putV_ris (atV_ris ss b k) _
    · rw [atV_no h]; exact atV_ris ss b k
theorem atV_whos (ss : List SmithV) (b : Int) : ∀ k, (atV ss b k).Pairwise fun x y => x.2 ≠ y.2
  | 0 => List.Pairwise.nil
  | k + 1 => by
    by_cases h : (recAt ss k).2.1 = b ∧ presS (recAt ss k) = true
    · rw [atV_yes h.1 h.2]
      refine (putV_perm (atV ss b k) _).symm.pairwise ?_ (fun h => Ne.symm h)
      rw [List.pairwise_append]
      refine ⟨atV_whos ss b k, by simp, fun x hx y hy => ?_⟩
      obtain rfl : y = _ := by simpa using hy
      obtain ⟨i, hi, _, _, rfl⟩ := (atV_mem ss b x k).1 hx
      show (i : Int) ≠ (k : Int)
      omega
    · rw [atV_no h]; exact atV_whos ss b k
/-- Bench, Had and whether one is there are the same. -/
def Alike (ss ss' : List SmithV) (k : Nat) : Prop := ∀ i, i < k → (recAt ss' i).2.1 = (recAt ss i).2.1 ∧ presS (recAt ss' i) = presS (recAt ss i) ∧ hadS (recAt ss' i) = hadS (recAt ss i)
theorem atV_alike {ss ss' : List SmithV} (b : Int) : ∀ k, Alike ss ss' k → atV ss' b k = atV ss b k
  | 0, _ => rfl
  | k + 1, h => by
    have ih := atV_alike b k (fun i hi => h i (by omega))
    obtain ⟨h1, h2, h3⟩ := h k (by omega)
    unfold atV
    rw [h1, h2, ih, show (recAt ss' k).2.2.2.2.2.2.2.1 = (recAt ss k).2.2.2.2.2.2.2.1 from h3]
/-- Who is first there; -1 where there is none. -/
def firstAt (ss : List SmithV) (b : Int) : Int := match atV ss b ss.length with
  | [] => -1
  | h :: _ => h.2
theorem firstAt_some {ss : List SmithV} {b : Int} {e : PaceV} {t : List PaceV} (h : atV ss b ss.length = e :: t) : firstAt ss b = e.2 ∧ ∃ i : Nat, i < ss.length ∧ (recAt ss i).2.1 = b ∧ presS (recAt ss i) = true ∧ e = (hadS (recAt ss i), (i : Int)) := by
  refine ⟨by unfold firstAt; rw [h], ?_⟩
  exact (atV_mem ss b e ss.length).1 (by rw [h]; simp)
/-- The first one had least. -/
theorem first_least {ss : List SmithV} {b : Int} {e : PaceV} {t : List PaceV} (h : atV ss b ss.length = e :: t) {i : Nat} (hi : i < ss.length) (h1 : (recAt ss i).2.1 = b) (h2 : presS (recAt ss i) = true) : e.1 ≤ hadS (recAt ss i) := by
  have hm : (hadS (recAt ss i), (i : Int)) ∈ atV ss b ss.length := (atV_mem ss b _ ss.length).2 ⟨i, hi, h1, h2, rfl⟩
  have hr := atV_ris ss b ss.length
  rw [h] at hm hr
  rcases List.mem_cons.1 hm with he | ht
  · rw [← he]; exact Int.le_refl _
  · have := (List.pairwise_cons.1 hr).1 _ ht
    rw [ltB_f] at this
    simp only at this
    omega

end Go.Proofs.YthbbahagpmdooaaGreatDoor

/- Hads and marks as plain numbers: the band, what is placed, moved and marked. Numbers alone; no condition but those that a theorem names. -/
namespace Go.Proofs.YthbbahagpmdooaaGreatDoor
set_option linter.unusedVariables false

def hadB (x : Int) : Bool := inB x (-1000000000000) 1000000000000
def inBandB (h m : Int) : Bool := (hadB h && hadB m) && inB (h - m) (-20000) 63000
def markedV (m f : Int) : Int := if hadB m && hadB f then min (max m f) 900000000000 else m
theorem had_of {x : Int} (h : hadB x = true) : -1000000000000 ≤ x ∧ x ≤ 1000000000000 := inB_of h
theorem hads2 (x y : Int) : ([x, y].all fun z => inB z (-1000000000000) 1000000000000) = (hadB x && hadB y) := by simp [hadB]
theorem band_at (h m : Int) : ([h].all fun z => inB z (m - 20000) (m + 63000)) = inB (h - m) (-20000) 63000 := by
  simp only [List.all_cons, List.all_nil, Bool.and_true]
  unfold inB
  congr 1
  exact propext ⟨fun h => by omega, fun h => by omega⟩

theorem hadB_t {x : Int} (h0 : -1000000000000 ≤ x) (h1 : x ≤ 1000000000000) : hadB x = true := inB_t h0 h1
theorem marked_in {m f : Int} (m0 : -1000000000000 ≤ m) (m1 : m ≤ 1000000000000) (f0 : -1000000000000 ≤ f) (f1 : f ≤ 1000000000000) : markedV m f = min (max m f) 900000000000 := by
  unfold markedV; rw [hadB_t m0 m1, hadB_t f0 f1]; rfl
end Go.Proofs.YthbbahagpmdooaaGreatDoor

/- A smithy that is turned, as plain lists: the first one at each bench works, all others there wait; and turned it is right, where it was right but for who works. Lists and numbers alone; no condition but those that a theorem names. -/
namespace Go.Proofs.YthbbahagpmdooaaGreatDoor
open Go.ChangeShapes Go.WideShapes Go.ChangeAt Go.RowKit Go.Sort
set_option linter.unusedVariables false

/-- One in another state. -/
def stS (s : SmithV) (st : Int) : SmithV := (st, s.2)
/-- All of a queue wait. -/
def waitAll (ss : List SmithV) (q : List PaceV) : List SmithV := q.foldl (fun ss e => ss.set e.2.toNat (stS (recAt ss e.2.toNat) 2)) ss
theorem waitAll_snoc (ss : List SmithV) (q : List PaceV) (e : PaceV) : waitAll ss (q ++ [e]) = (waitAll ss q).set e.2.toNat (stS (recAt (waitAll ss q) e.2.toNat) 2) := by
  unfold waitAll; rw [List.foldl_append]; rfl
theorem waitAll_len (q : List PaceV) : ∀ ss : List SmithV, (waitAll ss q).length = ss.length := by
  induction q with
  | nil => intro ss; rfl
  | cons e q ih => intro ss; show (waitAll (ss.set e.2.toNat (stS (recAt ss e.2.toNat) 2)) q).length = _; rw [ih, List.length_set]
theorem waitAll_at (q : List PaceV) : ∀ (ss : List SmithV) (i : Nat), (∀ e ∈ q, 0 ≤ e.2 ∧ e.2 < ss.length) → ((∃ e ∈ q, e.2 = (i : Int)) → recAt (waitAll ss q) i = stS (recAt ss i) 2) ∧ ((∀ e ∈ q, e.2 ≠ (i : Int)) → recAt (waitAll ss q) i = recAt ss i) := by
  induction q with
  | nil =>
    intro ss i h
    exact ⟨fun ⟨e, he, _⟩ => (List.not_mem_nil he).elim, fun _ => rfl⟩
  | cons e q ih =>
    intro ss i h
    obtain ⟨e0, e1⟩ := h e (by simp)
    have hs := recAt_set (x := stS (recAt ss e.2.toNat) 2) (show e.2.toNat < ss.length by omega) i
    obtain ⟨i1, i2⟩ := ih (ss.set e.2.toNat (stS (recAt ss e.2.toNat) 2)) i (fun x hx => by rw [List.length_set]; exact h x (List.mem_cons_of_mem _ hx))
    show ((∃ x ∈ e :: q, x.2 = (i : Int)) → recAt (waitAll (ss.set e.2.toNat (stS (recAt ss e.2.toNat) 2)) q) i = _) ∧ ((∀ x ∈ e :: q, x.2 ≠ (i : Int)) → recAt (waitAll (ss.set e.2.toNat (stS (recAt ss e.2.toNat) 2)) q) i = _)
    constructor
    · rintro ⟨x, hx, hxi⟩
      by_cases hq : ∃ y ∈ q, y.2 = (i : Int)
      · rw [i1 hq, hs]
        split
        · rename_i he; rw [he]; rfl
        · rfl
      · rw [i2 (fun y hy e => hq ⟨y, hy, e⟩), hs]
        rcases List.mem_cons.1 hx with rfl | hx
        · rw [if_pos (by omega)]
          rw [show x.2.toNat = i by omega]
        · exact absurd ⟨x, hx, hxi⟩ hq
    · intro hn
      rw [i2 (fun y hy => hn y (List.mem_cons_of_mem _ hy)), hs, if_neg]
      have := hn e (by simp)
      omega

def turnedD (ss : List SmithV) (b : Int) (d : DeskV) : DeskV := match atV ss b ss.length with
  | [] => (d.1, -1, d.2.2)
  | e :: _ => (d.1, e.2, markedV d.2.2 e.1)
/-- One bench is turned. -/
def turnB (m : SmyV) (b : Nat) : SmyV := match atV m.smiths b m.smiths.length with
  | [] => { m with desks := m.desks.set b ((recAt m.desks b).1, -1, (recAt m.desks b).2.2) }
  | e :: t => { m with smiths := (waitAll m.smiths (e :: t)).set e.2.toNat (stS (recAt (waitAll m.smiths (e :: t)) e.2.toNat) 3), desks := m.desks.set b ((recAt m.desks b).1, e.2, markedV (recAt m.desks b).2.2 e.1) }
def turnK (m : SmyV) : Nat → SmyV
  | 0 => m
  | k + 1 => turnB (turnK m k) k
def turnV (m : SmyV) : SmyV := turnK m m.desks.length
theorem turnB_same (m : SmyV) (b : Nat) : (turnB m b).rooms = m.rooms ∧ (turnB m b).guilds = m.guilds ∧ (turnB m b).paces = m.paces ∧ (turnB m b).now = m.now ∧ (turnB m b).smiths.length = m.smiths.length ∧ (turnB m b).desks.length = m.desks.length := by
  unfold turnB
  split
  · simp
  · simp [waitAll_len]
theorem turnK_same (m : SmyV) : ∀ k, (turnK m k).rooms = m.rooms ∧ (turnK m k).guilds = m.guilds ∧ (turnK m k).paces = m.paces ∧ (turnK m k).now = m.now ∧ (turnK m k).smiths.length = m.smiths.length ∧ (turnK m k).desks.length = m.desks.length
  | 0 => ⟨rfl, rfl, rfl, rfl, rfl, rfl⟩
  | k + 1 => by
    obtain ⟨h1, h2, h3, h4, h5, h6⟩ := turnK_same m k
    obtain ⟨g1, g2, g3, g4, g5, g6⟩ := turnB_same (turnK m k) k
    exact ⟨g1.trans h1, g2.trans h2, g3.trans h3, g4.trans h4, g5.trans h5, g6.trans h6⟩
theorem turnB_smith (m : SmyV) (b : Nat) {i : Nat} (hi : i < m.smiths.length) : recAt (turnB m b).smiths i = if (recAt m.smiths i).2.1 = (b : Int) ∧ presS (recAt m.smiths i) = true then stS (recAt m.smiths i) (if firstAt m.smiths b = (i : Int) then 3 else 2) else recAt m.smiths i := by
  have hq := atV_mem m.smiths (b : Int)
  have hf : firstAt m.smiths (b : Int) = match atV m.smiths (b : Int) m.smiths.length with
    | [] => -1
    | h :: _ => h.2 := rfl
  unfold turnB
  split
  · rename_i h0
    rw [if_neg]
    intro hp
    have := (hq (hadS (recAt m.smiths i), (i : Int)) m.smiths.length).2 ⟨i, hi, hp.1, hp.2, rfl⟩
    rw [h0] at this
    exact List.not_mem_nil this
  · rename_i e t h0
    rw [h0] at hf
    simp only at hf
    have hin : ∀ x ∈ e :: t, 0 ≤ x.2 ∧ x.2 < m.smiths.length := by
      intro x hx
      rw [← h0] at hx
      obtain ⟨j, hj, _, _, rfl⟩ := (hq x _).1 hx
      exact ⟨by show (0 : Int) ≤ (j : Int); omega, by show (j : Int) < _; omega⟩
    obtain ⟨w1, w2⟩ := waitAll_at (e :: t) m.smiths i hin
    obtain ⟨e0, e1⟩ := hin e (by simp)
    show recAt ((waitAll m.smiths (e :: t)).set e.2.toNat _) i = _
    rw [recAt_set (by rw [waitAll_len]; omega)]
    by_cases hp : (recAt m.smiths i).2.1 = (b : Int) ∧ presS (recAt m.smiths i) = true
    · have hmem : (hadS (recAt m.smiths i), (i : Int)) ∈ e :: t := by rw [← h0]; exact (hq _ _).2 ⟨i, hi, hp.1, hp.2, rfl⟩
      rw [if_pos hp, hf]
      by_cases hie : i = e.2.toNat
      · rw [if_pos hie, if_pos (by omega), ← hie, w1 ⟨_, hmem, rfl⟩]
        rfl
      · rw [if_neg hie, if_neg (by omega), w1 ⟨_, hmem, rfl⟩]
    · have hnm : ∀ x ∈ e :: t, x.2 ≠ (i : Int) := by
        intro x hx hxi
        rw [← h0] at hx
        obtain ⟨j, hj, j1, j2, rfl⟩ := (hq x _).1 hx
        have : j = i := by have : (j : Int) = (i : Int) := hxi
                           omega
        subst this
        exact hp ⟨j1, j2⟩
      rw [if_neg hp, if_neg (by have := hnm e (by simp); omega), w2 hnm]
theorem turnB_desk (m : SmyV) {b : Nat} (hb : b < m.desks.length) (j : Nat) : recAt (turnB m b).desks j = if j = b then turnedD m.smiths b (recAt m.desks b) else recAt m.desks j := by
  have hf : turnedD m.smiths (b : Int) (recAt m.desks b) = match atV m.smiths (b : Int) m.smiths.length with
    | [] => ((recAt m.desks b).1, -1, (recAt m.desks b).2.2)
    | e :: _ => ((recAt m.desks b).1, e.2, markedV (recAt m.desks b).2.2 e.1) := rfl
  unfold turnB
  split
  · rename_i h0
    rw [h0] at hf
    rw [hf, ← recAt_set hb]
  · rename_i e t h0
    rw [h0] at hf
    rw [hf, ← recAt_set hb]
theorem turnB_alike (m : SmyV) (b : Nat) : Alike m.smiths (turnB m b).smiths m.smiths.length := by
  intro i hi
  rw [turnB_smith m b hi]
  split
  · rename_i hp
    refine ⟨rfl, ?_, rfl⟩
    rw [hp.2]
    split <;> rfl
  · exact ⟨rfl, rfl, rfl⟩
theorem Alike.trans {a b c : List SmithV} {k : Nat} (h : Alike a b k) (g : Alike b c k) : Alike a c k := fun i hi => ⟨(g i hi).1.trans (h i hi).1, (g i hi).2.1.trans (h i hi).2.1, (g i hi).2.2.trans (h i hi).2.2⟩
theorem turnK_alike (m : SmyV) : ∀ k, Alike m.smiths (turnK m k).smiths m.smiths.length
  | 0 => fun _ _ => ⟨rfl, rfl, rfl⟩
  | k + 1 => by
    have h := turnB_alike (turnK m k) k
    rw [(turnK_same m k).2.2.2.2.1] at h
    exact (turnK_alike m k).trans h
theorem turnK_atV (m : SmyV) (k : Nat) (b : Int) : atV (turnK m k).smiths b (turnK m k).smiths.length = atV m.smiths b m.smiths.length := by
  rw [(turnK_same m k).2.2.2.2.1]
  exact atV_alike b _ (turnK_alike m k)
theorem turnK_first (m : SmyV) (k : Nat) (b : Int) : firstAt (turnK m k).smiths b = firstAt m.smiths b := by unfold firstAt; rw [turnK_atV]
theorem turnK_turnedD (m : SmyV) (k : Nat) (b : Int) (d : DeskV) : turnedD (turnK m k).smiths b d = turnedD m.smiths b d := by unfold turnedD; rw [turnK_atV]
theorem turnK_smith (m : SmyV) {i : Nat} (hi : i < m.smiths.length) : ∀ k : Nat, recAt (turnK m k).smiths i = if (0 ≤ (recAt m.smiths i).2.1 ∧ (recAt m.smiths i).2.1 < (k : Int)) ∧ presS (recAt m.smiths i) = true then stS (recAt m.smiths i) (if firstAt m.smiths (recAt m.smiths i).2.1 = (i : Int) then 3 else 2) else recAt m.smiths i
  | 0 => by rw [if_neg (by omega)]; rfl
  | k + 1 => by
    have ih := turnK_smith m hi k
    have ha := turnK_alike m k i hi
    show recAt (turnB (turnK m k) k).smiths i = _
    rw [turnB_smith _ _ (by rw [(turnK_same m k).2.2.2.2.1]; exact hi), ha.1, ha.2.1, turnK_first]
    by_cases hp : presS (recAt m.smiths i) = true
    · by_cases hb : (recAt m.smiths i).2.1 = (k : Int)
      · have hc : (0 ≤ (recAt m.smiths i).2.1 ∧ (recAt m.smiths i).2.1 < ((k + 1 : Nat) : Int)) ∧ presS (recAt m.smiths i) = true := ⟨by omega, hp⟩
        rw [if_pos ⟨hb, hp⟩, if_pos hc, ih, if_neg (by omega), hb]
      · rw [if_neg (fun h => hb h.1), ih]
        by_cases hk : 0 ≤ (recAt m.smiths i).2.1 ∧ (recAt m.smiths i).2.1 < (k : Int)
        · have hc : (0 ≤ (recAt m.smiths i).2.1 ∧ (recAt m.smiths i).2.1 < ((k + 1 : Nat) : Int)) ∧ presS (recAt m.smiths i) = true := ⟨by omega, hp⟩
          rw [if_pos ⟨hk, hp⟩, if_pos hc]
        · rw [if_neg (fun h => hk h.1), if_neg (fun h => hk (by omega))]
    · rw [if_neg (fun h => hp h.2), ih, if_neg (fun h => hp h.2), if_neg (fun h => hp h.2)]
theorem turnK_desk (m : SmyV) (j : Nat) : ∀ k : Nat, k ≤ m.desks.length → recAt (turnK m k).desks j = if j < k then turnedD m.smiths j (recAt m.desks j) else recAt m.desks j
  | 0, _ => by rw [if_neg (by omega)]; rfl
  | k + 1, hk => by
    have ih := turnK_desk m j k (by omega)
    show recAt (turnB (turnK m k) k).desks j = _
    rw [turnB_desk _ (by rw [(turnK_same m k).2.2.2.2.2]; omega)]
    by_cases hjk : j = k
    · subst hjk
      rw [if_pos rfl, if_pos (by omega), turnK_turnedD, ih, if_neg (by omega)]
    · rw [if_neg hjk, ih]
      by_cases h : j < k
      · rw [if_pos h, if_pos (by omega)]
      · rw [if_neg h, if_neg (by omega)]

/-! ### What is right but for who works -/
structure Loose (m : SmyV) : Prop where
  head : headB m = true
  desk : ∀ j, j < m.desks.length → deskB (recAt m.desks j) = true
  pace : ∀ j, j < m.paces.length → paceInB m j = true
  here : ∀ i, i < m.smiths.length → hereB m (recAt m.smiths i) = true
  seat : ∀ i, i < m.smiths.length → seatB m (recAt m.smiths i) = true
  openD : ∃ j, j < m.desks.length ∧ (recAt m.desks j).1 = true
theorem loose_of {m : SmyV} (h : looseB m = true) : Loose m := by
  unfold looseB upDesks upPaces upSmiths upOpen at h
  simp only [Bool.and_eq_true] at h
  obtain ⟨h1, h2, h3, h4, h5⟩ := h
  have h4' := fun i hi => all_at h4 (k := i) hi
  simp only [Bool.and_eq_true] at h4'
  obtain ⟨j, hj, ho⟩ := List.any_eq_true.1 h5
  exact ⟨h1, fun j hj => all_at h2 hj, fun j hj => all_at h3 hj, fun i hi => (h4' i hi).1, fun i hi => (h4' i hi).2, j, List.mem_range.1 hj, ho⟩
theorem Loose.mk' {m : SmyV} (h : Loose m) : looseB m = true := by
  unfold looseB upDesks upPaces upSmiths upOpen
  simp only [Bool.and_eq_true]
  refine ⟨h.head, ?_, ?_, ?_, ?_⟩
  · exact List.all_eq_true.2 fun j hj => h.desk j (List.mem_range.1 hj)
  · exact List.all_eq_true.2 fun j hj => h.pace j (List.mem_range.1 hj)
  · exact List.all_eq_true.2 fun j hj => by rw [h.here j (List.mem_range.1 hj), h.seat j (List.mem_range.1 hj)]; rfl
  · obtain ⟨j, hj, ho⟩ := h.openD
    exact List.any_eq_true.2 ⟨j, List.mem_range.2 hj, ho⟩
/-- Who waits or works: where, and what of it is within which limits. -/
theorem Loose.at {m : SmyV} (h : Loose m) {i : Nat} (hi : i < m.smiths.length) (hp : presS (recAt m.smiths i) = true) : 0 ≤ (recAt m.smiths i).2.1 ∧ (recAt m.smiths i).2.1 < m.desks.length ∧ (recAt m.desks (recAt m.smiths i).2.1.toNat).1 = true ∧ bitB (recAt m.smiths i).2.2.2.1 (recAt m.smiths i).2.1 = true ∧ bandB (hadS (recAt m.smiths i)) (recAt m.desks (recAt m.smiths i).2.1.toNat).2.2 = true := by
  obtain ⟨b0, b1, _⟩ := hereB_of (h.here i hi) hp
  have hs := h.seat i hi
  unfold seatB at hs
  rw [hp] at hs
  simp only [Bool.not_true, Bool.false_or, Bool.and_eq_true] at hs
  exact ⟨b0, b1, hs.1, hs.2.1, hs.2.2⟩
theorem bandB_of {had mark : Int} (h : bandB had mark = true) : -1000000000000 ≤ had ∧ had ≤ 1000000000000 ∧ -1000000000000 ≤ mark ∧ mark ≤ 1000000000000 ∧ -20000 ≤ had - mark ∧ had - mark ≤ 63000 := by
  unfold bandB at h
  simp only [Bool.and_eq_true] at h
  have h1 := inB_of h.1
  have h2 := inB_of h.2.1
  have h3 := inB_of h.2.2
  omega
theorem bandB_t {had mark : Int} (h0 : -1000000000000 ≤ had) (h1 : had ≤ 1000000000000) (h2 : -1000000000000 ≤ mark) (h3 : mark ≤ 1000000000000) (h4 : -20000 ≤ had - mark) (h5 : had - mark ≤ 63000) : bandB had mark = true := by
  unfold bandB; rw [inB_t h0 h1, inB_t h2 h3, inB_t h4 h5]; rfl
theorem deskB_of {d : DeskV} (h : deskB d = true) : -900000000000 ≤ d.2.2 ∧ d.2.2 ≤ 900000000000 := inB_of h

/-- In the state 2 or 3 one is as right as in the other. -/
theorem smithB_st {s : SmithV} {st : Int} (h : smithB s = true) (hp : presS s = true) (h0 : 1 ≤ st) (h1 : st ≤ 3) : smithB (stS s st) = true := by
  obtain ⟨x0, be, rk, my, gu, lo, hi, hd, ca, ut, wk⟩ := s
  have hx : x0 ≠ 0 := by intro e; subst e; cases hp
  unfold smithB at h ⊢
  rw [goneB_st (x := (x0, be, rk, my, gu, lo, hi, hd, ca, ut, wk)) hx, Bool.false_or] at h
  unfold presB at h
  simp only [Bool.and_eq_true] at h
  obtain ⟨g0, g⟩ := h
  have : presB (stS (x0, be, rk, my, gu, lo, hi, hd, ca, ut, wk) st) = true := by
    unfold presB stS
    simp only [Bool.and_eq_true]
    exact ⟨inB_t h0 h1, g⟩
  rw [this, Bool.or_true]
theorem hereB_st {m : SmyV} {s : SmithV} {st : Int} (h : hereB m s = true) (hp : presS s = true) (h0 : 1 ≤ st) (h1 : st ≤ 3) : hereB m (stS s st) = true := by
  unfold hereB at h ⊢
  simp only [Bool.and_eq_true, Bool.or_eq_true] at h ⊢
  refine ⟨smithB_st h.1 hp h0 h1, .inr ?_⟩
  rcases h.2 with e | e
  · have : s.1 = 0 := by simpa using e
    unfold presS at hp
    rw [this] at hp
    cases hp
  · exact e
/-- Which fields rightness of a smith's place looks at. -/
theorem hereB_same {m m' : SmyV} (hg : m'.guilds.length = m.guilds.length) (hd : m'.desks.length = m.desks.length) (s : SmithV) : hereB m' s = hereB m s := by unfold hereB; rw [hg, hd]

theorem turn_loose {m : SmyV} (h : Loose m) : Loose (turnV m) := by
  obtain ⟨e1, e2, e3, e4, e5, e6⟩ := turnK_same m m.desks.length
  have hd := fun j => turnK_desk m j m.desks.length (Nat.le_refl _)
  have hopen : ∀ j, (recAt (turnV m).desks j).1 = (recAt m.desks j).1 := by
    intro j
    unfold turnV
    rw [hd j]
    split
    · unfold turnedD; split <;> rfl
    · rfl
  -- what the mark is
  have hmark : ∀ j, j < m.desks.length → (-900000000000 ≤ (recAt (turnV m).desks j).2.2 ∧ (recAt (turnV m).desks j).2.2 ≤ 900000000000) ∧ (recAt m.desks j).2.2 ≤ (recAt (turnV m).desks j).2.2 ∧ ((recAt (turnV m).desks j).2.2 ≤ (recAt m.desks j).2.2 ∨ ∀ i, i < m.smiths.length → (recAt m.smiths i).2.1 = (j : Int) → presS (recAt m.smiths i) = true → (recAt (turnV m).desks j).2.2 ≤ hadS (recAt m.smiths i)) := by
    intro j hj
    obtain ⟨k0, k1⟩ := deskB_of (h.desk j hj)
    unfold turnV
    rw [hd j, if_pos hj]
    unfold turnedD
    split
    · exact ⟨⟨k0, k1⟩, Int.le_refl _, .inl (Int.le_refl _)⟩
    · rename_i e t hq
      obtain ⟨_, i, hi, hib, hip, rfl⟩ := firstAt_some hq
      obtain ⟨_, _, _, _, hband⟩ := h.at hi hip
      obtain ⟨a0, a1, _⟩ := bandB_of hband
      have hm := marked_in (m := (recAt m.desks j).2.2) (f := hadS (recAt m.smiths i)) (by omega) (by omega) a0 a1
      show (-900000000000 ≤ markedV _ _ ∧ markedV _ _ ≤ 900000000000) ∧ _ ≤ markedV _ _ ∧ (markedV _ _ ≤ _ ∨ _)
      rw [hm]
      refine ⟨by omega, by omega, ?_⟩
      by_cases hc : hadS (recAt m.smiths i) ≤ (recAt m.desks j).2.2
      · left; omega
      · right
        intro i' hi' hb' hp'
        have := first_least hq hi' hb' hp'
        simp only at this
        show min (max (recAt m.desks j).2.2 (hadS (recAt m.smiths i))) 900000000000 ≤ _
        omega
  refine ⟨?_, ?_, ?_, ?_, ?_, ?_⟩
  · have := h.head
    unfold headB at this ⊢
    unfold turnV
    rw [e1, e2, e3, e4, e5, e6]
    exact this
  · intro j hj
    have hj' : j < m.desks.length := by unfold turnV at hj; omega
    exact inB_t (hmark j hj').1.1 (hmark j hj').1.2
  · intro j hj
    have hj' : j < m.paces.length := by unfold turnV at hj; rw [e3] at hj; exact hj
    have := h.pace j hj'
    unfold paceInB at this ⊢
    unfold turnV
    rw [e1, e3]
    exact this
  · intro i hi
    have hi' : i < m.smiths.length := by unfold turnV at hi; omega
    rw [hereB_same (m := m) (by unfold turnV; rw [e2]) (by unfold turnV; rw [e6])]
    unfold turnV
    rw [turnK_smith m hi']
    split
    · rename_i hp
      exact hereB_st (h.here i hi') hp.2 (by split <;> omega) (by split <;> omega)
    · exact h.here i hi'
  · intro i hi
    have hi' : i < m.smiths.length := by unfold turnV at hi; omega
    have ha := turnK_alike m m.desks.length i hi'
    unfold seatB
    show (!presS (recAt (turnK m m.desks.length).smiths i) || _) = true
    rw [ha.2.1]
    cases hp : presS (recAt m.smiths i)
    · rfl
    · obtain ⟨b0, b1, ho, hm, hband⟩ := h.at hi' hp
      obtain ⟨a0, a1, a2, a3, a4, a5⟩ := bandB_of hband
      obtain ⟨⟨q0, q1⟩, q2, q3⟩ := hmark (recAt m.smiths i).2.1.toNat (by omega)
      have hmay : (recAt (turnK m m.desks.length).smiths i).2.2.2.1 = (recAt m.smiths i).2.2.2.1 := by
        rw [turnK_smith m hi']; split <;> rfl
      show (!true || ((recAt (turnV m).desks (recAt (turnK m m.desks.length).smiths i).2.1.toNat).1 && (bitB (recAt (turnK m m.desks.length).smiths i).2.2.2.1 (recAt (turnK m m.desks.length).smiths i).2.1 && bandB (hadS (recAt (turnK m m.desks.length).smiths i)) (recAt (turnV m).desks (recAt (turnK m m.desks.length).smiths i).2.1.toNat).2.2))) = true
      rw [ha.1, ha.2.2, hmay, hopen, ho, hm]
      rw [bandB_t a0 a1 (by omega) (by omega) ?_ (by omega)]
      · rfl
      · rcases q3 with q3 | q3
        · omega
        · have := q3 i hi' (by omega) hp
          omega
  · obtain ⟨j, hj, ho⟩ := h.openD
    exact ⟨j, by unfold turnV; omega, by rw [hopen]; exact ho⟩

/-- At a bench where just f works: the scan says so. -/
theorem scan_of {ss : List SmithV} {b f : Int} : ∀ k : Nat, (∀ i, i < k → (recAt ss i).2.1 = b → presS (recAt ss i) = true → ((recAt ss i).1 = 2 ∧ (i : Int) ≠ f) ∨ ((recAt ss i).1 = 3 ∧ (i : Int) = f)) →
    ∃ wk wt, scanV ss b k = some (wk, wt) ∧ ((wk = -1 ∧ ∀ i, i < k → (recAt ss i).2.1 = b → presS (recAt ss i) = true → (i : Int) ≠ f) ∨ (wk = f ∧ ∃ i : Nat, i < k ∧ (recAt ss i).2.1 = b ∧ presS (recAt ss i) = true ∧ (i : Int) = f)) ∧ (wt = true → ∃ i, i < k ∧ (recAt ss i).2.1 = b ∧ presS (recAt ss i) = true)
  | 0, _ => ⟨-1, false, rfl, .inl ⟨rfl, fun i hi => by omega⟩, fun h => by cases h⟩
  | k + 1, h => by
    obtain ⟨wk, wt, hs, hw, ht⟩ := scan_of k (fun i hi => h i (by omega))
    have hu : scanV ss b (k + 1) = if (recAt ss k).2.1 = b ∧ presS (recAt ss k) = true then (if (recAt ss k).1 = 2 then some (wk, true) else if 0 ≤ wk then none else some ((k : Int), wt)) else some (wk, wt) := by
      show (match scanV ss b k with
        | none => none
        | some (wk, wt) => _) = _
      rw [hs]
    rw [hu]
    by_cases hp : (recAt ss k).2.1 = b ∧ presS (recAt ss k) = true
    · rw [if_pos hp]
      rcases h k (by omega) hp.1 hp.2 with ⟨h2, hne⟩ | ⟨h3, hkf⟩
      · rw [if_pos h2]
        refine ⟨wk, true, rfl, ?_, fun _ => ⟨k, by omega, hp.1, hp.2⟩⟩
        rcases hw with ⟨e, hn⟩ | ⟨e, i, hi, hb, hpi, hif⟩
        · refine .inl ⟨e, fun i hi hb hpi => ?_⟩
          by_cases hik : i = k
          · subst hik; exact hne
          · exact hn i (by omega) hb hpi
        · exact .inr ⟨e, i, by omega, hb, hpi, hif⟩
      · rw [if_neg (by omega)]
        have hw1 : wk = -1 := by
          rcases hw with ⟨e, _⟩ | ⟨e, i, hi, hb, hpi, hif⟩
          · exact e
          · omega
        rw [if_neg (by omega)]
        exact ⟨k, wt, rfl, .inr ⟨hkf, k, by omega, hp.1, hp.2, hkf⟩, fun e => by obtain ⟨i, hi, r⟩ := ht e; exact ⟨i, by omega, r⟩⟩
    · rw [if_neg hp]
      refine ⟨wk, wt, rfl, ?_, fun e => by obtain ⟨i, hi, r⟩ := ht e; exact ⟨i, by omega, r⟩⟩
      rcases hw with ⟨e, hn⟩ | ⟨e, i, hi, r⟩
      · refine .inl ⟨e, fun i hi hb hpi => ?_⟩
        by_cases hik : i = k
        · subst hik; exact absurd ⟨hb, hpi⟩ hp
        · exact hn i (by omega) hb hpi
      · exact .inr ⟨e, i, by omega, r⟩

/-- Turned it is right. -/
theorem turn_right {m : SmyV} (h : Loose m) : smyB (turnV m) = true := by
  unfold smyB
  rw [Bool.and_eq_true]
  refine ⟨(turn_loose h).mk', ?_⟩
  obtain ⟨e1, e2, e3, e4, e5, e6⟩ := turnK_same m m.desks.length
  refine List.all_eq_true.2 fun b hb => ?_
  have hb := List.mem_range.1 hb
  have hb' : b < m.desks.length := by unfold turnV at hb; omega
  have hn : (turnV m).smiths.length = m.smiths.length := e5
  have ha := turnK_alike m m.desks.length
  have hstate : ∀ i, i < m.smiths.length → (recAt (turnV m).smiths i).2.1 = (b : Int) → presS (recAt (turnV m).smiths i) = true → ((recAt (turnV m).smiths i).1 = 2 ∧ (i : Int) ≠ firstAt m.smiths b) ∨ ((recAt (turnV m).smiths i).1 = 3 ∧ (i : Int) = firstAt m.smiths b) := by
    intro i hi hib hip
    have hib' : (recAt m.smiths i).2.1 = (b : Int) := (ha i hi).1.symm.trans hib
    have hip' : presS (recAt m.smiths i) = true := (ha i hi).2.1.symm.trans hip
    unfold turnV
    rw [turnK_smith m hi, if_pos ⟨by omega, hip'⟩, hib']
    by_cases hf : firstAt m.smiths (b : Int) = (i : Int)
    · right; rw [if_pos hf]; exact ⟨rfl, hf.symm⟩
    · left; rw [if_neg hf]; exact ⟨rfl, fun e => hf e.symm⟩
  obtain ⟨wk, wt, hs, hw, ht⟩ := scan_of (b := (b : Int)) (f := firstAt m.smiths b) (ss := (turnV m).smiths) m.smiths.length hstate
  unfold benchOkB
  rw [hn, hs]
  simp only
  have hdesk := turnK_desk m b m.desks.length (Nat.le_refl _)
  rw [if_pos hb'] at hdesk
  cases hq : atV m.smiths (b : Int) m.smiths.length with
  | nil =>
    have hempty : ∀ i, i < m.smiths.length → ¬ ((recAt (turnV m).smiths i).2.1 = (b : Int) ∧ presS (recAt (turnV m).smiths i) = true) := by
      rintro i hi ⟨hib, hip⟩
      have := (atV_mem m.smiths (b : Int) (hadS (recAt m.smiths i), (i : Int)) m.smiths.length).2 ⟨i, hi, (ha i hi).1.symm.trans hib, (ha i hi).2.1.symm.trans hip, rfl⟩
      rw [hq] at this
      exact List.not_mem_nil this
    have hwt : wt = false := by
      cases wt
      · rfl
      · obtain ⟨i, hi, r⟩ := ht rfl
        exact absurd r (hempty i hi)
    have hwk : wk = -1 := by
      rcases hw with ⟨e, _⟩ | ⟨_, i, hi, hb, hp, _⟩
      · exact e
      · exact absurd ⟨hb, hp⟩ (hempty i hi)
    have hwho : (recAt (turnV m).desks b).2.1 = -1 := by
      unfold turnV; rw [hdesk]; unfold turnedD; rw [hq]
    rw [hwho, hwk, hwt]
    rfl
  | cons e t =>
    obtain ⟨hfe, i, hi, hib, hip, rfl⟩ := firstAt_some hq
    have hwho : (recAt (turnV m).desks b).2.1 = (i : Int) := by
      unfold turnV; rw [hdesk]; unfold turnedD; rw [hq]
    have hwk : wk = (i : Int) := by
      rcases hw with ⟨_, hn⟩ | ⟨e, _⟩
      · exact absurd hfe.symm (hn i hi ((ha i hi).1.trans hib) ((ha i hi).2.1.trans hip))
      · exact e.trans hfe
    rw [hwho, hwk]
    have : decide ((i : Int) < 0) = false := decide_eq_false (by omega)
    rw [this]
    simp

end Go.Proofs.YthbbahagpmdooaaGreatDoor

/- Whatever is changed, a smithy stays right: each change as plain lists, and that it keeps what is right but for who works. Lists and numbers alone; no condition but those that a theorem names. -/
namespace Go.Proofs.YthbbahagpmdooaaGreatDoor
open Go.ChangeShapes Go.WideShapes Go.ChangeAt Go.RowKit Go.Sort
set_option linter.unusedVariables false

theorem here_iff {m : SmyV} {s : SmithV} : hereB m s = true ↔ s = zeroS ∨ (presB s = true ∧ s.2.2.2.2.1 < m.guilds.length ∧ s.2.1 < m.desks.length) := by
  unfold hereB smithB
  simp only [Bool.and_eq_true, Bool.or_eq_true, decide_eq_true_eq]
  constructor
  · rintro ⟨hg | hp, hr⟩
    · exact .inl (goneB_of hg)
    · right
      refine ⟨hp, ?_⟩
      rcases hr with e | e
      · have : s.1 = 0 := by simpa using e
        rw [presB_st this] at hp
        cases hp
      · exact e
  · rintro (rfl | ⟨hp, hr⟩)
    · exact ⟨.inl goneB_zero, .inl rfl⟩
    · exact ⟨.inr hp, .inr hr⟩
theorem seat_away {m : SmyV} {s : SmithV} (h : presS s = false) : seatB m s = true := by unfold seatB; rw [h]; rfl
theorem smy_loose {m : SmyV} (h : smyB m = true) : Loose m := by
  unfold smyB at h
  simp only [Bool.and_eq_true] at h
  exact loose_of h.1

/-- Smith k is another one. -/
def setS (m : SmyV) (k : Nat) (s : SmithV) : SmyV := { m with smiths := m.smiths.set k s }
theorem Loose.setS {m : SmyV} (h : Loose m) {k : Nat} (hk : k < m.smiths.length) {s : SmithV} (h1 : hereB m s = true) (h2 : seatB m s = true) : Loose (setS m k s) := by
  refine ⟨?_, h.desk, h.pace, ?_, ?_, h.openD⟩
  · have := h.head
    unfold headB at this ⊢
    unfold Go.Proofs.YthbbahagpmdooaaGreatDoor.setS
    simpa using this
  · intro i hi
    have hi' : i < m.smiths.length := by unfold Go.Proofs.YthbbahagpmdooaaGreatDoor.setS at hi; simpa using hi
    show hereB (Go.Proofs.YthbbahagpmdooaaGreatDoor.setS m k s) (recAt (m.smiths.set k s) i) = true
    rw [hereB_same (m := m) (m' := Go.Proofs.YthbbahagpmdooaaGreatDoor.setS m k s) rfl rfl, recAt_set hk]
    split
    · exact h1
    · exact h.here i hi'
  · intro i hi
    have hi' : i < m.smiths.length := by unfold Go.Proofs.YthbbahagpmdooaaGreatDoor.setS at hi; simpa using hi
    show seatB m (recAt (m.smiths.set k s) i) = true
    rw [recAt_set hk]
    split
    · exact h2
    · exact h.seat i hi'
/-- One who is there and not gone: all of its limits. -/
theorem Loose.limits {m : SmyV} (h : Loose m) {k : Nat} (hk : k < m.smiths.length) (hs : (recAt m.smiths k).1 ≠ 0) : presB (recAt m.smiths k) = true ∧ (recAt m.smiths k).2.2.2.2.1 < m.guilds.length ∧ (recAt m.smiths k).2.1 < m.desks.length := by
  rcases here_iff.1 (h.here k hk) with e | e
  · rw [e] at hs; exact absurd rfl hs
  · exact e

theorem keep_rest {m : SmyV} (h : Loose m) {k : Nat} (hk : k < m.smiths.length) (hp : presS (recAt m.smiths k) = true) : Loose (setS m k (stS (recAt m.smiths k) 1)) :=
  h.setS hk (hereB_st (h.here k hk) hp (by omega) (by omega)) (seat_away rfl)
theorem keep_leave {m : SmyV} (h : Loose m) {k : Nat} (hk : k < m.smiths.length) : Loose (setS m k zeroS) :=
  h.setS hk (here_iff.2 (.inl rfl)) (seat_away rfl)
end Go.Proofs.YthbbahagpmdooaaGreatDoor

