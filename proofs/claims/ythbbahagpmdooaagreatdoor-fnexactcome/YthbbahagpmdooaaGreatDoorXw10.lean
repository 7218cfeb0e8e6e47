/- Part 10 of what the proof rests on. No condition but those that a theorem names. -/
import Derived.Test.YthbbahagpmdooaaGreatDoorXw09
namespace Go.Proofs.YthbbahagpmdooaaGreatDoor
set_option linter.unusedVariables false
def ltB (a b : PaceV) : Bool := decide (a.1 < b.1 ∨ (a.1 = b.1 ∧ a.2 < b.2))
theorem ltB_t {a b : PaceV} : ltB a b = true ↔ (a.1 < b.1 ∨ (a.1 = b.1 ∧ a.2 < b.2)) := by unfold ltB; exact decide_eq_true_iff
theorem ltB_f {a b : PaceV} : ltB a b = false ↔ ¬ (a.1 < b.1 ∨ (a.1 = b.1 ∧ a.2 < b.2)) := by unfold ltB; exact decide_eq_false_iff_not
theorem ltB_self (a : PaceV) : ltB a a = false := by rw [ltB_f]; omega
theorem ltB_not {a b : PaceV} (h : ltB a b = true) : ltB b a = false := by rw [ltB_t] at h; rw [ltB_f]; omega
theorem ltB_le {a b c : PaceV} (h : ltB b a = false) (k : ltB c b = false) : ltB c a = false := by rw [ltB_f] at *; omega
theorem ltB_lt {a b c : PaceV} (h : ltB a b = true) (k : ltB b c = true) : ltB a c = true := by rw [ltB_t] at *; omega
theorem ltB_eq {a b : PaceV} (h : ltB b a = false) (k : ltB a b = false) : a = b := by
  rw [ltB_f] at *; obtain ⟨a1, a2⟩ := a; obtain ⟨b1, b2⟩ := b; simp only at h k; rw [show a1 = b1 by omega, show a2 = b2 by omega]
def swp (ps : List PaceV) (i j : Nat) : List PaceV := (ps.set i (paceAt ps j)).set j (paceAt ps i)
theorem swp_len (ps : List PaceV) (i j : Nat) : (swp ps i j).length = ps.length := by simp [swp]
theorem paceAt_set {ps : List PaceV} {i : Nat} {x : PaceV} (h : i < ps.length) (k : Nat) : paceAt (ps.set i x) k = if k = i then x else paceAt ps k := by
  unfold paceAt
  by_cases e : k = i
  · subst e; simp [List.getD, h]
  · rw [if_neg e]; simp [List.getD, Ne.symm e]
theorem swp_at {ps : List PaceV} {i j : Nat} (hi : i < ps.length) (hj : j < ps.length) (k : Nat) : paceAt (swp ps i j) k = if k = j then paceAt ps i else if k = i then paceAt ps j else paceAt ps k := by
  unfold swp
  rw [paceAt_set (by simpa using hj), paceAt_set hi]
theorem swp_perm {ps : List PaceV} {i j : Nat} (hi : i < ps.length) (hj : j < ps.length) : (swp ps i j).Perm ps := by
  have := List.set_set_perm hi hj
  unfold swp paceAt
  simpa [List.getD, hi, hj] using this
def HeapTo (ps : List PaceV) (n : Nat) : Prop := ∀ k, 0 < k → k < n → ltB (paceAt ps k) (paceAt ps ((k - 1) / 2)) = false
def UpTo (ps : List PaceV) (n j : Nat) : Prop :=
  (∀ k, 0 < k → k < n → k ≠ j → ltB (paceAt ps k) (paceAt ps ((k - 1) / 2)) = false) ∧
  (∀ k, 0 < k → k < n → (k - 1) / 2 = j → 0 < j → ltB (paceAt ps k) (paceAt ps ((j - 1) / 2)) = false)
def DnTo (ps : List PaceV) (n i0 i : Nat) : Prop :=
  (∀ k, 0 < k → k < n → (k - 1) / 2 ≠ i → (k ≠ i0 ∨ i ≠ i0) → ltB (paceAt ps k) (paceAt ps ((k - 1) / 2)) = false) ∧
  (∀ k, 0 < k → k < n → (k - 1) / 2 = i → 0 < i → ltB (paceAt ps k) (paceAt ps ((i - 1) / 2)) = false)
theorem UpTo.done {ps : List PaceV} {n j : Nat} (h : UpTo ps n j) (hd : j = 0 ∨ ltB (paceAt ps j) (paceAt ps ((j - 1) / 2)) = false) : HeapTo ps n := fun k h0 hn => by
  by_cases e : k = j
  · subst e
    rcases hd with hd | hd
    · omega
    · exact hd
  · exact h.1 k h0 hn e
theorem UpTo.step {ps : List PaceV} {n j : Nat} (h : UpTo ps n j) (hj0 : 0 < j) (hj : j < n) (hn : n ≤ ps.length) (hl : ltB (paceAt ps j) (paceAt ps ((j - 1) / 2)) = true) : UpTo (swp ps ((j - 1) / 2) j) n ((j - 1) / 2) := by
  have hi : (j - 1) / 2 < j := by omega
  have at' := fun k => swp_at (ps := ps) (i := (j - 1) / 2) (j := j) (by omega) (by omega) k
  generalize hi' : (j - 1) / 2 = i at *
  have hp : ltB (paceAt ps i) (paceAt ps j) = false := ltB_not hl
  refine ⟨fun k k0 kn kne => ?_, fun k k0 kn kp i0 => ?_⟩
  · rw [at' k, at' ((k - 1) / 2)]
    by_cases e1 : k = j
    · subst e1
      rw [if_pos rfl, hi', if_neg (by omega), if_pos rfl]
      exact hp
    · rw [if_neg e1, if_neg kne]
      by_cases e2 : (k - 1) / 2 = j
      · rw [if_pos e2]
        have := h.2 k k0 kn e2 hj0
        rwa [hi'] at this
      · rw [if_neg e2]
        by_cases e3 : (k - 1) / 2 = i
        · rw [if_pos e3]
          have := h.1 k k0 kn e1
          rw [e3] at this
          exact ltB_le hp this
        · rw [if_neg e3]
          exact h.1 k k0 kn e1
  · rw [at' k, at' ((i - 1) / 2), if_neg (by omega : (i - 1) / 2 ≠ j), if_neg (by omega : (i - 1) / 2 ≠ i)]
    by_cases e1 : k = j
    · rw [if_pos e1]
      exact h.1 i i0 (by omega) (by omega)
    · rw [if_neg e1, if_neg (by omega)]
      have h1 := h.1 k k0 kn e1
      rw [kp] at h1
      exact ltB_le (h.1 i i0 (by omega) (by omega)) h1
theorem DnTo.still {ps : List PaceV} {n i : Nat} (h : DnTo ps n i i) (hd : ∀ k, 0 < k → k < n → (k - 1) / 2 = i → ltB (paceAt ps k) (paceAt ps i) = false) : UpTo ps n i :=
  ⟨fun k k0 kn kne => by
    by_cases e : (k - 1) / 2 = i
    · rw [e]; exact hd k k0 kn e
    · exact h.1 k k0 kn e (.inl kne), h.2⟩
theorem DnTo.moved {ps : List PaceV} {n i0 i : Nat} (h : DnTo ps n i0 i) (hm : i ≠ i0) (hd : ∀ k, 0 < k → k < n → (k - 1) / 2 = i → ltB (paceAt ps k) (paceAt ps i) = false) : HeapTo ps n := fun k k0 kn => by
  by_cases e : (k - 1) / 2 = i
  · rw [e]; exact hd k k0 kn e
  · exact h.1 k k0 kn e (.inr hm)
theorem DnTo.step {ps : List PaceV} {n i0 i j : Nat} (h : DnTo ps n i0 i) (hi0 : i0 ≤ i) (hj0 : 0 < j) (hji : (j - 1) / 2 = i) (hj : j < n) (hn : n ≤ ps.length) (hl : ltB (paceAt ps j) (paceAt ps i) = true)
    (hm : ∀ k, 0 < k → k < n → (k - 1) / 2 = i → ltB (paceAt ps k) (paceAt ps j) = false) : DnTo (swp ps i j) n i0 j := by
  have at' := fun k => swp_at (ps := ps) (i := i) (j := j) (by omega) (by omega) k
  have hp : ltB (paceAt ps i) (paceAt ps j) = false := ltB_not hl
  refine ⟨fun k k0 kn kne _ => ?_, fun k k0 kn kp _ => ?_⟩
  · rw [at' k, at' ((k - 1) / 2), if_neg kne]
    by_cases e1 : k = j
    · subst e1
      rw [if_pos rfl, if_pos hji]
      exact hp
    · rw [if_neg e1]
      by_cases e2 : k = i
      · subst e2
        rw [if_pos rfl, if_neg (by omega)]
        exact h.2 j hj0 hj hji k0
      · rw [if_neg e2]
        by_cases e3 : (k - 1) / 2 = i
        · rw [if_pos e3]
          exact hm k k0 kn e3
        · rw [if_neg e3]
          exact h.1 k k0 kn e3 (by omega)
  · rw [at' k, at' ((j - 1) / 2), hji, if_neg (by omega : k ≠ j), if_neg (by omega : k ≠ i), if_neg (by omega : i ≠ j), if_pos rfl]
    have := h.1 k k0 kn (by omega) (by omega)
    rwa [kp] at this
theorem HeapTo.least {ps : List PaceV} {n : Nat} (h : HeapTo ps n) : ∀ k, k < n → ltB (paceAt ps k) (paceAt ps 0) = false := by
  intro k
  induction k using Nat.strongRecOn with
  | ind k ih =>
    intro hk
    by_cases e : k = 0
    · subst e; exact ltB_self _
    · exact ltB_le (ih ((k - 1) / 2) (by omega) (by omega)) (h k (by omega) hk)
theorem paceAt_append {ps qs : List PaceV} {k : Nat} (h : k < ps.length) : paceAt (ps ++ qs) k = paceAt ps k := by unfold paceAt; simp [List.getD, List.getElem?_append_left h]
theorem paceAt_take {ps : List PaceV} {n k : Nat} (h : k < n) : paceAt (ps.take n) k = paceAt ps k := by unfold paceAt; simp [List.getD, h]
theorem HeapTo.push {ps : List PaceV} (e : PaceV) (h : HeapTo ps ps.length) : UpTo (ps ++ [e]) (ps.length + 1) ps.length :=
  ⟨fun k k0 kn kne => by rw [paceAt_append (by omega), paceAt_append (by omega)]; exact h k k0 (by omega), fun k k0 kn kp h0 => by omega⟩
theorem HeapTo.swap {ps : List PaceV} {n i : Nat} (h : HeapTo ps (n + 1)) (hl : ps.length = n + 1) (hi : i < n) : DnTo (swp ps i n) n i i := by
  have at' := fun k => swp_at (ps := ps) (i := i) (j := n) (by omega) (by omega) k
  refine ⟨fun k k0 kn kne kd => ?_, fun k k0 kn kp i0 => ?_⟩
  · rw [at' k, at' ((k - 1) / 2), if_neg (by omega), if_neg (by omega), if_neg (by omega), if_neg kne]
    exact h k k0 (by omega)
  · rw [at' k, at' ((i - 1) / 2), if_neg (by omega), if_neg (by omega), if_neg (by omega), if_neg (by omega)]
    have h1 := h k k0 (by omega)
    rw [kp] at h1
    exact ltB_le (h i i0 (by omega)) h1
abbrev Ris (ps : List PaceV) : Prop := ps.Pairwise fun a b => ltB b a = false
theorem ris_eq {ps qs : List PaceV} (h : Ris ps) (k : Ris qs) (hp : ps.Perm qs) : ps = qs :=
  hp.eq_of_pairwise (le := fun a b => ltB b a = false) (fun _ _ _ _ h1 h2 => ltB_eq h1 h2) h k
theorem ris_heap {ps : List PaceV} (h : Ris ps) : HeapTo ps ps.length := fun k k0 kn => by
  have hk : (k - 1) / 2 < k := by omega
  have := List.pairwise_iff_getElem.1 h ((k - 1) / 2) k (by omega) kn hk
  unfold paceAt
  simpa [List.getD, kn, (by omega : (k - 1) / 2 < ps.length)] using this
theorem ris_snoc {ps : List PaceV} {x : PaceV} (h : Ris ps) (hx : ∀ y ∈ ps, ltB x y = false) : Ris (ps ++ [x]) := by
  unfold Ris; rw [List.pairwise_append]
  exact ⟨h, by simp, fun a ha b hb => by obtain rfl : b = x := by simpa using hb
                                         exact hx a ha⟩
theorem take_snoc_last {ps : List PaceV} {n : Nat} (h : ps.length = n + 1) : ps.take n ++ [paceAt ps n] = ps := by
  have e : paceAt ps n = ps[n] := by unfold paceAt; simp [List.getD, h]
  rw [e, ← List.take_succ_eq_append_getElem (by omega), List.take_of_length_le (by omega)]
theorem paceAt_mem {ps : List PaceV} {k : Nat} (h : k < ps.length) : paceAt ps k ∈ ps := by unfold paceAt; simp [List.getD, h]
theorem mem_paceAt {ps : List PaceV} {x : PaceV} (h : x ∈ ps) : ∃ k, k < ps.length ∧ paceAt ps k = x := by
  obtain ⟨k, hk, rfl⟩ := List.getElem_of_mem h
  exact ⟨k, hk, by unfold paceAt; simp [List.getD, hk]⟩
def entB (p : PaceV) : Bool := inB p.1 (-1000000000000) 1000000000000 && inB p.2 0 99
def findV (ps : List PaceV) (who : Int) : Int := match ps.findIdx? (fun p => p.2 == who) with
  | some k => k
  | none => -1
def stepQ (ps : List PaceV) (k : Nat) : Bool := entB (paceAt ps k) && ((k == 0 || ltB (paceAt ps (k - 1)) (paceAt ps k)) && decide (findV (ps.take k) (paceAt ps k).2 < 0))
def queueB (ps : List PaceV) : Bool := decide (ps.length ≤ 100) && (List.range ps.length).all (stepQ ps)
def lessN (e : PaceV) : List PaceV → Nat
  | [] => 0
  | p :: ps => if ltB p e then lessN e ps + 1 else 0
def putV (ps : List PaceV) (e : PaceV) : List PaceV := ps.take (lessN e ps) ++ e :: ps.drop (lessN e ps)
def queuedV (ps : List PaceV) (e : PaceV) : List PaceV × Bool := if queueB ps then if queueB (putV ps e) then (putV ps e, true) else (ps, false) else ([], false)
def firstV (ps : List PaceV) : PaceV × Bool := if queueB ps && decide (0 < ps.length) then (paceAt ps 0, true) else ((0, 0), false)
theorem findV_none {ps : List PaceV} {who : Int} (h : ∀ j, j < ps.length → (paceAt ps j).2 ≠ who) : findV ps who = -1 := by
  unfold findV
  rw [List.findIdx?_eq_none_iff.2]
  intro p hp
  obtain ⟨k, hk, rfl⟩ := mem_paceAt hp
  simpa using h k hk
theorem findV_some {ps : List PaceV} {who : Int} {k : Nat} (hk : k < ps.length) (h : (paceAt ps k).2 = who) (hn : ∀ j, j < k → (paceAt ps j).2 ≠ who) : findV ps who = k := by
  have e : ∀ j (hj : j < ps.length), paceAt ps j = ps[j] := fun j hj => by unfold paceAt; simp [List.getD, hj]
  unfold findV
  rw [List.findIdx?_eq_some_iff_getElem.2 ⟨hk, by rw [← e k hk]; simpa using h, fun j hj => by rw [← e j (by omega)]; simpa using hn j hj⟩]
theorem findV_cases (ps : List PaceV) (who : Int) : (findV ps who = -1 ∧ ∀ j, j < ps.length → (paceAt ps j).2 ≠ who) ∨ ∃ k : Nat, findV ps who = k ∧ k < ps.length ∧ (paceAt ps k).2 = who ∧ ∀ j, j < k → (paceAt ps j).2 ≠ who := by
  have e : ∀ j (hj : j < ps.length), paceAt ps j = ps[j] := fun j hj => by unfold paceAt; simp [List.getD, hj]
  cases hf : ps.findIdx? (fun p => p.2 == who) with
  | none =>
    left
    refine ⟨by unfold findV; rw [hf], fun j hj => ?_⟩
    have := List.findIdx?_eq_none_iff.1 hf _ (paceAt_mem hj)
    simpa using this
  | some k =>
    right
    obtain ⟨hk, h1, h2⟩ := List.findIdx?_eq_some_iff_getElem.1 hf
    refine ⟨k, by unfold findV; rw [hf], hk, by rw [e k hk]; simpa using h1, fun j hj => ?_⟩
    have := h2 j hj
    rw [e j (by omega)]; simpa using this
theorem findV_bd (ps : List PaceV) (who : Int) : -1 ≤ findV ps who ∧ findV ps who < ps.length := by
  rcases findV_cases ps who with ⟨h, _⟩ | ⟨k, h, hk, _⟩ <;> omega
theorem queueB_t {ps : List PaceV} (hl : ps.length ≤ 100) (h : ∀ j, j < ps.length → stepQ ps j = true) : queueB ps = true := by
  unfold queueB; simp only [Bool.and_eq_true, decide_eq_true_eq, List.all_eq_true]; exact ⟨hl, fun j hj => h j (List.mem_range.1 hj)⟩
theorem queueB_f {ps : List PaceV} {j : Nat} (hj : j < ps.length) (h : stepQ ps j = false) : queueB ps = false := by
  unfold queueB; rw [Bool.and_eq_false_iff]; right; rw [List.all_eq_false]; exact ⟨j, List.mem_range.2 hj, by simp [h]⟩
theorem queueB_big {ps : List PaceV} (hl : 100 < ps.length) : queueB ps = false := by
  unfold queueB; rw [Bool.and_eq_false_iff]; left; exact decide_eq_false (by omega)
theorem queueB_of {ps : List PaceV} (h : queueB ps = true) : ps.length ≤ 100 ∧ ∀ j, j < ps.length → stepQ ps j = true := by
  unfold queueB at h; simp only [Bool.and_eq_true, decide_eq_true_eq, List.all_eq_true] at h; exact ⟨h.1, fun j hj => h.2 j (List.mem_range.2 hj)⟩
theorem stepQ_of {ps : List PaceV} {k : Nat} (h : stepQ ps k = true) : entB (paceAt ps k) = true ∧ (0 < k → ltB (paceAt ps (k - 1)) (paceAt ps k) = true) ∧ findV (ps.take k) (paceAt ps k).2 < 0 := by
  unfold stepQ at h; simp only [Bool.and_eq_true, Bool.or_eq_true, decide_eq_true_eq, beq_iff_eq] at h
  exact ⟨h.1, fun h0 => by rcases h.2.1 with e | e; · omega
                           · exact e, h.2.2⟩
structure IsQ (ps : List PaceV) : Prop where
  len : ps.length ≤ 100
  ent : ∀ p ∈ ps, entB p = true
  ord : ps.Pairwise fun a b => ltB a b = true
  who : ps.Pairwise fun a b => a.2 ≠ b.2
theorem ord_of {ps : List PaceV} (h : ∀ k, 0 < k → k < ps.length → ltB (paceAt ps (k - 1)) (paceAt ps k) = true) : ∀ i j, i < j → j < ps.length → ltB (paceAt ps i) (paceAt ps j) = true := by
  intro i j
  induction j with
  | zero => intro h; omega
  | succ j ih =>
    intro hij hj
    have h1 := h (j + 1) (by omega) hj
    by_cases e : i = j
    · subst e; simpa using h1
    · exact ltB_lt (ih (by omega) (by omega)) (by simpa using h1)
theorem isQ_of {ps : List PaceV} (h : queueB ps = true) : IsQ ps := by
  obtain ⟨hl, hs⟩ := queueB_of h
  have e : ∀ j (hj : j < ps.length), paceAt ps j = ps[j] := fun j hj => by unfold paceAt; simp [List.getD, hj]
  refine ⟨hl, fun p hp => ?_, ?_, ?_⟩
  · obtain ⟨k, hk, rfl⟩ := mem_paceAt hp
    exact (stepQ_of (hs k hk)).1
  · rw [List.pairwise_iff_getElem]
    intro i j hi hj hij
    rw [← e i hi, ← e j hj]
    exact ord_of (fun k k0 kn => (stepQ_of (hs k kn)).2.1 k0) i j hij hj
  · rw [List.pairwise_iff_getElem]
    intro i j hi hj hij
    rw [← e i hi, ← e j hj]
    have h3 := (stepQ_of (hs j hj)).2.2
    rcases findV_cases (ps.take j) (paceAt ps j).2 with ⟨_, h4⟩ | ⟨k, h4, _⟩
    · have := h4 i (by simp; omega)
      rwa [paceAt_take hij] at this
    · omega
theorem queueB_isQ {ps : List PaceV} (h : IsQ ps) : queueB ps = true := by
  have e : ∀ j (hj : j < ps.length), paceAt ps j = ps[j] := fun j hj => by unfold paceAt; simp [List.getD, hj]
  refine queueB_t h.len fun j hj => ?_
  unfold stepQ
  simp only [Bool.and_eq_true, Bool.or_eq_true, decide_eq_true_eq, beq_iff_eq]
  refine ⟨h.ent _ (paceAt_mem hj), ?_, ?_⟩
  · by_cases h0 : j = 0
    · exact .inl h0
    · right
      rw [e j hj, e (j - 1) (by omega)]
      exact List.pairwise_iff_getElem.1 h.ord (j - 1) j (by omega) hj (by omega)
  · rw [findV_none (fun i hi => ?_)]
    · omega
    · have hi' : i < j := by simp at hi; omega
      rw [paceAt_take hi', e i (by omega), e j hj]
      exact List.pairwise_iff_getElem.1 h.who i j (by omega) hj hi'
theorem IsQ.ris {ps : List PaceV} (h : IsQ ps) : Ris ps := h.ord.imp fun hab => ltB_not hab
theorem lessN_le (e : PaceV) : ∀ ps : List PaceV, lessN e ps ≤ ps.length
  | [] => Nat.le_refl _
  | p :: ps => by have := lessN_le e ps; unfold lessN; split <;> simp <;> omega
theorem lessN_lt (e : PaceV) : ∀ (ps : List PaceV) (k : Nat), k < lessN e ps → ltB (paceAt ps k) e = true
  | [], k, h => by simp [lessN] at h
  | p :: ps, k, h => by
    unfold lessN at h
    split at h
    · cases k with
      | zero => simpa [paceAt] using ‹ltB p e = true›
      | succ k =>
        have := lessN_lt e ps k (by omega)
        simpa [paceAt] using this
    · omega
theorem lessN_at (e : PaceV) : ∀ (ps : List PaceV), lessN e ps < ps.length → ltB (paceAt ps (lessN e ps)) e = false
  | [], h => by simp at h
  | p :: ps, h => by
    unfold lessN at h ⊢
    by_cases hp : ltB p e = true
    · rw [if_pos hp] at h ⊢
      have := lessN_at e ps (by simpa using h)
      simpa [paceAt] using this
    · rw [if_neg hp] at h ⊢
      simpa [paceAt] using hp
theorem lessN_eq {e : PaceV} {ps : List PaceV} {k : Nat} (hk : k ≤ ps.length) (h : ∀ j, j < k → ltB (paceAt ps j) e = true) (hn : k = ps.length ∨ ltB (paceAt ps k) e = false) : lessN e ps = k := by
  rcases Nat.lt_trichotomy (lessN e ps) k with h1 | h1 | h1
  · have h2 := lessN_at e ps (by omega)
    rw [h _ h1] at h2; cases h2
  · exact h1
  · rcases hn with hn | hn
    · have := lessN_le e ps; omega
    · have := lessN_lt e ps k h1
      rw [hn] at this; cases this
theorem putV_perm (ps : List PaceV) (e : PaceV) : (putV ps e).Perm (ps ++ [e]) := by
  unfold putV
  have h1 : (ps.take (lessN e ps) ++ e :: ps.drop (lessN e ps)).Perm (e :: (ps.take (lessN e ps) ++ ps.drop (lessN e ps))) := List.perm_middle
  rw [List.take_append_drop] at h1
  exact h1.trans (List.perm_append_comm (l₁ := [e]) (l₂ := ps))
theorem putV_len (ps : List PaceV) (e : PaceV) : (putV ps e).length = ps.length + 1 := by have := (putV_perm ps e).length_eq; simpa using this
theorem putV_ris {ps : List PaceV} (h : Ris ps) (e : PaceV) : Ris (putV ps e) := by
  have hle := lessN_le e ps
  have hdr : ∀ y ∈ ps.drop (lessN e ps), ltB y e = false := fun y hy => by
    obtain ⟨k, hk, rfl⟩ := List.getElem_of_mem hy
    have hk' : lessN e ps + k < ps.length := by simp at hk; omega
    rw [List.getElem_drop]
    have h0 := lessN_at e ps (by omega)
    have e0 : paceAt ps (lessN e ps) = ps[lessN e ps]'(by omega) := by unfold paceAt; simp [List.getD, (by omega : lessN e ps < ps.length)]
    rw [e0] at h0
    by_cases hz : k = 0
    · subst hz; simpa using h0
    · have h1 := List.pairwise_iff_getElem.1 h (lessN e ps) (lessN e ps + k) (by omega) hk' (by omega)
      exact ltB_le h0 h1
  have hta : ∀ y ∈ ps.take (lessN e ps), ltB y e = true := fun y hy => by
    obtain ⟨k, hk, rfl⟩ := List.getElem_of_mem hy
    have hk' : k < lessN e ps := by simp at hk; omega
    have := lessN_lt e ps k hk'
    rw [List.getElem_take]
    unfold paceAt at this
    simpa [List.getD, (by omega : k < ps.length)] using this
  unfold putV Ris
  rw [List.pairwise_append, List.pairwise_cons]
  refine ⟨h.sublist (List.take_sublist _ _), ⟨fun y hy => hdr y hy, h.sublist (List.drop_sublist _ _)⟩, fun a ha b hb => ?_⟩
  rcases List.mem_cons.1 hb with rfl | hb
  · exact ltB_not (hta a ha)
  · exact ltB_le (ltB_not (hta a ha)) (hdr b hb)
theorem sorted_put {ps qs : List PaceV} {e : PaceV} (h : IsQ ps) (hq : Ris qs) (hp : qs.Perm (ps ++ [e])) : qs = putV ps e :=
  ris_eq hq (putV_ris h.ris e) (hp.trans (putV_perm ps e).symm)
open Go.ChangeShapes Go.WideShapes Go.ChangeAt Go.RowKit Go.Sort
def atV (ss : List SmithV) (b : Int) : Nat → List PaceV
 | 0 => []
 | k + 1 => if (recAt ss k).2.1 = b ∧ presS (recAt ss k) = true then putV (atV ss b k) ((recAt ss k).2.2.2.2.2.2.2.1, (k : Int)) else atV ss b k
theorem atV_len (ss : List SmithV) (b : Int) : ∀ k, (atV ss b k).length ≤ k
 | 0 => Nat.le_refl _
 | k + 1 => by
  have := atV_len ss b k
  unfold atV
  split
  ·rw [putV_len]; omega
  ·omega
theorem atV_no {ss : List SmithV} {b : Int} {k : Nat} (h : ¬ ((recAt ss k).2.1 = b ∧ presS (recAt ss k) = true)) : atV ss b (k + 1) = atV ss b k := by rw [atV, if_neg h]
theorem atV_yes {ss : List SmithV} {b : Int} {k : Nat} (h1 : (recAt ss k).2.1 = b) (h2 : presS (recAt ss k) = true) : atV ss b (k + 1) = putV (atV ss b k) ((recAt ss k).2.2.2.2.2.2.2.1, (k : Int)) := by rw [atV, if_pos ⟨h1, h2⟩]
theorem smyB_few {m : SmyV} (h : smyB m = true) : m.smiths.length ≤ 12 := by
 unfold smyB looseB headB at h
 simp only [Bool.and_eq_true, decide_eq_true_eq] at h
 exact h.1.1.2.2.1
def hadS (s : SmithV) : Int := s.2.2.2.2.2.2.2.1
theorem putV_mem {ps : List PaceV} {x e : PaceV} : e ∈ putV ps x ↔ e ∈ ps ∨ e = x := by
 rw [(putV_perm ps x).mem_iff]; simp
theorem atV_mem (ss : List SmithV) (b : Int) (e : PaceV) : ∀ k, e ∈ atV ss b k ↔ ∃ i : Nat, i < k ∧ (recAt ss i).2.1 = b ∧ presS (recAt ss i) = true ∧ e = (hadS (recAt ss i), (i : Int))
 | 0 => by simp [atV]
 | k + 1 => by
  have ih := atV_mem ss b e k
  by_cases h : (recAt ss k).2.1 = b ∧ presS (recAt ss k) = true
  ·rw [atV_yes h.1 h.2, putV_mem, ih]
   constructor
   ·rintro (⟨i, hi, h1, h2, h3⟩ | h3)
    ·exact ⟨i, by omega, h1, h2, h3⟩
    ·exact ⟨k, by omega, h.1, h.2, h3⟩
   ·rintro ⟨i, hi, h1, h2, h3⟩
    by_cases hik : i = k
    ·subst hik; exact .inr h3
    ·exact .inl ⟨i, by omega, h1, h2, h3⟩
  ·rw [atV_no h, ih]
   constructor
   ·rintro ⟨i, hi, h1, h2, h3⟩
    exact ⟨i, by omega, h1, h2, h3⟩
   ·rintro ⟨i, hi, h1, h2, h3⟩
    by_cases hik : i = k
    ·subst hik; exact absurd ⟨h1, h2⟩ h
    ·exact ⟨i, by omega, h1, h2, h3⟩
theorem atV_ris (ss : List SmithV) (b : Int) : ∀ k, Ris (atV ss b k)
 | 0 => List.Pairwise.nil
 | k + 1 => by
  by_cases h : (recAt ss k).2.1 = b ∧ presS (recAt ss k) = true
  ·rw [atV_yes h.1 h.2]; exact putV_ris (atV_ris ss b k) _
  ·rw [atV_no h]; exact atV_ris ss b k
theorem atV_whos (ss : List SmithV) (b : Int) : ∀ k, (atV ss b k).Pairwise fun x y => x.2 ≠ y.2
 | 0 => List.Pairwise.nil
 | k + 1 => by
  by_cases h : (recAt ss k).2.1 = b ∧ presS (recAt ss k) = true
  ·rw [atV_yes h.1 h.2]
   refine (putV_perm (atV ss b k) _).symm.pairwise ?_ (fun h => Ne.symm h)
   rw [List.pairwise_append]
   refine ⟨atV_whos ss b k, by simp, fun x hx y hy => ?_⟩
   obtain rfl : y = _ := by simpa using hy
   obtain ⟨i, hi, _, _, rfl⟩ := (atV_mem ss b x k).1 hx
   show (i : Int) ≠ (k : Int)
   omega
  ·rw [atV_no h]; exact atV_whos ss b k
def Alike (ss ss' : List SmithV) (k : Nat) : Prop := ∀ i, i < k → (recAt ss' i).2.1 = (recAt ss i).2.1 ∧ presS (recAt ss' i) = presS (recAt ss i) ∧ hadS (recAt ss' i) = hadS (recAt ss i)
theorem atV_alike {ss ss' : List SmithV} (b : Int) : ∀ k, Alike ss ss' k → atV ss' b k = atV ss b k
 | 0, _ => rfl
 | k + 1, h => by
  have ih := atV_alike b k (fun i hi => h i (by omega))
  obtain ⟨h1, h2, h3⟩ := h k (by omega)
  unfold atV
  rw [h1, h2, ih, show (recAt ss' k).2.2.2.2.2.2.2.1 = (recAt ss k).2.2.2.2.2.2.2.1 from h3]
def firstAt (ss : List SmithV) (b : Int) : Int := match atV ss b ss.length with
 | [] => -1
 | h :: _ => h.2
theorem firstAt_some {ss : List SmithV} {b : Int} {e : PaceV} {t : List PaceV} (h : atV ss b ss.length = e :: t) : firstAt ss b = e.2 ∧ ∃ i : Nat, i < ss.length ∧ (recAt ss i).2.1 = b ∧ presS (recAt ss i) = true ∧ e = (hadS (recAt ss i), (i : Int)) := by
 refine ⟨by unfold firstAt; rw [h], ?_⟩
 exact (atV_mem ss b e ss.length).1 (by rw [h]; simp)
theorem first_least {ss : List SmithV} {b : Int} {e : PaceV} {t : List PaceV} (h : atV ss b ss.length = e :: t) {i : Nat} (hi : i < ss.length) (h1 : (recAt ss i).2.1 = b) (h2 : presS (recAt ss i) = true) : e.1 ≤ hadS (recAt ss i) := by
 have hm : (hadS (recAt ss i), (i : Int)) ∈ atV ss b ss.length := (atV_mem ss b _ ss.length).2 ⟨i, hi, h1, h2, rfl⟩
 have hr := atV_ris ss b ss.length
 rw [h] at hm hr
 rcases List.mem_cons.1 hm with he | ht
 ·rw [← he]; exact Int.le_refl _
 ·have := (List.pairwise_cons.1 hr).1 _ ht
  rw [ltB_f] at this
  simp only at this
  omega
def hadB (x : Int) : Bool := inB x (-1000000000000) 1000000000000
def inBandB (h m : Int) : Bool := (hadB h && hadB m) && inB (h - m) (-20000) 63000
def placedV (h m : Int) : Int := if hadB m then max h (m - 20000) else h
def movedV (h f t : Int) : Int := if hadB h && (hadB f && hadB t) then h - f + t else h
def markedV (m f : Int) : Int := if hadB m && hadB f then min (max m f) 900000000000 else m
theorem had_of {x : Int} (h : hadB x = true) : -1000000000000 ≤ x ∧ x ≤ 1000000000000 := inB_of h
theorem hads1 (x : Int) : ([x].all fun z => inB z (-1000000000000) 1000000000000) = hadB x := by simp [hadB]
theorem hads2 (x y : Int) : ([x, y].all fun z => inB z (-1000000000000) 1000000000000) = (hadB x && hadB y) := by simp [hadB]
theorem hads3 (x y z : Int) : ([x, y, z].all fun z => inB z (-1000000000000) 1000000000000) = (hadB x && (hadB y && hadB z)) := by simp [hadB]
theorem band_at (h m : Int) : ([h].all fun z => inB z (m - 20000) (m + 63000)) = inB (h - m) (-20000) 63000 := by
 simp only [List.all_cons, List.all_nil, Bool.and_true]
 unfold inB
 congr 1
 exact propext ⟨fun h => by omega, fun h => by omega⟩
theorem hadB_t {x : Int} (h0 : -1000000000000 ≤ x) (h1 : x ≤ 1000000000000) : hadB x = true := inB_t h0 h1
theorem marked_in {m f : Int} (m0 : -1000000000000 ≤ m) (m1 : m ≤ 1000000000000) (f0 : -1000000000000 ≤ f) (f1 : f ≤ 1000000000000) : markedV m f = min (max m f) 900000000000 := by
 unfold markedV; rw [hadB_t m0 m1, hadB_t f0 f1]; rfl
end Go.Proofs.YthbbahagpmdooaaGreatDoor
