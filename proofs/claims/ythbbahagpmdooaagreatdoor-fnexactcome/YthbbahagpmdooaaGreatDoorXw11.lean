/- Part 11 of what the proof rests on. No condition but those that a theorem names. -/
import Derived.Test.YthbbahagpmdooaaGreatDoorXw10
set_option maxHeartbeats 8000000
set_option maxRecDepth 100000
namespace Go.Proofs.YthbbahagpmdooaaGreatDoor
open Go.ChangeShapes Go.WideShapes Go.ChangeAt Go.RowKit Go.Sort
set_option linter.unusedVariables false
def stS (s : SmithV) (st : Int) : SmithV := (st, s.2)
def waitAll (ss : List SmithV) (q : List PaceV) : List SmithV := q.foldl (fun ss e => ss.set e.2.toNat (stS (recAt ss e.2.toNat) 2)) ss
theorem waitAll_snoc (ss : List SmithV) (q : List PaceV) (e : PaceV) : waitAll ss (q ++ [e]) = (waitAll ss q).set e.2.toNat (stS (recAt (waitAll ss q) e.2.toNat) 2) := by
  unfold waitAll; rw [List.foldl_append]; rfl
theorem waitAll_len (q : List PaceV) : ∀ ss : List SmithV, (waitAll ss q).length = ss.length := by
  induction q with
  | nil => intro ss; rfl
  | cons e q ih => intro ss; show (waitAll (ss.set e.2.toNat (stS (recAt ss e.2.toNat) 2)) q).length = _; rw [ih, List.length_set]
theorem waitAll_at (q : List PaceV) : ∀ (ss : List SmithV) (i : Nat), (∀ e ∈ q, 0 ≤ e.2 ∧ e.2 < ss.length) → ((∃ e ∈ q, e.2 = (i : Int)) → recAt (waitAll ss q) i = stS (recAt ss i) 2) ∧ ((∀ e ∈ q, e.2 ≠ (i : Int)) → recAt (waitAll ss q) i = recAt ss i) := by
  induction q with
  | nil =>
    intro ss i h
    exact ⟨fun ⟨e, he, _⟩ => (List.not_mem_nil he).elim, fun _ => rfl⟩
  | cons e q ih =>
    intro ss i h
    obtain ⟨e0, e1⟩ := h e (by simp)
    have hs := recAt_set (x := stS (recAt ss e.2.toNat) 2) (show e.2.toNat < ss.length by omega) i
    obtain ⟨i1, i2⟩ := ih (ss.set e.2.toNat (stS (recAt ss e.2.toNat) 2)) i (fun x hx => by rw [List.length_set]; exact h x (List.mem_cons_of_mem _ hx))
    show ((∃ x ∈ e :: q, x.2 = (i : Int)) → recAt (waitAll (ss.set e.2.toNat (stS (recAt ss e.2.toNat) 2)) q) i = _) ∧ ((∀ x ∈ e :: q, x.2 ≠ (i : Int)) → recAt (waitAll (ss.set e.2.toNat (stS (recAt ss e.2.toNat) 2)) q) i = _)
    constructor
    · rintro ⟨x, hx, hxi⟩
      by_cases hq : ∃ y ∈ q, y.2 = (i : Int)
      · rw [i1 hq, hs]
        split
        · rename_i he; rw [he]; rfl
        · rfl
      · rw [i2 (fun y hy e => hq ⟨y, hy, e⟩), hs]
        rcases List.mem_cons.1 hx with rfl | hx
        · rw [if_pos (by omega)]
          rw [show x.2.toNat = i by omega]
        · exact absurd ⟨x, hx, hxi⟩ hq
    · intro hn
      rw [i2 (fun y hy => hn y (List.mem_cons_of_mem _ hy)), hs, if_neg]
      have := hn e (by simp)
      omega
def turnedD (ss : List SmithV) (b : Int) (d : DeskV) : DeskV := match atV ss b ss.length with
  | [] => (d.1, -1, d.2.2)
  | e :: _ => (d.1, e.2, markedV d.2.2 e.1)
def turnB (m : SmyV) (b : Nat) : SmyV := match atV m.smiths b m.smiths.length with
  | [] => { m with desks := m.desks.set b ((recAt m.desks b).1, -1, (recAt m.desks b).2.2) }
  | e :: t => { m with smiths := (waitAll m.smiths (e :: t)).set e.2.toNat (stS (recAt (waitAll m.smiths (e :: t)) e.2.toNat) 3), desks := m.desks.set b ((recAt m.desks b).1, e.2, markedV (recAt m.desks b).2.2 e.1) }
def turnK (m : SmyV) : Nat → SmyV
  | 0 => m
  | k + 1 => turnB (turnK m k) k
def turnV (m : SmyV) : SmyV := turnK m m.desks.length
theorem turnB_same (m : SmyV) (b : Nat) : (turnB m b).rooms = m.rooms ∧ (turnB m b).guilds = m.guilds ∧ (turnB m b).paces = m.paces ∧ (turnB m b).now = m.now ∧ (turnB m b).smiths.length = m.smiths.length ∧ (turnB m b).desks.length = m.desks.length := by
  unfold turnB
  split
  · simp
  · simp [waitAll_len]
theorem turnK_same (m : SmyV) : ∀ k, (turnK m k).rooms = m.rooms ∧ (turnK m k).guilds = m.guilds ∧ (turnK m k).paces = m.paces ∧ (turnK m k).now = m.now ∧ (turnK m k).smiths.length = m.smiths.length ∧ (turnK m k).desks.length = m.desks.length
  | 0 => ⟨rfl, rfl, rfl, rfl, rfl, rfl⟩
  | k + 1 => by
    obtain ⟨h1, h2, h3, h4, h5, h6⟩ := turnK_same m k
    obtain ⟨g1, g2, g3, g4, g5, g6⟩ := turnB_same (turnK m k) k
    exact ⟨g1.trans h1, g2.trans h2, g3.trans h3, g4.trans h4, g5.trans h5, g6.trans h6⟩
theorem turnB_smith (m : SmyV) (b : Nat) {i : Nat} (hi : i < m.smiths.length) : recAt (turnB m b).smiths i = if (recAt m.smiths i).2.1 = (b : Int) ∧ presS (recAt m.smiths i) = true then stS (recAt m.smiths i) (if firstAt m.smiths b = (i : Int) then 3 else 2) else recAt m.smiths i := by
  have hq := atV_mem m.smiths (b : Int)
  have hf : firstAt m.smiths (b : Int) = match atV m.smiths (b : Int) m.smiths.length with
    | [] => -1
    | h :: _ => h.2 := rfl
  unfold turnB
  split
  · rename_i h0
    rw [if_neg]
    intro hp
    have := (hq (hadS (recAt m.smiths i), (i : Int)) m.smiths.length).2 ⟨i, hi, hp.1, hp.2, rfl⟩
    rw [h0] at this
    exact List.not_mem_nil this
  · rename_i e t h0
    rw [h0] at hf
    simp only at hf
    have hin : ∀ x ∈ e :: t, 0 ≤ x.2 ∧ x.2 < m.smiths.length := by
      intro x hx
      rw [← h0] at hx
      obtain ⟨j, hj, _, _, rfl⟩ := (hq x _).1 hx
      exact ⟨by show (0 : Int) ≤ (j : Int); omega, by show (j : Int) < _; omega⟩
    obtain ⟨w1, w2⟩ := waitAll_at (e :: t) m.smiths i hin
    obtain ⟨e0, e1⟩ := hin e (by simp)
    show recAt ((waitAll m.smiths (e :: t)).set e.2.toNat _) i = _
    rw [recAt_set (by rw [waitAll_len]; omega)]
    by_cases hp : (recAt m.smiths i).2.1 = (b : Int) ∧ presS (recAt m.smiths i) = true
    · have hmem : (hadS (recAt m.smiths i), (i : Int)) ∈ e :: t := by rw [← h0]; exact (hq _ _).2 ⟨i, hi, hp.1, hp.2, rfl⟩
      rw [if_pos hp, hf]
      by_cases hie : i = e.2.toNat
      · rw [if_pos hie, if_pos (by omega), ← hie, w1 ⟨_, hmem, rfl⟩]
        rfl
      · rw [if_neg hie, if_neg (by omega), w1 ⟨_, hmem, rfl⟩]
    · have hnm : ∀ x ∈ e :: t, x.2 ≠ (i : Int) := by
        intro x hx hxi
        rw [← h0] at hx
        obtain ⟨j, hj, j1, j2, rfl⟩ := (hq x _).1 hx
        have : j = i := by have : (j : Int) = (i : Int) := hxi
                           omega
        subst this
        exact hp ⟨j1, j2⟩
      rw [if_neg hp, if_neg (by have := hnm e (by simp); omega), w2 hnm]
theorem turnB_desk (m : SmyV) {b : Nat} (hb : b < m.desks.length) (j : Nat) : recAt (turnB m b).desks j = if j = b then turnedD m.smiths b (recAt m.desks b) else recAt m.desks j := by
  have hf : turnedD m.smiths (b : Int) (recAt m.desks b) = match atV m.smiths (b : Int) m.smiths.length with
    | [] => ((recAt m.desks b).1, -1, (recAt m.desks b).2.2)
    | e :: _ => ((recAt m.desks b).1, e.2, markedV (recAt m.desks b).2.2 e.1) := rfl
  unfold turnB
  split
  · rename_i h0
    rw [h0] at hf
    rw [hf, ← recAt_set hb]
  · rename_i e t h0
    rw [h0] at hf
    rw [hf, ← recAt_set hb]
theorem turnB_alike (m : SmyV) (b : Nat) : Alike m.smiths (turnB m b).smiths m.smiths.length := by
  intro i hi
  rw [turnB_smith m b hi]
  split
  · rename_i hp
    refine ⟨rfl, ?_, rfl⟩
    rw [hp.2]
    split <;> rfl
  · exact ⟨rfl, rfl, rfl⟩
theorem Alike.trans {a b c : List SmithV} {k : Nat} (h : Alike a b k) (g : Alike b c k) : Alike a c k := fun i hi => ⟨(g i hi).1.trans (h i hi).1, (g i hi).2.1.trans (h i hi).2.1, (g i hi).2.2.trans (h i hi).2.2⟩
theorem turnK_alike (m : SmyV) : ∀ k, Alike m.smiths (turnK m k).smiths m.smiths.length
  | 0 => fun _ _ => ⟨rfl, rfl, rfl⟩
  | k + 1 => by
    have h := turnB_alike (turnK m k) k
    rw [(turnK_same m k).2.2.2.2.1] at h
    exact (turnK_alike m k).trans h
theorem turnK_atV (m : SmyV) (k : Nat) (b : Int) : atV (turnK m k).smiths b (turnK m k).smiths.length = atV m.smiths b m.smiths.length := by
  rw [(turnK_same m k).2.2.2.2.1]
  exact atV_alike b _ (turnK_alike m k)
theorem turnK_first (m : SmyV) (k : Nat) (b : Int) : firstAt (turnK m k).smiths b = firstAt m.smiths b := by unfold firstAt; rw [turnK_atV]
theorem turnK_turnedD (m : SmyV) (k : Nat) (b : Int) (d : DeskV) : turnedD (turnK m k).smiths b d = turnedD m.smiths b d := by unfold turnedD; rw [turnK_atV]
theorem turnK_smith (m : SmyV) {i : Nat} (hi : i < m.smiths.length) : ∀ k : Nat, recAt (turnK m k).smiths i = if (0 ≤ (recAt m.smiths i).2.1 ∧ (recAt m.smiths i).2.1 < (k : Int)) ∧ presS (recAt m.smiths i) = true then stS (recAt m.smiths i) (if firstAt m.smiths (recAt m.smiths i).2.1 = (i : Int) then 3 else 2) else recAt m.smiths i
  | 0 => by rw [if_neg (by omega)]; rfl
  | k + 1 => by
    have ih := turnK_smith m hi k
    have ha := turnK_alike m k i hi
    show recAt (turnB (turnK m k) k).smiths i = _
    rw [turnB_smith _ _ (by rw [(turnK_same m k).2.2.2.2.1]; exact hi), ha.1, ha.2.1, turnK_first]
    by_cases hp : presS (recAt m.smiths i) = true
    · by_cases hb : (recAt m.smiths i).2.1 = (k : Int)
      · have hc : (0 ≤ (recAt m.smiths i).2.1 ∧ (recAt m.smiths i).2.1 < ((k + 1 : Nat) : Int)) ∧ presS (recAt m.smiths i) = true := ⟨by omega, hp⟩
        rw [if_pos ⟨hb, hp⟩, if_pos hc, ih, if_neg (by omega), hb]
      · rw [if_neg (fun h => hb h.1), ih]
        by_cases hk : 0 ≤ (recAt m.smiths i).2.1 ∧ (recAt m.smiths i).2.1 < (k : Int)
        · have hc : (0 ≤ (recAt m.smiths i).2.1 ∧ (recAt m.smiths i).2.1 < ((k + 1 : Nat) : Int)) ∧ presS (recAt m.smiths i) = true := ⟨by omega, hp⟩
          rw [if_pos ⟨hk, hp⟩, if_pos hc]
        · rw [if_neg (fun h => hk h.1), if_neg (fun h => hk (by omega))]
    · rw [if_neg (fun h => hp h.2), ih, if_neg (fun h => hp h.2), if_neg (fun h => hp h.2)]
theorem turnK_desk (m : SmyV) (j : Nat) : ∀ k : Nat, k ≤ m.desks.length → recAt (turnK m k).desks j = if j < k then turnedD m.smiths j (recAt m.desks j) else recAt m.desks j
  | 0, _ => by rw [if_neg (by omega)]; rfl
  | k + 1, hk => by
    have ih := turnK_desk m j k (by omega)
    show recAt (turnB (turnK m k) k).desks j = _
    rw [turnB_desk _ (by rw [(turnK_same m k).2.2.2.2.2]; omega)]
    by_cases hjk : j = k
    · subst hjk
      rw [if_pos rfl, if_pos (by omega), turnK_turnedD, ih, if_neg (by omega)]
    · rw [if_neg hjk, ih]
      by_cases h : j < k
      · rw [if_pos h, if_pos (by omega)]
      · rw [if_neg h, if_neg (by omega)]
structure Loose (m : SmyV) : Prop where
  head : headB m = true
  desk : ∀ j, j < m.desks.length → deskB (recAt m.desks j) = true
  pace : ∀ j, j < m.paces.length → paceInB m j = true
  here : ∀ i, i < m.smiths.length → hereB m (recAt m.smiths i) = true
  seat : ∀ i, i < m.smiths.length → seatB m (recAt m.smiths i) = true
  openD : ∃ j, j < m.desks.length ∧ (recAt m.desks j).1 = true
theorem loose_of {m : SmyV} (h : looseB m = true) : Loose m := by
  unfold looseB upDesks upPaces upSmiths upOpen at h
  simp only [Bool.and_eq_true] at h
  obtain ⟨h1, h2, h3, h4, h5⟩ := h
  have h4' := fun i hi => all_at h4 (k := i) hi
  simp only [Bool.and_eq_true] at h4'
  obtain ⟨j, hj, ho⟩ := List.any_eq_true.1 h5
  exact ⟨h1, fun j hj => all_at h2 hj, fun j hj => all_at h3 hj, fun i hi => (h4' i hi).1, fun i hi => (h4' i hi).2, j, List.mem_range.1 hj, ho⟩
theorem Loose.mk' {m : SmyV} (h : Loose m) : looseB m = true := by
  unfold looseB upDesks upPaces upSmiths upOpen
  simp only [Bool.and_eq_true]
  refine ⟨h.head, ?_, ?_, ?_, ?_⟩
  · exact List.all_eq_true.2 fun j hj => h.desk j (List.mem_range.1 hj)
  · exact List.all_eq_true.2 fun j hj => h.pace j (List.mem_range.1 hj)
  · exact List.all_eq_true.2 fun j hj => by rw [h.here j (List.mem_range.1 hj), h.seat j (List.mem_range.1 hj)]; rfl
  · obtain ⟨j, hj, ho⟩ := h.openD
    exact List.any_eq_true.2 ⟨j, List.mem_range.2 hj, ho⟩
theorem Loose.at {m : SmyV} (h : Loose m) {i : Nat} (hi : i < m.smiths.length) (hp : presS (recAt m.smiths i) = true) : 0 ≤ (recAt m.smiths i).2.1 ∧ (recAt m.smiths i).2.1 < m.desks.length ∧ (recAt m.desks (recAt m.smiths i).2.1.toNat).1 = true ∧ bitB (recAt m.smiths i).2.2.2.1 (recAt m.smiths i).2.1 = true ∧ bandB (hadS (recAt m.smiths i)) (recAt m.desks (recAt m.smiths i).2.1.toNat).2.2 = true := by
  obtain ⟨b0, b1, _⟩ := hereB_of (h.here i hi) hp
  have hs := h.seat i hi
  unfold seatB at hs
  rw [hp] at hs
  simp only [Bool.not_true, Bool.false_or, Bool.and_eq_true] at hs
  exact ⟨b0, b1, hs.1, hs.2.1, hs.2.2⟩
theorem bandB_of {had mark : Int} (h : bandB had mark = true) : -1000000000000 ≤ had ∧ had ≤ 1000000000000 ∧ -1000000000000 ≤ mark ∧ mark ≤ 1000000000000 ∧ -20000 ≤ had - mark ∧ had - mark ≤ 63000 := by
  unfold bandB at h
  simp only [Bool.and_eq_true] at h
  have h1 := inB_of h.1
  have h2 := inB_of h.2.1
  have h3 := inB_of h.2.2
  omega
theorem bandB_t {had mark : Int} (h0 : -1000000000000 ≤ had) (h1 : had ≤ 1000000000000) (h2 : -1000000000000 ≤ mark) (h3 : mark ≤ 1000000000000) (h4 : -20000 ≤ had - mark) (h5 : had - mark ≤ 63000) : bandB had mark = true := by
  unfold bandB; rw [inB_t h0 h1, inB_t h2 h3, inB_t h4 h5]; rfl
theorem deskB_of {d : DeskV} (h : deskB d = true) : -900000000000 ≤ d.2.2 ∧ d.2.2 ≤ 900000000000 := inB_of h
theorem smithB_st {s : SmithV} {st : Int} (h : smithB s = true) (hp : presS s = true) (h0 : 1 ≤ st) (h1 : st ≤ 3) : smithB (stS s st) = true := by
  obtain ⟨x0, be, rk, my, gu, lo, hi, hd, ca, ut, wk⟩ := s
  have hx : x0 ≠ 0 := by intro e; subst e; cases hp
  unfold smithB at h ⊢
  rw [goneB_st (x := (x0, be, rk, my, gu, lo, hi, hd, ca, ut, wk)) hx, Bool.false_or] at h
  unfold presB at h
  simp only [Bool.and_eq_true] at h
  obtain ⟨g0, g⟩ := h
  have : presB (stS (x0, be, rk, my, gu, lo, hi, hd, ca, ut, wk) st) = true := by
    unfold presB stS
    simp only [Bool.and_eq_true]
    exact ⟨inB_t h0 h1, g⟩
  rw [this, Bool.or_true]
theorem hereB_st {m : SmyV} {s : SmithV} {st : Int} (h : hereB m s = true) (hp : presS s = true) (h0 : 1 ≤ st) (h1 : st ≤ 3) : hereB m (stS s st) = true := by
  unfold hereB at h ⊢
  simp only [Bool.and_eq_true, Bool.or_eq_true] at h ⊢
  refine ⟨smithB_st h.1 hp h0 h1, .inr ?_⟩
  rcases h.2 with e | e
  · have : s.1 = 0 := by simpa using e
    unfold presS at hp
    rw [this] at hp
    cases hp
  · exact e
theorem hereB_same {m m' : SmyV} (hg : m'.guilds.length = m.guilds.length) (hd : m'.desks.length = m.desks.length) (s : SmithV) : hereB m' s = hereB m s := by unfold hereB; rw [hg, hd]
theorem turn_loose {m : SmyV} (h : Loose m) : Loose (turnV m) := by
  obtain ⟨e1, e2, e3, e4, e5, e6⟩ := turnK_same m m.desks.length
  have hd := fun j => turnK_desk m j m.desks.length (Nat.le_refl _)
  have hopen : ∀ j, (recAt (turnV m).desks j).1 = (recAt m.desks j).1 := by
    intro j
    unfold turnV
    rw [hd j]
    split
    · unfold turnedD; split <;> rfl
    · rfl
  have hmark : ∀ j, j < m.desks.length → (-900000000000 ≤ (recAt (turnV m).desks j).2.2 ∧ (recAt (turnV m).desks j).2.2 ≤ 900000000000) ∧ (recAt m.desks j).2.2 ≤ (recAt (turnV m).desks j).2.2 ∧ ((recAt (turnV m).desks j).2.2 ≤ (recAt m.desks j).2.2 ∨ ∀ i, i < m.smiths.length → (recAt m.smiths i).2.1 = (j : Int) → presS (recAt m.smiths i) = true → (recAt (turnV m).desks j).2.2 ≤ hadS (recAt m.smiths i)) := by
    intro j hj
    obtain ⟨k0, k1⟩ := deskB_of (h.desk j hj)
    unfold turnV
    rw [hd j, if_pos hj]
    unfold turnedD
    split
    · exact ⟨⟨k0, k1⟩, Int.le_refl _, .inl (Int.le_refl _)⟩
    · rename_i e t hq
      obtain ⟨_, i, hi, hib, hip, rfl⟩ := firstAt_some hq
      obtain ⟨_, _, _, _, hband⟩ := h.at hi hip
      obtain ⟨a0, a1, _⟩ := bandB_of hband
      have hm := marked_in (m := (recAt m.desks j).2.2) (f := hadS (recAt m.smiths i)) (by omega) (by omega) a0 a1
      show (-900000000000 ≤ markedV _ _ ∧ markedV _ _ ≤ 900000000000) ∧ _ ≤ markedV _ _ ∧ (markedV _ _ ≤ _ ∨ _)
      rw [hm]
      refine ⟨by omega, by omega, ?_⟩
      by_cases hc : hadS (recAt m.smiths i) ≤ (recAt m.desks j).2.2
      · left; omega
      · right
        intro i' hi' hb' hp'
        have := first_least hq hi' hb' hp'
        simp only at this
        show min (max (recAt m.desks j).2.2 (hadS (recAt m.smiths i))) 900000000000 ≤ _
        omega
  refine ⟨?_, ?_, ?_, ?_, ?_, ?_⟩
  · have := h.head
    unfold headB at this ⊢
    unfold turnV
    rw [e1, e2, e3, e4, e5, e6]
    exact this
  · intro j hj
    have hj' : j < m.desks.length := by unfold turnV at hj; omega
    exact inB_t (hmark j hj').1.1 (hmark j hj').1.2
  · intro j hj
    have hj' : j < m.paces.length := by unfold turnV at hj; rw [e3] at hj; exact hj
    have := h.pace j hj'
    unfold paceInB at this ⊢
    unfold turnV
    rw [e1, e3]
    exact this
  · intro i hi
    have hi' : i < m.smiths.length := by unfold turnV at hi; omega
    rw [hereB_same (m := m) (by unfold turnV; rw [e2]) (by unfold turnV; rw [e6])]
    unfold turnV
    rw [turnK_smith m hi']
    split
    · rename_i hp
      exact hereB_st (h.here i hi') hp.2 (by split <;> omega) (by split <;> omega)
    · exact h.here i hi'
  · intro i hi
    have hi' : i < m.smiths.length := by unfold turnV at hi; omega
    have ha := turnK_alike m m.desks.length i hi'
    unfold seatB
    show (!presS (recAt (turnK m m.desks.length).smiths i) || _) = true
    rw [ha.2.1]
    cases hp : presS (recAt m.smiths i)
    · rfl
    · obtain ⟨b0, b1, ho, hm, hband⟩ := h.at hi' hp
      obtain ⟨a0, a1, a2, a3, a4, a5⟩ := bandB_of hband
      obtain ⟨⟨q0, q1⟩, q2, q3⟩ := hmark (recAt m.smiths i).2.1.toNat (by omega)
      have hmay : (recAt (turnK m m.desks.length).smiths i).2.2.2.1 = (recAt m.smiths i).2.2.2.1 := by
        rw [turnK_smith m hi']; split <;> rfl
      show (!true || ((recAt (turnV m).desks (recAt (turnK m m.desks.length).smiths i).2.1.toNat).1 && (bitB (recAt (turnK m m.desks.length).smiths i).2.2.2.1 (recAt (turnK m m.desks.length).smiths i).2.1 && bandB (hadS (recAt (turnK m m.desks.length).smiths i)) (recAt (turnV m).desks (recAt (turnK m m.desks.length).smiths i).2.1.toNat).2.2))) = true
      rw [ha.1, ha.2.2, hmay, hopen, ho, hm]
      rw [bandB_t a0 a1 (by omega) (by omega) ?_ (by omega)]
      · rfl
      · rcases q3 with q3 | q3
        · omega
        · have := q3 i hi' (by omega) hp
          omega
  · obtain ⟨j, hj, ho⟩ := h.openD
    exact ⟨j, by unfold turnV; omega, by rw [hopen]; exact ho⟩
theorem scan_of {ss : List SmithV} {b f : Int} : ∀ k : Nat, (∀ i, i < k → (recAt ss i).2.1 = b → presS (recAt ss i) = true → ((recAt ss i).1 = 2 ∧ (i : Int) ≠ f) ∨ ((recAt ss i).1 = 3 ∧ (i : Int) = f)) →
    ∃ wk wt, scanV ss b k = some (wk, wt) ∧ ((wk = -1 ∧ ∀ i, i < k → (recAt ss i).2.1 = b → presS (recAt ss i) = true → (i : Int) ≠ f) ∨ (wk = f ∧ ∃ i : Nat, i < k ∧ (recAt ss i).2.1 = b ∧ presS (recAt ss i) = true ∧ (i : Int) = f)) ∧ (wt = true → ∃ i, i < k ∧ (recAt ss i).2.1 = b ∧ presS (recAt ss i) = true)
  | 0, _ => ⟨-1, false, rfl, .inl ⟨rfl, fun i hi => by omega⟩, fun h => by cases h⟩
  | k + 1, h => by
    obtain ⟨wk, wt, hs, hw, ht⟩ := scan_of k (fun i hi => h i (by omega))
    have hu : scanV ss b (k + 1) = if (recAt ss k).2.1 = b ∧ presS (recAt ss k) = true then (if (recAt ss k).1 = 2 then some (wk, true) else if 0 ≤ wk then none else some ((k : Int), wt)) else some (wk, wt) := by
      show (match scanV ss b k with
        | none => none
        | some (wk, wt) => _) = _
      rw [hs]
    rw [hu]
    by_cases hp : (recAt ss k).2.1 = b ∧ presS (recAt ss k) = true
    · rw [if_pos hp]
      rcases h k (by omega) hp.1 hp.2 with ⟨h2, hne⟩ | ⟨h3, hkf⟩
      · rw [if_pos h2]
        refine ⟨wk, true, rfl, ?_, fun _ => ⟨k, by omega, hp.1, hp.2⟩⟩
        rcases hw with ⟨e, hn⟩ | ⟨e, i, hi, hb, hpi, hif⟩
        · refine .inl ⟨e, fun i hi hb hpi => ?_⟩
          by_cases hik : i = k
          · subst hik; exact hne
          · exact hn i (by omega) hb hpi
        · exact .inr ⟨e, i, by omega, hb, hpi, hif⟩
      · rw [if_neg (by omega)]
        have hw1 : wk = -1 := by
          rcases hw with ⟨e, _⟩ | ⟨e, i, hi, hb, hpi, hif⟩
          · exact e
          · omega
        rw [if_neg (by omega)]
        exact ⟨k, wt, rfl, .inr ⟨hkf, k, by omega, hp.1, hp.2, hkf⟩, fun e => by obtain ⟨i, hi, r⟩ := ht e; exact ⟨i, by omega, r⟩⟩
    · rw [if_neg hp]
      refine ⟨wk, wt, rfl, ?_, fun e => by obtain ⟨i, hi, r⟩ := ht e; exact ⟨i, by omega, r⟩⟩
      rcases hw with ⟨e, hn⟩ | ⟨e, i, hi, r⟩
      · refine .inl ⟨e, fun i hi hb hpi => ?_⟩
        by_cases hik : i = k
        · subst hik; exact absurd ⟨hb, hpi⟩ hp
        · exact hn i (by omega) hb hpi
      · exact .inr ⟨e, i, by omega, r⟩
theorem turn_right {m : SmyV} (h : Loose m) : smyB (turnV m) = true := by
  unfold smyB
  rw [Bool.and_eq_true]
  refine ⟨(turn_loose h).mk', ?_⟩
  obtain ⟨e1, e2, e3, e4, e5, e6⟩ := turnK_same m m.desks.length
  refine List.all_eq_true.2 fun b hb => ?_
  have hb := List.mem_range.1 hb
  have hb' : b < m.desks.length := by unfold turnV at hb; omega
  have hn : (turnV m).smiths.length = m.smiths.length := e5
  have ha := turnK_alike m m.desks.length
  have hstate : ∀ i, i < m.smiths.length → (recAt (turnV m).smiths i).2.1 = (b : Int) → presS (recAt (turnV m).smiths i) = true → ((recAt (turnV m).smiths i).1 = 2 ∧ (i : Int) ≠ firstAt m.smiths b) ∨ ((recAt (turnV m).smiths i).1 = 3 ∧ (i : Int) = firstAt m.smiths b) := by
    intro i hi hib hip
    have hib' : (recAt m.smiths i).2.1 = (b : Int) := (ha i hi).1.symm.trans hib
    have hip' : presS (recAt m.smiths i) = true := (ha i hi).2.1.symm.trans hip
    unfold turnV
    rw [turnK_smith m hi, if_pos ⟨by omega, hip'⟩, hib']
    by_cases hf : firstAt m.smiths (b : Int) = (i : Int)
    · right; rw [if_pos hf]; exact ⟨rfl, hf.symm⟩
    · left; rw [if_neg hf]; exact ⟨rfl, fun e => hf e.symm⟩
  obtain ⟨wk, wt, hs, hw, ht⟩ := scan_of (b := (b : Int)) (f := firstAt m.smiths b) (ss := (turnV m).smiths) m.smiths.length hstate
  unfold benchOkB
  rw [hn, hs]
  simp only
  have hdesk := turnK_desk m b m.desks.length (Nat.le_refl _)
  rw [if_pos hb'] at hdesk
  cases hq : atV m.smiths (b : Int) m.smiths.length with
  | nil =>
    have hempty : ∀ i, i < m.smiths.length → ¬ ((recAt (turnV m).smiths i).2.1 = (b : Int) ∧ presS (recAt (turnV m).smiths i) = true) := by
      rintro i hi ⟨hib, hip⟩
      have := (atV_mem m.smiths (b : Int) (hadS (recAt m.smiths i), (i : Int)) m.smiths.length).2 ⟨i, hi, (ha i hi).1.symm.trans hib, (ha i hi).2.1.symm.trans hip, rfl⟩
      rw [hq] at this
      exact List.not_mem_nil this
    have hwt : wt = false := by
      cases wt
      · rfl
      · obtain ⟨i, hi, r⟩ := ht rfl
        exact absurd r (hempty i hi)
    have hwk : wk = -1 := by
      rcases hw with ⟨e, _⟩ | ⟨_, i, hi, hb, hp, _⟩
      · exact e
      · exact absurd ⟨hb, hp⟩ (hempty i hi)
    have hwho : (recAt (turnV m).desks b).2.1 = -1 := by
      unfold turnV; rw [hdesk]; unfold turnedD; rw [hq]
    rw [hwho, hwk, hwt]
    rfl
  | cons e t =>
    obtain ⟨hfe, i, hi, hib, hip, rfl⟩ := firstAt_some hq
    have hwho : (recAt (turnV m).desks b).2.1 = (i : Int) := by
      unfold turnV; rw [hdesk]; unfold turnedD; rw [hq]
    have hwk : wk = (i : Int) := by
      rcases hw with ⟨_, hn⟩ | ⟨e, _⟩
      · exact absurd hfe.symm (hn i hi ((ha i hi).1.trans hib) ((ha i hi).2.1.trans hip))
      · exact e.trans hfe
    rw [hwho, hwk]
    have : decide ((i : Int) < 0) = false := decide_eq_false (by omega)
    rw [this]
    simp
def roomN (rs : List RoomV) (n : Int) : Nat := ((List.range rs.length).find? fun r => decide (n < benchSum (rs.take (r + 1)))).getD 0
def isBench (rs : List RoomV) (n : Int) : Bool := hallB rs && inB n 0 (benchSum rs - 1)
def roomV (rs : List RoomV) (n : Int) : Int := if isBench rs n = true then (roomN rs n : Int) else -1
def lastForce (ps : List PaceV) : Int := (paceAt ps (ps.length - 1)).1
def forceV (rs : List RoomV) (n : Int) : Int := if isBench rs n = true then lastForce (roomAt rs (roomN rs n)).2 else -1
theorem roomN_eq {rs : List RoomV} {n : Int} {r : Nat} (hr : r < rs.length) (h : n < benchSum (rs.take (r + 1))) (hl : ∀ j, j < r → benchSum (rs.take (j + 1)) ≤ n) : roomN rs n = r := by
 unfold roomN
 have : (List.range rs.length).find? (fun r => decide (n < benchSum (rs.take (r + 1)))) = some r := by
  rw [List.find?_range_eq_some]
  refine ⟨by simpa using h, by simpa using hr, fun j hj => ?_⟩
  have := hl j hj
  simp; omega
 rw [this]; rfl
theorem isBench_of {rs : List RoomV} {n : Int} (h : isBench rs n = true) : hallB rs = true ∧ 0 ≤ n ∧ n < benchSum rs := by
 unfold isBench at h; simp only [Bool.and_eq_true] at h
 have := inB_of h.2
 exact ⟨h.1, by omega, by omega⟩
theorem isBench_t {rs : List RoomV} {n : Int} (h : hallB rs = true) (h0 : 0 ≤ n) (h1 : n < benchSum rs) : isBench rs n = true := by
 unfold isBench; rw [h, inB_t (by omega) (by omega)]; rfl
theorem isBench_f1 {rs : List RoomV} {n : Int} (h : hallB rs = false) : isBench rs n = false := by unfold isBench; rw [h]; rfl
theorem isBench_f2 {rs : List RoomV} {n : Int} (h : n < 0 ∨ benchSum rs ≤ n) : isBench rs n = false := by unfold isBench; rw [inB_f (by omega)]; simp
theorem roomV_t {rs : List RoomV} {n : Int} (h : isBench rs n = true) : roomV rs n = roomN rs n := by unfold roomV; rw [if_pos h]
theorem roomV_f {rs : List RoomV} {n : Int} (h : isBench rs n = false) : roomV rs n = -1 := by unfold roomV; rw [h]; rfl
theorem forceV_t {rs : List RoomV} {n : Int} (h : isBench rs n = true) : forceV rs n = lastForce (roomAt rs (roomN rs n)).2 := by unfold forceV; rw [if_pos h]
theorem forceV_f {rs : List RoomV} {n : Int} (h : isBench rs n = false) : forceV rs n = -1 := by unfold forceV; rw [h]; rfl
theorem room_more {rs : List RoomV} {n : Int} (h : isBench rs n = true) {r : Nat} (hr : r ≤ rs.length) (hl : ∀ j, j < r → benchSum (rs.take (j + 1)) ≤ n) : r < rs.length := by
 rcases Nat.lt_or_ge r rs.length with h1 | h1
 ·exact h1
 ·obtain rfl : r = rs.length := by omega
  have hb := isBench_of h
  have h3 := hallB_of hb.1
  have := hl (rs.length - 1) (by omega)
  rw [show rs.length - 1 + 1 = rs.length by omega, benchSum_all] at this
  omega
theorem benches_hall {rs : List RoomV} (h : hallB rs = true) (k : Nat) (hk : k ≤ rs.length) : 0 ≤ benchSum (rs.take k) ∧ benchSum (rs.take k) ≤ 12 := by
 have h3 := hallB_of h
 have := benchSum_bd h3.2.2.1 k hk
 omega
theorem room_found {rs : List RoomV} {n : Int} (h : isBench rs n = true) : roomN rs n < rs.length := by
 have key : ∀ d r : Nat, r + d = rs.length → (∀ j, j < r → benchSum (rs.take (j + 1)) ≤ n) → roomN rs n < rs.length := by
  intro d
  induction d with
  | zero => intro r hr hl; have := room_more h (by omega) hl; omega
  | succ d ih =>
   intro r hr hl
   have hlt := room_more h (r := r) (by omega) hl
   by_cases hc : n < benchSum (rs.take (r + 1))
   ·rw [roomN_eq hlt hc hl]; exact hlt
   ·exact ih (r + 1) (by omega) (next_all hl (by omega))
 exact key rs.length 0 (by omega) (fun j hj => by omega)
theorem implRoomOf_any {w : World} {v : Value} {rs : List RoomV} (n : Int) (h : IsRooms w v rs) :
  Calls Tryz.prog 324 #[.agg #[v], .int .i64 n] w fun e w' => e = .returned (.int .i64 (roomV rs n)) ∧ Below w.heap.size w w' := by
 have Hv := hide h
 obtain ⟨a, cap, rfl, hc, hm, hr⟩ := h
 clear hr
 by_cases h0 : n < 0
 ·have H1 := hide (roomV_f (isBench_f2 (rs := rs) (.inl h0)))
  go_enter Tryz.func324, Tryz.ntmps324
  go_wp2_with fail
  go_ret
  exact ⟨ret_int (uh H1).symm, (Below.refl _ _).alloc (Nat.le_refl _) _⟩
 by_cases h1 : benchesV rs ≤ n
 ·have H1 : Hid (roomV rs n = -1) := hide (roomV_f (by
   cases hh : hallB rs
   ·exact isBench_f1 hh
   ·rw [benchesV_t hh] at h1; exact isBench_f2 (.inr h1)))
  go_enter Tryz.func324, Tryz.ntmps324
  go_wp2_with fail
  refine (implBenchesIn_any ((uh Hv).alloc _)).mono ?_
  rintro e w1 ⟨rfl, hb⟩
  have Hb := hide hb
  clear hb
  generalize benchesV rs = m at *
  go_wp2_with fail
  go_ret
  exact ⟨ret_int (uh H1).symm, ((Below.refl _ _).alloc (Nat.le_refl _) _).trans ((uh Hb).mono (by simp))⟩
 have hh : hallB rs = true := by
  cases hh : hallB rs
  ·rw [benchesV_f hh] at h1; omega
  ·rfl
 have H : Hid (isBench rs n = true) := hide (isBench_t hh (by omega) (by rw [benchesV_t hh] at h1; omega))
 have Hh := hide hh
 clear hh
 go_enter Tryz.func324, Tryz.ntmps324
 go_wp2_with fail
 refine (implBenchesIn_any ((uh Hv).alloc _)).mono ?_
 rintro e w1 ⟨rfl, hb⟩
 have hsz : w.heap.size + 1 ≤ w1.heap.size := by have := hb.size; simpa using this
 have hbox : w1.cell? ⟨w.heap.size, 0, none⟩ = some (.slice a rs.length cap) := by rw [hb.cell (p := ⟨w.heap.size, 0, none⟩) (by simp)]; simp
 have B1 : Hid (Below w.heap.size w w1) := hide (((Below.refl _ _).alloc (Nat.le_refl _) _).trans (hb.mono (by simp)))
 clear hb
 generalize benchesV rs = m at *
 go_wp2_with fail
 go_loopw [5] (fun i wr => ∃ r : Nat, r ≤ rs.length ∧ i = .int .i64 r ∧ (∀ j, j < r → benchSum (rs.take (j + 1)) ≤ n) ∧ Below w1.heap.size w1 wr) (fun i _ => rs.length - (intOf i).toNat)
 case atStart => exact ⟨0, Nat.zero_le _, rfl, fun j hj => by omega, Below.refl _ _⟩
 case round =>
  obtain ⟨r, hr, rfl, hl, hb⟩ := hrel
  have hlt := room_more (uh H) hr hl
  have hbox2 : wr.cell? ⟨w.heap.size, 0, none⟩ = some (.slice a rs.length cap) := by rw [hb.cell (p := ⟨w.heap.size, 0, none⟩) (by show w.heap.size < w1.heap.size; omega)]; exact hbox
  have hz := hb.size
  have hl3 : rs.length ≤ 3 := (hallB_of (uh Hh)).2.1
  have Hl := hide hl
  have Hb := hide hb
  have Hw : Hid (IsRooms wr (.slice a (r + 1) cap) (rs.take (r + 1))) := hide ((((uh Hv).below (uh B1)).below hb).taken (by omega))
  clear hl hb hbox
  go_wp2_with fail
  refine (benchesOf_any (uh Hw) ((adds_hall (uh Hh)).taken _)).mono ?_
  rintro e w2 ⟨rfl, hb2⟩
  have hbd := benches_hall (uh Hh) (r + 1) (by omega)
  have Hb2 := hide hb2
  clear hb2
  by_cases hc2 : n < benchSum (rs.take (r + 1))
  ·have HN := hide (roomN_eq hlt hc2 (uh Hl))
   generalize benchSum (rs.take (r + 1)) = s at *
   go_wp2_with fail
   go_ret
   exact ⟨ret_int (by rw [roomV_t (uh H), uh HN]), (uh B1).trans (((uh Hb).trans ((uh Hb2).mono hz)).mono (by omega))⟩
  ·have hle : benchSum (rs.take (r + 1)) ≤ n := by omega
   have Hle := hide (next_all (uh Hl) hle)
   generalize benchSum (rs.take (r + 1)) = s at *
   go_wp2_with fail
   go_roundw
   case rel => exact ⟨r + 1, by omega, by go_num, uh Hle, (uh Hb).trans ((uh Hb2).mono hz)⟩
   case measure => simp [intOf]; omega
open Go.ChangeShapes Go.WideShapes Go.ChangeAt Go.RowKit
def mulDivV (a b c : Int) : Int := if inB a 0 1000000000 && inB b 0 1000000000 && inB c 1 1000000000 then a * b / c else -1
theorem mul_bd {a b : Int} (a0 : 0 ≤ a) (a1 : a ≤ 1000000000) (b0 : 0 ≤ b) (b1 : b ≤ 1000000000) : 0 ≤ a * b ∧ a * b ≤ 1000000000000000000 := by
 refine ⟨Int.mul_nonneg a0 b0, ?_⟩
 have h := Int.mul_le_mul a1 b1 b0 (by omega)
 omega
theorem ways3 {P : Prop} (a b c lo hi l1 h1 l2 h2 : Int)
  (k1 : inB a lo hi = false → P) (k2 : inB a lo hi = true → inB b l1 h1 = false → P) (k3 : inB a lo hi = true → inB b l1 h1 = true → inB c l2 h2 = false → P)
  (k4 : inB a lo hi = true → inB b l1 h1 = true → inB c l2 h2 = true → P) : P := by
 cases ha : inB a lo hi
 ·exact k1 ha
 ·cases hb : inB b l1 h1
  ·exact k2 ha hb
  ·cases hc : inB c l2 h2
   ·exact k3 ha hb hc
   ·exact k4 ha hb hc
theorem specMulDiv_any (a b c : Int) (w : World) : Calls Tryz.prog 328 #[.int .i64 a, .int .i64 b, .int .i64 c] w fun e w' => e = .returned (.int .i64 (mulDivV a b c)) ∧ w' = w := by
 refine ways3 a b c 0 1000000000 0 1000000000 1 1000000000 ?_ ?_ ?_ ?_
 ·intro ha
  have hv : mulDivV a b c = -1 := by simp [mulDivV, ha]
  rw [hv]; clear hv
  go_enter Tryz.func328, Tryz.ntmps328
  go_wp2_with (first | (go_at_call 331; refine (l1Big_any _ _).mono ?_; rintro e w' ⟨rfl, rfl⟩) | (go_at_call 56; refine (l1In_any _ _ _ _).mono ?_; rintro e w' ⟨rfl, rfl⟩))
  go_ret
  exact ⟨rfl, rfl⟩
 ·intro ha hb
  have hv : mulDivV a b c = -1 := by simp [mulDivV, hb]
  rw [hv]; clear hv
  go_enter Tryz.func328, Tryz.ntmps328
  go_wp2_with (first | (go_at_call 331; refine (l1Big_any _ _).mono ?_; rintro e w' ⟨rfl, rfl⟩) | (go_at_call 56; refine (l1In_any _ _ _ _).mono ?_; rintro e w' ⟨rfl, rfl⟩))
  go_ret
  exact ⟨rfl, rfl⟩
 ·intro ha hb hc
  have hv : mulDivV a b c = -1 := by simp [mulDivV, hc]
  rw [hv]; clear hv
  go_enter Tryz.func328, Tryz.ntmps328
  go_wp2_with (first | (go_at_call 331; refine (l1Big_any _ _).mono ?_; rintro e w' ⟨rfl, rfl⟩) | (go_at_call 56; refine (l1In_any _ _ _ _).mono ?_; rintro e w' ⟨rfl, rfl⟩))
  go_ret
  exact ⟨rfl, rfl⟩
 ·intro ha hb hc
  have hv : mulDivV a b c = a * b / c := by simp [mulDivV, ha, hb, hc]
  rw [hv]; clear hv
  obtain ⟨a0, a1⟩ := inB_of ha
  obtain ⟨b0, b1⟩ := inB_of hb
  obtain ⟨c0, c1⟩ := inB_of hc
  obtain ⟨m0, m1⟩ := mul_bd a0 a1 b0 b1
  go_enter Tryz.func328, Tryz.ntmps328
  go_wp2_with (first | (go_at_call 331; refine (l1Big_any _ _).mono ?_; rintro e w' ⟨rfl, rfl⟩) | (go_at_call 56; refine (l1In_any _ _ _ _).mono ?_; rintro e w' ⟨rfl, rfl⟩))
  go_ret
  exact ⟨rfl, rfl⟩
theorem all2 {p : Int → Bool} (a b : Int) : [a, b].all p = (p a && p b) := by simp
theorem all1 {p : Int → Bool} (a : Int) : [a].all p = p a := by simp
theorem cells2 (W : World) (a b : Int) (bk : Nat) (hb : bk = W.heap.size) : ∀ k, k < [a, b].length → (W.alloc (.cells #[.int .i64 a, .int .i64 b] 2)).cell? ⟨bk, k, none⟩ = some (.int .i64 ([a, b].getD k 0)) := by
 intro k hk
 rw [World.cell?_alloc_at _ _ _ _ hb]
 match k, hk with
 | 0, _ => rfl
 | 1, _ => rfl
theorem cells1 (W : World) (a : Int) (bk : Nat) (hb : bk = W.heap.size) : ∀ k, k < [a].length → (W.alloc (.cells #[.int .i64 a] 2)).cell? ⟨bk, k, none⟩ = some (.int .i64 ([a].getD k 0)) := by
 intro k hk
 rw [World.cell?_alloc_at _ _ _ _ hb]
 match k, hk with
 | 0, _ => rfl
theorem two_isFactor (a b : Int) (W : World) (bk : Nat) (hb : bk = W.heap.size) : Calls Tryz.prog 337 #[.func (Fn.func 338) #[] #[], .slice (some ⟨bk, 0, none⟩) 2 2] (W.alloc (.cells #[.int .i64 a, .int .i64 b] 2))
  fun e w' => e = .returned (.bool (inB a 0 1000000000 && inB b 0 1000000000)) ∧ w' = W.alloc (.cells #[.int .i64 a, .int .i64 b] 2) := by
 have h := allAre_isFactor bk 2 [a, b] (W.alloc (.cells #[.int .i64 a, .int .i64 b] 2)) (by simp) (cells2 W a b bk hb)
 rw [all2] at h
 exact h
theorem one_isDivisor (a : Int) (W : World) (bk : Nat) (hb : bk = W.heap.size) : Calls Tryz.prog 337 #[.func (Fn.func 339) #[] #[], .slice (some ⟨bk, 0, none⟩) 1 1] (W.alloc (.cells #[.int .i64 a] 2))
  fun e w' => e = .returned (.bool (inB a 1 1000000000)) ∧ w' = W.alloc (.cells #[.int .i64 a] 2) := by
 have h := allAre_isDivisor bk 1 [a] (W.alloc (.cells #[.int .i64 a] 2)) (by simp) (cells1 W a bk hb)
 rw [all1] at h
 exact h
theorem implMulDiv_any (a b c : Int) (w : World) : Calls Tryz.prog 335 #[.int .i64 a, .int .i64 b, .int .i64 c] w fun e w' => e = .returned (.int .i64 (mulDivV a b c)) ∧ Below w.heap.size w w' := by
 refine ways3 a b c 0 1000000000 0 1000000000 1 1000000000 ?_ ?_ ?_ ?_
 ·intro ha
  have hv : mulDivV a b c = -1 := by simp [mulDivV, ha]
  rw [hv]; clear hv
  go_enter Tryz.func335, Tryz.ntmps335
  go_wp2_with fail
  refine (two_isFactor a b _ _ rfl).mono ?_
  rintro e w' ⟨rfl, rfl⟩
  go_wp2_with fail
  go_ret
  exact ⟨rfl, (Below.refl _ _).alloc (Nat.le_refl _) _⟩
 ·intro ha hb
  have hv : mulDivV a b c = -1 := by simp [mulDivV, hb]
  rw [hv]; clear hv
  go_enter Tryz.func335, Tryz.ntmps335
  go_wp2_with fail
  refine (two_isFactor a b _ _ rfl).mono ?_
  rintro e w' ⟨rfl, rfl⟩
  go_wp2_with fail
  go_ret
  exact ⟨rfl, (Below.refl _ _).alloc (Nat.le_refl _) _⟩
 ·intro ha hb hc
  have hv : mulDivV a b c = -1 := by simp [mulDivV, hc]
  rw [hv]; clear hv
  go_enter Tryz.func335, Tryz.ntmps335
  go_wp2_with fail
  refine (two_isFactor a b _ _ rfl).mono ?_
  rintro e w' ⟨rfl, rfl⟩
  go_wp2_with fail
  refine (one_isDivisor c _ _ (by simp)).mono ?_
  rintro e w' ⟨rfl, rfl⟩
  go_wp2_with fail
  go_ret
  exact ⟨rfl, ((Below.refl _ _).alloc (Nat.le_refl _) _).alloc (by simp) _⟩
 ·intro ha hb hc
  have hv : mulDivV a b c = a * b / c := by simp [mulDivV, ha, hb, hc]
  rw [hv]; clear hv
  obtain ⟨a0, a1⟩ := inB_of ha
  obtain ⟨b0, b1⟩ := inB_of hb
  obtain ⟨c0, c1⟩ := inB_of hc
  obtain ⟨m0, m1⟩ := mul_bd a0 a1 b0 b1
  go_enter Tryz.func335, Tryz.ntmps335
  go_wp2_with fail
  refine (two_isFactor a b _ _ rfl).mono ?_
  rintro e w' ⟨rfl, rfl⟩
  go_wp2_with fail
  refine (one_isDivisor c _ _ (by simp)).mono ?_
  rintro e w' ⟨rfl, rfl⟩
  go_wp2_with fail
  go_ret
  exact ⟨rfl, ((Below.refl _ _).alloc (Nat.le_refl _) _).alloc (by simp) _⟩
def enoughB (need : Int) (p : PaceV) : Bool := decide (5 * need ≤ 4 * p.1)
def paceN (need : Int) : List PaceV → Nat
 | [] => 0
 | [_] => 0
 | p :: q :: ps => if enoughB need p then 0 else paceN need (q :: ps) + 1
def paceForV (r : RoomV) (need : Int) : Int := if roomB r && inB need 0 1000000 then paceN need r.2 else -1
def coalForV (r : RoomV) (pace work : Int) : Int := if roomB r && (inB work 0 1000000 && inB pace 0 (r.2.length - 1)) then mulDivV (paceAt r.2 pace.toNat).2 work (paceAt r.2 pace.toNat).1 else -1
def leastV (r : RoomV) (need work : Int) : Int := coalForV r (paceForV r need) work
theorem paceAt_0 (p : PaceV) (ps : List PaceV) : paceAt (p :: ps) 0 = p := rfl
theorem paceAt_s (p : PaceV) (ps : List PaceV) (k : Nat) : paceAt (p :: ps) (k + 1) = paceAt ps k := by unfold paceAt; simp [List.getD]
theorem enough_t {need : Int} {p : PaceV} (h : 5 * need ≤ 4 * p.1) : enoughB need p = true := decide_eq_true h
theorem enough_f {need : Int} {p : PaceV} (h : 4 * p.1 < 5 * need) : enoughB need p = false := decide_eq_false (by omega)
theorem paceN_eq (need : Int) : ∀ (ps : List PaceV) (k : Nat), k + 1 ≤ ps.length → (∀ j, j < k → enoughB need (paceAt ps j) = false) → (k + 1 = ps.length ∨ enoughB need (paceAt ps k) = true) → paceN need ps = k
 | [], k, hk, _, _ => by simp at hk
 | [p], k, hk, _, _ => by simp at hk; subst hk; rfl
 | p :: q :: ps, 0, _, _, he => by
  rcases he with he | he
  ·simp at he
  ·rw [paceAt_0] at he; simp [paceN, he]
 | p :: q :: ps, k + 1, hk, hlo, he => by
  have h0 := hlo 0 (by omega)
  rw [paceAt_0] at h0
  have ih := paceN_eq need (q :: ps) k (by simp at hk ⊢; omega) (fun j hj => by have := hlo (j + 1) (by omega); rwa [paceAt_s] at this) (by
   rcases he with he | he
   ·left; simp at he ⊢; omega
   ·right; rwa [paceAt_s] at he)
  simp [paceN, h0, ih]
theorem room_pace {r : RoomV} (h : roomB r = true) {k : Nat} (hk : k < r.2.length) : 1 ≤ (paceAt r.2 k).1 ∧ (paceAt r.2 k).1 ≤ 1024 ∧ 1 ≤ (paceAt r.2 k).2 ∧ (paceAt r.2 k).2 ≤ 1024 := by
 unfold roomB at h; simp only [Bool.and_eq_true] at h
 have h1 := pacesB_of h.2.2 hk
 unfold stepB paceB at h1; simp only [Bool.and_eq_true] at h1
 have a := inB_of h1.1.1; have b := inB_of h1.1.2
 omega
theorem paceForV_f1 {r : RoomV} {need : Int} (h : roomB r = false) : paceForV r need = -1 := by unfold paceForV; simp [h]
theorem paceForV_f2 {r : RoomV} {need : Int} (h : inB need 0 1000000 = false) : paceForV r need = -1 := by unfold paceForV; simp [h]
theorem paceForV_t {r : RoomV} {need : Int} (h : roomB r = true) (h2 : inB need 0 1000000 = true) : paceForV r need = paceN need r.2 := by unfold paceForV; simp [h, h2]
theorem coalForV_f1 {r : RoomV} {pace work : Int} (h : roomB r = false) : coalForV r pace work = -1 := by unfold coalForV; simp [h]
theorem coalForV_f2 {r : RoomV} {pace work : Int} (h : inB work 0 1000000 = false) : coalForV r pace work = -1 := by unfold coalForV; simp [h]
theorem coalForV_f3 {r : RoomV} {pace work : Int} (h : inB pace 0 (r.2.length - 1) = false) : coalForV r pace work = -1 := by unfold coalForV; simp [h]
theorem coalForV_t {r : RoomV} {pace work : Int} (h : roomB r = true) (h2 : inB work 0 1000000 = true) (h3 : inB pace 0 (r.2.length - 1) = true) : coalForV r pace work = mulDivV (paceAt r.2 pace.toNat).2 work (paceAt r.2 pace.toNat).1 := by unfold coalForV; simp [h, h2, h3]
theorem mulDivV_t {a b c : Int} (a0 : 0 ≤ a) (a1 : a ≤ 1000000000) (b0 : 0 ≤ b) (b1 : b ≤ 1000000000) (c0 : 1 ≤ c) (c1 : c ≤ 1000000000) : mulDivV a b c = a * b / c := by
 unfold mulDivV; rw [inB_t a0 a1, inB_t b0 b1, inB_t c0 c1]; rfl
theorem coalForV_bd (r : RoomV) (pace work : Int) : -1 ≤ coalForV r pace work ∧ coalForV r pace work ≤ 1024000000 := by
 cases h : roomB r
 ·rw [coalForV_f1 h]; omega
 cases h2 : inB work 0 1000000
 ·rw [coalForV_f2 h2]; omega
 cases h3 : inB pace 0 (r.2.length - 1)
 ·rw [coalForV_f3 h3]; omega
 rw [coalForV_t h h2 h3]
 have hb := inB_of h2; have hp := inB_of h3
 have hr := room_pace h (k := pace.toNat) (by omega)
 generalize paceAt r.2 pace.toNat = p at *
 rw [mulDivV_t (by omega) (by omega) (by omega) (by omega) (by omega) (by omega)]
 have m0 : 0 ≤ p.2 * work := Int.mul_nonneg (by omega) (by omega)
 have m1 : p.2 * work ≤ 1024 * 1000000 := Int.mul_le_mul (by omega) (by omega) (by omega) (by omega)
 have d0 := Int.ediv_nonneg m0 (show 0 ≤ p.1 by omega)
 have d1 := Int.ediv_le_self p.1 m0
 omega
end Go.Proofs.YthbbahagpmdooaaGreatDoor
