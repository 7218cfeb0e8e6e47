/- Part 7 of what the proof rests on. No condition but those that a theorem names. -/
import Derived.Test.YtffcgajndmhpkaaGreatDoorXe06
import Derived.OrdersHeld
import Derived.Deep.RegionHeldLaw
import Derived.WalkMore
import Derived.Below
namespace Go.Proofs.YtffcgajndmhpkaaGreatDoor
open Go.ChangeShapes Go.WideShapes Go.ChangeAt Go.RowKit Go.Sort
set_option linter.unusedVariables false
def stS (s : SmithV) (st : Int) : SmithV := (st, s.2)
def waitAll (ss : List SmithV) (q : List PaceV) : List SmithV := q.foldl (fun ss e => ss.set e.2.toNat (stS (recAt ss e.2.toNat) 2)) ss
theorem waitAll_snoc (ss : List SmithV) (q : List PaceV) (e : PaceV) : waitAll ss (q ++ [e]) = (waitAll ss q).set e.2.toNat (stS (recAt (waitAll ss q) e.2.toNat) 2) := by
  unfold waitAll; rw [List.foldl_append]; rfl
theorem waitAll_len (q : List PaceV) : ∀ ss : List SmithV, (waitAll ss q).length = ss.length := by
  induction q with
  | nil => intro ss; rfl
  | cons e q ih => intro ss; show (waitAll (ss.set e.2.toNat (stS (recAt ss e.2.toNat) 2)) q).length = _; rw [ih, List.length_set]
theorem waitAll_at (q : List PaceV) : ∀ (ss : List SmithV) (i : Nat), (∀ e ∈ q, 0 ≤ e.2 ∧ e.2 < ss.length) → ((∃ e ∈ q, e.2 = (i : Int)) → recAt (waitAll ss q) i = stS (recAt ss i) 2) ∧ ((∀ e ∈ q, e.2 ≠ (i : Int)) → recAt (waitAll ss q) i = recAt ss i) := by
  induction q with
  | nil =>
    intro ss i h
    exact ⟨fun ⟨e, he, _⟩ => (List.not_mem_nil he).elim, fun _ => rfl⟩
  | cons e q ih =>
    intro ss i h
    obtain ⟨e0, e1⟩ := h e (by simp)
    have hs := recAt_set (x := stS (recAt ss e.2.toNat) 2) (show e.2.toNat < ss.length by omega) i
    obtain ⟨i1, i2⟩ := ih (ss.set e.2.toNat (stS (recAt ss e.2.toNat) 2)) i (fun x hx => by rw [List.length_set]; exact h x (List.mem_cons_of_mem _ hx))
    show ((∃ x ∈ e :: q, x.2 = (i : Int)) → recAt (waitAll (ss.set e.2.toNat (stS (recAt ss e.2.toNat) 2)) q) i = _) ∧ ((∀ x ∈ e :: q, x.2 ≠ (i : Int)) → recAt (waitAll (ss.set e.2.toNat (stS (recAt ss e.2.toNat) 2)) q) i = _)
    constructor
    · rintro ⟨x, hx, hxi⟩
      by_cases hq : ∃ y ∈ q, y.2 = (i : Int)
      · rw [i1 hq, hs]
        split
        · rename_i he; rw [he]; rfl
        · rfl
      · rw [i2 (fun y hy e => hq ⟨y, hy, e⟩), hs]
        rcases List.mem_cons.1 hx with rfl | hx
        · rw [if_pos (by omega)]
          rw [show x.2.toNat = i by omega]
        · exact absurd ⟨x, hx, hxi⟩ hq
    · intro hn
      rw [i2 (fun y hy => hn y (List.mem_cons_of_mem _ hy)), hs, if_neg]
      have := hn e (by simp)
      omega
def turnedD (ss : List SmithV) (b : Int) (d : DeskV) : DeskV := match atV ss b ss.length with
  | [] => (d.1, -1, d.2.2)
  | e :: _ => (d.1, e.2, markedV d.2.2 e.1)
def turnB (m : SmyV) (b : Nat) : SmyV := match atV m.smiths b m.smiths.length with
  | [] => { m with desks := m.desks.set b ((recAt m.desks b).1, -1, (recAt m.desks b).2.2) }
  | e :: t => { m with smiths := (waitAll m.smiths (e :: t)).set e.2.toNat (stS (recAt (waitAll m.smiths (e :: t)) e.2.toNat) 3), desks := m.desks.set b ((recAt m.desks b).1, e.2, markedV (recAt m.desks b).2.2 e.1) }
def turnK (m : SmyV) : Nat → SmyV
  | 0 => m
  | k + 1 => turnB (turnK m k) k
def turnV (m : SmyV) : SmyV := turnK m m.desks.length
theorem turnB_same (m : SmyV) (b : Nat) : (turnB m b).rooms = m.rooms ∧ (turnB m b).guilds = m.guilds ∧ (turnB m b).paces = m.paces ∧ (turnB m b).now = m.now ∧ (turnB m b).smiths.length = m.smiths.length ∧ (turnB m b).desks.length = m.desks.length := by
  unfold turnB
  split
  · simp
  · simp [waitAll_len]
theorem turnK_same (m : SmyV) : ∀ k, (turnK m k).rooms = m.rooms ∧ (turnK m k).guilds = m.guilds ∧ (turnK m k).paces = m.paces ∧ (turnK m k).now = m.now ∧ (turnK m k).smiths.length = m.smiths.length ∧ (turnK m k).desks.length = m.desks.length
  | 0 => ⟨rfl, rfl, rfl, rfl, rfl, rfl⟩
  | k + 1 => by
    obtain ⟨h1, h2, h3, h4, h5, h6⟩ := turnK_same m k
    obtain ⟨g1, g2, g3, g4, g5, g6⟩ := turnB_same (turnK m k) k
    exact ⟨g1.trans h1, g2.trans h2, g3.trans h3, g4.trans h4, g5.trans h5, g6.trans h6⟩
theorem turnB_smith (m : SmyV) (b : Nat) {i : Nat} (hi : i < m.smiths.length) : recAt (turnB m b).smiths i = if (recAt m.smiths i).2.1 = (b : Int) ∧ presS (recAt m.smiths i) = true then stS (recAt m.smiths i) (if firstAt m.smiths b = (i : Int) then 3 else 2) else recAt m.smiths i := by
  have hq := atV_mem m.smiths (b : Int)
  have hf : firstAt m.smiths (b : Int) = match atV m.smiths (b : Int) m.smiths.length with
    | [] => -1
    | h :: _ => h.2 := rfl
  unfold turnB
  split
  · rename_i h0
    rw [if_neg]
    intro hp
    have := (hq (hadS (recAt m.smiths i), (i : Int)) m.smiths.length).2 ⟨i, hi, hp.1, hp.2, rfl⟩
    rw [h0] at this
    exact List.not_mem_nil this
  · rename_i e t h0
    rw [h0] at hf
    simp only at hf
    have hin : ∀ x ∈ e :: t, 0 ≤ x.2 ∧ x.2 < m.smiths.length := by
      intro x hx
      rw [← h0] at hx
      obtain ⟨j, hj, _, _, rfl⟩ := (hq x _).1 hx
      exact ⟨by show (0 : Int) ≤ (j : Int); omega, by show (j : Int) < _; omega⟩
    obtain ⟨w1, w2⟩ := waitAll_at (e :: t) m.smiths i hin
    obtain ⟨e0, e1⟩ := hin e (by simp)
    show recAt ((waitAll m.smiths (e :: t)).set e.2.toNat _) i = _
    rw [recAt_set (by rw [waitAll_len]; omega)]
    by_cases hp : (recAt m.smiths i).2.1 = (b : Int) ∧ presS (recAt m.smiths i) = true
    · have hmem : (hadS (recAt m.smiths i), (i : Int)) ∈ e :: t := by rw [← h0]; exact (hq _ _).2 ⟨i, hi, hp.1, hp.2, rfl⟩
      rw [if_pos hp, hf]
      by_cases hie : i = e.2.toNat
      · rw [if_pos hie, if_pos (by omega), ← hie, w1 ⟨_, hmem, rfl⟩]
        rfl
      · rw [if_neg hie, if_neg (by omega), w1 ⟨_, hmem, rfl⟩]
    · have hnm : ∀ x ∈ e :: t, x.2 ≠ (i : Int) := by
        intro x hx hxi
        rw [← h0] at hx
        obtain ⟨j, hj, j1, j2, rfl⟩ := (hq x _).1 hx
        have : j = i := by have : (j : Int) = (i : Int) := hxi
                           omega
        subst this
        exact hp ⟨j1, j2⟩
      rw [if_neg hp, if_neg (by have := hnm e (by simp); omega), w2 hnm]
theorem turnB_desk (m : SmyV) {b : Nat} (hb : b < m.desks.length) (j : Nat) : recAt (turnB m b).desks j = if j = b then turnedD m.smiths b (recAt m.desks b) else recAt m.desks j := by
  have hf : turnedD m.smiths (b : Int) (recAt m.desks b) = match atV m.smiths (b : Int) m.smiths.length with
    | [] => ((recAt m.desks b).1, -1, (recAt m.desks b).2.2)
    | e :: _ => ((recAt m.desks b).1, e.2, markedV (recAt m.desks b).2.2 e.1) := rfl
  unfold turnB
  split
  · rename_i h0
    rw [h0] at hf
    rw [hf, ← recAt_set hb]
  · rename_i e t h0
    rw [h0] at hf
    rw [hf, ← recAt_set hb]
theorem turnB_alike (m : SmyV) (b : Nat) : Alike m.smiths (turnB m b).smiths m.smiths.length := by
  intro i hi
  rw [turnB_smith m b hi]
  split
  · rename_i hp
    refine ⟨rfl, ?_, rfl⟩
    rw [hp.2]
    split <;> rfl
  · exact ⟨rfl, rfl, rfl⟩
theorem Alike.trans {a b c : List SmithV} {k : Nat} (h : Alike a b k) (g : Alike b c k) : Alike a c k := fun i hi => ⟨(g i hi).1.trans (h i hi).1, (g i hi).2.1.trans (h i hi).2.1, (g i hi).2.2.trans (h i hi).2.2⟩
theorem turnK_alike (m : SmyV) : ∀ k, Alike m.smiths (turnK m k).smiths m.smiths.length
  | 0 => fun _ _ => ⟨rfl, rfl, rfl⟩
  | k + 1 => by
    have h := turnB_alike (turnK m k) k
    rw [(turnK_same m k).2.2.2.2.1] at h
    exact (turnK_alike m k).trans h
theorem turnK_atV (m : SmyV) (k : Nat) (b : Int) : atV (turnK m k).smiths b (turnK m k).smiths.length = atV m.smiths b m.smiths.length := by
  rw [(turnK_same m k).2.2.2.2.1]
  exact atV_alike b _ (turnK_alike m k)
theorem turnK_first (m : SmyV) (k : Nat) (b : Int) : firstAt (turnK m k).smiths b = firstAt m.smiths b := by unfold firstAt; rw [turnK_atV]
theorem turnK_turnedD (m : SmyV) (k : Nat) (b : Int) (d : DeskV) : turnedD (turnK m k).smiths b d = turnedD m.smiths b d := by unfold turnedD; rw [turnK_atV]
theorem turnK_smith (m : SmyV) {i : Nat} (hi : i < m.smiths.length) : ∀ k : Nat, recAt (turnK m k).smiths i = if (0 ≤ (recAt m.smiths i).2.1 ∧ (recAt m.smiths i).2.1 < (k : Int)) ∧ presS (recAt m.smiths i) = true then stS (recAt m.smiths i) (if firstAt m.smiths (recAt m.smiths i).2.1 = (i : Int) then 3 else 2) else recAt m.smiths i
  | 0 => by rw [if_neg (by omega)]; rfl
  | k + 1 => by
    have ih := turnK_smith m hi k
    have ha := turnK_alike m k i hi
    show recAt (turnB (turnK m k) k).smiths i = _
    rw [turnB_smith _ _ (by rw [(turnK_same m k).2.2.2.2.1]; exact hi), ha.1, ha.2.1, turnK_first]
    by_cases hp : presS (recAt m.smiths i) = true
    · by_cases hb : (recAt m.smiths i).2.1 = (k : Int)
      · have hc : (0 ≤ (recAt m.smiths i).2.1 ∧ (recAt m.smiths i).2.1 < ((k + 1 : Nat) : Int)) ∧ presS (recAt m.smiths i) = true := ⟨by omega, hp⟩
        rw [if_pos ⟨hb, hp⟩, if_pos hc, ih, if_neg (by omega), hb]
      · rw [if_neg (fun h => hb h.1), ih]
        by_cases hk : 0 ≤ (recAt m.smiths i).2.1 ∧ (recAt m.smiths i).2.1 < (k : Int)
        · have hc : (0 ≤ (recAt m.smiths i).2.1 ∧ (recAt m.smiths i).2.1 < ((k + 1 : Nat) : Int)) ∧ presS (recAt m.smiths i) = true := ⟨by omega, hp⟩
          rw [if_pos ⟨hk, hp⟩, if_pos hc]
        · rw [if_neg (fun h => hk h.1), if_neg (fun h => hk (by omega))]
    · rw [if_neg (fun h => hp h.2), ih, if_neg (fun h => hp h.2), if_neg (fun h => hp h.2)]
theorem turnK_desk (m : SmyV) (j : Nat) : ∀ k : Nat, k ≤ m.desks.length → recAt (turnK m k).desks j = if j < k then turnedD m.smiths j (recAt m.desks j) else recAt m.desks j
  | 0, _ => by rw [if_neg (by omega)]; rfl
  | k + 1, hk => by
    have ih := turnK_desk m j k (by omega)
    show recAt (turnB (turnK m k) k).desks j = _
    rw [turnB_desk _ (by rw [(turnK_same m k).2.2.2.2.2]; omega)]
    by_cases hjk : j = k
    · subst hjk
      rw [if_pos rfl, if_pos (by omega), turnK_turnedD, ih, if_neg (by omega)]
    · rw [if_neg hjk, ih]
      by_cases h : j < k
      · rw [if_pos h, if_pos (by omega)]
      · rw [if_neg h, if_neg (by omega)]
structure Loose (m : SmyV) : Prop where
  head : headB m = true
  desk : ∀ j, j < m.desks.length → deskB (recAt m.desks j) = true
  pace : ∀ j, j < m.paces.length → paceInB m j = true
  here : ∀ i, i < m.smiths.length → hereB m (recAt m.smiths i) = true
  seat : ∀ i, i < m.smiths.length → seatB m (recAt m.smiths i) = true
  openD : ∃ j, j < m.desks.length ∧ (recAt m.desks j).1 = true
theorem loose_of {m : SmyV} (h : looseB m = true) : Loose m := by
  unfold looseB upDesks upPaces upSmiths upOpen at h
  simp only [Bool.and_eq_true] at h
  obtain ⟨h1, h2, h3, h4, h5⟩ := h
  have h4' := fun i hi => all_at h4 (k := i) hi
  simp only [Bool.and_eq_true] at h4'
  obtain ⟨j, hj, ho⟩ := List.any_eq_true.1 h5
  exact ⟨h1, fun j hj => all_at h2 hj, fun j hj => all_at h3 hj, fun i hi => (h4' i hi).1, fun i hi => (h4' i hi).2, j, List.mem_range.1 hj, ho⟩
theorem Loose.mk' {m : SmyV} (h : Loose m) : looseB m = true := by
  unfold looseB upDesks upPaces upSmiths upOpen
  simp only [Bool.and_eq_true]
  refine ⟨h.head, ?_, ?_, ?_, ?_⟩
  · exact List.all_eq_true.2 fun j hj => h.desk j (List.mem_range.1 hj)
  · exact List.all_eq_true.2 fun j hj => h.pace j (List.mem_range.1 hj)
  · exact List.all_eq_true.2 fun j hj => by rw [h.here j (List.mem_range.1 hj), h.seat j (List.mem_range.1 hj)]; rfl
  · obtain ⟨j, hj, ho⟩ := h.openD
    exact List.any_eq_true.2 ⟨j, List.mem_range.2 hj, ho⟩
theorem Loose.at {m : SmyV} (h : Loose m) {i : Nat} (hi : i < m.smiths.length) (hp : presS (recAt m.smiths i) = true) : 0 ≤ (recAt m.smiths i).2.1 ∧ (recAt m.smiths i).2.1 < m.desks.length ∧ (recAt m.desks (recAt m.smiths i).2.1.toNat).1 = true ∧ bitB (recAt m.smiths i).2.2.2.1 (recAt m.smiths i).2.1 = true ∧ bandB (hadS (recAt m.smiths i)) (recAt m.desks (recAt m.smiths i).2.1.toNat).2.2 = true := by
  obtain ⟨b0, b1, _⟩ := hereB_of (h.here i hi) hp
  have hs := h.seat i hi
  unfold seatB at hs
  rw [hp] at hs
  simp only [Bool.not_true, Bool.false_or, Bool.and_eq_true] at hs
  exact ⟨b0, b1, hs.1, hs.2.1, hs.2.2⟩
theorem bandB_of {had mark : Int} (h : bandB had mark = true) : -1000000000000 ≤ had ∧ had ≤ 1000000000000 ∧ -1000000000000 ≤ mark ∧ mark ≤ 1000000000000 ∧ -20000 ≤ had - mark ∧ had - mark ≤ 63000 := by
  unfold bandB at h
  simp only [Bool.and_eq_true] at h
  have h1 := inB_of h.1
  have h2 := inB_of h.2.1
  have h3 := inB_of h.2.2
  omega
theorem bandB_t {had mark : Int} (h0 : -1000000000000 ≤ had) (h1 : had ≤ 1000000000000) (h2 : -1000000000000 ≤ mark) (h3 : mark ≤ 1000000000000) (h4 : -20000 ≤ had - mark) (h5 : had - mark ≤ 63000) : bandB had mark = true := by
  unfold bandB; rw [inB_t h0 h1, inB_t h2 h3, inB_t h4 h5]; rfl
theorem deskB_of {d : DeskV} (h : deskB d = true) : -900000000000 ≤ d.2.2 ∧ d.2.2 ≤ 900000000000 := inB_of h
theorem smithB_st {s : SmithV} {st : Int} (h : smithB s = true) (hp : presS s = true) (h0 : 1 ≤ st) (h1 : st ≤ 3) : smithB (stS s st) = true := by
  obtain ⟨x0, be, rk, my, gu, lo, hi, hd, ca, ut, wk⟩ := s
  have hx : x0 ≠ 0 := by intro e; subst e; cases hp
  unfold smithB at h ⊢
  rw [goneB_st (x := (x0, be, rk, my, gu, lo, hi, hd, ca, ut, wk)) hx, Bool.false_or] at h
  unfold presB at h
  simp only [Bool.and_eq_true] at h
  obtain ⟨g0, g⟩ := h
  have : presB (stS (x0, be, rk, my, gu, lo, hi, hd, ca, ut, wk) st) = true := by
    unfold presB stS
    simp only [Bool.and_eq_true]
    exact ⟨inB_t h0 h1, g⟩
  rw [this, Bool.or_true]
theorem hereB_st {m : SmyV} {s : SmithV} {st : Int} (h : hereB m s = true) (hp : presS s = true) (h0 : 1 ≤ st) (h1 : st ≤ 3) : hereB m (stS s st) = true := by
  unfold hereB at h ⊢
  simp only [Bool.and_eq_true, Bool.or_eq_true] at h ⊢
  refine ⟨smithB_st h.1 hp h0 h1, .inr ?_⟩
  rcases h.2 with e | e
  · have : s.1 = 0 := by simpa using e
    unfold presS at hp
    rw [this] at hp
    cases hp
  · exact e
theorem hereB_same {m m' : SmyV} (hg : m'.guilds.length = m.guilds.length) (hd : m'.desks.length = m.desks.length) (s : SmithV) : hereB m' s = hereB m s := by unfold hereB; rw [hg, hd]
theorem turn_loose {m : SmyV} (h : Loose m) : Loose (turnV m) := by
  obtain ⟨e1, e2, e3, e4, e5, e6⟩ := turnK_same m m.desks.length
  have hd := fun j => turnK_desk m j m.desks.length (Nat.le_refl _)
  have hopen : ∀ j, (recAt (turnV m).desks j).1 = (recAt m.desks j).1 := by
    intro j
    unfold turnV
    rw [hd j]
    split
    · unfold turnedD; split <;> rfl
    · rfl
  have hmark : ∀ j, j < m.desks.length → (-900000000000 ≤ (recAt (turnV m).desks j).2.2 ∧ (recAt (turnV m).desks j).2.2 ≤ 900000000000) ∧ (recAt m.desks j).2.2 ≤ (recAt (turnV m).desks j).2.2 ∧ ((recAt (turnV m).desks j).2.2 ≤ (recAt m.desks j).2.2 ∨ ∀ i, i < m.smiths.length → (recAt m.smiths i).2.1 = (j : Int) → presS (recAt m.smiths i) = true → (recAt (turnV m).desks j).2.2 ≤ hadS (recAt m.smiths i)) := by
    intro j hj
    obtain ⟨k0, k1⟩ := deskB_of (h.desk j hj)
    unfold turnV
    rw [hd j, if_pos hj]
    unfold turnedD
    split
    · exact ⟨⟨k0, k1⟩, Int.le_refl _, .inl (Int.le_refl _)⟩
    · rename_i e t hq
      obtain ⟨_, i, hi, hib, hip, rfl⟩ := firstAt_some hq
      obtain ⟨_, _, _, _, hband⟩ := h.at hi hip
      obtain ⟨a0, a1, _⟩ := bandB_of hband
      have hm := marked_in (m := (recAt m.desks j).2.2) (f := hadS (recAt m.smiths i)) (by omega) (by omega) a0 a1
      show (-900000000000 ≤ markedV _ _ ∧ markedV _ _ ≤ 900000000000) ∧ _ ≤ markedV _ _ ∧ (markedV _ _ ≤ _ ∨ _)
      rw [hm]
      refine ⟨by omega, by omega, ?_⟩
      by_cases hc : hadS (recAt m.smiths i) ≤ (recAt m.desks j).2.2
      · left; omega
      · right
        intro i' hi' hb' hp'
        have := first_least hq hi' hb' hp'
        simp only at this
        show min (max (recAt m.desks j).2.2 (hadS (recAt m.smiths i))) 900000000000 ≤ _
        omega
  refine ⟨?_, ?_, ?_, ?_, ?_, ?_⟩
  · have := h.head
    unfold headB at this ⊢
    unfold turnV
    rw [e1, e2, e3, e4, e5, e6]
    exact this
  · intro j hj
    have hj' : j < m.desks.length := by unfold turnV at hj; omega
    exact inB_t (hmark j hj').1.1 (hmark j hj').1.2
  · intro j hj
    have hj' : j < m.paces.length := by unfold turnV at hj; rw [e3] at hj; exact hj
    have := h.pace j hj'
    unfold paceInB at this ⊢
    unfold turnV
    rw [e1, e3]
    exact this
  · intro i hi
    have hi' : i < m.smiths.length := by unfold turnV at hi; omega
    rw [hereB_same (m := m) (by unfold turnV; rw [e2]) (by unfold turnV; rw [e6])]
    unfold turnV
    rw [turnK_smith m hi']
    split
    · rename_i hp
      exact hereB_st (h.here i hi') hp.2 (by split <;> omega) (by split <;> omega)
    · exact h.here i hi'
  · intro i hi
    have hi' : i < m.smiths.length := by unfold turnV at hi; omega
    have ha := turnK_alike m m.desks.length i hi'
    unfold seatB
    show (!presS (recAt (turnK m m.desks.length).smiths i) || _) = true
    rw [ha.2.1]
    cases hp : presS (recAt m.smiths i)
    · rfl
    · obtain ⟨b0, b1, ho, hm, hband⟩ := h.at hi' hp
      obtain ⟨a0, a1, a2, a3, a4, a5⟩ := bandB_of hband
      obtain ⟨⟨q0, q1⟩, q2, q3⟩ := hmark (recAt m.smiths i).2.1.toNat (by omega)
      have hmay : (recAt (turnK m m.desks.length).smiths i).2.2.2.1 = (recAt m.smiths i).2.2.2.1 := by
        rw [turnK_smith m hi']; split <;> rfl
      show (!true || ((recAt (turnV m).desks (recAt (turnK m m.desks.length).smiths i).2.1.toNat).1 && (bitB (recAt (turnK m m.desks.length).smiths i).2.2.2.1 (recAt (turnK m m.desks.length).smiths i).2.1 && bandB (hadS (recAt (turnK m m.desks.length).smiths i)) (recAt (turnV m).desks (recAt (turnK m m.desks.length).smiths i).2.1.toNat).2.2))) = true
      rw [ha.1, ha.2.2, hmay, hopen, ho, hm]
      rw [bandB_t a0 a1 (by omega) (by omega) ?_ (by omega)]
      · rfl
      · rcases q3 with q3 | q3
        · omega
        · have := q3 i hi' (by omega) hp
          omega
  · obtain ⟨j, hj, ho⟩ := h.openD
    exact ⟨j, by unfold turnV; omega, by rw [hopen]; exact ho⟩
theorem scan_of {ss : List SmithV} {b f : Int} : ∀ k : Nat, (∀ i, i < k → (recAt ss i).2.1 = b → presS (recAt ss i) = true → ((recAt ss i).1 = 2 ∧ (i : Int) ≠ f) ∨ ((recAt ss i).1 = 3 ∧ (i : Int) = f)) →
    ∃ wk wt, scanV ss b k = some (wk, wt) ∧ ((wk = -1 ∧ ∀ i, i < k → (recAt ss i).2.1 = b → presS (recAt ss i) = true → (i : Int) ≠ f) ∨ (wk = f ∧ ∃ i : Nat, i < k ∧ (recAt ss i).2.1 = b ∧ presS (recAt ss i) = true ∧ (i : Int) = f)) ∧ (wt = true → ∃ i, i < k ∧ (recAt ss i).2.1 = b ∧ presS (recAt ss i) = true)
  | 0, _ => ⟨-1, false, rfl, .inl ⟨rfl, fun i hi => by omega⟩, fun h => by cases h⟩
  | k + 1, h => by
    obtain ⟨wk, wt, hs, hw, ht⟩ := scan_of k (fun i hi => h i (by omega))
    have hu : scanV ss b (k + 1) = if (recAt ss k).2.1 = b ∧ presS (recAt ss k) = true then (if (recAt ss k).1 = 2 then some (wk, true) else if 0 ≤ wk then none else some ((k : Int), wt)) else some (wk, wt) := by
      show (match scanV ss b k with
        | none => none
        | some (wk, wt) => _) = _
      rw [hs]
    rw [hu]
    by_cases hp : (recAt ss k).2.1 = b ∧ presS (recAt ss k) = true
    · rw [if_pos hp]
      rcases h k (by omega) hp.1 hp.2 with ⟨h2, hne⟩ | ⟨h3, hkf⟩
      · rw [if_pos h2]
        refine ⟨wk, true, rfl, ?_, fun _ => ⟨k, by omega, hp.1, hp.2⟩⟩
        rcases hw with ⟨e, hn⟩ | ⟨e, i, hi, hb, hpi, hif⟩
        · refine .inl ⟨e, fun i hi hb hpi => ?_⟩
          by_cases hik : i = k
          · subst hik; exact hne
          · exact hn i (by omega) hb hpi
        · exact .inr ⟨e, i, by omega, hb, hpi, hif⟩
      · rw [if_neg (by omega)]
        have hw1 : wk = -1 := by
          rcases hw with ⟨e, _⟩ | ⟨e, i, hi, hb, hpi, hif⟩
          · exact e
          · omega
        rw [if_neg (by omega)]
        exact ⟨k, wt, rfl, .inr ⟨hkf, k, by omega, hp.1, hp.2, hkf⟩, fun e => by obtain ⟨i, hi, r⟩ := ht e; exact ⟨i, by omega, r⟩⟩
    · rw [if_neg hp]
      refine ⟨wk, wt, rfl, ?_, fun e => by obtain ⟨i, hi, r⟩ := ht e; exact ⟨i, by omega, r⟩⟩
      rcases hw with ⟨e, hn⟩ | ⟨e, i, hi, r⟩
      · refine .inl ⟨e, fun i hi hb hpi => ?_⟩
        by_cases hik : i = k
        · subst hik; exact absurd ⟨hb, hpi⟩ hp
        · exact hn i (by omega) hb hpi
      · exact .inr ⟨e, i, by omega, r⟩
theorem turn_right {m : SmyV} (h : Loose m) : smyB (turnV m) = true := by
  unfold smyB
  rw [Bool.and_eq_true]
  refine ⟨(turn_loose h).mk', ?_⟩
  obtain ⟨e1, e2, e3, e4, e5, e6⟩ := turnK_same m m.desks.length
  refine List.all_eq_true.2 fun b hb => ?_
  have hb := List.mem_range.1 hb
  have hb' : b < m.desks.length := by unfold turnV at hb; omega
  have hn : (turnV m).smiths.length = m.smiths.length := e5
  have ha := turnK_alike m m.desks.length
  have hstate : ∀ i, i < m.smiths.length → (recAt (turnV m).smiths i).2.1 = (b : Int) → presS (recAt (turnV m).smiths i) = true → ((recAt (turnV m).smiths i).1 = 2 ∧ (i : Int) ≠ firstAt m.smiths b) ∨ ((recAt (turnV m).smiths i).1 = 3 ∧ (i : Int) = firstAt m.smiths b) := by
    intro i hi hib hip
    have hib' : (recAt m.smiths i).2.1 = (b : Int) := (ha i hi).1.symm.trans hib
    have hip' : presS (recAt m.smiths i) = true := (ha i hi).2.1.symm.trans hip
    unfold turnV
    rw [turnK_smith m hi, if_pos ⟨by omega, hip'⟩, hib']
    by_cases hf : firstAt m.smiths (b : Int) = (i : Int)
    · right; rw [if_pos hf]; exact ⟨rfl, hf.symm⟩
    · left; rw [if_neg hf]; exact ⟨rfl, fun e => hf e.symm⟩
  obtain ⟨wk, wt, hs, hw, ht⟩ := scan_of (b := (b : Int)) (f := firstAt m.smiths b) (ss := (turnV m).smiths) m.smiths.length hstate
  unfold benchOkB
  rw [hn, hs]
  simp only
  have hdesk := turnK_desk m b m.desks.length (Nat.le_refl _)
  rw [if_pos hb'] at hdesk
  cases hq : atV m.smiths (b : Int) m.smiths.length with
  | nil =>
    have hempty : ∀ i, i < m.smiths.length → ¬ ((recAt (turnV m).smiths i).2.1 = (b : Int) ∧ presS (recAt (turnV m).smiths i) = true) := by
      rintro i hi ⟨hib, hip⟩
      have := (atV_mem m.smiths (b : Int) (hadS (recAt m.smiths i), (i : Int)) m.smiths.length).2 ⟨i, hi, (ha i hi).1.symm.trans hib, (ha i hi).2.1.symm.trans hip, rfl⟩
      rw [hq] at this
      exact List.not_mem_nil this
    have hwt : wt = false := by
      cases wt
      · rfl
      · obtain ⟨i, hi, r⟩ := ht rfl
        exact absurd r (hempty i hi)
    have hwk : wk = -1 := by
      rcases hw with ⟨e, _⟩ | ⟨_, i, hi, hb, hp, _⟩
      · exact e
      · exact absurd ⟨hb, hp⟩ (hempty i hi)
    have hwho : (recAt (turnV m).desks b).2.1 = -1 := by
      unfold turnV; rw [hdesk]; unfold turnedD; rw [hq]
    rw [hwho, hwk, hwt]
    rfl
  | cons e t =>
    obtain ⟨hfe, i, hi, hib, hip, rfl⟩ := firstAt_some hq
    have hwho : (recAt (turnV m).desks b).2.1 = (i : Int) := by
      unfold turnV; rw [hdesk]; unfold turnedD; rw [hq]
    have hwk : wk = (i : Int) := by
      rcases hw with ⟨_, hn⟩ | ⟨e, _⟩
      · exact absurd hfe.symm (hn i hi ((ha i hi).1.trans hib) ((ha i hi).2.1.trans hip))
      · exact e.trans hfe
    rw [hwho, hwk]
    have : decide ((i : Int) < 0) = false := decide_eq_false (by omega)
    rw [this]
    simp
def roomN (rs : List RoomV) (n : Int) : Nat := ((List.range rs.length).find? fun r => decide (n < benchSum (rs.take (r + 1)))).getD 0
def isBench (rs : List RoomV) (n : Int) : Bool := hallB rs && inB n 0 (benchSum rs - 1)
def roomV (rs : List RoomV) (n : Int) : Int := if isBench rs n = true then (roomN rs n : Int) else -1
theorem roomN_eq {rs : List RoomV} {n : Int} {r : Nat} (hr : r < rs.length) (h : n < benchSum (rs.take (r + 1))) (hl : ∀ j, j < r → benchSum (rs.take (j + 1)) ≤ n) : roomN rs n = r := by
 unfold roomN
 have : (List.range rs.length).find? (fun r => decide (n < benchSum (rs.take (r + 1)))) = some r := by
  rw [List.find?_range_eq_some]
  refine ⟨by simpa using h, by simpa using hr, fun j hj => ?_⟩
  have := hl j hj
  simp; omega
 rw [this]; rfl
theorem isBench_of {rs : List RoomV} {n : Int} (h : isBench rs n = true) : hallB rs = true ∧ 0 ≤ n ∧ n < benchSum rs := by
 unfold isBench at h; simp only [Bool.and_eq_true] at h
 have := inB_of h.2
 exact ⟨h.1, by omega, by omega⟩
theorem isBench_t {rs : List RoomV} {n : Int} (h : hallB rs = true) (h0 : 0 ≤ n) (h1 : n < benchSum rs) : isBench rs n = true := by
 unfold isBench; rw [h, inB_t (by omega) (by omega)]; rfl
theorem isBench_f1 {rs : List RoomV} {n : Int} (h : hallB rs = false) : isBench rs n = false := by unfold isBench; rw [h]; rfl
theorem isBench_f2 {rs : List RoomV} {n : Int} (h : n < 0 ∨ benchSum rs ≤ n) : isBench rs n = false := by unfold isBench; rw [inB_f (by omega)]; simp
theorem roomV_t {rs : List RoomV} {n : Int} (h : isBench rs n = true) : roomV rs n = roomN rs n := by unfold roomV; rw [if_pos h]
theorem roomV_f {rs : List RoomV} {n : Int} (h : isBench rs n = false) : roomV rs n = -1 := by unfold roomV; rw [h]; rfl
theorem room_more {rs : List RoomV} {n : Int} (h : isBench rs n = true) {r : Nat} (hr : r ≤ rs.length) (hl : ∀ j, j < r → benchSum (rs.take (j + 1)) ≤ n) : r < rs.length := by
 rcases Nat.lt_or_ge r rs.length with h1 | h1
 ·exact h1
 ·obtain rfl : r = rs.length := by omega
  have hb := isBench_of h
  have h3 := hallB_of hb.1
  have := hl (rs.length - 1) (by omega)
  rw [show rs.length - 1 + 1 = rs.length by omega, benchSum_all] at this
  omega
theorem benches_hall {rs : List RoomV} (h : hallB rs = true) (k : Nat) (hk : k ≤ rs.length) : 0 ≤ benchSum (rs.take k) ∧ benchSum (rs.take k) ≤ 12 := by
 have h3 := hallB_of h
 have := benchSum_bd h3.2.2.1 k hk
 omega
theorem room_found {rs : List RoomV} {n : Int} (h : isBench rs n = true) : roomN rs n < rs.length := by
 have key : ∀ d r : Nat, r + d = rs.length → (∀ j, j < r → benchSum (rs.take (j + 1)) ≤ n) → roomN rs n < rs.length := by
  intro d
  induction d with
  | zero => intro r hr hl; have := room_more h (by omega) hl; omega
  | succ d ih =>
   intro r hr hl
   have hlt := room_more h (r := r) (by omega) hl
   by_cases hc : n < benchSum (rs.take (r + 1))
   ·rw [roomN_eq hlt hc hl]; exact hlt
   ·exact ih (r + 1) (by omega) (next_all hl (by omega))
 exact key rs.length 0 (by omega) (fun j hj => by omega)
set_option maxHeartbeats 1000000 in
theorem implRoomOf_any {w : World} {v : Value} {rs : List RoomV} (n : Int) (h : IsRooms w v rs) :
  Calls Tryz.prog 263 #[.agg #[v], .int .i64 n] w fun e w' => e = .returned (.int .i64 (roomV rs n)) ∧ Below w.heap.size w w' := by
 have Hv := hide h
 obtain ⟨a, cap, rfl, hc, hm, hr⟩ := h
 clear hr
 by_cases h0 : n < 0
 ·have H1 := hide (roomV_f (isBench_f2 (rs := rs) (.inl h0)))
  go_enter Tryz.func263, Tryz.ntmps263
  go_wp2_with fail
  go_ret
  exact ⟨ret_int (uh H1).symm, (ba _ _)⟩
 by_cases h1 : benchesV rs ≤ n
 ·have H1 : Hid (roomV rs n = -1) := hide (roomV_f (by
   cases hh : hallB rs
   ·exact isBench_f1 hh
   ·rw [benchesV_t hh] at h1; exact isBench_f2 (.inr h1)))
  go_enter Tryz.func263, Tryz.ntmps263
  go_wp2_with fail
  refine ck (implBenchesIn_any ((uh Hv).alloc _)) fun w1 hb => ?_
  have Hb := hide hb
  clear hb
  generalize benchesV rs = m at *
  go_wp2_with fail
  go_ret
  exact ⟨ret_int (uh H1).symm, ((ba _ _)).trans ((uh Hb).mono (by simp))⟩
 have hh : hallB rs = true := by
  cases hh : hallB rs
  ·rw [benchesV_f hh] at h1; omega
  ·rfl
 have H : Hid (isBench rs n = true) := hide (isBench_t hh (by omega) (by rw [benchesV_t hh] at h1; omega))
 have Hh := hide hh
 clear hh
 go_enter Tryz.func263, Tryz.ntmps263
 go_wp2_with fail
 refine ck (implBenchesIn_any ((uh Hv).alloc _)) fun w1 hb => ?_
 have hsz : w.heap.size + 1 ≤ w1.heap.size := by have := hb.size; simpa using this
 have hbox : w1.cell? ⟨w.heap.size, 0, none⟩ = some (.slice a rs.length cap) := by rw [hb.cell (p := ⟨w.heap.size, 0, none⟩) (by simp)]; simp
 have B1 : Hid (Below w.heap.size w w1) := hide (((ba _ _)).trans (hb.mono (by simp)))
 clear hb
 generalize benchesV rs = m at *
 go_wp2_with fail
 go_loopw [5] (fun i wr => ∃ r : Nat, r ≤ rs.length ∧ i = .int .i64 r ∧ (∀ j, j < r → benchSum (rs.take (j + 1)) ≤ n) ∧ Below w1.heap.size w1 wr) (fun i _ => rs.length - (intOf i).toNat)
 case atStart => exact ⟨0, Nat.zero_le _, rfl, fun j hj => by omega, Below.refl _ _⟩
 case round =>
  obtain ⟨r, hr, rfl, hl, hb⟩ := hrel
  have hlt := room_more (uh H) hr hl
  have hbox2 : wr.cell? ⟨w.heap.size, 0, none⟩ = some (.slice a rs.length cap) := by rw [hb.cell (p := ⟨w.heap.size, 0, none⟩) (by show w.heap.size < w1.heap.size; omega)]; exact hbox
  have hz := hb.size
  have hl3 : rs.length ≤ 3 := (hallB_of (uh Hh)).2.1
  have Hl := hide hl
  have Hb := hide hb
  have Hw : Hid (IsRooms wr (.slice a (r + 1) cap) (rs.take (r + 1))) := hide ((((uh Hv).below (uh B1)).below hb).taken (by omega))
  clear hl hb hbox
  go_wp2_with fail
  refine ck (benchesOf_any (uh Hw) ((adds_hall (uh Hh)).taken _)) fun w2 hb2 => ?_
  have hbd := benches_hall (uh Hh) (r + 1) (by omega)
  have Hb2 := hide hb2
  clear hb2
  by_cases hc2 : n < benchSum (rs.take (r + 1))
  ·have HN := hide (roomN_eq hlt hc2 (uh Hl))
   generalize benchSum (rs.take (r + 1)) = s at *
   go_wp2_with fail
   go_ret
   exact ⟨ret_int (by rw [roomV_t (uh H), uh HN]), (uh B1).trans (((uh Hb).trans ((uh Hb2).mono hz)).mono (by omega))⟩
  ·have hle : benchSum (rs.take (r + 1)) ≤ n := by omega
   have Hle := hide (next_all (uh Hl) hle)
   generalize benchSum (rs.take (r + 1)) = s at *
   go_wp2_with fail
   go_roundw
   case rel => exact ⟨r + 1, by omega, by go_num, uh Hle, (uh Hb).trans ((uh Hb2).mono hz)⟩
   case measure => exact ms
open Go.ChangeShapes Go.WideShapes Go.ChangeAt Go.RowKit
def fadeN (x : Int) : Nat → Int → Int
 | 0, u => u
 | n + 1, u => fadeN x n ((31 * u + x) / 32)
def fadedManyV (u x n : Int) : Int := if inB u 0 1024 && inB x 0 1024 && inB n 0 1000 then fadeN x n.toNat u else -1
theorem fade_bd {u x : Int} (h1 : 0 ≤ u) (h2 : u ≤ 1024) (h3 : 0 ≤ x) (h4 : x ≤ 1024) : 0 ≤ (31 * u + x) / 32 ∧ (31 * u + x) / 32 ≤ 1024 := by omega
theorem fadeN_bd (x : Int) (h3 : 0 ≤ x) (h4 : x ≤ 1024) : ∀ (n : Nat) (u : Int), 0 ≤ u → u ≤ 1024 → 0 ≤ fadeN x n u ∧ fadeN x n u ≤ 1024
 | 0, u, h1, h2 => ⟨h1, h2⟩
 | n + 1, u, h1, h2 => fadeN_bd x h3 h4 n _ (fade_bd h1 h2 h3 h4).1 (fade_bd h1 h2 h3 h4).2
theorem fadeN_succ (x : Int) : ∀ (n : Nat) (u : Int), fadeN x (n + 1) u = (31 * fadeN x n u + x) / 32
 | 0, u => rfl
 | n + 1, u => fadeN_succ x n _
theorem ways3 {P : Prop} (a b c lo hi l1 h1 l2 h2 : Int)
  (k1 : inB a lo hi = false → P) (k2 : inB a lo hi = true → inB b l1 h1 = false → P) (k3 : inB a lo hi = true → inB b l1 h1 = true → inB c l2 h2 = false → P)
  (k4 : inB a lo hi = true → inB b l1 h1 = true → inB c l2 h2 = true → P) : P := by
 cases ha : inB a lo hi
 ·exact k1 ha
 ·cases hb : inB b l1 h1
  ·exact k2 ha hb
  ·cases hc : inB c l2 h2
   ·exact k3 ha hb hc
   ·exact k4 ha hb hc
theorem l1Force_any (x : Int) (w : World) : Calls Tryz.prog 49 #[.int .i64 x] w fun e w' => e = .returned (.bool (inB x 0 1024)) ∧ w' = w := by
 go_enter Tryz.func49, Tryz.ntmps49
 go_wp2_with (go_at_call 40; refine (l1In_any _ _ _ _).mono ?_; rintro e w' ⟨rfl, rfl⟩)
 go_ret
 exact ⟨rfl, rfl⟩
theorem all2 {p : Int → Bool} (a b : Int) : [a, b].all p = (p a && p b) := by simp
theorem all1 {p : Int → Bool} (a : Int) : [a].all p = p a := by simp
theorem cells2 (W : World) (a b : Int) (bk : Nat) (hb : bk = W.heap.size) : ∀ k, k < [a, b].length → (W.alloc (.cells #[.int .i64 a, .int .i64 b] 2)).cell? ⟨bk, k, none⟩ = some (.int .i64 ([a, b].getD k 0)) := by
 intro k hk
 rw [World.cell?_alloc_at _ _ _ _ hb]
 match k, hk with
 | 0, _ => rfl
 | 1, _ => rfl
theorem cells1 (W : World) (a : Int) (bk : Nat) (hb : bk = W.heap.size) : ∀ k, k < [a].length → (W.alloc (.cells #[.int .i64 a] 2)).cell? ⟨bk, k, none⟩ = some (.int .i64 ([a].getD k 0)) := by
 intro k hk
 rw [World.cell?_alloc_at _ _ _ _ hb]
 match k, hk with
 | 0, _ => rfl
theorem two_isUtil (a b : Int) (W : World) (bk : Nat) (hb : bk = W.heap.size) : Calls Tryz.prog 264 #[.func (Fn.func 265) #[] #[], .slice (some ⟨bk, 0, none⟩) 2 2] (W.alloc (.cells #[.int .i64 a, .int .i64 b] 2))
  fun e w' => e = .returned (.bool (inB a 0 1024 && inB b 0 1024)) ∧ w' = W.alloc (.cells #[.int .i64 a, .int .i64 b] 2) := by
 have h := allAre_isUtil bk 2 [a, b] (W.alloc (.cells #[.int .i64 a, .int .i64 b] 2)) (by simp) (cells2 W a b bk hb)
 rw [all2] at h
 exact h
theorem one_isFadings (a : Int) (W : World) (bk : Nat) (hb : bk = W.heap.size) : Calls Tryz.prog 264 #[.func (Fn.func 266) #[] #[], .slice (some ⟨bk, 0, none⟩) 1 1] (W.alloc (.cells #[.int .i64 a] 2))
  fun e w' => e = .returned (.bool (inB a 0 1000)) ∧ w' = W.alloc (.cells #[.int .i64 a] 2) := by
 have h := allAre_isFadings bk 1 [a] (W.alloc (.cells #[.int .i64 a] 2)) (by simp) (cells1 W a bk hb)
 rw [all1] at h
 exact h
theorem here_iff {m : SmyV} {s : SmithV} : hereB m s = true ↔ s = zeroS ∨ (presB s = true ∧ s.2.2.2.2.1 < m.guilds.length ∧ s.2.1 < m.desks.length) := by
 unfold hereB smithB
 simp only [Bool.and_eq_true, Bool.or_eq_true, decide_eq_true_eq]
 constructor
 ·rintro ⟨hg | hp, hr⟩
  ·exact .inl (goneB_of hg)
  ·right
   refine ⟨hp, ?_⟩
   rcases hr with e | e
   ·have : s.1 = 0 := by simpa using e
    rw [presB_st this] at hp
    cases hp
   ·exact e
 ·rintro (rfl | ⟨hp, hr⟩)
  ·exact ⟨.inl goneB_zero, .inl rfl⟩
  ·exact ⟨.inr hp, .inr hr⟩
theorem smy_loose {m : SmyV} (h : smyB m = true) : Loose m := by
 unfold smyB at h
 simp only [Bool.and_eq_true] at h
 exact loose_of h.1
def setS (m : SmyV) (k : Nat) (s : SmithV) : SmyV := { m with smiths := m.smiths.set k s }
theorem bench_few {m : SmyV} (h : Loose m) : m.desks.length ≤ 8 := by
 have := h.head
 unfold headB at this
 simp only [Bool.and_eq_true, decide_eq_true_eq] at this
 have h8 := (hallB_of this.1).2.2.2
 omega
theorem Loose.limits {m : SmyV} (h : Loose m) {k : Nat} (hk : k < m.smiths.length) (hs : (recAt m.smiths k).1 ≠ 0) : presB (recAt m.smiths k) = true ∧ (recAt m.smiths k).2.2.2.2.1 < m.guilds.length ∧ (recAt m.smiths k).2.1 < m.desks.length := by
 rcases here_iff.1 (h.here k hk) with e | e
 ·rw [e] at hs; exact absurd rfl hs
 ·exact e
def setP (m : SmyV) (r : Nat) (p : Int) : SmyV := { m with paces := m.paces.set r p }
theorem keep_pace {m : SmyV} (h : Loose m) {r : Nat} (hr : r < m.rooms.length) {p : Int} (p0 : 0 ≤ p) (p1 : p < (roomAt m.rooms r).2.length) : Loose (setP m r p) := by
 have hd := h.head
 have hpl : m.paces.length = m.rooms.length := by
  unfold headB at hd
  simp only [Bool.and_eq_true, decide_eq_true_eq] at hd
  exact hd.2.2.2.2.1
 refine ⟨?_, h.desk, ?_, h.here, h.seat, h.openD⟩
 ·unfold headB at hd ⊢
  unfold setP
  simpa using hd
 ·intro j hj
  have hj' : j < m.paces.length := by unfold setP at hj; simpa using hj
  have := h.pace j hj'
  unfold paceInB at this ⊢
  unfold setP
  simp only
  rw [recAt_set (by omega)]
  split
  ·rename_i e; subst e; exact inB_t p0 (by omega)
  ·exact this
theorem addr_to (g o i : Nat) : (⟨g, o, none⟩ : Addr).add i = ⟨g, o + i, none⟩ := by unfold Addr.add; split <;> simp_all
theorem parts_of {e k bytes : Nat} {z : Value} (h : (Tryz.prog.info? e).map (fun i => (i.zero, i.size, i.bytes)) = some (some z, k, bytes)) : ∃ i, Tryz.prog.info? e = some i ∧ i.zero = some z ∧ i.size = k ∧ i.bytes = bytes := by
 cases hi : Tryz.prog.info? e with
 | none => rw [hi] at h; cases h
 | some i =>
  rw [hi] at h
  simp only [Option.map_some, Option.some.injEq, Prod.mk.injEq] at h
  exact ⟨i, rfl, h.1, h.2.1, h.2.2⟩
theorem run_append_none {w : World} {base t ty e size n : Nat} {i : TypeInfo} (ht : Tryz.prog.underlying t = some (.slice e)) (hi : Tryz.prog.info? e = some i) {v : Value} {xs : List Value} (hown : w.ownsRow base e size v n xs) (a : Option Addr) (c : Nat) :
  (Builtin.append_ #[t, t] ty #[v, .slice a 0 c]).run Tryz.prog w = .ok v w := by
 rcases hown.2 with ⟨rfl, rfl⟩ | ⟨g, cap, cur, rfl, _, _, hnc, _⟩
 ·cases a <;> simp [Builtin.append_, run_underlying ht, sizeOf, typeInfo, hi, Builtin.lenOf, Builtin.firstCells, loadCells, loadCellsFrom]
 ·cases a <;> simp [Builtin.append_, run_underlying ht, sizeOf, typeInfo, hi, Builtin.lenOf, Builtin.firstCells, hnc, storeCells, loadCells, loadCellsFrom]
structure RecTy {α : Type} (e k : Nat) (z : Value) (enc : α → List Value) : Prop where
 info : (Tryz.prog.info? e).map (fun i => (i.zero, i.size, i.bytes)) = some (some z, k, 8 * k)
 zero : z.cells.size = k
 len : ∀ x, (enc x).length = k
 pos : 0 < k
 few : k ≤ 100
 one : ∀ x, ∀ u ∈ enc x, u.oneCell' = true
section
variable {α : Type} {e k : Nat} {enc : α → List Value}
theorem flat_one (hone : ∀ x : α, ∀ u ∈ enc x, u.oneCell' = true) (qs : List α) : ∀ u ∈ flat enc qs, u.oneCell' = true := fun u hu => by
 unfold flat at hu
 obtain ⟨p, _, hp⟩ := List.mem_flatMap.1 hu
 exact hone p u hp
theorem recs_empty {B g : Nat} {w : World} (hg : g = w.heap.size) (hB : B ≤ g) : RecAt e k enc B (w.alloc (.cells #[] e)) (.slice (some ⟨g, 0, none⟩) 0 0) [] := by
 subst hg
 exact ⟨by simp [flat], .inr ⟨_, 0, #[], rfl, hB, heap_alloc_new w _, Nat.le_refl _, Nat.zero_le _, by simp, by simp [flat]⟩⟩
end
section
variable {α : Type} [Inhabited α] {e k : Nat} {enc : α → List Value} {z : Value}
theorem rec_cells (hk : ∀ x, (enc x).length = k) (h0 : 0 < k) {w : World} {b off : Nat} {qs : List α} (h : ∀ j, j < qs.length → ∀ i u, (enc (recAt qs j))[i]? = some u → w.cell? ⟨b, off + j * k + i, none⟩ = some u) :
  ∀ (j : Nat) (u : Value), (flat enc qs)[j]? = some u → w.cell? ((⟨b, off, none⟩ : Addr).add j) = some u := fun j u hj => by
 have hlt : j < qs.length * k := by
  rcases Nat.lt_or_ge j (qs.length * k) with h | h
  ·exact h
  ·rw [List.getElem?_eq_none (by rw [flat_len hk]; exact h)] at hj; cases hj
 have hd : j / k < qs.length := (Nat.div_lt_iff_lt_mul h0).2 hlt
 have hr : j % k < k := Nat.mod_lt _ h0
 have he : j = j / k * k + j % k := by rw [Nat.mul_comm]; exact (Nat.div_add_mod j k).symm
 rw [addr_to]
 rw [he, flat_get hk qs (j / k) hd (j % k) hr] at hj
 have := h (j / k) hd (j % k) u hj
 rw [Nat.add_assoc, ← he] at this
 exact this
theorem run_append_recs (T : RecTy e k z enc) {w : World} {base t ty : Nat} (ht : Tryz.prog.underlying t = some (.slice e)) {v x : Value} {ps qs : List α} (hown : RecAt e k enc base w v ps) (hx : IsRec k enc w x qs) (hb : ps.length + qs.length ≤ 4000) (hbase : base ≤ w.heap.size) :
  ∃ v' w', (Builtin.append_ #[t, t] ty #[v, x]).run Tryz.prog w = .ok v' w' ∧ RecAt e k enc base w' v' (ps ++ qs) ∧ w.grownBy w' v.ownBlock ∧ (v'.ownBlock = v.ownBlock ∨ v'.ownBlock = some w.heap.size) := by
 obtain ⟨i0, hi, hz0, hz1, hz2⟩ := parts_of T.info
 obtain ⟨a, c, rfl, hc, hm, hr⟩ := hx
 by_cases h0 : qs = []
 ·subst h0
  refine ⟨v, w, run_append_none ht hi hown a c, by simpa using hown, grown_refl _ _, .inl rfl⟩
 ·rcases hr with hr | ⟨b, off, rfl, hlt, hcl⟩
  ·exact absurd hr h0
  ·have hk := T.few
   have hmul : (ps.length + qs.length) * (8 * k) ≤ 4000 * 800 := Nat.mul_le_mul hb (by omega)
   obtain ⟨v', w', hr, h2, h3, _, h5⟩ := run_append_own_at (P := Tryz.prog) w base t ty e i0 z k (8 * k) ht hi hz0 hz1 hz2 T.zero T.pos v ps.length _ hown ⟨b, off, none⟩ qs.length c (flat enc qs) (flat_len T.len qs)
    (rec_cells T.len T.pos hcl) (flat_one T.one qs) (by simp only [maxLen]; omega) (by omega) hbase
   refine ⟨v', w', hr, ?_, h3, h5⟩
   unfold RecAt
   rw [flat_append, List.length_append]
   exact h2
theorem wpList_append_recs (T : RecTy e k z enc) {w : World} {ops : Array Oper} {rest : List Oper} {o : Oper} {a : Act} {Q : Exit → Act → World → Prop} (hgd : o.guard = none) (s x : Operand) (t : TypeId) (ht : Tryz.prog.underlying t = some (.slice e))
  (ho : o.op = .call { callee := .builtin .append, args := #[s, x], argTypes := #[t, t] }) (base : Nat) (v u : Value) (ps qs : List α) (hs : a.eval s = v) (hx : a.eval x = u) (hown : RecAt e k enc base w v ps) (hr : IsRec k enc w u qs)
  (hb : ps.length + qs.length ≤ 4000) (hbase : base ≤ w.heap.size)
  (h : ∀ v' w', RecAt e k enc base w' v' (ps ++ qs) → w.grownBy w' v.ownBlock → (v'.ownBlock = v.ownBlock ∨ v'.ownBlock = some w.heap.size) → wpList Tryz.prog ops Q rest (a.put o.dst v') w') :
  wpList Tryz.prog ops Q (o :: rest) a w := by
 refine wpList_plain hgd fun K hK => ?_
 obtain ⟨v', w', hrun, h2, h3, h5⟩ := run_append_recs T (ty := o.type) ht hown hr hb hbase
 unfold Oper.wp execOp
 simp only [ho, resolve, invoke, builtin, Sem.run_bind, Sem.run_pure, Result.andThen_ok, List.map_toArray, List.map_cons, List.map_nil, hs, hx, hrun]
 exact hK _ _ (h v' w' h2 h3 h5)
theorem recs_one {w : World} (x : α) {g c : Nat} (hg : g = w.heap.size) (hc : 1 ≤ c) (hc2 : c ≤ 4000) : IsRec k enc (w.alloc (.cells (enc x).toArray e)) (.slice (some ⟨g, 0, none⟩) 1 c) [x] := by
 subst hg
 refine ⟨_, c, rfl, hc, by omega, .inr ⟨_, 0, rfl, by simp, fun j hj i u hu => ?_⟩⟩
 obtain rfl : j = 0 := by simpa using hj
 rw [Nat.zero_mul, Nat.zero_add, World.cell?_alloc_at _ _ _ _ rfl]
 have hr : recAt [x] 0 = x := rfl
 rw [hr] at hu
 simpa using hu
theorem flat_set1 (hk : ∀ x, (enc x).length = k) (h0 : 0 < k) (xs : List α) {j i : Nat} (hj : j < xs.length) (hi : i < k) (u : Value) (x : α) (hx : enc x = (enc (recAt xs j)).set i u) : (flat enc xs).set (j * k + i) u = flat enc (xs.set j x) := by
 have hl := flat_len hk xs
 have hjk : j * k + k ≤ xs.length * k := by rw [← Nat.succ_mul]; exact Nat.mul_le_mul_right k hj
 apply List.ext_getElem?
 intro m
 by_cases hm : m < xs.length * k
 ·have hd : m / k < xs.length := (Nat.div_lt_iff_lt_mul h0).2 hm
  have hr : m % k < k := Nat.mod_lt _ h0
  have he : m = m / k * k + m % k := by rw [Nat.mul_comm]; exact (Nat.div_add_mod m k).symm
  have hg := flat_get hk (xs.set j x) (m / k) (by simpa using hd) (m % k) hr
  have hg0 := flat_get hk xs (m / k) hd (m % k) hr
  rw [← he] at hg hg0
  rw [hg, recAt_set hj]
  by_cases e : m / k = j
  ·rw [if_pos e, hx]
   by_cases ei : m % k = i
   ·have hmi : m = j * k + i := by rw [← e, ← ei]; exact he
    rw [ei, hmi, List.getElem?_set_self (by rw [hl]; omega), List.getElem?_set_self (by rw [hk]; exact hi)]
   ·have hmi : j * k + i ≠ m := by rw [← e]; omega
    rw [List.getElem?_set_ne hmi, List.getElem?_set_ne (Ne.symm ei), hg0, e]
  ·rw [if_neg e, List.getElem?_set_ne, hg0]
   intro h
   apply e
   rw [← h]
   exact Nat.div_eq_of_lt_le (Nat.le_add_right _ _) (by rw [Nat.succ_mul]; omega)
 ·rw [List.getElem?_eq_none (by simp; omega), List.getElem?_eq_none (by rw [flat_len hk]; simp; omega)]
theorem RecAt.put1 (hk : ∀ x, (enc x).length = k) (h0 : 0 < k) {t n₀ n cap g : Nat} {w : World} {xs : List α} (h : RecAt t k enc n₀ w (.slice (some ⟨g, 0, none⟩) n cap) xs) (hn : n = xs.length) {j i : Nat} (hj : j < xs.length) (hi : i < k) (u : Value) (x : α) (hx : enc x = (enc (recAt xs j)).set i u) :
  RecAt t k enc n₀ (w.setCell ⟨g, j * k + i, none⟩ u) (.slice (some ⟨g, 0, none⟩) n cap) (xs.set j x) ∧ w.grownBy (w.setCell ⟨g, j * k + i, none⟩ u) (some g) := by
 subst hn
 obtain ⟨h1, h2⟩ := World.ownsRow.stored h (j * k + i) u
 rw [flat_set1 hk h0 xs hj hi u x hx] at h1
 refine ⟨?_, h2⟩
 unfold RecAt
 rw [List.length_set]
 exact h1
end
end Go.Proofs.YtffcgajndmhpkaaGreatDoor
namespace Go.Proofs.YtffcgajndmhpkaaGreatDoor
set_option linter.unusedVariables false
section
variable {P : Program} {ops : Array Oper} {z : Oper} {Q : Exit → Act → World → Prop} {md : Region.Mode}
def tailQ (P : Program) (full : Array Oper) (Q : Exit → Act → World → Prop) (n : Nat) : Exit → Act → World → Prop
 | .normal, a, w => wpOp P full Q n (fun a' w' => Q .normal a' w') a w
 | e, a, w => Q e a w
def tailOk (md : Region.Mode) (ops : Array Oper) (z : Oper) : Bool :=
 (List.range ops.size).all (fun i => (ops[i]?).all fun o => o.guard.isNone && o.after.all fun e => decide (e.on < i)) && (List.range ops.size).all (fun i => (z.after.any fun e => Region.binds md e && decide (e.on = i)) || (List.range ops.size).any fun j => decide (i < j) && (ops[j]?).any fun o => o.after.any fun e => Region.binds md e && decide (e.on = i)) && z.after.all fun e => decide (e.on < ops.size)
theorem upon_q {Q' : Exit → Act → World → Prop} (hq : ∀ e a w, e ≠ .normal → Q' e a w → Q e a w) {o : Oper} {a : Act} {w : World} {K : Act → World → Prop} (h : o.wp P a w K Q') : o.wp P a w K Q := by
 have hl : LetsOut Q' → LetsOut Q := fun ⟨a, w, h⟩ => ⟨a, w, hq _ _ _ (by simp) h⟩
 unfold Oper.wp at *
 generalize (execOp a.eval o).run P w = r at *
 cases r with
 | ok n w' =>
  cases n <;> simp only [Oper.upon] at h ⊢ <;>
   first
    | exact h
    | exact Calls.mono h (fun e w'' he => by cases e <;> first | exact he | exact hq _ _ _ (by simp) he | exact hl he)
 | halt x w' =>
  cases x <;> simp only [Oper.upon] at h ⊢ <;> first | exact h | exact hq _ _ _ (by simp) h | exact hl h
theorem getD_push (l : Array Bool) (d : Bool) (i : Nat) : (l.push false).getD i d = if i = l.size then false else l.getD i d := by
 simp only [Array.getD_eq_getD_getElem?, Array.getElem?_push]
 split <;> rfl
theorem ready_push (l : Array Bool) (hl : l.size = ops.size) : Region.ready md (ops.push z) (l.push false) = Region.ready md ops l ++ (if (z.after.all fun e => !Region.binds md e || l.getD e.on false) = true then [ops.size] else []) := by
 have hout : ∀ j, (l.push false).getD j false = l.getD j false := fun j => by
  rw [getD_push]
  split
  ·rename_i h; subst h; simp
  ·rfl
 unfold Region.ready
 rw [Array.size_push, List.range_succ, List.filter_append]
 congr 1
 ·refine List.filter_congr fun i hi => ?_
  have hi := List.mem_range.1 hi
  rw [getD_push, if_neg (by omega), Array.getElem?_push, if_neg (by omega)]
  simp only [hout]
 ·simp only [List.filter_cons, List.filter_nil]
  rw [getD_push, if_pos hl.symm, Array.getElem?_push, if_pos rfl]
  simp only [hout, Bool.not_false, Bool.true_and, Option.map_some, Option.getD_some]
theorem set_push (l : Array Bool) {i : Nat} (hi : i < l.size) : (l.push false).setIfInBounds i true = (l.setIfInBounds i true).push false := by
 apply Array.ext_getElem?
 intro j
 simp only [Array.getElem?_setIfInBounds, Array.getElem?_push, Array.size_push, Array.size_setIfInBounds]
 by_cases h1 : i = j
 ·subst h1
  have h2 : ¬ i = l.size := by omega
  have h3 : i < l.size + 1 := by omega
  simp [h2, h3, hi]
 ·simp [h1]
theorem tailOk_of (h : tailOk md ops z = true) : (∀ (i : Nat) (o : Oper), ops[i]? = some o → o.guard = none ∧ ∀ e ∈ o.after, e.on < i) ∧ (∀ i, i < ops.size → (∃ e ∈ z.after, Region.binds md e = true ∧ e.on = i) ∨ ∃ (j : Nat) (o : Oper), i < j ∧ j < ops.size ∧ ops[j]? = some o ∧ ∃ e ∈ o.after, Region.binds md e = true ∧ e.on = i) ∧ ∀ e ∈ z.after, e.on < ops.size := by
 unfold tailOk at h
 simp only [Bool.and_eq_true, List.all_eq_true, List.mem_range] at h
 obtain ⟨⟨h1, h2⟩, h3⟩ := h
 refine ⟨fun i o ho => ?_, fun i hi => ?_, fun e he => ?_⟩
 ·have hi : i < ops.size := by
   rcases Nat.lt_or_ge i ops.size with h | h
   ·exact h
   ·rw [Array.getElem?_eq_none h] at ho; cases ho
  have := h1 i hi
  rw [ho] at this
  simp only [Option.all_some, Bool.and_eq_true, Option.isNone_iff_eq_none, Array.all_eq_true_iff_forall_mem, decide_eq_true_eq] at this
  exact this
 ·have := h2 i hi
  rw [Bool.or_eq_true] at this
  rcases this with this | this
  ·obtain ⟨k, hk, h9⟩ := Array.any_eq_true.1 this
   simp only [Bool.and_eq_true, decide_eq_true_eq] at h9
   exact .inl ⟨_, Array.getElem_mem hk, h9.1, h9.2⟩
  ·obtain ⟨j, hj, hja⟩ := List.any_eq_true.1 this
   have hj := List.mem_range.1 hj
   rw [Bool.and_eq_true, decide_eq_true_eq] at hja
   have ho : ops[j]? = some ops[j] := Array.getElem?_eq_getElem hj
   have h8 := hja.2
   rw [ho] at h8
   obtain ⟨k, hk, h9⟩ := Array.any_eq_true.1 h8
   simp only [Bool.and_eq_true, decide_eq_true_eq] at h9
   exact .inr ⟨j, _, hja.1, hj, ho, _, Array.getElem_mem hk, h9.1, h9.2⟩
 ·simp only [Array.all_eq_true_iff_forall_mem, decide_eq_true_eq] at h3
  exact h3 e he
theorem getD_tf {l : Array Bool} {i : Nat} (hi : i < l.size) (h : l.getD i true = true) : l.getD i false = true := by
 simp only [Array.getD_eq_getD_getElem?, Array.getElem?_eq_getElem hi, Option.getD_some] at h ⊢
 exact h
theorem ready_all (hok : tailOk md ops z = true) {l : Array Bool} (hl : l.size = ops.size) (hr : Region.ready md ops l = []) : ∀ i, i < ops.size → l.getD i true = true := by
 obtain ⟨h1, _, _⟩ := tailOk_of hok
 intro i
 induction i using Nat.strongRecOn with
 | _ i ih =>
  intro hi
  cases hg : l.getD i true
  ·exfalso
   have ho : ops[i]? = some ops[i] := Array.getElem?_eq_getElem hi
   obtain ⟨_, ha⟩ := h1 i _ ho
   have hm : i ∈ Region.ready md ops l := by
    unfold Region.ready
    rw [List.mem_filter]
    refine ⟨List.mem_range.2 hi, ?_⟩
    rw [hg, ho]
    simp only [Bool.not_false, Bool.true_and, Option.map_some, Option.getD_some, Array.all_eq_true_iff_forall_mem]
    intro e he
    have hlt := ha e he
    rw [getD_tf (by omega) (ih e.on hlt (by omega)), Bool.or_true]
   rw [hr] at hm
   exact List.not_mem_nil hm
  ·rfl
theorem ready_none {l : Array Bool} (h : ∀ i, i < ops.size → l.getD i true = true) : Region.ready md ops l = [] := by
 unfold Region.ready
 rw [List.filter_eq_nil_iff]
 intro i hi
 rw [h i (List.mem_range.1 hi)]
 simp
theorem wpAny_end {l : Array Bool} {a : Act} {w : World} (hr : Region.ready md ops l = []) (h : Q .normal a w) : ∀ fuel, wpAny P md ops Q fuel l a w
 | 0 => ⟨hr, h⟩
 | _ + 1 => ⟨fun _ => h, by rw [hr]; simp⟩
def Closed2 (md : Region.Mode) (ops : Array Oper) (l : Array Bool) : Prop := ∀ (i : Nat) (o : Oper), ops[i]? = some o → l.getD i false = true → ∀ e ∈ o.after, Region.binds md e = true → l.getD e.on false = true
theorem all_listed (hok : tailOk md ops z = true) {l : Array Bool} (hcl : Closed2 md ops l) (hz : (z.after.all fun e => !Region.binds md e || l.getD e.on false) = true) : ∀ d i, i + d + 1 = ops.size → l.getD i false = true := by
 obtain ⟨_, k2, _⟩ := tailOk_of hok
 rw [Array.all_eq_true_iff_forall_mem] at hz
 intro d
 induction d using Nat.strongRecOn with
 | _ d ih =>
  intro i hi
  rcases k2 i (by omega) with ⟨e, he, hb, rfl⟩ | ⟨j, o, hij, hj, ho, e, he, hb, rfl⟩
  ·have := hz e he
   rw [hb] at this
   simpa using this
  ·exact hcl j o ho (ih (ops.size - j - 1) (by omega) j (by omega)) e he hb
theorem tail_any (hok : tailOk md ops z = true) : ∀ (fuel : Nat) (l : Array Bool) (a : Act) (w : World), l.size = ops.size → Closed2 md ops l → wpAny P md ops (tailQ P (ops.push z) Q ops.size) fuel l a w → wpAny P md (ops.push z) Q (fuel + 1) (l.push false) a w := by
 obtain ⟨k1, k2, k3⟩ := tailOk_of hok
 have last : ∀ (fuel : Nat) (l : Array Bool) (a : Act) (w : World), l.size = ops.size → Region.ready md ops l = [] → tailQ P (ops.push z) Q ops.size .normal a w → wpAny P md (ops.push z) Q (fuel + 1) (l.push false) a w := by
  intro fuel l a w hl hr hq
  have hall := ready_all hok hl hr
  have hz : (z.after.all fun e => !Region.binds md e || l.getD e.on false) = true := by
   rw [Array.all_eq_true_iff_forall_mem]
   intro e he
   rw [getD_tf (by have := k3 e he; omega) (hall e.on (k3 e he)), Bool.or_true]
  have hrf := ready_push (ops := ops) (z := z) (md := md) l hl
  rw [hr, if_pos hz, List.nil_append] at hrf
  refine ⟨fun h0 => (by rw [hrf] at h0; cases h0), fun i hi => ?_⟩
  rw [hrf] at hi
  obtain rfl : i = ops.size := by simpa using hi
  refine wpOp_mono (fun a' w' h => wpAny_end (ready_none fun j hj => ?_) h fuel) hq
  rw [Array.size_push] at hj
  simp only [Array.getD_eq_getD_getElem?, Array.getElem?_setIfInBounds, Array.getElem?_push, Array.size_push]
  by_cases hj2 : ops.size = j
  ·subst hj2
   simp [hl]
  ·have h9 := hall j (by omega)
   rw [Array.getD_eq_getD_getElem?] at h9
   have h8 : ¬ j = l.size := by omega
   simp only [hj2, h8, if_false]
   exact h9
 intro fuel
 induction fuel with
 | zero => intro l a w hl hcl h; exact last 0 l a w hl h.1 h.2
 | succ fuel ih =>
  intro l a w hl hcl h
  by_cases hr : Region.ready md ops l = []
  ·exact last (fuel + 1) l a w hl hr (h.1 hr)
  ·obtain ⟨j, hj⟩ := List.exists_mem_of_ne_nil _ hr
   have hjm := hj
   unfold Region.ready at hjm
   rw [List.mem_filter] at hjm
   have hjn := List.mem_range.1 hjm.1
   have hjl : l.getD j true = false := by
    have := hjm.2
    simp only [Bool.and_eq_true, Bool.not_eq_true'] at this
    exact this.1
   have hz : ¬ (z.after.all fun e => !Region.binds md e || l.getD e.on false) = true := by
    intro hall
    have := all_listed hok hcl hall (ops.size - j - 1) j (by omega)
    simp only [Array.getD_eq_getD_getElem?, Array.getElem?_eq_getElem (show j < l.size by omega), Option.getD_some] at this hjl
    rw [this] at hjl
    cases hjl
   have hrf := ready_push (ops := ops) (z := z) (md := md) l hl
   rw [if_neg hz, List.append_nil] at hrf
   refine ⟨fun h0 => (by rw [hrf] at h0; exact absurd h0 hr), fun i hi => ?_⟩
   rw [hrf] at hi
   have hin : i < ops.size := by
    unfold Region.ready at hi
    exact List.mem_range.1 (List.mem_filter.1 hi).1
   have hop := h.2 i hi
   have ho : ops[i]? = some ops[i] := Array.getElem?_eq_getElem hin
   have hof : (ops.push z)[i]? = some ops[i] := by rw [Array.getElem?_push, if_neg (by omega)]; exact ho
   have hg := (k1 i _ ho).1
   have w1 : ∀ (full : Array Oper), Region.wanted ops[i] (yielded full a.tmps) = true := fun full => by simp [Region.wanted, hg]
   have hq : ∀ (e : Exit) (a : Act) (w : World), e ≠ .normal → tailQ P (ops.push z) Q ops.size e a w → Q e a w := fun e a w hne h => by
    cases e <;> first | exact h | exact absurd rfl hne
   unfold wpOp at hop ⊢
   simp only [ho, w1, if_true] at hop
   simp only [hof, w1, if_true]
   rw [set_push l (by omega)]
   have hcl2 : Closed2 md ops (l.setIfInBounds i true) := by
    have hmono : ∀ x, l.getD x false = true → (l.setIfInBounds i true).getD x false = true := fun x hx => by
     simp only [Array.getD_eq_getD_getElem?, Array.getElem?_setIfInBounds] at hx ⊢
     by_cases hxi : i = x
     ·subst hxi; simp [show i < l.size by omega]
     ·rw [if_neg hxi]; exact hx
    intro x o' ho' hx e he hb
    by_cases hxi : i = x
    ·subst hxi
     apply hmono
     have hi9 := hi
     unfold Region.ready at hi9
     rw [List.mem_filter, ho'] at hi9
     have := hi9.2
     simp only [Bool.and_eq_true, Option.map_some, Option.getD_some, Array.all_eq_true_iff_forall_mem] at this
     have h8 := this.2 e he
     rw [hb] at h8
     simpa using h8
    ·apply hmono
     refine hcl x o' ho' ?_ e he hb
     simp only [Array.getD_eq_getD_getElem?, Array.getElem?_setIfInBounds, if_neg hxi] at hx ⊢
     exact hx
   rcases hop with hop | ⟨has, a9, w9, hlo⟩
   ·exact .inl (upon_q hq (Oper.wp_mono (fun a' w' h9 => ih _ a' w' (by simpa using hl) hcl2 h9) hop))
   ·exact .inr ⟨has, a9, w9, hq _ _ _ (by simp) hlo⟩
theorem wp_region_tail {id : Nat} {a : Act} {w : World} {S : World → Prop} (hm : P.follows .mixedOrders = true) (hok : tailOk .any ops z = true) (hS : S w.drew)
  (h : S w.drew → wpAnyH P .any ops (tailQ P (ops.push z) Q ops.size) S ops.size (Array.replicate ops.size false) a w.drew) : (Code.region id (ops.push z) true).wp P Q a w := by
 refine wp_region_any hm ?_
 have h9 := tail_any (Q := Q) hok ops.size (Array.replicate ops.size false) a w.drew (by simp) (fun i o ho hx => by
  simp only [Array.getD_eq_getD_getElem?, Array.getElem?_replicate] at hx
  split at hx <;> simp at hx) (wpAny_of_held _ _ _ _ (h hS))
 rw [Array.size_push]
 have hrep : (Array.replicate ops.size false).push false = Array.replicate (ops.size + 1) false := by simp [Array.replicate_succ]
 rw [hrep] at h9
 exact h9
theorem tailQ_run {full : Array Oper} {n : Nat} {o : Oper} {a : Act} {w : World} (ho : full[n]? = some o) (hg : o.guard = none) (h : o.wp P a w (fun a' w' => Q .normal a' w') Q) : tailQ P full Q n .normal a w := by
 show wpOp P full Q n _ a w
 unfold wpOp
 simp only [ho, show Region.wanted o (yielded full a.tmps) = true by simp [Region.wanted, hg], if_true]
 exact .inl h
theorem wp_region_last {id : Nat} {full : List Oper} {a : Act} {w : World} {S : World → Prop} (hm : P.follows .mixedOrders = true) (hne : full ≠ []) (hok : tailOk .any full.dropLast.toArray (full.getLast hne) = true) (hS : S w.drew)
  (h : S w.drew → wpAnyH P .any full.dropLast.toArray (tailQ P full.toArray Q full.dropLast.length) S full.dropLast.length (Array.replicate full.dropLast.length false) a w.drew) : (Code.region id full.toArray true).wp P Q a w := by
 have e : full.toArray = full.dropLast.toArray.push (full.getLast hne) := by rw [List.push_toArray, List.dropLast_concat_getLast]
 rw [e]
 refine wp_region_tail hm hok hS ?_
 rw [← e]
 simpa using h
end
theorem rd {P : Program} {ops : Array Oper} {Q : Exit → Act → World → Prop} {md : Region.Mode} {S : World → Prop} (i : Nat) {o : Oper} {fuel : Nat} {listed : Array Bool} {a : Act} {w : World} (ho : ops[i]? = some o)
  (h : ∀ K' : Act → World → Prop, Shut (∀ a w, S w → (S w → wpAnyH P md ops Q S fuel (listed.setIfInBounds i true) a w) → K' a w) → if Region.wanted o (yielded ops a.tmps) = true then Oper.wp P o a w K' Q else K' (a.put o.dst undef) w)
  (hr : Region.ready md ops listed = [i] := by kernel_rfl) : wpAnyH P md ops Q S (fuel + 1) listed a w := wpAnyH_ready hr (by simp) (AllReadyH.cons ho h AllReadyH.nil)
theorem tk {P : Program} {ops : Array Oper} {Q : Exit → Act → World → Prop} {md : Region.Mode} {S : World → Prop} (i : Nat) {oi : Oper} {v : Value} {fuel : Nat} {listed : Array Bool} {a : Act} {w : World} (hi : ops[i]? = some oi) (hS : S w)
  (h : wpAnyH P md ops Q S fuel (listed.setIfInBounds i true) (a.put oi.dst v) w) (hw : Region.wanted oi (yielded ops a.tmps) = true := by rfl) (hv : ∀ w, S w → (execOp a.eval oi).run P w = .ok (.value v) w := by intro W9 hSw; (try dsimp only at hSw); go_simp; (try with_reducible rfl)) (hs : Region.noSelect ops = true := by kernel_rfl) (hf : Region.free md ops listed i = true := by kernel_rfl) (hr : (Region.ready md ops listed).contains i = true := by kernel_rfl)
  (hQ : ∀ c a w, Q (.panic c) (a.put oi.dst v) w → Q (.panic c) a w := by exact fun _ _ _ h => h) : wpAnyH P md ops Q S (fuel + 1) listed a w := wpAnyH_take hi hs hf hr hQ (Or.inl ⟨hw, hv⟩) hS h
theorem tq {P : Program} {ops : Array Oper} {Q : Exit → Act → World → Prop} {md : Region.Mode} {S : World → Prop} (i : Nat) {oi : Oper} {v : Value} {fuel : Nat} {listed : Array Bool} {a : Act} {w : World} (h : wpAnyH P md ops Q S fuel (listed.setIfInBounds i true) (a.put oi.dst v) w) (hi : ops[i]? = some oi := by rfl) (hS : S w := by assumption) (hw : Region.wanted oi (yielded ops a.tmps) = true := by rfl) (hv : ∀ w, S w → (execOp a.eval oi).run P w = .ok (.value v) w := by intro W9 hSw; (try dsimp only at hSw); go_simp; (try with_reducible rfl)) (hs : Region.noSelect ops = true := by kernel_rfl) (hf : Region.free md ops listed i = true := by kernel_rfl) (hr : (Region.ready md ops listed).contains i = true := by kernel_rfl)
  (hQ : ∀ c a w, Q (.panic c) (a.put oi.dst v) w → Q (.panic c) a w := by exact fun _ _ _ h => h) : wpAnyH P md ops Q S (fuel + 1) listed a w := tk i hi hS h hw hv hs hf hr hQ
end Go.Proofs.YtffcgajndmhpkaaGreatDoor
