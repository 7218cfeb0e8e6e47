/- Part 17 of what the proof rests on. No condition but those that a theorem names. -/
import Derived.Test.YtgdpaigcmoifbaaGreatXe11
import Derived.Test.YtgdpaigcmoifbaaGreatXe12
namespace Go.Proofs.YtgdpaigcmoifbaaGreat
open Go.ChangeShapes Go.WideShapes Go.ChangeAt Go.RowKit Go.Sort
set_option linter.unusedVariables false
def atV (ss : List SmithV) (b : Int) : Nat → List PaceV
 | 0 => []
 | k + 1 => if (recAt ss k).2.1 = b ∧ presS (recAt ss k) = true then putV (atV ss b k) ((recAt ss k).2.2.2.2.2.2.2.1, (k : Int)) else atV ss b k
theorem atV_len (ss : List SmithV) (b : Int) : ∀ k, (atV ss b k).length ≤ k
 | 0 => alNlr _
 | k + 1 => by
  have := atV_len ss b k
  unfold atV
  split
  ·rw [putV_len]; omega
  ·omega
theorem atV_no {ss : List SmithV} {b : Int} {k : Nat} (h : ¬ ((recAt ss k).2.1 = b ∧ presS (recAt ss k) = true)) : atV ss b (k + 1) = atV ss b k := by rw [atV, if_neg h]
theorem atV_yes {ss : List SmithV} {b : Int} {k : Nat} (h1 : (recAt ss k).2.1 = b) (h2 : presS (recAt ss k) = true) : atV ss b (k + 1) = putV (atV ss b k) ((recAt ss k).2.2.2.2.2.2.2.1, (k : Int)) := by rw [atV, if_pos ⟨h1, h2⟩]
def isBenchB (m : SmyV) (b : Int) : Bool := inB b 0 ((m.desks.length : Int) - 1)
def hadS (s : SmithV) : Int := s.2.2.2.2.2.2.2.1
theorem putV_mem {ps : List PaceV} {x e : PaceV} : e ∈ putV ps x ↔ e ∈ ps ∨ e = x := by
 rw [(putV_perm ps x).mem_iff]; simp
theorem atV_mem (ss : List SmithV) (b : Int) (e : PaceV) : ∀ k, e ∈ atV ss b k ↔ ∃ i : Nat, i < k ∧ (recAt ss i).2.1 = b ∧ presS (recAt ss i) = true ∧ e = (hadS (recAt ss i), (i : Int))
 | 0 => by simp [atV]
 | k + 1 => by
  have ih := atV_mem ss b e k
  by_cases h : (recAt ss k).2.1 = b ∧ presS (recAt ss k) = true
  ·rw [atV_yes h.1 h.2, putV_mem, ih]
   constructor
   ·rintro (⟨i, hi, h1, h2, h3⟩ | h3)
    ·exact ⟨i, by omega, h1, h2, h3⟩
    ·exact ⟨k, by omega, h.1, h.2, h3⟩
   ·rintro ⟨i, hi, h1, h2, h3⟩
    by_cases hik : i = k
    ·subst hik; exact .inr h3
    ·exact .inl ⟨i, by omega, h1, h2, h3⟩
  ·rw [atV_no h, ih]
   constructor
   ·rintro ⟨i, hi, h1, h2, h3⟩
    exact ⟨i, by omega, h1, h2, h3⟩
   ·rintro ⟨i, hi, h1, h2, h3⟩
    by_cases hik : i = k
    ·subst hik; exact absurd ⟨h1, h2⟩ h
    ·exact ⟨i, by omega, h1, h2, h3⟩
structure Loose (m : SmyV) : Prop where
 head : headB m = true
 desk : ∀ j, j < m.desks.length → deskB (recAt m.desks j) = true
 pace : ∀ j, j < m.paces.length → paceInB m j = true
 here : ∀ i, i < m.smiths.length → hereB m (recAt m.smiths i) = true
 seat : ∀ i, i < m.smiths.length → seatB m (recAt m.smiths i) = true
 openD : ∃ j, j < m.desks.length ∧ (recAt m.desks j).1 = true
theorem loose_of {m : SmyV} (h : looseB m = true) : Loose m := by
 unfold looseB upDesks upPaces upSmiths upOpen at h
 simp only [alBae] at h
 obtain ⟨h1, h2, h3, h4, h5⟩ := h
 have h4' := fun i hi => all_at h4 (k := i) hi
 simp only [alBae] at h4'
 obtain ⟨j, hj, ho⟩ := List.any_eq_true.1 h5
 exact ⟨h1, fun j hj => all_at h2 hj, fun j hj => all_at h3 hj, fun i hi => (h4' i hi).1, fun i hi => (h4' i hi).2, j, List.mem_range.1 hj, ho⟩
def whereTo {α : Type} [Inhabited α] (p : α → Bool) (xs : List α) : Nat → List Int
 | 0 => []
 | k + 1 => if p (recAt xs k) then whereTo p xs k ++ [(k : Int)] else whereTo p xs k
theorem whereTo_yes {α : Type} [Inhabited α] {p : α → Bool} {xs : List α} {k : Nat} (h : p (recAt xs k) = true) : whereTo p xs (k + 1) = whereTo p xs k ++ [(k : Int)] := by rw [whereTo, if_pos h]
theorem whereTo_no {α : Type} [Inhabited α] {p : α → Bool} {xs : List α} {k : Nat} (h : p (recAt xs k) = false) : whereTo p xs (k + 1) = whereTo p xs k := by rw [whereTo, if_neg (by simp [h])]
theorem whereTo_len {α : Type} [Inhabited α] (p : α → Bool) (xs : List α) : ∀ k, (whereTo p xs k).length ≤ k
 | 0 => alNlr _
 | k + 1 => by
  have := whereTo_len p xs k
  unfold whereTo
  split
  ·simp; omega
  ·omega
theorem whereTo_mem {α : Type} [Inhabited α] (p : α → Bool) (xs : List α) (x : Int) : ∀ k, x ∈ whereTo p xs k ↔ ∃ i : Nat, i < k ∧ x = (i : Int) ∧ p (recAt xs i) = true
 | 0 => by simp [whereTo]
 | k + 1 => by
  have ih := whereTo_mem p xs x k
  cases h : p (recAt xs k)
  ·rw [whereTo_no h, ih]
   constructor
   ·rintro ⟨i, hi, h1, h2⟩
    exact ⟨i, by omega, h1, h2⟩
   ·rintro ⟨i, hi, h1, h2⟩
    by_cases hik : i = k
    ·subst hik; rw [h] at h2; cases h2
    ·exact ⟨i, by omega, h1, h2⟩
  ·rw [whereTo_yes h, List.mem_append, ih]
   constructor
   ·rintro (⟨i, hi, h1, h2⟩ | h1)
    ·exact ⟨i, by omega, h1, h2⟩
    ·exact ⟨k, by omega, by simpa using h1, h⟩
   ·rintro ⟨i, hi, h1, h2⟩
    by_cases hik : i = k
    ·subst hik; right; simp [h1]
    ·exact .inl ⟨i, by omega, h1, h2⟩
theorem whereTo_any {α : Type} [Inhabited α] (p : α → Bool) (xs : List α) : ∀ k, decide (0 < (whereTo p xs k).length) = (List.range k).any fun j => p (recAt xs j)
 | 0 => rfl
 | k + 1 => by
  have ih := whereTo_any p xs k
  rw [any_up, ← ih]
  cases h : p (recAt xs k)
  ·rw [whereTo_no h]; simp
  ·rw [whereTo_yes h]; simp
def allTo {α : Type} [Inhabited α] (p : α → Bool) (xs : List α) (k : Nat) : Bool := (List.range k).all fun j => p (recAt xs j)
theorem allTo_no {α : Type} [Inhabited α] {p : α → Bool} {xs : List α} {k n : Nat} (hk : k < n) (h : p (recAt xs k) = false) : allTo p xs n = false := all_no (p := fun j => p (recAt xs j)) hk h
theorem allTo_up {α : Type} [Inhabited α] {p : α → Bool} {xs : List α} {k : Nat} (h : allTo p xs k = true) (h2 : p (recAt xs k) = true) : allTo p xs (k + 1) = true := by unfold allTo at h ⊢; rw [all_up, h, h2]; rfl
theorem allTo_and {α : Type} [Inhabited α] (p q : α → Bool) (xs : List α) : ∀ k, (allTo p xs k && allTo q xs k) = allTo (fun x => p x && q x) xs k
 | 0 => rfl
 | k + 1 => by
  have ih := allTo_and p q xs k
  unfold allTo at ih ⊢
  rw [all_up, all_up, all_up, ← ih]
  generalize ((List.range k).all fun j => p (recAt xs j)) = a
  generalize ((List.range k).all fun j => q (recAt xs j)) = b
  cases a <;> cases b <;> cases hp : p (recAt xs k) <;> cases hq : q (recAt xs k) <;> simp [hp, hq]
theorem allTo_congr {α : Type} [Inhabited α] {p q : α → Bool} (xs : List α) (h : ∀ x, p x = q x) (k : Nat) : allTo p xs k = allTo q xs k := by unfold allTo; congr 1; funext j; exact h _
def hasB (n : Nat) (i : Int) : Bool := decide (0 ≤ i) && decide (i < n)
def atB (b : Int) (s : SmithV) : Bool := (s.1 == 2 || s.1 == 3) && s.2.1 == b
def worksB (b : Int) (s : SmithV) : Bool := s.1 == 3 && s.2.1 == b
def thereB (n : Nat) (s : SmithV) : Bool := s.1 == 0 || (s.2.2.2.2.1 == -1 || hasB n s.2.2.2.2.1)
def placeB (ds : List DeskV) (s : SmithV) : Bool := s.1 == 0 || (hasB ds.length s.2.1 && (s.1 == 1 || ((recAt ds s.2.1.toNat).1 && (memB s.2.2.2.1 s.2.1 && inBandB s.2.2.2.2.2.2.2.1 (recAt ds s.2.1.toNat).2.2))))
def smithsIB (ss : List SmithV) (n : Nat) : Bool := decide (ss.length ≤ 12) && (allTo smithB ss ss.length && allTo (thereB n) ss ss.length)
def desksIB (ds : List DeskV) (n : Int) : Bool := decide ((ds.length : Int) = n) && (allTo deskB ds ds.length && decide (0 < (whereTo (fun d : DeskV => d.1) ds ds.length).length))
def pacesIB (ps : List Int) (rs : List RoomV) : Bool := decide (ps.length = rs.length) && (List.range ps.length).all fun j => hasB (roomAt rs j).2.length (recAt ps j)
def partsIB (m : SmyV) : Bool := hallB m.rooms && (guildsB m.guilds && (smithsIB m.smiths m.guilds.length && (desksIB m.desks (benchSum m.rooms) && (pacesIB m.paces m.rooms && inB m.now 0 1000000))))
def inPlaceIB (m : SmyV) : Bool := partsIB m && allTo (placeB m.desks) m.smiths m.smiths.length
def turnIB (m : SmyV) (b : Nat) : Bool := if (recAt m.desks b).2.1 = -1 then decide ((whereTo (atB b) m.smiths m.smiths.length).length = 0) else decide ((whereTo (worksB b) m.smiths m.smiths.length).length = 1) && decide (recAt (whereTo (worksB b) m.smiths m.smiths.length) 0 = (recAt m.desks b).2.1)
def turnsIB (m : SmyV) : Bool := (List.range m.desks.length).all (turnIB m)
def smyIB (m : SmyV) : Bool := inPlaceIB m && turnsIB m
theorem band_same (h m : Int) : inBandB h m = bandB h m := by
 unfold inBandB bandB hadB
 rw [Bool.and_assoc]
theorem one_same (m : SmyV) (s : SmithV) : (smithB s && (thereB m.guilds.length s && placeB m.desks s)) = (hereB m s && seatB m s) := by
 cases hs : smithB s
 ·unfold hereB; rw [hs]; rfl
 ·have hh : hereB m s = (s.1 == 0 || (decide (s.2.2.2.2.1 < m.guilds.length) && decide (s.2.1 < m.desks.length))) := by unfold hereB; rw [hs]; rfl
  rw [hh, Bool.true_and]
  unfold smithB at hs
  simp only [Bool.or_eq_true] at hs
  rcases hs with hg | hp
  ·have e := goneB_of hg
   subst e
   rfl
  ·obtain ⟨st, be, rk, my, gu, lo, hi, hd, ca, ut, wk⟩ := s
   obtain ⟨⟨s1, s2⟩, ⟨b1, b2⟩, _, ⟨m1, m2⟩, ⟨g1, g2⟩, _⟩ := presB_of hp
   have hmem : memB my be = bitB my be := memB_t (inB_t (by omega) (by omega)) (inB_t (by omega) (by omega))
   have hst0 : (st == 0) = false := by simp; omega
   have hgu : (gu == -1 || hasB m.guilds.length gu) = decide (gu < m.guilds.length) := by
    unfold hasB
    by_cases e : gu = -1
    ·subst e; simp; omega
    ·have : (gu == -1) = false := by simpa using e
     rw [this, Bool.false_or, show decide (0 ≤ gu) = true from decide_eq_true (by omega), Bool.true_and]
   have hbe : hasB m.desks.length be = decide (be < m.desks.length) := by
    unfold hasB
    rw [show decide (0 ≤ be) = true from decide_eq_true (by omega), Bool.true_and]
   have hpr : presS (st, be, rk, my, gu, lo, hi, hd, ca, ut, wk) = !(st == 1) := by
    unfold presS
    rcases (by omega : st = 1 ∨ st = 2 ∨ st = 3) with e | e | e <;> subst e <;> rfl
   unfold thereB placeB seatB
   simp only
   rw [hst0, hgu, hbe, hpr, hmem, band_same, Bool.not_not]
   simp only [Bool.false_or, Bool.and_assoc]
theorem scan_same (ss : List SmithV) (b : Int) : ∀ k : Nat,
  (match scanV ss b k with
   | none => 2 ≤ (whereTo (worksB b) ss k).length
   | some (wk, wt) => ((wk = -1 ∧ whereTo (worksB b) ss k = []) ∨ (0 ≤ wk ∧ whereTo (worksB b) ss k = [wk])) ∧ ((whereTo (atB b) ss k = []) ↔ (whereTo (worksB b) ss k = [] ∧ wt = false)))
 | 0 => by simp [scanV, whereTo]
 | k + 1 => by
  have ih := scan_same ss b k
  unfold scanV
  cases hsc : scanV ss b k with
  | none =>
   rw [hsc] at ih
   simp only at ih ⊢
   unfold whereTo
   split
   ·simp; omega
   ·exact ih
  | some r =>
   obtain ⟨wk, wt⟩ := r
   rw [hsc] at ih
   simp only at ih ⊢
   by_cases hat : (recAt ss k).2.1 = b ∧ presS (recAt ss k) = true
   ·rw [if_pos hat]
    have hA : atB b (recAt ss k) = true := by
     have h2 := hat.2
     unfold presS at h2
     unfold atB
     rw [h2, hat.1]; simp
    by_cases h2 : (recAt ss k).1 = 2
    ·rw [if_pos h2]
     have hW : worksB b (recAt ss k) = false := by unfold worksB; rw [h2]; rfl
     rw [whereTo_no hW, whereTo_yes hA]
     exact ⟨ih.1, by simp⟩
    ·rw [if_neg h2]
     have h3 : (recAt ss k).1 = 3 := by
      have := hat.2
      unfold presS at this
      simp only [Bool.or_eq_true, beq_iff_eq] at this
      omega
     have hW : worksB b (recAt ss k) = true := by unfold worksB; rw [h3, hat.1]; simp
     rw [whereTo_yes hW, whereTo_yes hA]
     by_cases hwk : 0 ≤ wk
     ·rw [if_pos hwk]
      rcases ih.1 with ⟨e, _⟩ | ⟨_, e⟩
      ·omega
      ·simp only
       rw [e]; simp
     ·rw [if_neg hwk]
      rcases ih.1 with ⟨_, e⟩ | ⟨e, _⟩
      ·simp only
       rw [e]; simp
      ·omega
   ·rw [if_neg hat]
    have hA : atB b (recAt ss k) = false := by
     cases hc : atB b (recAt ss k)
     ·rfl
     ·exfalso
      apply hat
      unfold atB at hc
      simp only [alBae, beq_iff_eq] at hc
      exact ⟨hc.2, by unfold presS; exact hc.1⟩
    have hW : worksB b (recAt ss k) = false := by
     cases hc : worksB b (recAt ss k)
     ·rfl
     ·exfalso
      apply hat
      unfold worksB at hc
      simp only [alBae, beq_iff_eq] at hc
      exact ⟨hc.2, by unfold presS; rw [hc.1]; rfl⟩
    rw [whereTo_no hW, whereTo_no hA]
    exact ih
theorem turn_same (m : SmyV) (b : Nat) : turnIB m b = benchOkB m b := by
 have h := scan_same m.smiths b m.smiths.length
 unfold turnIB benchOkB
 cases hsc : scanV m.smiths b m.smiths.length with
 | none =>
  rw [hsc] at h
  simp only at h ⊢
  split
  ·have : whereTo (atB b) m.smiths m.smiths.length ≠ [] := by
    intro e
    have hx : recAt (whereTo (worksB b) m.smiths m.smiths.length) 0 ∈ whereTo (worksB b) m.smiths m.smiths.length := recAt_mem (by omega)
    obtain ⟨i, hi, _, hw⟩ := (whereTo_mem _ _ _ _).1 hx
    have : (i : Int) ∈ whereTo (atB b) m.smiths m.smiths.length := (whereTo_mem _ _ _ _).2 ⟨i, hi, rfl, by
     unfold worksB at hw
     simp only [alBae, beq_iff_eq] at hw
     unfold atB
     rw [hw.1, hw.2]; simp⟩
    rw [e] at this
    cases this
   simp only [List.length_eq_zero_iff, this, decide_false]
  ·rw [show decide ((whereTo (worksB b) m.smiths m.smiths.length).length = 1) = false from decide_eq_false (by omega), Bool.false_and]
 | some r =>
  obtain ⟨wk, wt⟩ := r
  rw [hsc] at h
  simp only at h ⊢
  obtain ⟨h1, h2⟩ := h
  generalize whereTo (worksB b) m.smiths m.smiths.length = ws at *
  generalize whereTo (atB b) m.smiths m.smiths.length = az at *
  generalize (recAt m.desks b).2.1 = who at *
  by_cases hw : who = -1
  ·subst hw
   simp only [if_true, List.length_eq_zero_iff]
   rcases h1 with ⟨rfl, rfl⟩ | ⟨hk, rfl⟩
   ·cases wt
    ·simp at h2; simp [h2]
    ·simp at h2; simp [h2]
   ·have hne : az ≠ [] := by
     intro e
     have := (h2.1 e).1
     cases this
    have : ((-1 : Int) == wk) = false := by simp; omega
    rw [this]
    simp [hne]
  ·rw [if_neg hw]
   rcases h1 with ⟨rfl, rfl⟩ | ⟨hk, rfl⟩
   ·have : (who == -1) = false := by simpa using hw
    rw [this]; simp
   ·have h0 : decide (wk < 0) = false := alDef (by omega)
    rw [h0, Bool.and_false, Bool.not_false, Bool.and_true]
    simp only [alLlc, alLln, decide_true, Bool.true_and]
    show decide (wk = who) = (who == wk)
    by_cases e : wk = who
    ·subst e; simp
    ·rw [decide_eq_false e]; symm; simp; omega
theorem has_in (n : Nat) (i : Int) : hasB n i = inB i 0 ((n : Int) - 1) := by
 unfold hasB inB
 by_cases h0 : 0 ≤ i <;> by_cases h1 : i < n
 ·rw [decide_eq_true h0, decide_eq_true h1, decide_eq_true (show 0 ≤ i ∧ i ≤ (n : Int) - 1 by omega)]; rfl
 ·rw [decide_eq_true h0, decide_eq_false h1, decide_eq_false (show ¬ (0 ≤ i ∧ i ≤ (n : Int) - 1) by omega)]; rfl
 ·rw [decide_eq_false h0, decide_eq_false (show ¬ (0 ≤ i ∧ i ≤ (n : Int) - 1) by omega)]; rfl
 ·rw [decide_eq_false h0, decide_eq_false (show ¬ (0 ≤ i ∧ i ≤ (n : Int) - 1) by omega)]; rfl
theorem loose_same (m : SmyV) : inPlaceIB m = looseB m := by
 have e1 : upSmiths m m.smiths.length = (allTo smithB m.smiths m.smiths.length && (allTo (thereB m.guilds.length) m.smiths m.smiths.length && allTo (placeB m.desks) m.smiths m.smiths.length)) := by
  rw [allTo_and, allTo_and]
  exact (allTo_congr m.smiths (one_same m) m.smiths.length).symm
 have e2 : pacesIB m.paces m.rooms = (decide (m.paces.length = m.rooms.length) && upPaces m m.paces.length) := by
  unfold pacesIB upPaces
  congr 2
  funext j
  unfold paceInB
  exact has_in _ _
 have e3 : decide (0 < (whereTo (fun d : DeskV => d.1) m.desks m.desks.length).length) = upOpen m m.desks.length := whereTo_any _ _ _
 unfold inPlaceIB partsIB looseB headB smithsIB desksIB
 rw [e1, e2, e3]
 have e4 : allTo deskB m.desks m.desks.length = upDesks m m.desks.length := rfl
 rw [e4]
 generalize hallB m.rooms = x1
 generalize guildsB m.guilds = x2
 generalize decide (m.smiths.length ≤ 12) = x3
 generalize allTo smithB m.smiths m.smiths.length = x4
 generalize allTo (thereB m.guilds.length) m.smiths m.smiths.length = x5
 generalize decide ((m.desks.length : Int) = benchSum m.rooms) = x6
 generalize upDesks m m.desks.length = x7
 generalize upOpen m m.desks.length = x8
 generalize decide (m.paces.length = m.rooms.length) = x9
 generalize upPaces m m.paces.length = x10
 generalize inB m.now 0 1000000 = x11
 generalize allTo (placeB m.desks) m.smiths m.smiths.length = x12
 rw [Bool.eq_iff_iff]
 simp only [alBae]
 constructor
 ·rintro ⟨⟨a1, a2, ⟨a3, a4, a5⟩, ⟨a6, a7, a8⟩, ⟨a9, a10⟩, a11⟩, a12⟩
  exact ⟨⟨a1, a2, a3, a6, a9, a11⟩, a7, a10, ⟨a4, a5, a12⟩, a8⟩
 ·rintro ⟨⟨a1, a2, a3, a6, a9, a11⟩, a7, a10, ⟨a4, a5, a12⟩, a8⟩
  exact ⟨⟨a1, a2, ⟨a3, a4, a5⟩, ⟨a6, a7, a8⟩, ⟨a9, a10⟩, a11⟩, a12⟩
theorem smy_same (m : SmyV) : smyIB m = smyB m := by
 unfold smyIB smyB turnsIB
 rw [loose_same, show turnIB m = benchOkB m from funext (turn_same m)]
theorem take_snoc_at {ps : List Int} {k : Nat} (h : k < ps.length) : ps.take (k + 1) = ps.take k ++ [recAt ps k] := by
 unfold recAt
 rw [List.take_add_one, List.getD, List.getElem?_eq_getElem h]; rfl
def wantS (gs : List GuildV) (s : SmithV) : Int := min (max s.2.2.2.2.2.2.2.2.2.1 (narV (bnd gs s.2.2.2.2.1) s.2.2.2.2.2.1 s.2.2.2.2.2.2.1).1) (narV (bnd gs s.2.2.2.2.1) s.2.2.2.2.2.1 s.2.2.2.2.2.2.1).2
def wantV (m : SmyV) (who : Int) : Int := wantS m.guilds (recAt m.smiths who.toNat)
theorem wantS_bd (gs : List GuildV) (s : SmithV) : 0 ≤ wantS gs s ∧ wantS gs s ≤ 1024 := by
 obtain ⟨b0, b1, b2⟩ := bnd_bd gs s.2.2.2.2.1
 obtain ⟨n0, n1, n2⟩ := narV_bd (lo := s.2.2.2.2.2.1) (hi := s.2.2.2.2.2.2.1) b0 b1 b2
 unfold wantS
 omega
theorem wantV_bd (m : SmyV) (who : Int) : 0 ≤ wantV m who ∧ wantV m who ≤ 1024 := wantS_bd _ _
def usedL (m : SmyV) (but : Int) (q : List PaceV) : Int := q.foldl (fun n e => if e.2 = but then n else n + wantV m e.2) 0
theorem usedL_snoc (m : SmyV) (but : Int) (q : List PaceV) (e : PaceV) : usedL m but (q ++ [e]) = if e.2 = but then usedL m but q else usedL m but q + wantV m e.2 := by
 unfold usedL; rw [List.foldl_append]; rfl
theorem usedF_bd (m : SmyV) (but : Int) : ∀ (q : List PaceV) (n : Int), 0 ≤ n → 0 ≤ q.foldl (fun n e => if e.2 = but then n else n + wantV m e.2) n ∧ q.foldl (fun n e => if e.2 = but then n else n + wantV m e.2) n ≤ n + 1024 * q.length
 | [], n, h => ⟨h, by simp⟩
 | e :: q, n, h => by
  have hw := wantV_bd m e.2
  have ih := usedF_bd m but q (if e.2 = but then n else n + wantV m e.2) (by split <;> omega)
  refine ⟨ih.1, Int.le_trans ih.2 ?_⟩
  simp only [alLlc, Int.natCast_add, Int.natCast_one]
  split <;> omega
theorem usedL_bd (m : SmyV) (but : Int) (q : List PaceV) : 0 ≤ usedL m but q ∧ usedL m but q ≤ 1024 * q.length := by
 have := usedF_bd m but q 0 (by omega)
 unfold usedL; omega
def usedV (m : SmyV) (b but : Int) : Int := usedL m but (atV m.smiths b m.smiths.length)
theorem usedV_bd (m : SmyV) (b but : Int) : 0 ≤ usedV m b but ∧ usedV m b but ≤ 1024 * m.smiths.length := by
 have h := usedL_bd m but (atV m.smiths b m.smiths.length)
 have hl := atV_len m.smiths b m.smiths.length
 unfold usedV
 refine ⟨h.1, Int.le_trans h.2 ?_⟩
 omega
def usedIn (m : SmyV) (room : Int) : Nat → Int × Int
 | 0 => (0, 0)
 | k + 1 => if (roomN m.rooms k : Int) = room then ((if (recAt m.desks k).1 then max (usedIn m room k).1 (usedV m k (-1)) else (usedIn m room k).1), (usedIn m room k).2 + usedV m k (-1)) else usedIn m room k
theorem usedIn_bd (m : SmyV) (room : Int) (hl : m.smiths.length ≤ 12) : ∀ k : Nat, (0 ≤ (usedIn m room k).1 ∧ (usedIn m room k).1 ≤ 12288) ∧ 0 ≤ (usedIn m room k).2 ∧ (usedIn m room k).2 ≤ 12288 * k
 | 0 => by simp [usedIn]
 | k + 1 => by
  have ih := usedIn_bd m room hl k
  have hu := usedV_bd m k (-1)
  unfold usedIn
  split
  ·simp only
   constructor
   ·split <;> omega
   ·push_cast; omega
  ·push_cast; omega
def coalIn (m : SmyV) (room : Nat) : Int := leastV (roomAt m.rooms room) (usedIn m room m.desks.length).1 (usedIn m room m.desks.length).2
def coalTo (m : SmyV) : Nat → Int
 | 0 => 0
 | k + 1 => coalTo m k + coalIn m k
def coalAll (m : SmyV) : Int := coalTo m m.rooms.length
theorem coalTo_bd (m : SmyV) : ∀ k : Nat, -(k : Int) ≤ coalTo m k ∧ coalTo m k ≤ 1024000000 * k
 | 0 => by simp [coalTo]
 | k + 1 => by
  have ih := coalTo_bd m k
  have hc := coalForV_bd (roomAt m.rooms k) (paceForV (roomAt m.rooms k) (usedIn m k m.desks.length).1) (usedIn m k m.desks.length).2
  unfold coalTo coalIn leastV
  push_cast
  omega
def atBench (s : SmithV) (b : Int) : SmithV := (2, b, s.2.2)
def withM (m : SmyV) (who b : Int) : SmyV := { m with smiths := m.smiths.set who.toNat (atBench (recAt m.smiths who.toNat) b) }
def coalWithV (m : SmyV) (who b : Int) : Int := coalAll (withM m who b)
def mayAt (m : SmyV) (who : Int) (b : Nat) : Bool := (recAt m.desks b).1 && bitB (recAt m.smiths who.toNat).2.2.2.1 b
def fitAt (m : SmyV) (who : Int) (b : Nat) : Bool := mayAt m who b && fitsB (wantV m who) (usedV m b who) (forceV m.rooms b)
def fitTo (m : SmyV) (who : Int) : Nat → List Int
 | 0 => []
 | k + 1 => if fitAt m who k then fitTo m who k ++ [(k : Int)] else fitTo m who k
def fittingL (m : SmyV) (who : Int) : List Int := fitTo m who m.desks.length
theorem fitTo_len (m : SmyV) (who : Int) : ∀ k, (fitTo m who k).length ≤ k
 | 0 => alNlr _
 | k + 1 => by
  have := fitTo_len m who k
  unfold fitTo
  split
  ·simp; omega
  ·omega
theorem fitTo_mem (m : SmyV) (who : Int) (x : Int) : ∀ k, x ∈ fitTo m who k ↔ ∃ b : Nat, b < k ∧ x = (b : Int) ∧ fitAt m who b = true
 | 0 => by simp [fitTo]
 | k + 1 => by
  have ih := fitTo_mem m who x k
  unfold fitTo
  split
  ·rename_i hf
   rw [List.mem_append, ih]
   constructor
   ·rintro (⟨b, hb, e, h⟩ | h)
    ·exact ⟨b, by omega, e, h⟩
    ·exact ⟨k, by omega, by simpa using h, hf⟩
   ·rintro ⟨b, hb, e, h⟩
    by_cases hbk : b = k
    ·subst hbk; right; simp [e]
    ·left; exact ⟨b, by omega, e, h⟩
  ·rename_i hf
   rw [ih]
   constructor
   ·rintro ⟨b, hb, e, h⟩
    exact ⟨b, by omega, e, h⟩
   ·rintro ⟨b, hb, e, h⟩
    by_cases hbk : b = k
    ·subst hbk; exact absurd h hf
    ·exact ⟨b, by omega, e, h⟩
def crowdAt (m : SmyV) (b : Nat) : Bool := (recAt m.desks b).1 && muchB (usedV m b (-1)) (forceV m.rooms b)
def crowdB (m : SmyV) : Bool := (List.range m.desks.length).any (crowdAt m)
def stepBest (m : SmyV) (who : Int) (a : Int × Int) (b : Int) : Int × Int := if coalWithV m who b < a.2 ∨ (coalWithV m who b = a.2 ∧ b = (recAt m.smiths who.toNat).2.1) then (b, coalWithV m who b) else a
def bestTo (m : SmyV) (who : Int) (f : List Int) (k : Nat) : Int × Int := ((f.take k).drop 1).foldl (stepBest m who) (recAt f 0, coalWithV m who (recAt f 0))
def mostTo (m : SmyV) (who : Int) : Nat → Int × Int
 | 0 => (-1, 0)
 | k + 1 => if mayAt m who k && (decide ((mostTo m who k).1 < 0) || decide ((mostTo m who k).2 < spareV (usedV m k who) (forceV m.rooms k))) then ((k : Int), spareV (usedV m k who) (forceV m.rooms k)) else mostTo m who k
def chosenV (m : SmyV) (who : Int) : Int := if !crowdB m && decide (0 < (fittingL m who).length) then (bestTo m who (fittingL m who) (fittingL m who).length).1 else (mostTo m who m.desks.length).1
theorem most_or (m : SmyV) (who : Int) : ∀ k : Nat, ((mostTo m who k).1 = -1 ∧ ∀ b, b < k → mayAt m who b = false) ∨ ∃ b : Nat, b < k ∧ (mostTo m who k).1 = (b : Int) ∧ mayAt m who b = true
 | 0 => .inl ⟨rfl, fun b hb => by omega⟩
 | k + 1 => by
  have ih := most_or m who k
  unfold mostTo
  split
  ·rename_i h
   simp only [alBae] at h
   exact .inr ⟨k, by omega, rfl, h.1⟩
  ·rename_i h
   rcases ih with ⟨e, hn⟩ | ⟨b, hb, e, hm⟩
   ·refine .inl ⟨e, fun b hb => ?_⟩
    by_cases hbk : b = k
    ·subst hbk
     cases hm : mayAt m who b
     ·rfl
     ·exfalso
      apply h
      rw [hm, e]
      rfl
    ·exact hn b (by omega)
   ·exact .inr ⟨b, by omega, e, hm⟩
theorem here_iff {m : SmyV} {s : SmithV} : hereB m s = true ↔ s = zeroS ∨ (presB s = true ∧ s.2.2.2.2.1 < m.guilds.length ∧ s.2.1 < m.desks.length) := by
 unfold hereB smithB
 simp only [alBae, Bool.or_eq_true, alDte]
 constructor
 ·rintro ⟨hg | hp, hr⟩
  ·exact .inl (goneB_of hg)
  ·right
   refine ⟨hp, ?_⟩
   rcases hr with e | e
   ·have : s.1 = 0 := by simpa using e
    rw [presB_st this] at hp
    cases hp
   ·exact e
 ·rintro (rfl | ⟨hp, hr⟩)
  ·exact ⟨.inl goneB_zero, .inl rfl⟩
  ·exact ⟨.inr hp, .inr hr⟩
theorem smy_loose {m : SmyV} (h : smyB m = true) : Loose m := by
 unfold smyB at h
 simp only [alBae] at h
 exact loose_of h.1
theorem Loose.limits {m : SmyV} (h : Loose m) {k : Nat} (hk : k < m.smiths.length) (hs : (recAt m.smiths k).1 ≠ 0) : presB (recAt m.smiths k) = true ∧ (recAt m.smiths k).2.2.2.2.1 < m.guilds.length ∧ (recAt m.smiths k).2.1 < m.desks.length := by
 rcases here_iff.1 (h.here k hk) with e | e
 ·rw [e] at hs; exact absurd rfl hs
 ·exact e
end Go.Proofs.YtgdpaigcmoifbaaGreat
