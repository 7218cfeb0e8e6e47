/- What the proof rests on, part 4: lists and numbers, how they lie in memory, and contracts of the calls. No condition but those that a theorem names. -/
import Derived.Test.YtnponpamjddpjabGreatXc01
import Derived.Test.YtnponpamjddpjabGreatXc02
import Derived.Test.YtnponpamjddpjabGreatXc03
import Derived.Laws.StructEq
import Derived.Maps.AppendAt
import Derived.RangeFuncNested
import Derived.RangeFuncBound
import Derived.RangeFuncCalls
import Derived.RangeFuncLeaves
import Derived.RangeFuncBox
import Derived.Shelf.Abstract
import Derived.Shelf.RegionOpen
import Derived.WalkKit
import Derived.OwnWalkIn
import Derived.TacticsInMore
import Derived.LoopNIn
import Derived.LoopIn
import Derived.ProofKit
import Derived.OpenShut
import Derived.Outline
import Derived.Lib.QuietBelow
import Derived.Deep.RegionWith
import Derived.Deep.QuietTactic
import Derived.BigQuiet
import Derived.Laws.OwnMore
import Derived.OwnWalk
import Derived.Lib.SmallJoins
import Derived.Deep.Fields
import Derived.Deep.Slices
/- Who is at a bench, as plain lists: who is in the queue, and that its first one had least. Lists and numbers alone; no condition but those that a theorem names. -/
namespace Go.Proofs.YtnponpamjddpjabGreat
open Go.ChangeShapes Go.WideShapes Go.ChangeAt Go.RowKit Go.Sort
set_option linter.unusedVariables false

/-- Of the first k smiths those that are at b, as a queue. -/
def atV (ss : List SmithV) (b : Int) : Nat → List PaceV
  | 0 => []
  | k + 1 => if (recAt ss k).2.1 = b ∧ presS (recAt ss k) = true then putV (atV ss b k) ((recAt ss k).2.2.2.2.2.2.2.1, (k : Int)) else atV ss b k
theorem atV_len (ss : List SmithV) (b : Int) : ∀ k, (atV ss b k).length ≤ k
  | 0 => Nat.le_refl _
  | k + 1 => by
    have := atV_len ss b k
    unfold atV
    split
    · rw [putV_len]; omega
    · omega
theorem atV_no {ss : List SmithV} {b : Int} {k : Nat} (h : ¬ ((recAt ss k).2.1 = b ∧ presS (recAt ss k) = true)) : atV ss b (k + 1) = atV ss b k := by rw [atV, if_neg h]
theorem atV_yes {ss : List SmithV} {b : Int} {k : Nat} (h1 : (recAt ss k).2.1 = b) (h2 : presS (recAt ss k) = true) : atV ss b (k + 1) = putV (atV ss b k) ((recAt ss k).2.2.2.2.2.2.2.1, (k : Int)) := by rw [atV, if_pos ⟨h1, h2⟩]

def isBenchB (m : SmyV) (b : Int) : Bool := inB b 0 ((m.desks.length : Int) - 1)
theorem smyB_few {m : SmyV} (h : smyB m = true) : m.smiths.length ≤ 12 := by
  unfold smyB looseB headB at h
  simp only [Bool.and_eq_true, decide_eq_true_eq] at h
  exact h.1.1.2.2.1

def hadS (s : SmithV) : Int := s.2.2.2.2.2.2.2.1
theorem putV_mem {ps : List PaceV} {x e : PaceV} : e ∈ putV ps x ↔ e ∈ ps ∨ e = x := by
  rw [(putV_perm ps x).mem_iff]; simp
theorem atV_mem (ss : List SmithV) (b : Int) (e : PaceV) : ∀ k, e ∈ atV ss b k ↔ ∃ i : Nat, i < k ∧ (recAt ss i).2.1 = b ∧ presS (recAt ss i) = true ∧ e = (hadS (recAt ss i), (i : Int))
  | 0 => by simp [atV]
  | k + 1 => by
    have ih := atV_mem ss b e k
    by_cases h : (recAt ss k).2.1 = b ∧ presS (recAt ss k) = true
    · rw [atV_yes h.1 h.2, putV_mem, ih]
      constructor
      · rintro (⟨i, hi, h1, h2, h3⟩ | h3)
        · exact ⟨i, by omega, h1, h2, h3⟩
        · exact ⟨k, by omega, h.1, h.2, h3⟩
      · rintro ⟨i, hi, h1, h2, h3⟩
        by_cases hik : i = k
        · subst hik; exact .inr h3
        · exact .inl ⟨i, by omega, h1, h2, h3⟩
    · rw [atV_no h, ih]
      constructor
      · rintro ⟨i, hi, h1, h2, h3⟩
        exact ⟨i, by omega, h1, h2, h3⟩
      · rintro ⟨i, hi, h1, h2, h3⟩
        by_cases hik : i = k
        · subst hik; exact absurd ⟨h1, h2⟩ h
        · exact ⟨i, by omega, h1, h2, h3⟩
end Go.Proofs.YtnponpamjddpjabGreat

/- Hads and marks as plain numbers: the band, what is placed, moved and marked. Numbers alone; no condition but those that a theorem names. -/
namespace Go.Proofs.YtnponpamjddpjabGreat
set_option linter.unusedVariables false

def hadB (x : Int) : Bool := inB x (-1000000000000) 1000000000000
def inBandB (h m : Int) : Bool := (hadB h && hadB m) && inB (h - m) (-20000) 63000
theorem had_of {x : Int} (h : hadB x = true) : -1000000000000 ≤ x ∧ x ≤ 1000000000000 := inB_of h
theorem hads2 (x y : Int) : ([x, y].all fun z => inB z (-1000000000000) 1000000000000) = (hadB x && hadB y) := by simp [hadB]
theorem band_at (h m : Int) : ([h].all fun z => inB z (m - 20000) (m + 63000)) = inB (h - m) (-20000) 63000 := by
  simp only [List.all_cons, List.all_nil, Bool.and_true]
  unfold inB
  congr 1
  exact propext ⟨fun h => by omega, fun h => by omega⟩

end Go.Proofs.YtnponpamjddpjabGreat

/- A smithy that is turned, as plain lists: the first one at each bench works, all others there wait; and turned it is right, where it was right but for who works. Lists and numbers alone; no condition but those that a theorem names. -/
namespace Go.Proofs.YtnponpamjddpjabGreat
open Go.ChangeShapes Go.WideShapes Go.ChangeAt Go.RowKit Go.Sort
set_option linter.unusedVariables false

structure Loose (m : SmyV) : Prop where
  head : headB m = true
  desk : ∀ j, j < m.desks.length → deskB (recAt m.desks j) = true
  pace : ∀ j, j < m.paces.length → paceInB m j = true
  here : ∀ i, i < m.smiths.length → hereB m (recAt m.smiths i) = true
  seat : ∀ i, i < m.smiths.length → seatB m (recAt m.smiths i) = true
  openD : ∃ j, j < m.desks.length ∧ (recAt m.desks j).1 = true
theorem loose_of {m : SmyV} (h : looseB m = true) : Loose m := by
  unfold looseB upDesks upPaces upSmiths upOpen at h
  simp only [Bool.and_eq_true] at h
  obtain ⟨h1, h2, h3, h4, h5⟩ := h
  have h4' := fun i hi => all_at h4 (k := i) hi
  simp only [Bool.and_eq_true] at h4'
  obtain ⟨j, hj, ho⟩ := List.any_eq_true.1 h5
  exact ⟨h1, fun j hj => all_at h2 hj, fun j hj => all_at h3 hj, fun i hi => (h4' i hi).1, fun i hi => (h4' i hi).2, j, List.mem_range.1 hj, ho⟩
end Go.Proofs.YtnponpamjddpjabGreat

/- What the program asks of a smithy, as plain lists; and that it is what the model asks. Lists and numbers alone; no condition but those that a theorem names. -/
namespace Go.Proofs.YtnponpamjddpjabGreat
open Go.ChangeShapes Go.WideShapes Go.ChangeAt Go.RowKit Go.Sort
set_option linter.unusedVariables false

/-- Of the first k, the places where it is so. -/
def whereTo {α : Type} [Inhabited α] (p : α → Bool) (xs : List α) : Nat → List Int
  | 0 => []
  | k + 1 => if p (recAt xs k) then whereTo p xs k ++ [(k : Int)] else whereTo p xs k
theorem whereTo_yes {α : Type} [Inhabited α] {p : α → Bool} {xs : List α} {k : Nat} (h : p (recAt xs k) = true) : whereTo p xs (k + 1) = whereTo p xs k ++ [(k : Int)] := by rw [whereTo, if_pos h]
theorem whereTo_no {α : Type} [Inhabited α] {p : α → Bool} {xs : List α} {k : Nat} (h : p (recAt xs k) = false) : whereTo p xs (k + 1) = whereTo p xs k := by rw [whereTo, if_neg (by simp [h])]
theorem whereTo_len {α : Type} [Inhabited α] (p : α → Bool) (xs : List α) : ∀ k, (whereTo p xs k).length ≤ k
  | 0 => Nat.le_refl _
  | k + 1 => by
    have := whereTo_len p xs k
    unfold whereTo
    split
    · simp; omega
    · omega
theorem whereTo_mem {α : Type} [Inhabited α] (p : α → Bool) (xs : List α) (x : Int) : ∀ k, x ∈ whereTo p xs k ↔ ∃ i : Nat, i < k ∧ x = (i : Int) ∧ p (recAt xs i) = true
  | 0 => by simp [whereTo]
  | k + 1 => by
    have ih := whereTo_mem p xs x k
    cases h : p (recAt xs k)
    · rw [whereTo_no h, ih]
      constructor
      · rintro ⟨i, hi, h1, h2⟩
        exact ⟨i, by omega, h1, h2⟩
      · rintro ⟨i, hi, h1, h2⟩
        by_cases hik : i = k
        · subst hik; rw [h] at h2; cases h2
        · exact ⟨i, by omega, h1, h2⟩
    · rw [whereTo_yes h, List.mem_append, ih]
      constructor
      · rintro (⟨i, hi, h1, h2⟩ | h1)
        · exact ⟨i, by omega, h1, h2⟩
        · exact ⟨k, by omega, by simpa using h1, h⟩
      · rintro ⟨i, hi, h1, h2⟩
        by_cases hik : i = k
        · subst hik; right; simp [h1]
        · exact .inl ⟨i, by omega, h1, h2⟩
theorem whereTo_any {α : Type} [Inhabited α] (p : α → Bool) (xs : List α) : ∀ k, decide (0 < (whereTo p xs k).length) = (List.range k).any fun j => p (recAt xs j)
  | 0 => rfl
  | k + 1 => by
    have ih := whereTo_any p xs k
    rw [any_up, ← ih]
    cases h : p (recAt xs k)
    · rw [whereTo_no h]; simp
    · rw [whereTo_yes h]; simp
def allTo {α : Type} [Inhabited α] (p : α → Bool) (xs : List α) (k : Nat) : Bool := (List.range k).all fun j => p (recAt xs j)
theorem allTo_no {α : Type} [Inhabited α] {p : α → Bool} {xs : List α} {k n : Nat} (hk : k < n) (h : p (recAt xs k) = false) : allTo p xs n = false := all_no (p := fun j => p (recAt xs j)) hk h
theorem allTo_up {α : Type} [Inhabited α] {p : α → Bool} {xs : List α} {k : Nat} (h : allTo p xs k = true) (h2 : p (recAt xs k) = true) : allTo p xs (k + 1) = true := by unfold allTo at h ⊢; rw [all_up, h, h2]; rfl
theorem allTo_and {α : Type} [Inhabited α] (p q : α → Bool) (xs : List α) : ∀ k, (allTo p xs k && allTo q xs k) = allTo (fun x => p x && q x) xs k
  | 0 => rfl
  | k + 1 => by
    have ih := allTo_and p q xs k
    unfold allTo at ih ⊢
    rw [all_up, all_up, all_up, ← ih]
    generalize ((List.range k).all fun j => p (recAt xs j)) = a
    generalize ((List.range k).all fun j => q (recAt xs j)) = b
    cases a <;> cases b <;> cases hp : p (recAt xs k) <;> cases hq : q (recAt xs k) <;> simp [hp, hq]
theorem allTo_congr {α : Type} [Inhabited α] {p q : α → Bool} (xs : List α) (h : ∀ x, p x = q x) (k : Nat) : allTo p xs k = allTo q xs k := by unfold allTo; congr 1; funext j; exact h _

def hasB (n : Nat) (i : Int) : Bool := decide (0 ≤ i) && decide (i < n)
def atB (b : Int) (s : SmithV) : Bool := (s.1 == 2 || s.1 == 3) && s.2.1 == b
def worksB (b : Int) (s : SmithV) : Bool := s.1 == 3 && s.2.1 == b
def thereB (n : Nat) (s : SmithV) : Bool := s.1 == 0 || (s.2.2.2.2.1 == -1 || hasB n s.2.2.2.2.1)
def placeB (ds : List DeskV) (s : SmithV) : Bool := s.1 == 0 || (hasB ds.length s.2.1 && (s.1 == 1 || ((recAt ds s.2.1.toNat).1 && (memB s.2.2.2.1 s.2.1 && inBandB s.2.2.2.2.2.2.2.1 (recAt ds s.2.1.toNat).2.2))))
def smithsIB (ss : List SmithV) (n : Nat) : Bool := decide (ss.length ≤ 12) && (allTo smithB ss ss.length && allTo (thereB n) ss ss.length)
def desksIB (ds : List DeskV) (n : Int) : Bool := decide ((ds.length : Int) = n) && (allTo deskB ds ds.length && decide (0 < (whereTo (fun d : DeskV => d.1) ds ds.length).length))
def pacesIB (ps : List Int) (rs : List RoomV) : Bool := decide (ps.length = rs.length) && (List.range ps.length).all fun j => hasB (roomAt rs j).2.length (recAt ps j)
def partsIB (m : SmyV) : Bool := hallB m.rooms && (guildsB m.guilds && (smithsIB m.smiths m.guilds.length && (desksIB m.desks (benchSum m.rooms) && (pacesIB m.paces m.rooms && inB m.now 0 1000000))))
def inPlaceIB (m : SmyV) : Bool := partsIB m && allTo (placeB m.desks) m.smiths m.smiths.length
def turnIB (m : SmyV) (b : Nat) : Bool := if (recAt m.desks b).2.1 = -1 then decide ((whereTo (atB b) m.smiths m.smiths.length).length = 0) else decide ((whereTo (worksB b) m.smiths m.smiths.length).length = 1) && decide (recAt (whereTo (worksB b) m.smiths m.smiths.length) 0 = (recAt m.desks b).2.1)
def turnsIB (m : SmyV) : Bool := (List.range m.desks.length).all (turnIB m)
def smyIB (m : SmyV) : Bool := inPlaceIB m && turnsIB m

theorem band_same (h m : Int) : inBandB h m = bandB h m := by
  unfold inBandB bandB hadB
  rw [Bool.and_assoc]
theorem one_same (m : SmyV) (s : SmithV) : (smithB s && (thereB m.guilds.length s && placeB m.desks s)) = (hereB m s && seatB m s) := by
  cases hs : smithB s
  · unfold hereB; rw [hs]; rfl
  · have hh : hereB m s = (s.1 == 0 || (decide (s.2.2.2.2.1 < m.guilds.length) && decide (s.2.1 < m.desks.length))) := by unfold hereB; rw [hs]; rfl
    rw [hh, Bool.true_and]
    unfold smithB at hs
    simp only [Bool.or_eq_true] at hs
    rcases hs with hg | hp
    · have e := goneB_of hg
      subst e
      rfl
    · obtain ⟨st, be, rk, my, gu, lo, hi, hd, ca, ut, wk⟩ := s
      obtain ⟨⟨s1, s2⟩, ⟨b1, b2⟩, _, ⟨m1, m2⟩, ⟨g1, g2⟩, _⟩ := presB_of hp
      have hmem : memB my be = bitB my be := memB_t (inB_t (by omega) (by omega)) (inB_t (by omega) (by omega))
      have hst0 : (st == 0) = false := by simp; omega
      have hgu : (gu == -1 || hasB m.guilds.length gu) = decide (gu < m.guilds.length) := by
        unfold hasB
        by_cases e : gu = -1
        · subst e; simp; omega
        · have : (gu == -1) = false := by simpa using e
          rw [this, Bool.false_or, show decide (0 ≤ gu) = true from decide_eq_true (by omega), Bool.true_and]
      have hbe : hasB m.desks.length be = decide (be < m.desks.length) := by
        unfold hasB
        rw [show decide (0 ≤ be) = true from decide_eq_true (by omega), Bool.true_and]
      have hpr : presS (st, be, rk, my, gu, lo, hi, hd, ca, ut, wk) = !(st == 1) := by
        unfold presS
        rcases (by omega : st = 1 ∨ st = 2 ∨ st = 3) with e | e | e <;> subst e <;> rfl
      unfold thereB placeB seatB
      simp only
      rw [hst0, hgu, hbe, hpr, hmem, band_same, Bool.not_not]
      simp only [Bool.false_or, Bool.and_assoc]
theorem scan_same (ss : List SmithV) (b : Int) : ∀ k : Nat,
    (match scanV ss b k with
      | none => 2 ≤ (whereTo (worksB b) ss k).length
      | some (wk, wt) => ((wk = -1 ∧ whereTo (worksB b) ss k = []) ∨ (0 ≤ wk ∧ whereTo (worksB b) ss k = [wk])) ∧ ((whereTo (atB b) ss k = []) ↔ (whereTo (worksB b) ss k = [] ∧ wt = false)))
  | 0 => by simp [scanV, whereTo]
  | k + 1 => by
    have ih := scan_same ss b k
    unfold scanV
    cases hsc : scanV ss b k with
    | none =>
      rw [hsc] at ih
      simp only at ih ⊢
      unfold whereTo
      split
      · simp; omega
      · exact ih
    | some r =>
      obtain ⟨wk, wt⟩ := r
      rw [hsc] at ih
      simp only at ih ⊢
      by_cases hat : (recAt ss k).2.1 = b ∧ presS (recAt ss k) = true
      · rw [if_pos hat]
        have hA : atB b (recAt ss k) = true := by
          have h2 := hat.2
          unfold presS at h2
          unfold atB
          rw [h2, hat.1]; simp
        by_cases h2 : (recAt ss k).1 = 2
        · rw [if_pos h2]
          have hW : worksB b (recAt ss k) = false := by unfold worksB; rw [h2]; rfl
          rw [whereTo_no hW, whereTo_yes hA]
          exact ⟨ih.1, by simp⟩
        · rw [if_neg h2]
          have h3 : (recAt ss k).1 = 3 := by
            have := hat.2
            unfold presS at this
            simp only [Bool.or_eq_true, beq_iff_eq] at this
            omega
          have hW : worksB b (recAt ss k) = true := by unfold worksB; rw [h3, hat.1]; simp
          rw [whereTo_yes hW, whereTo_yes hA]
          by_cases hwk : 0 ≤ wk
          · rw [if_pos hwk]
            rcases ih.1 with ⟨e, _⟩ | ⟨_, e⟩
            · omega
            · simp only
              rw [e]; simp
          · rw [if_neg hwk]
            rcases ih.1 with ⟨_, e⟩ | ⟨e, _⟩
            · simp only
              rw [e]; simp
            · omega
      · rw [if_neg hat]
        have hA : atB b (recAt ss k) = false := by
          cases hc : atB b (recAt ss k)
          · rfl
          · exfalso
            apply hat
            unfold atB at hc
            simp only [Bool.and_eq_true, beq_iff_eq] at hc
            exact ⟨hc.2, by unfold presS; exact hc.1⟩
        have hW : worksB b (recAt ss k) = false := by
          cases hc : worksB b (recAt ss k)
          · rfl
          · exfalso
            apply hat
            unfold worksB at hc
            simp only [Bool.and_eq_true, beq_iff_eq] at hc
            exact ⟨hc.2, by unfold presS; rw [hc.1]; rfl⟩
        rw [whereTo_no hW, whereTo_no hA]
        exact ih
theorem turn_same (m : SmyV) (b : Nat) : turnIB m b = benchOkB m b := by
  have h := scan_same m.smiths b m.smiths.length
  unfold turnIB benchOkB
  cases hsc : scanV m.smiths b m.smiths.length with
  | none =>
    rw [hsc] at h
    simp only at h ⊢
    split
    · have : whereTo (atB b) m.smiths m.smiths.length ≠ [] := by
        intro e
        have hx : recAt (whereTo (worksB b) m.smiths m.smiths.length) 0 ∈ whereTo (worksB b) m.smiths m.smiths.length := recAt_mem (by omega)
        obtain ⟨i, hi, _, hw⟩ := (whereTo_mem _ _ _ _).1 hx
        have : (i : Int) ∈ whereTo (atB b) m.smiths m.smiths.length := (whereTo_mem _ _ _ _).2 ⟨i, hi, rfl, by
          unfold worksB at hw
          simp only [Bool.and_eq_true, beq_iff_eq] at hw
          unfold atB
          rw [hw.1, hw.2]; simp⟩
        rw [e] at this
        cases this
      simp only [List.length_eq_zero_iff, this, decide_false]
    · rw [show decide ((whereTo (worksB b) m.smiths m.smiths.length).length = 1) = false from decide_eq_false (by omega), Bool.false_and]
  | some r =>
    obtain ⟨wk, wt⟩ := r
    rw [hsc] at h
    simp only at h ⊢
    obtain ⟨h1, h2⟩ := h
    generalize whereTo (worksB b) m.smiths m.smiths.length = ws at *
    generalize whereTo (atB b) m.smiths m.smiths.length = az at *
    generalize (recAt m.desks b).2.1 = who at *
    by_cases hw : who = -1
    · subst hw
      simp only [if_true, List.length_eq_zero_iff]
      rcases h1 with ⟨rfl, rfl⟩ | ⟨hk, rfl⟩
      · cases wt
        · simp at h2; simp [h2]
        · simp at h2; simp [h2]
      · have hne : az ≠ [] := by
          intro e
          have := (h2.1 e).1
          cases this
        have : ((-1 : Int) == wk) = false := by simp; omega
        rw [this]
        simp [hne]
    · rw [if_neg hw]
      rcases h1 with ⟨rfl, rfl⟩ | ⟨hk, rfl⟩
      · have : (who == -1) = false := by simpa using hw
        rw [this]; simp
      · have h0 : decide (wk < 0) = false := decide_eq_false (by omega)
        rw [h0, Bool.and_false, Bool.not_false, Bool.and_true]
        simp only [List.length_cons, List.length_nil, decide_true, Bool.true_and]
        show decide (wk = who) = (who == wk)
        by_cases e : wk = who
        · subst e; simp
        · rw [decide_eq_false e]; symm; simp; omega
theorem has_in (n : Nat) (i : Int) : hasB n i = inB i 0 ((n : Int) - 1) := by
  unfold hasB inB
  by_cases h0 : 0 ≤ i <;> by_cases h1 : i < n
  · rw [decide_eq_true h0, decide_eq_true h1, decide_eq_true (show 0 ≤ i ∧ i ≤ (n : Int) - 1 by omega)]; rfl
  · rw [decide_eq_true h0, decide_eq_false h1, decide_eq_false (show ¬ (0 ≤ i ∧ i ≤ (n : Int) - 1) by omega)]; rfl
  · rw [decide_eq_false h0, decide_eq_false (show ¬ (0 ≤ i ∧ i ≤ (n : Int) - 1) by omega)]; rfl
  · rw [decide_eq_false h0, decide_eq_false (show ¬ (0 ≤ i ∧ i ≤ (n : Int) - 1) by omega)]; rfl
theorem loose_same (m : SmyV) : inPlaceIB m = looseB m := by
  have e1 : upSmiths m m.smiths.length = (allTo smithB m.smiths m.smiths.length && (allTo (thereB m.guilds.length) m.smiths m.smiths.length && allTo (placeB m.desks) m.smiths m.smiths.length)) := by
    rw [allTo_and, allTo_and]
    exact (allTo_congr m.smiths (one_same m) m.smiths.length).symm
  have e2 : pacesIB m.paces m.rooms = (decide (m.paces.length = m.rooms.length) && upPaces m m.paces.length) := by
    unfold pacesIB upPaces
    congr 2
    funext j
    unfold paceInB
    exact has_in _ _
  have e3 : decide (0 < (whereTo (fun d : DeskV => d.1) m.desks m.desks.length).length) = upOpen m m.desks.length := whereTo_any _ _ _
  unfold inPlaceIB partsIB looseB headB smithsIB desksIB
  rw [e1, e2, e3]
  have e4 : allTo deskB m.desks m.desks.length = upDesks m m.desks.length := rfl
  rw [e4]
  generalize hallB m.rooms = x1
  generalize guildsB m.guilds = x2
  generalize decide (m.smiths.length ≤ 12) = x3
  generalize allTo smithB m.smiths m.smiths.length = x4
  generalize allTo (thereB m.guilds.length) m.smiths m.smiths.length = x5
  generalize decide ((m.desks.length : Int) = benchSum m.rooms) = x6
  generalize upDesks m m.desks.length = x7
  generalize upOpen m m.desks.length = x8
  generalize decide (m.paces.length = m.rooms.length) = x9
  generalize upPaces m m.paces.length = x10
  generalize inB m.now 0 1000000 = x11
  generalize allTo (placeB m.desks) m.smiths m.smiths.length = x12
  rw [Bool.eq_iff_iff]
  simp only [Bool.and_eq_true]
  constructor
  · rintro ⟨⟨a1, a2, ⟨a3, a4, a5⟩, ⟨a6, a7, a8⟩, ⟨a9, a10⟩, a11⟩, a12⟩
    exact ⟨⟨a1, a2, a3, a6, a9, a11⟩, a7, a10, ⟨a4, a5, a12⟩, a8⟩
  · rintro ⟨⟨a1, a2, a3, a6, a9, a11⟩, a7, a10, ⟨a4, a5, a12⟩, a8⟩
    exact ⟨⟨a1, a2, ⟨a3, a4, a5⟩, ⟨a6, a7, a8⟩, ⟨a9, a10⟩, a11⟩, a12⟩
theorem smy_same (m : SmyV) : smyIB m = smyB m := by
  unfold smyIB smyB turnsIB
  rw [loose_same, show turnIB m = benchOkB m from funext (turn_same m)]

/-! ### The program's queue -/
theorem take_snoc_at {ps : List Int} {k : Nat} (h : k < ps.length) : ps.take (k + 1) = ps.take k ++ [recAt ps k] := by
  unfold recAt
  rw [List.take_add_one, List.getD, List.getElem?_eq_getElem h]; rfl
end Go.Proofs.YtnponpamjddpjabGreat

/- Smiths that are compared: two are alike where all their numbers are; and the weights as letters. No condition. -/
namespace Go.Proofs.YtnponpamjddpjabGreat
open Go.ChangeShapes Go.WideShapes Go.ChangeAt Go.RowKit Go.Sort
set_option linter.unusedVariables false

set_option maxHeartbeats 1000000 in
theorem smith_equal (x0 x1 x2 x3 x4 x5 x6 x7 x8 x9 x10 y0 y1 y2 y3 y4 y5 y6 y7 y8 y9 y10 : Int) (w : World) : (Op.equalIn 10000 75 (.agg #[.int .i64 x0, .int .i64 x1, .int .i64 x2, .int .i64 x3, .int .i64 x4, .int .i64 x5, .int .i64 x6, .int .i64 x7, .int .i64 x8, .int .i64 x9, .int .i64 x10]) (.agg #[.int .i64 y0, .int .i64 y1, .int .i64 y2, .int .i64 y3, .int .i64 y4, .int .i64 y5, .int .i64 y6, .int .i64 y7, .int .i64 y8, .int .i64 y9, .int .i64 y10])).run Tryz.prog w = .ok (sameB (x0, x1, x2, x3, x4, x5, x6, x7, x8, x9, x10) (y0, y1, y2, y3, y4, y5, y6, y7, y8, y9, y10)) w := by
  have u := Tryz.underlying2
  have a := Tryz.isAgg2
  have z := Tryz.sizeOf2
  have hS : Tryz.prog.underlying 75 = some (.struct (Tryz.prog.fieldsOf 75)) := by kernel_rfl
  have hp : Tryz.prog.stoodInHeld 75 = false := by kernel_rfl
  rw [show (10000 : Nat) = 9999 + 1 from rfl, run_equalIn_agg w 9999 75 _ _ hS hp]
  simp only [Program.fieldsOf, Tryz.underlying75]
  go_simp
  unfold sameB
  by_cases h0 : x0 = y0
  rotate_left
  · simp [h0]
  subst h0
  by_cases h1 : x1 = y1
  rotate_left
  · simp [h1]
  subst h1
  by_cases h2 : x2 = y2
  rotate_left
  · simp [h2]
  subst h2
  by_cases h3 : x3 = y3
  rotate_left
  · simp [h3]
  subst h3
  by_cases h4 : x4 = y4
  rotate_left
  · simp [h4]
  subst h4
  by_cases h5 : x5 = y5
  rotate_left
  · simp [h5]
  subst h5
  by_cases h6 : x6 = y6
  rotate_left
  · simp [h6]
  subst h6
  by_cases h7 : x7 = y7
  rotate_left
  · simp [h7]
  subst h7
  by_cases h8 : x8 = y8
  rotate_left
  · simp [h8]
  subst h8
  by_cases h9 : x9 = y9
  rotate_left
  · simp [h9]
  subst h9
  by_cases h10 : x10 = y10
  rotate_left
  · simp [h10]
  subst h10
  simp
theorem smith_eql (x0 x1 x2 x3 x4 x5 x6 x7 x8 x9 x10 y0 y1 y2 y3 y4 y5 y6 y7 y8 y9 y10 : Int) (w : World) : (binOp .eql 75 (.agg #[.int .i64 x0, .int .i64 x1, .int .i64 x2, .int .i64 x3, .int .i64 x4, .int .i64 x5, .int .i64 x6, .int .i64 x7, .int .i64 x8, .int .i64 x9, .int .i64 x10]) (.agg #[.int .i64 y0, .int .i64 y1, .int .i64 y2, .int .i64 y3, .int .i64 y4, .int .i64 y5, .int .i64 y6, .int .i64 y7, .int .i64 y8, .int .i64 y9, .int .i64 y10])).run Tryz.prog w = .ok (.bool (sameB (x0, x1, x2, x3, x4, x5, x6, x7, x8, x9, x10) (y0, y1, y2, y3, y4, y5, y6, y7, y8, y9, y10))) w := by
  rw [run_eql_struct, smith_equal]; rfl
theorem smith_neq (x0 x1 x2 x3 x4 x5 x6 x7 x8 x9 x10 y0 y1 y2 y3 y4 y5 y6 y7 y8 y9 y10 : Int) (w : World) : (binOp .neq 75 (.agg #[.int .i64 x0, .int .i64 x1, .int .i64 x2, .int .i64 x3, .int .i64 x4, .int .i64 x5, .int .i64 x6, .int .i64 x7, .int .i64 x8, .int .i64 x9, .int .i64 x10]) (.agg #[.int .i64 y0, .int .i64 y1, .int .i64 y2, .int .i64 y3, .int .i64 y4, .int .i64 y5, .int .i64 y6, .int .i64 y7, .int .i64 y8, .int .i64 y9, .int .i64 y10])).run Tryz.prog w = .ok (.bool (!sameB (x0, x1, x2, x3, x4, x5, x6, x7, x8, x9, x10) (y0, y1, y2, y3, y4, y5, y6, y7, y8, y9, y10))) w := by
  rw [run_neq_struct, smith_equal]; rfl

theorem implWeightOf_v {r x : Int} (h : weightV r = x) (w : World) : Calls Tryz.prog 185 #[.int .i64 r] w fun e w' => e = .returned (.int .i64 x) ∧ w' = w := by
  have := implWeightOf_any r w; rw [h] at this; exact this
theorem specWeightOf_v {r x : Int} (h : weightV r = x) (w : World) : Calls Tryz.prog 117 #[.int .i64 r] w fun e w' => e = .returned (.int .i64 x) ∧ w' = w := by
  have := specWeightOf_any r w; rw [h] at this; exact this

end Go.Proofs.YtnponpamjddpjabGreat

/- The members of a set, as a list; the model's Members and FirstOf. No condition. -/
namespace Go.Proofs.YtnponpamjddpjabGreat
open Go.ChangeShapes Go.WideShapes Go.ChangeAt Go.RowKit
set_option linter.unusedVariables false

/-- The benches below k that are in the set s, in their order. -/
def upto (s : Int) : Nat → List Int
  | 0 => []
  | k + 1 => if memB s k = true then upto s k ++ [(k : Int)] else upto s k
def mems (s : Int) : List Int := upto s 8
def firstMV (s : Int) : Int := (mems s).headD (-1)
theorem upto_hit {s : Int} {k : Nat} (h : memB s k = true) : upto s (k + 1) = upto s k ++ [(k : Int)] := by simp [upto, h]
theorem upto_miss {s : Int} {k : Nat} (h : memB s k = false) : upto s (k + 1) = upto s k := by simp [upto, h]
theorem upto_len (s : Int) : ∀ k, (upto s k).length ≤ k
  | 0 => by simp [upto]
  | k + 1 => by
    have := upto_len s k
    cases h : memB s k
    · rw [upto_miss h]; omega
    · rw [upto_hit h]; simp; omega
theorem upto_none {s : Int} (h : inB s 0 255 = false) : ∀ k, upto s k = []
  | 0 => rfl
  | k + 1 => by rw [upto_miss (memB_f (.inl h))]; exact upto_none h k
theorem upto_pre (s : Int) : ∀ k, k ≤ 8 → upto s k <+: mems s := by
  have step : ∀ k, upto s k <+: upto s (k + 1) := fun k => by
    cases h : memB s k
    · rw [upto_miss h]; exact List.prefix_refl _
    · rw [upto_hit h]; exact List.prefix_append _ _
  have go : ∀ d k, upto s k <+: upto s (k + d) := by
    intro d
    induction d with
    | zero => intro k; exact List.prefix_refl _
    | succ d ih => intro k; exact (ih k).trans (step (k + d))
  intro k hk
  have := go (8 - k) k
  rwa [show k + (8 - k) = 8 by omega] at this
end Go.Proofs.YtnponpamjddpjabGreat

/- The program's Members and FirstOf, which range over an iterator. No condition. -/
namespace Go.Proofs.YtnponpamjddpjabGreat
open Go.ChangeShapes Go.WideShapes Go.ChangeAt Go.RowKit Go.Shelf
set_option linter.unusedVariables false
attribute [local go_sem] Oper.semAt_some

/-- The box Bn holds on what it held. -/
def KeepsBox (Bn : Nat) (t : TypeId) (W W' : World) : Prop := ∀ v, Boxed W Bn t v → Boxed W' Bn t v
theorem KeepsBox.trans {Bn : Nat} {t : TypeId} {A B C : World} (h : KeepsBox Bn t A B) (k : KeepsBox Bn t B C) : KeepsBox Bn t A C := fun v hv => k v (h v hv)
theorem KeepsBox.putObj {Bn : Nat} {t : TypeId} {n : Nat} (h : Bn < n) (W : World) (l : Nat) (o o' : Obj) (hl : n ≤ l) (_ : W.heap[l]? = some o) (_ : o.isCells = false) (_ : o.isWalk = false) : KeepsBox Bn t W (W.putObj l o') :=
  fun v hv => hv.kept (grownBy_putObj' W l o') (fun e => by cases e; omega)

set_option maxRecDepth 100000 in
set_option maxHeartbeats 1000000 in
/-- The iterator: each member of the set s, in their order, until a round says no more. -/
theorem members1_in (n : Nat) (hn : 1 ≤ n) (l Bn : Nat) (s : Int) (J Jx : List Int → World → Prop)
    (hY : ∀ pre x W, J pre W → pre.length < 8 → YieldAt Fence.wide (n - 1) Tryz.prog l #[.int .i64 x] W fun e W' =>
      (e = .returned (.bool true) ∧ J (pre ++ [x]) W' ∧ KeepsBox Bn 2 W W') ∨ (e = .returned (.bool false) ∧ Jx (pre ++ [x]) W'))
    (W : World) (hBn : Boxed W Bn 2 (.int .i64 s)) (h0 : J [] W) :
    CallsIn Fence.wide n Tryz.prog 98 #[.func (.yield l) #[] #[], .pointer (some ⟨Bn, 0, none⟩)] W fun e W' => (∃ v, e = .returned v) ∧
      ((∃ ys, ys = mems s ∧ J ys W') ∨ (∃ pre, pre <+: mems s ∧ Jx pre W')) := by
  refine callsIn_of_wp Tryz.func98 rfl trivial ?_ rfl
  simp only [Tryz.ntmps98, List.size_toArray, List.length_cons, List.length_nil, Nat.reduceAdd, Nat.reduceSub, Array.replicate_succ, Array.replicate_zero, List.push_toArray, List.append_toArray, List.nil_append, List.cons_append]
  gi_wp2
  gi_loopw [4] (fun i wr => ∃ k : Nat, k ≤ 8 ∧ i = .int .i64 k ∧ Boxed wr Bn 2 (.int .i64 s) ∧ J (upto s k) wr)
    (fun i wr => 8 - (intOf i).toNat)
  case atStart => exact ⟨0, by omega, rfl, hBn, h0⟩
  case round =>
    obtain ⟨k, hk, rfl, hbx, hJ⟩ := hrel
    have hul := upto_len s k
    have hc := hbx.cell
    have Hb := hide hbx
    clear hbx
    by_cases hlt : (k : Int) < 8
    · cases hm : memB s k
      · gi_wp2_with (refine ⟨trivial, ?_⟩; gi_at_call 99; refine (callsIn_wide.2 (implInSet_any _ _ _)).mono ?_; rintro e w' ⟨rfl, rfl⟩)
        refine ⟨fun _ h => (by cases h), ?_⟩
        gi_wp2
        go_roundw
        case rel => exact ⟨k + 1, by omega, by go_num, unhide Hb, by rw [upto_miss hm]; exact hJ⟩
        case measure => simp [intOf]; omega
      · obtain ⟨fn, tmps, assign, body, hy, hR⟩ := hY (upto s k) k wr hJ (by omega)
        gi_wp2_with (refine ⟨trivial, ?_⟩; gi_at_call 99; refine (callsIn_wide.2 (implInSet_any _ _ _)).mono ?_; rintro e w' ⟨rfl, rfl⟩)
        refine hR.mono ?_
        rintro e W3 (⟨rfl, hJ3, hk3⟩ | ⟨rfl, hJx3⟩)
        · gi_wp2
          go_roundw
          case rel => exact ⟨k + 1, by omega, by go_num, hk3 _ (unhide Hb), by rw [upto_hit hm]; exact hJ3⟩
          case measure => simp [intOf]; omega
        · gi_wp2
          refine bodyPost_ret (results_none rfl _ _ _) rfl ?_
          exact ⟨⟨_, rfl⟩, .inr ⟨upto s k ++ [(k : Int)], by rw [← upto_hit hm]; exact upto_pre s (k + 1) (by omega), hJx3⟩⟩
    · obtain rfl : k = 8 := by omega
      gi_wp2
      go_end0
      exact ⟨⟨_, rfl⟩, .inl hJ⟩

set_option maxHeartbeats 1000000 in
theorem membersOf_in (n : Nat) (s : Int) (w : World) :
    CallsIn Fence.wide n Tryz.prog 63 #[.int .i64 s] w fun e w' => e = .returned (.func (.func 98) #[] #[.pointer (some ⟨w.heap.size, 0, none⟩)]) ∧ w' = w.alloc (.cells #[.int .i64 s] 2) := by
  refine callsIn_of_wp Tryz.func63 rfl trivial ?_ rfl
  simp only [Tryz.ntmps63, List.size_toArray, List.length_cons, List.length_nil, Nat.reduceAdd, Nat.reduceSub, Array.replicate_succ, Array.replicate_zero, List.push_toArray, List.append_toArray, List.nil_append, List.cons_append]
  gi_wp2
  go_ret
  exact ⟨rfl, rfl⟩

theorem members_stops (n : Nat) (hn : 1 ≤ n) (Bn : Nat) (s : Int) (w : World) (hBn : Boxed w Bn 2 (.int .i64 s)) :
    SeqStopsK Fence.wide n Tryz.prog 98 #[.pointer (some ⟨Bn, 0, none⟩)] (fun x : Int => #[Value.int .i64 x]) (KeepsBox Bn 2) (fun ys => ys = mems s) (fun pre => pre <+: mems s) 8 w := fun l J Jx W hW _ _ hY h0 =>
  members1_in n hn l Bn s J Jx hY W ((hW.block Bn hBn.lt).trans hBn) h0

set_option maxRecDepth 100000 in
set_option maxHeartbeats 2000000 in
theorem implFirstOf_in (n : Nat) (hn : 3 ≤ n) (s : Int) (w : World) :
    CallsIn Fence.wide n Tryz.prog 184 #[.int .i64 s] w fun e w' => e = .returned (.int .i64 (firstMV s)) ∧ Below w.heap.size w w' := by
  have h1 : 1 ≤ n := by omega
  refine callsIn_of_wp_marks Tryz.func184 rfl trivial ?_ rfl
  simp only [Tryz.ntmps184, List.size_toArray, List.length_cons, List.length_nil, Nat.reduceAdd, Nat.reduceSub, Array.replicate_succ, Array.replicate_zero, List.push_toArray, List.append_toArray, List.nil_append, List.cons_append]
  gi_wp2_with (refine ⟨trivial, ?_⟩; gi_at_call 63; refine (membersOf_in (n - 1) _ _).mono ?_; rintro e w' ⟨rfl, rfl⟩)
  have bR := Boxed.new w 2 (.int .i64 0)
  have bN := Boxed.new (w.alloc (.cells #[.int .i64 0] 2)) 2 (.int .i64 s)
  simp only [World.size_alloc] at bN
  have hB0 : Below w.heap.size w ((w.alloc (.cells #[.int .i64 0] 2)).alloc (.cells #[.int .i64 s] 2)) := ((Below.refl _ w).alloc (Nat.le_refl _) _).alloc (by simp) _
  refine wpIn_rangeFunc_ownG rfl h1 (gf := 98) (lb := #[.pointer (some ⟨w.heap.size + 1, 0, none⟩)]) rfl trivial (enters_of Tryz.func98 (by kernel_rfl) rfl)
    (members_stops (n - 1) (by omega) (w.heap.size + 1) s _ bN) (fun h k => h.trans k) (KeepsBox.putObj (by simp)) (Below.refl _ _) (fun _ => rfl)
    (fun pre W => (pre = [] ∧ Boxed W w.heap.size 2 (.int .i64 0)) ∧ Below w.heap.size w W)
    (fun c pre W => (c = .ret ∧ ∃ x, pre = [x] ∧ Boxed W w.heap.size 2 (.int .i64 x)) ∧ Below w.heap.size w W)
    (OwnFrom.and (Own.from (fun s A B row hs hg hr => ⟨hs.1, hs.2.kept hg (fun e => by obtain ⟨o, ho, hc⟩ := hr _ e.symm; rw [show A.heap[w.heap.size]? = _ from hs.2] at ho; cases ho; cases hc)⟩) _) (ownFrom_below (Nat.le_refl _) (by simp; omega)))
    (fun c => OwnFrom.and (Own.from (fun s A B row hs hg hr => by obtain ⟨e1, x, e2, hb⟩ := hs; exact ⟨e1, x, e2, hb.kept hg (fun e => by obtain ⟨o, ho, hc⟩ := hr _ e.symm; rw [show A.heap[w.heap.size]? = _ from hb] at ho; cases ho; cases hc)⟩) _) (ownFrom_below (Nat.le_refl _) (by simp; omega)))
    ⟨⟨rfl, bR.alloc _⟩, hB0⟩
    (fun x => { tmps := #[.int .i64 s, undef, .pointer (some ⟨w.heap.size, 0, none⟩), .int .i64 x, .int .i64 s, .func (.func 98) #[] #[.pointer (some ⟨w.heap.size + 1, 0, none⟩)], .int .i64 x, undef], defers := [] }) ?assign ?body ?done ?stop
  case assign =>
    intro l x W K hK
    gi_wp2
    exact hK
  case body =>
    rintro l pre x W ⟨⟨rfl, hb⟩, hB⟩ _
    have hc := hb.cell
    have hf := hb.frozen
    gi_wp2
    exact ⟨(KeepsOthers.setCell _ _ _).from _, ⟨rfl, x, rfl, hb.set _⟩, hB.setCell (p := ⟨w.heap.size, 0, none⟩) (Nat.le_refl _) _⟩
  case done =>
    rintro D ys W hD hys ⟨⟨hp, hb⟩, hB⟩ hK
    have hc := hb.cell
    have hf := hb.frozen
    gi_wp2
    have hK' := (KeepsOthers.setCell W ⟨w.heap.size, 0, none⟩ (.int .i64 (-1))).same D _ hK rfl
    refine ⟨by simp, .inl ⟨_, _, rfl, run_takeDeferred hK', ?_⟩⟩
    have hc5 := cell_kept (hb.set (.int .i64 (-1))).cell (grownBy_putObj' _ D (.deferred none)) (fun r e => by cases e; exact ⟨_, hK', rfl⟩)
    have hm : mems s = [] := hys.symm.trans hp
    refine ⟨.int .i64 (-1), ?_, ret_int (by unfold firstMV; rw [hm]; rfl), (hB.setCell (p := ⟨w.heap.size, 0, none⟩) (Nat.le_refl _) _).trans (belowK_b (w := w) (Nat.le_refl _) _ D _ _ (by simp at hD; omega) hK' rfl rfl)⟩
    simp [results, Tryz.f184, go_sem, hc5]
  case stop =>
    rintro D c pre W hD hpre ⟨⟨rfl, x, rfl, hb⟩, hB⟩ hK
    gi_wp2
    refine ⟨by simp, .inl ⟨_, _, rfl, run_takeDeferred hK, ?_⟩⟩
    have hc5 := cell_kept hb.cell (grownBy_putObj' _ D (.deferred none)) (fun r e => by cases e; exact ⟨_, hK, rfl⟩)
    have hx : firstMV s = x := by obtain ⟨r, hr⟩ := hpre; unfold firstMV; rw [← hr]; rfl
    refine ⟨.int .i64 x, ?_, ret_int hx.symm, hB.trans (belowK_b (w := w) (Nat.le_refl _) W D _ _ (by simp at hD; omega) hK rfl rfl)⟩
    simp [results, Tryz.f184, go_sem, hc5]

theorem implFirstOf_any (s : Int) (w : World) : Calls Tryz.prog 184 #[.int .i64 s] w fun e w' => e = .returned (.int .i64 (firstMV s)) ∧ Below w.heap.size w w' :=
  callsIn_wide.1 (implFirstOf_in 3 (Nat.le_refl _) s w)

end Go.Proofs.YtnponpamjddpjabGreat

/- The program's side of chapter 9, up to SmithOk: contracts of the checks of a smith and of its shape. No condition. -/
namespace Go.Proofs.YtnponpamjddpjabGreat
open Go.ChangeShapes Go.WideShapes Go.ChangeAt Go.RowKit Go.Sort
set_option linter.unusedVariables false

theorem first_all : ∀ k : Fin 256, (firstMV (k.val : Int) != -1) = inB (k.val : Int) 1 255 := by decide +kernel
theorem first_may (s : Int) : (firstMV s != -1) = inB s 1 255 := by
  cases h : inB s 0 255
  · have hf : firstMV s = -1 := by unfold firstMV mems; rw [upto_none h]; rfl
    have h2 : s < 0 ∨ 255 < s := by
      rcases Int.lt_or_le s 0 with h1 | h1
      · exact .inl h1
      · rcases Int.lt_or_le 255 s with h2 | h2
        · exact .inr h2
        · rw [inB_t h1 h2] at h; cases h
    rw [hf, inB_f (by omega)]; rfl
  · obtain ⟨h0, h1⟩ := inB_of h
    obtain ⟨n, rfl⟩ := Int.eq_ofNat_of_zero_le h0
    exact first_all ⟨n, by omega⟩

theorem implFirstOf_v {s f : Int} (h : firstMV s = f) (w : World) : Calls Tryz.prog 184 #[.int .i64 s] w fun e w' => e = .returned (.int .i64 f) ∧ Below w.heap.size w w' := by
  have := implFirstOf_any s w; rw [h] at this; exact this
theorem isMay_any (s : Int) (w : World) : Calls Tryz.prog 180 #[.int .i64 s] w fun e w' => e = .returned (.bool (inB s 1 255)) ∧ Below w.heap.size w w' := by
  have hf := first_may s
  obtain ⟨f, hv⟩ : ∃ f, firstMV s = f := ⟨_, rfl⟩
  have Hv := hide hv
  rw [hv] at hf
  have Hf := hide hf
  clear hf hv
  go_enter Tryz.func180, Tryz.ntmps180
  go_wp2_with fail
  refine (implFirstOf_v (unhide Hv) _).mono ?_
  rintro e w1 ⟨rfl, hb⟩
  go_wp2_with fail
  go_ret
  exact ⟨ret_bool (unhide Hf), hb⟩

theorem isCarry_any (c r : Int) (w : World) : Calls Tryz.prog 182 #[.int .i64 c, .int .i64 r] w fun e w' => e = .returned (.bool (inB c 0 (weightV r - 1))) ∧ w' = w := by
  obtain ⟨x, hv⟩ : ∃ x, weightV r = x := ⟨_, rfl⟩
  have Hv := hide hv
  rw [hv]
  clear hv
  by_cases h0 : 0 ≤ c
  · by_cases h1 : c < x
    · rw [inB_t (x := c) (lo := 0) (hi := x - 1) h0 (by omega)]
      go_enter Tryz.func182, Tryz.ntmps182
      go_wp2_with (go_at_call 185; refine (implWeightOf_v (unhide Hv) _).mono ?_; rintro e w' ⟨rfl, rfl⟩)
      go_ret
      exact ⟨rfl, rfl⟩
    · rw [inB_f (x := c) (lo := 0) (hi := x - 1) (by omega)]
      go_enter Tryz.func182, Tryz.ntmps182
      go_wp2_with (go_at_call 185; refine (implWeightOf_v (unhide Hv) _).mono ?_; rintro e w' ⟨rfl, rfl⟩)
      go_ret
      exact ⟨ret_bool (b := false) (by rw [decide_eq_false_iff_not]; omega), rfl⟩
  · rw [inB_f (x := c) (lo := 0) (hi := x - 1) (by omega)]
    go_enter Tryz.func182, Tryz.ntmps182
    go_wp2_with fail
    go_ret
    exact ⟨rfl, rfl⟩

theorem smithHad_any (n : Int) (w : World) : Calls Tryz.prog 181 #[.int .i64 n] w fun e w' => e = .returned (.bool (inB n (-1000000000000) 1000000000000)) ∧ w' = w := by
  go_enter Tryz.func181, Tryz.ntmps181
  go_wp2_with (go_at_call 128; refine (liesFrom_any _ _ _ _).mono ?_; rintro e w' ⟨rfl, rfl⟩)
  go_ret
  exact ⟨rfl, rfl⟩

theorem isCarry_v {c r : Int} {q : Bool} (h : inB c 0 (weightV r - 1) = q) (w : World) : Calls Tryz.prog 182 #[.int .i64 c, .int .i64 r] w fun e w' => e = .returned (.bool q) ∧ w' = w := by
  have := isCarry_any c r w; rw [h] at this; exact this
theorem inB_none (x : Int) : inB x 0 (0 - 1) = false := by
  refine inB_f ?_
  rcases Int.lt_or_le x 0 with h | h
  · exact .inl h
  · exact .inr (by omega)
/-- A rank that is none leaves no carry. -/
theorem presB_eq (st be rk my gu lo hi hd ca ut wk : Int) : presB (st, be, rk, my, gu, lo, hi, hd, ca, ut, wk) = (inB st 1 3 && (inB be 0 7 && (inB my 1 255 && (inB gu (-1) 5 && (pairB lo hi && (inB hd (-1000000000000) 1000000000000 && (inB ca 0 (weightV rk - 1) && (inB ut 0 1024 && (inB wk 0 100000000000))))))))) := by
  unfold presB
  simp only
  cases hr : inB rk (-5) 5
  · rw [weightV_none hr, show inB ca 0 (0 - 1) = false from inB_none ca]
    simp
  · simp only [Bool.true_and]
set_option maxRecDepth 100000 in
set_option maxHeartbeats 4000000 in
theorem isPresent_any (st be rk my gu lo hi hd ca ut wk : Int) (w : World) : Calls Tryz.prog 179 #[.agg #[.int .i64 st, .int .i64 be, .int .i64 rk, .int .i64 my, .int .i64 gu, .int .i64 lo, .int .i64 hi, .int .i64 hd, .int .i64 ca, .int .i64 ut, .int .i64 wk]] w fun e w' => e = .returned (.bool (presB (st, be, rk, my, gu, lo, hi, hd, ca, ut, wk))) ∧ Below w.heap.size w w' := by
  rw [presB_eq]
  obtain ⟨qc, hqc⟩ : ∃ q, inB ca 0 (weightV rk - 1) = q := ⟨_, rfl⟩
  have Hc := hide hqc
  rw [hqc]
  clear hqc
  cases h_st : inB st 1 3
  · go_enter Tryz.func179, Tryz.ntmps179
    go_wp2_with (first | (go_at_call 128; refine (liesFrom_any _ _ _ _).mono ?_; rintro e w' ⟨rfl, rfl⟩) | (go_at_call 133; refine (isBench_any _ _).mono ?_; rintro e w' ⟨rfl, rfl⟩) | (go_at_call 172; refine (areBounds_any _ _ _).mono ?_; rintro e w' ⟨rfl, rfl⟩) | (go_at_call 181; refine (smithHad_any _ _).mono ?_; rintro e w' ⟨rfl, rfl⟩) | (go_at_call 182; refine (isCarry_v (unhide Hc) _).mono ?_; rintro e w' ⟨rfl, rfl⟩) | (go_at_call 183; refine (isUtil_any _ _).mono ?_; rintro e w' ⟨rfl, rfl⟩))
    go_ret
    exact ⟨rfl, (Below.refl _ _).alloc (Nat.le_refl _) _⟩
  cases h_be : inB be 0 7
  · go_enter Tryz.func179, Tryz.ntmps179
    go_wp2_with (first | (go_at_call 128; refine (liesFrom_any _ _ _ _).mono ?_; rintro e w' ⟨rfl, rfl⟩) | (go_at_call 133; refine (isBench_any _ _).mono ?_; rintro e w' ⟨rfl, rfl⟩) | (go_at_call 172; refine (areBounds_any _ _ _).mono ?_; rintro e w' ⟨rfl, rfl⟩) | (go_at_call 181; refine (smithHad_any _ _).mono ?_; rintro e w' ⟨rfl, rfl⟩) | (go_at_call 182; refine (isCarry_v (unhide Hc) _).mono ?_; rintro e w' ⟨rfl, rfl⟩) | (go_at_call 183; refine (isUtil_any _ _).mono ?_; rintro e w' ⟨rfl, rfl⟩))
    go_ret
    exact ⟨rfl, (Below.refl _ _).alloc (Nat.le_refl _) _⟩
  cases h_my : inB my 1 255
  · go_enter Tryz.func179, Tryz.ntmps179
    go_wp2_with (first | (go_at_call 128; refine (liesFrom_any _ _ _ _).mono ?_; rintro e w' ⟨rfl, rfl⟩) | (go_at_call 133; refine (isBench_any _ _).mono ?_; rintro e w' ⟨rfl, rfl⟩) | (go_at_call 172; refine (areBounds_any _ _ _).mono ?_; rintro e w' ⟨rfl, rfl⟩) | (go_at_call 181; refine (smithHad_any _ _).mono ?_; rintro e w' ⟨rfl, rfl⟩) | (go_at_call 182; refine (isCarry_v (unhide Hc) _).mono ?_; rintro e w' ⟨rfl, rfl⟩) | (go_at_call 183; refine (isUtil_any _ _).mono ?_; rintro e w' ⟨rfl, rfl⟩))
    refine (isMay_any _ _).mono ?_
    rintro e w1 ⟨rfl, hb⟩
    have c2 : w1.cell? ⟨w.heap.size, 2, none⟩ = some (.int .i64 rk) := (hb.cell (p := ⟨w.heap.size, 2, none⟩) (by simp)).trans (cell_new _ rfl)
    have c4 : w1.cell? ⟨w.heap.size, 4, none⟩ = some (.int .i64 gu) := (hb.cell (p := ⟨w.heap.size, 4, none⟩) (by simp)).trans (cell_new _ rfl)
    have c5 : w1.cell? ⟨w.heap.size, 5, none⟩ = some (.int .i64 lo) := (hb.cell (p := ⟨w.heap.size, 5, none⟩) (by simp)).trans (cell_new _ rfl)
    have c6 : w1.cell? ⟨w.heap.size, 6, none⟩ = some (.int .i64 hi) := (hb.cell (p := ⟨w.heap.size, 6, none⟩) (by simp)).trans (cell_new _ rfl)
    have c7 : w1.cell? ⟨w.heap.size, 7, none⟩ = some (.int .i64 hd) := (hb.cell (p := ⟨w.heap.size, 7, none⟩) (by simp)).trans (cell_new _ rfl)
    have c8 : w1.cell? ⟨w.heap.size, 8, none⟩ = some (.int .i64 ca) := (hb.cell (p := ⟨w.heap.size, 8, none⟩) (by simp)).trans (cell_new _ rfl)
    have c9 : w1.cell? ⟨w.heap.size, 9, none⟩ = some (.int .i64 ut) := (hb.cell (p := ⟨w.heap.size, 9, none⟩) (by simp)).trans (cell_new _ rfl)
    have c10 : w1.cell? ⟨w.heap.size, 10, none⟩ = some (.int .i64 wk) := (hb.cell (p := ⟨w.heap.size, 10, none⟩) (by simp)).trans (cell_new _ rfl)
    have Hb := hide (((Below.refl w.heap.size w).alloc (Nat.le_refl _) _).trans (hb.mono (by simp)))
    clear hb
    go_wp2_with (first | (go_at_call 128; refine (liesFrom_any _ _ _ _).mono ?_; rintro e w' ⟨rfl, rfl⟩) | (go_at_call 133; refine (isBench_any _ _).mono ?_; rintro e w' ⟨rfl, rfl⟩) | (go_at_call 172; refine (areBounds_any _ _ _).mono ?_; rintro e w' ⟨rfl, rfl⟩) | (go_at_call 181; refine (smithHad_any _ _).mono ?_; rintro e w' ⟨rfl, rfl⟩) | (go_at_call 182; refine (isCarry_v (unhide Hc) _).mono ?_; rintro e w' ⟨rfl, rfl⟩) | (go_at_call 183; refine (isUtil_any _ _).mono ?_; rintro e w' ⟨rfl, rfl⟩))
    go_ret
    exact ⟨rfl, unhide Hb⟩
  cases h_gu : inB gu (-1) 5
  · go_enter Tryz.func179, Tryz.ntmps179
    go_wp2_with (first | (go_at_call 128; refine (liesFrom_any _ _ _ _).mono ?_; rintro e w' ⟨rfl, rfl⟩) | (go_at_call 133; refine (isBench_any _ _).mono ?_; rintro e w' ⟨rfl, rfl⟩) | (go_at_call 172; refine (areBounds_any _ _ _).mono ?_; rintro e w' ⟨rfl, rfl⟩) | (go_at_call 181; refine (smithHad_any _ _).mono ?_; rintro e w' ⟨rfl, rfl⟩) | (go_at_call 182; refine (isCarry_v (unhide Hc) _).mono ?_; rintro e w' ⟨rfl, rfl⟩) | (go_at_call 183; refine (isUtil_any _ _).mono ?_; rintro e w' ⟨rfl, rfl⟩))
    refine (isMay_any _ _).mono ?_
    rintro e w1 ⟨rfl, hb⟩
    have c2 : w1.cell? ⟨w.heap.size, 2, none⟩ = some (.int .i64 rk) := (hb.cell (p := ⟨w.heap.size, 2, none⟩) (by simp)).trans (cell_new _ rfl)
    have c4 : w1.cell? ⟨w.heap.size, 4, none⟩ = some (.int .i64 gu) := (hb.cell (p := ⟨w.heap.size, 4, none⟩) (by simp)).trans (cell_new _ rfl)
    have c5 : w1.cell? ⟨w.heap.size, 5, none⟩ = some (.int .i64 lo) := (hb.cell (p := ⟨w.heap.size, 5, none⟩) (by simp)).trans (cell_new _ rfl)
    have c6 : w1.cell? ⟨w.heap.size, 6, none⟩ = some (.int .i64 hi) := (hb.cell (p := ⟨w.heap.size, 6, none⟩) (by simp)).trans (cell_new _ rfl)
    have c7 : w1.cell? ⟨w.heap.size, 7, none⟩ = some (.int .i64 hd) := (hb.cell (p := ⟨w.heap.size, 7, none⟩) (by simp)).trans (cell_new _ rfl)
    have c8 : w1.cell? ⟨w.heap.size, 8, none⟩ = some (.int .i64 ca) := (hb.cell (p := ⟨w.heap.size, 8, none⟩) (by simp)).trans (cell_new _ rfl)
    have c9 : w1.cell? ⟨w.heap.size, 9, none⟩ = some (.int .i64 ut) := (hb.cell (p := ⟨w.heap.size, 9, none⟩) (by simp)).trans (cell_new _ rfl)
    have c10 : w1.cell? ⟨w.heap.size, 10, none⟩ = some (.int .i64 wk) := (hb.cell (p := ⟨w.heap.size, 10, none⟩) (by simp)).trans (cell_new _ rfl)
    have Hb := hide (((Below.refl w.heap.size w).alloc (Nat.le_refl _) _).trans (hb.mono (by simp)))
    clear hb
    go_wp2_with (first | (go_at_call 128; refine (liesFrom_any _ _ _ _).mono ?_; rintro e w' ⟨rfl, rfl⟩) | (go_at_call 133; refine (isBench_any _ _).mono ?_; rintro e w' ⟨rfl, rfl⟩) | (go_at_call 172; refine (areBounds_any _ _ _).mono ?_; rintro e w' ⟨rfl, rfl⟩) | (go_at_call 181; refine (smithHad_any _ _).mono ?_; rintro e w' ⟨rfl, rfl⟩) | (go_at_call 182; refine (isCarry_v (unhide Hc) _).mono ?_; rintro e w' ⟨rfl, rfl⟩) | (go_at_call 183; refine (isUtil_any _ _).mono ?_; rintro e w' ⟨rfl, rfl⟩))
    go_ret
    exact ⟨rfl, unhide Hb⟩
  cases h_pr : pairB lo hi
  · go_enter Tryz.func179, Tryz.ntmps179
    go_wp2_with (first | (go_at_call 128; refine (liesFrom_any _ _ _ _).mono ?_; rintro e w' ⟨rfl, rfl⟩) | (go_at_call 133; refine (isBench_any _ _).mono ?_; rintro e w' ⟨rfl, rfl⟩) | (go_at_call 172; refine (areBounds_any _ _ _).mono ?_; rintro e w' ⟨rfl, rfl⟩) | (go_at_call 181; refine (smithHad_any _ _).mono ?_; rintro e w' ⟨rfl, rfl⟩) | (go_at_call 182; refine (isCarry_v (unhide Hc) _).mono ?_; rintro e w' ⟨rfl, rfl⟩) | (go_at_call 183; refine (isUtil_any _ _).mono ?_; rintro e w' ⟨rfl, rfl⟩))
    refine (isMay_any _ _).mono ?_
    rintro e w1 ⟨rfl, hb⟩
    have c2 : w1.cell? ⟨w.heap.size, 2, none⟩ = some (.int .i64 rk) := (hb.cell (p := ⟨w.heap.size, 2, none⟩) (by simp)).trans (cell_new _ rfl)
    have c4 : w1.cell? ⟨w.heap.size, 4, none⟩ = some (.int .i64 gu) := (hb.cell (p := ⟨w.heap.size, 4, none⟩) (by simp)).trans (cell_new _ rfl)
    have c5 : w1.cell? ⟨w.heap.size, 5, none⟩ = some (.int .i64 lo) := (hb.cell (p := ⟨w.heap.size, 5, none⟩) (by simp)).trans (cell_new _ rfl)
    have c6 : w1.cell? ⟨w.heap.size, 6, none⟩ = some (.int .i64 hi) := (hb.cell (p := ⟨w.heap.size, 6, none⟩) (by simp)).trans (cell_new _ rfl)
    have c7 : w1.cell? ⟨w.heap.size, 7, none⟩ = some (.int .i64 hd) := (hb.cell (p := ⟨w.heap.size, 7, none⟩) (by simp)).trans (cell_new _ rfl)
    have c8 : w1.cell? ⟨w.heap.size, 8, none⟩ = some (.int .i64 ca) := (hb.cell (p := ⟨w.heap.size, 8, none⟩) (by simp)).trans (cell_new _ rfl)
    have c9 : w1.cell? ⟨w.heap.size, 9, none⟩ = some (.int .i64 ut) := (hb.cell (p := ⟨w.heap.size, 9, none⟩) (by simp)).trans (cell_new _ rfl)
    have c10 : w1.cell? ⟨w.heap.size, 10, none⟩ = some (.int .i64 wk) := (hb.cell (p := ⟨w.heap.size, 10, none⟩) (by simp)).trans (cell_new _ rfl)
    have Hb := hide (((Below.refl w.heap.size w).alloc (Nat.le_refl _) _).trans (hb.mono (by simp)))
    clear hb
    go_wp2_with (first | (go_at_call 128; refine (liesFrom_any _ _ _ _).mono ?_; rintro e w' ⟨rfl, rfl⟩) | (go_at_call 133; refine (isBench_any _ _).mono ?_; rintro e w' ⟨rfl, rfl⟩) | (go_at_call 172; refine (areBounds_any _ _ _).mono ?_; rintro e w' ⟨rfl, rfl⟩) | (go_at_call 181; refine (smithHad_any _ _).mono ?_; rintro e w' ⟨rfl, rfl⟩) | (go_at_call 182; refine (isCarry_v (unhide Hc) _).mono ?_; rintro e w' ⟨rfl, rfl⟩) | (go_at_call 183; refine (isUtil_any _ _).mono ?_; rintro e w' ⟨rfl, rfl⟩))
    go_ret
    exact ⟨rfl, unhide Hb⟩
  cases h_hd : inB hd (-1000000000000) 1000000000000
  · go_enter Tryz.func179, Tryz.ntmps179
    go_wp2_with (first | (go_at_call 128; refine (liesFrom_any _ _ _ _).mono ?_; rintro e w' ⟨rfl, rfl⟩) | (go_at_call 133; refine (isBench_any _ _).mono ?_; rintro e w' ⟨rfl, rfl⟩) | (go_at_call 172; refine (areBounds_any _ _ _).mono ?_; rintro e w' ⟨rfl, rfl⟩) | (go_at_call 181; refine (smithHad_any _ _).mono ?_; rintro e w' ⟨rfl, rfl⟩) | (go_at_call 182; refine (isCarry_v (unhide Hc) _).mono ?_; rintro e w' ⟨rfl, rfl⟩) | (go_at_call 183; refine (isUtil_any _ _).mono ?_; rintro e w' ⟨rfl, rfl⟩))
    refine (isMay_any _ _).mono ?_
    rintro e w1 ⟨rfl, hb⟩
    have c2 : w1.cell? ⟨w.heap.size, 2, none⟩ = some (.int .i64 rk) := (hb.cell (p := ⟨w.heap.size, 2, none⟩) (by simp)).trans (cell_new _ rfl)
    have c4 : w1.cell? ⟨w.heap.size, 4, none⟩ = some (.int .i64 gu) := (hb.cell (p := ⟨w.heap.size, 4, none⟩) (by simp)).trans (cell_new _ rfl)
    have c5 : w1.cell? ⟨w.heap.size, 5, none⟩ = some (.int .i64 lo) := (hb.cell (p := ⟨w.heap.size, 5, none⟩) (by simp)).trans (cell_new _ rfl)
    have c6 : w1.cell? ⟨w.heap.size, 6, none⟩ = some (.int .i64 hi) := (hb.cell (p := ⟨w.heap.size, 6, none⟩) (by simp)).trans (cell_new _ rfl)
    have c7 : w1.cell? ⟨w.heap.size, 7, none⟩ = some (.int .i64 hd) := (hb.cell (p := ⟨w.heap.size, 7, none⟩) (by simp)).trans (cell_new _ rfl)
    have c8 : w1.cell? ⟨w.heap.size, 8, none⟩ = some (.int .i64 ca) := (hb.cell (p := ⟨w.heap.size, 8, none⟩) (by simp)).trans (cell_new _ rfl)
    have c9 : w1.cell? ⟨w.heap.size, 9, none⟩ = some (.int .i64 ut) := (hb.cell (p := ⟨w.heap.size, 9, none⟩) (by simp)).trans (cell_new _ rfl)
    have c10 : w1.cell? ⟨w.heap.size, 10, none⟩ = some (.int .i64 wk) := (hb.cell (p := ⟨w.heap.size, 10, none⟩) (by simp)).trans (cell_new _ rfl)
    have Hb := hide (((Below.refl w.heap.size w).alloc (Nat.le_refl _) _).trans (hb.mono (by simp)))
    clear hb
    go_wp2_with (first | (go_at_call 128; refine (liesFrom_any _ _ _ _).mono ?_; rintro e w' ⟨rfl, rfl⟩) | (go_at_call 133; refine (isBench_any _ _).mono ?_; rintro e w' ⟨rfl, rfl⟩) | (go_at_call 172; refine (areBounds_any _ _ _).mono ?_; rintro e w' ⟨rfl, rfl⟩) | (go_at_call 181; refine (smithHad_any _ _).mono ?_; rintro e w' ⟨rfl, rfl⟩) | (go_at_call 182; refine (isCarry_v (unhide Hc) _).mono ?_; rintro e w' ⟨rfl, rfl⟩) | (go_at_call 183; refine (isUtil_any _ _).mono ?_; rintro e w' ⟨rfl, rfl⟩))
    go_ret
    exact ⟨rfl, unhide Hb⟩
  cases qc
  · go_enter Tryz.func179, Tryz.ntmps179
    go_wp2_with (first | (go_at_call 128; refine (liesFrom_any _ _ _ _).mono ?_; rintro e w' ⟨rfl, rfl⟩) | (go_at_call 133; refine (isBench_any _ _).mono ?_; rintro e w' ⟨rfl, rfl⟩) | (go_at_call 172; refine (areBounds_any _ _ _).mono ?_; rintro e w' ⟨rfl, rfl⟩) | (go_at_call 181; refine (smithHad_any _ _).mono ?_; rintro e w' ⟨rfl, rfl⟩) | (go_at_call 182; refine (isCarry_v (unhide Hc) _).mono ?_; rintro e w' ⟨rfl, rfl⟩) | (go_at_call 183; refine (isUtil_any _ _).mono ?_; rintro e w' ⟨rfl, rfl⟩))
    refine (isMay_any _ _).mono ?_
    rintro e w1 ⟨rfl, hb⟩
    have c2 : w1.cell? ⟨w.heap.size, 2, none⟩ = some (.int .i64 rk) := (hb.cell (p := ⟨w.heap.size, 2, none⟩) (by simp)).trans (cell_new _ rfl)
    have c4 : w1.cell? ⟨w.heap.size, 4, none⟩ = some (.int .i64 gu) := (hb.cell (p := ⟨w.heap.size, 4, none⟩) (by simp)).trans (cell_new _ rfl)
    have c5 : w1.cell? ⟨w.heap.size, 5, none⟩ = some (.int .i64 lo) := (hb.cell (p := ⟨w.heap.size, 5, none⟩) (by simp)).trans (cell_new _ rfl)
    have c6 : w1.cell? ⟨w.heap.size, 6, none⟩ = some (.int .i64 hi) := (hb.cell (p := ⟨w.heap.size, 6, none⟩) (by simp)).trans (cell_new _ rfl)
    have c7 : w1.cell? ⟨w.heap.size, 7, none⟩ = some (.int .i64 hd) := (hb.cell (p := ⟨w.heap.size, 7, none⟩) (by simp)).trans (cell_new _ rfl)
    have c8 : w1.cell? ⟨w.heap.size, 8, none⟩ = some (.int .i64 ca) := (hb.cell (p := ⟨w.heap.size, 8, none⟩) (by simp)).trans (cell_new _ rfl)
    have c9 : w1.cell? ⟨w.heap.size, 9, none⟩ = some (.int .i64 ut) := (hb.cell (p := ⟨w.heap.size, 9, none⟩) (by simp)).trans (cell_new _ rfl)
    have c10 : w1.cell? ⟨w.heap.size, 10, none⟩ = some (.int .i64 wk) := (hb.cell (p := ⟨w.heap.size, 10, none⟩) (by simp)).trans (cell_new _ rfl)
    have Hb := hide (((Below.refl w.heap.size w).alloc (Nat.le_refl _) _).trans (hb.mono (by simp)))
    clear hb
    go_wp2_with (first | (go_at_call 128; refine (liesFrom_any _ _ _ _).mono ?_; rintro e w' ⟨rfl, rfl⟩) | (go_at_call 133; refine (isBench_any _ _).mono ?_; rintro e w' ⟨rfl, rfl⟩) | (go_at_call 172; refine (areBounds_any _ _ _).mono ?_; rintro e w' ⟨rfl, rfl⟩) | (go_at_call 181; refine (smithHad_any _ _).mono ?_; rintro e w' ⟨rfl, rfl⟩) | (go_at_call 182; refine (isCarry_v (unhide Hc) _).mono ?_; rintro e w' ⟨rfl, rfl⟩) | (go_at_call 183; refine (isUtil_any _ _).mono ?_; rintro e w' ⟨rfl, rfl⟩))
    go_ret
    exact ⟨rfl, unhide Hb⟩
  cases h_ut : inB ut 0 1024
  · go_enter Tryz.func179, Tryz.ntmps179
    go_wp2_with (first | (go_at_call 128; refine (liesFrom_any _ _ _ _).mono ?_; rintro e w' ⟨rfl, rfl⟩) | (go_at_call 133; refine (isBench_any _ _).mono ?_; rintro e w' ⟨rfl, rfl⟩) | (go_at_call 172; refine (areBounds_any _ _ _).mono ?_; rintro e w' ⟨rfl, rfl⟩) | (go_at_call 181; refine (smithHad_any _ _).mono ?_; rintro e w' ⟨rfl, rfl⟩) | (go_at_call 182; refine (isCarry_v (unhide Hc) _).mono ?_; rintro e w' ⟨rfl, rfl⟩) | (go_at_call 183; refine (isUtil_any _ _).mono ?_; rintro e w' ⟨rfl, rfl⟩))
    refine (isMay_any _ _).mono ?_
    rintro e w1 ⟨rfl, hb⟩
    have c2 : w1.cell? ⟨w.heap.size, 2, none⟩ = some (.int .i64 rk) := (hb.cell (p := ⟨w.heap.size, 2, none⟩) (by simp)).trans (cell_new _ rfl)
    have c4 : w1.cell? ⟨w.heap.size, 4, none⟩ = some (.int .i64 gu) := (hb.cell (p := ⟨w.heap.size, 4, none⟩) (by simp)).trans (cell_new _ rfl)
    have c5 : w1.cell? ⟨w.heap.size, 5, none⟩ = some (.int .i64 lo) := (hb.cell (p := ⟨w.heap.size, 5, none⟩) (by simp)).trans (cell_new _ rfl)
    have c6 : w1.cell? ⟨w.heap.size, 6, none⟩ = some (.int .i64 hi) := (hb.cell (p := ⟨w.heap.size, 6, none⟩) (by simp)).trans (cell_new _ rfl)
    have c7 : w1.cell? ⟨w.heap.size, 7, none⟩ = some (.int .i64 hd) := (hb.cell (p := ⟨w.heap.size, 7, none⟩) (by simp)).trans (cell_new _ rfl)
    have c8 : w1.cell? ⟨w.heap.size, 8, none⟩ = some (.int .i64 ca) := (hb.cell (p := ⟨w.heap.size, 8, none⟩) (by simp)).trans (cell_new _ rfl)
    have c9 : w1.cell? ⟨w.heap.size, 9, none⟩ = some (.int .i64 ut) := (hb.cell (p := ⟨w.heap.size, 9, none⟩) (by simp)).trans (cell_new _ rfl)
    have c10 : w1.cell? ⟨w.heap.size, 10, none⟩ = some (.int .i64 wk) := (hb.cell (p := ⟨w.heap.size, 10, none⟩) (by simp)).trans (cell_new _ rfl)
    have Hb := hide (((Below.refl w.heap.size w).alloc (Nat.le_refl _) _).trans (hb.mono (by simp)))
    clear hb
    go_wp2_with (first | (go_at_call 128; refine (liesFrom_any _ _ _ _).mono ?_; rintro e w' ⟨rfl, rfl⟩) | (go_at_call 133; refine (isBench_any _ _).mono ?_; rintro e w' ⟨rfl, rfl⟩) | (go_at_call 172; refine (areBounds_any _ _ _).mono ?_; rintro e w' ⟨rfl, rfl⟩) | (go_at_call 181; refine (smithHad_any _ _).mono ?_; rintro e w' ⟨rfl, rfl⟩) | (go_at_call 182; refine (isCarry_v (unhide Hc) _).mono ?_; rintro e w' ⟨rfl, rfl⟩) | (go_at_call 183; refine (isUtil_any _ _).mono ?_; rintro e w' ⟨rfl, rfl⟩))
    go_ret
    exact ⟨rfl, unhide Hb⟩
  cases h_wk : inB wk 0 100000000000
  · go_enter Tryz.func179, Tryz.ntmps179
    go_wp2_with (first | (go_at_call 128; refine (liesFrom_any _ _ _ _).mono ?_; rintro e w' ⟨rfl, rfl⟩) | (go_at_call 133; refine (isBench_any _ _).mono ?_; rintro e w' ⟨rfl, rfl⟩) | (go_at_call 172; refine (areBounds_any _ _ _).mono ?_; rintro e w' ⟨rfl, rfl⟩) | (go_at_call 181; refine (smithHad_any _ _).mono ?_; rintro e w' ⟨rfl, rfl⟩) | (go_at_call 182; refine (isCarry_v (unhide Hc) _).mono ?_; rintro e w' ⟨rfl, rfl⟩) | (go_at_call 183; refine (isUtil_any _ _).mono ?_; rintro e w' ⟨rfl, rfl⟩))
    refine (isMay_any _ _).mono ?_
    rintro e w1 ⟨rfl, hb⟩
    have c2 : w1.cell? ⟨w.heap.size, 2, none⟩ = some (.int .i64 rk) := (hb.cell (p := ⟨w.heap.size, 2, none⟩) (by simp)).trans (cell_new _ rfl)
    have c4 : w1.cell? ⟨w.heap.size, 4, none⟩ = some (.int .i64 gu) := (hb.cell (p := ⟨w.heap.size, 4, none⟩) (by simp)).trans (cell_new _ rfl)
    have c5 : w1.cell? ⟨w.heap.size, 5, none⟩ = some (.int .i64 lo) := (hb.cell (p := ⟨w.heap.size, 5, none⟩) (by simp)).trans (cell_new _ rfl)
    have c6 : w1.cell? ⟨w.heap.size, 6, none⟩ = some (.int .i64 hi) := (hb.cell (p := ⟨w.heap.size, 6, none⟩) (by simp)).trans (cell_new _ rfl)
    have c7 : w1.cell? ⟨w.heap.size, 7, none⟩ = some (.int .i64 hd) := (hb.cell (p := ⟨w.heap.size, 7, none⟩) (by simp)).trans (cell_new _ rfl)
    have c8 : w1.cell? ⟨w.heap.size, 8, none⟩ = some (.int .i64 ca) := (hb.cell (p := ⟨w.heap.size, 8, none⟩) (by simp)).trans (cell_new _ rfl)
    have c9 : w1.cell? ⟨w.heap.size, 9, none⟩ = some (.int .i64 ut) := (hb.cell (p := ⟨w.heap.size, 9, none⟩) (by simp)).trans (cell_new _ rfl)
    have c10 : w1.cell? ⟨w.heap.size, 10, none⟩ = some (.int .i64 wk) := (hb.cell (p := ⟨w.heap.size, 10, none⟩) (by simp)).trans (cell_new _ rfl)
    have Hb := hide (((Below.refl w.heap.size w).alloc (Nat.le_refl _) _).trans (hb.mono (by simp)))
    clear hb
    go_wp2_with (first | (go_at_call 128; refine (liesFrom_any _ _ _ _).mono ?_; rintro e w' ⟨rfl, rfl⟩) | (go_at_call 133; refine (isBench_any _ _).mono ?_; rintro e w' ⟨rfl, rfl⟩) | (go_at_call 172; refine (areBounds_any _ _ _).mono ?_; rintro e w' ⟨rfl, rfl⟩) | (go_at_call 181; refine (smithHad_any _ _).mono ?_; rintro e w' ⟨rfl, rfl⟩) | (go_at_call 182; refine (isCarry_v (unhide Hc) _).mono ?_; rintro e w' ⟨rfl, rfl⟩) | (go_at_call 183; refine (isUtil_any _ _).mono ?_; rintro e w' ⟨rfl, rfl⟩))
    go_ret
    exact ⟨rfl, unhide Hb⟩
  go_enter Tryz.func179, Tryz.ntmps179
  go_wp2_with (first | (go_at_call 128; refine (liesFrom_any _ _ _ _).mono ?_; rintro e w' ⟨rfl, rfl⟩) | (go_at_call 133; refine (isBench_any _ _).mono ?_; rintro e w' ⟨rfl, rfl⟩) | (go_at_call 172; refine (areBounds_any _ _ _).mono ?_; rintro e w' ⟨rfl, rfl⟩) | (go_at_call 181; refine (smithHad_any _ _).mono ?_; rintro e w' ⟨rfl, rfl⟩) | (go_at_call 182; refine (isCarry_v (unhide Hc) _).mono ?_; rintro e w' ⟨rfl, rfl⟩) | (go_at_call 183; refine (isUtil_any _ _).mono ?_; rintro e w' ⟨rfl, rfl⟩))
  refine (isMay_any _ _).mono ?_
  rintro e w1 ⟨rfl, hb⟩
  have c2 : w1.cell? ⟨w.heap.size, 2, none⟩ = some (.int .i64 rk) := (hb.cell (p := ⟨w.heap.size, 2, none⟩) (by simp)).trans (cell_new _ rfl)
  have c4 : w1.cell? ⟨w.heap.size, 4, none⟩ = some (.int .i64 gu) := (hb.cell (p := ⟨w.heap.size, 4, none⟩) (by simp)).trans (cell_new _ rfl)
  have c5 : w1.cell? ⟨w.heap.size, 5, none⟩ = some (.int .i64 lo) := (hb.cell (p := ⟨w.heap.size, 5, none⟩) (by simp)).trans (cell_new _ rfl)
  have c6 : w1.cell? ⟨w.heap.size, 6, none⟩ = some (.int .i64 hi) := (hb.cell (p := ⟨w.heap.size, 6, none⟩) (by simp)).trans (cell_new _ rfl)
  have c7 : w1.cell? ⟨w.heap.size, 7, none⟩ = some (.int .i64 hd) := (hb.cell (p := ⟨w.heap.size, 7, none⟩) (by simp)).trans (cell_new _ rfl)
  have c8 : w1.cell? ⟨w.heap.size, 8, none⟩ = some (.int .i64 ca) := (hb.cell (p := ⟨w.heap.size, 8, none⟩) (by simp)).trans (cell_new _ rfl)
  have c9 : w1.cell? ⟨w.heap.size, 9, none⟩ = some (.int .i64 ut) := (hb.cell (p := ⟨w.heap.size, 9, none⟩) (by simp)).trans (cell_new _ rfl)
  have c10 : w1.cell? ⟨w.heap.size, 10, none⟩ = some (.int .i64 wk) := (hb.cell (p := ⟨w.heap.size, 10, none⟩) (by simp)).trans (cell_new _ rfl)
  have Hb := hide (((Below.refl w.heap.size w).alloc (Nat.le_refl _) _).trans (hb.mono (by simp)))
  clear hb
  go_wp2_with (first | (go_at_call 128; refine (liesFrom_any _ _ _ _).mono ?_; rintro e w' ⟨rfl, rfl⟩) | (go_at_call 133; refine (isBench_any _ _).mono ?_; rintro e w' ⟨rfl, rfl⟩) | (go_at_call 172; refine (areBounds_any _ _ _).mono ?_; rintro e w' ⟨rfl, rfl⟩) | (go_at_call 181; refine (smithHad_any _ _).mono ?_; rintro e w' ⟨rfl, rfl⟩) | (go_at_call 182; refine (isCarry_v (unhide Hc) _).mono ?_; rintro e w' ⟨rfl, rfl⟩) | (go_at_call 183; refine (isUtil_any _ _).mono ?_; rintro e w' ⟨rfl, rfl⟩))
  go_ret
  exact ⟨rfl, unhide Hb⟩

end Go.Proofs.YtnponpamjddpjabGreat

/- The shape of a smith, and the program's SmithOk: contracts. No condition but those that a theorem names. -/
namespace Go.Proofs.YtnponpamjddpjabGreat
open Go.ChangeShapes Go.WideShapes Go.ChangeAt Go.RowKit Go.Sort
set_option linter.unusedVariables false
attribute [local go_sem ↓] smith_eql smith_neq

set_option maxHeartbeats 1000000 in
theorem shapeOf_gone (w : World) : Calls Tryz.prog 174 #[.agg #[.int .i64 0, .int .i64 0, .int .i64 0, .int .i64 0, .int .i64 0, .int .i64 0, .int .i64 0, .int .i64 0, .int .i64 0, .int .i64 0, .int .i64 0]] w fun e w' => e = .returned (.iface 179 (.agg #[])) ∧ Below w.heap.size w w' := by
  have hz : sameB (0, 0, 0, 0, 0, 0, 0, 0, 0, 0, 0) (0, 0, 0, 0, 0, 0, 0, 0, 0, 0, 0) = true := rfl
  go_enter Tryz.func174, Tryz.ntmps174
  go_wp2_with fail
  go_ret
  exact ⟨rfl, (Below.refl _ _).alloc (Nat.le_refl _) _⟩
set_option maxHeartbeats 1000000 in
theorem shapeOf_pres {st be rk my gu lo hi hd ca ut wk : Int} (hg : goneB (st, be, rk, my, gu, lo, hi, hd, ca, ut, wk) = false) (hp : presB (st, be, rk, my, gu, lo, hi, hd, ca, ut, wk) = true) (w : World) : Calls Tryz.prog 174 #[.agg #[.int .i64 st, .int .i64 be, .int .i64 rk, .int .i64 my, .int .i64 gu, .int .i64 lo, .int .i64 hi, .int .i64 hd, .int .i64 ca, .int .i64 ut, .int .i64 wk]] w fun e w' => e = .returned (.iface 181 (.agg #[.int .i64 st, .int .i64 be, .int .i64 rk, .int .i64 my, .int .i64 gu, .int .i64 lo, .int .i64 hi, .int .i64 hd, .int .i64 ca, .int .i64 ut, .int .i64 wk])) ∧ Below w.heap.size w w' := by
  have hz : sameB (st, be, rk, my, gu, lo, hi, hd, ca, ut, wk) (0, 0, 0, 0, 0, 0, 0, 0, 0, 0, 0) = false := hg
  have Hp := hide hp
  clear hg hp
  go_enter Tryz.func174, Tryz.ntmps174
  go_wp2_with fail
  refine (isPresent_any st be rk my gu lo hi hd ca ut wk _).mono ?_
  rw [unhide Hp]
  rintro e w1 ⟨rfl, hb⟩
  have c0 : w1.cell? ⟨w.heap.size, 0, none⟩ = some (.int .i64 st) := (hb.cell (p := ⟨w.heap.size, 0, none⟩) (by simp)).trans (cell_new _ rfl)
  have c1 : w1.cell? ⟨w.heap.size, 1, none⟩ = some (.int .i64 be) := (hb.cell (p := ⟨w.heap.size, 1, none⟩) (by simp)).trans (cell_new _ rfl)
  have c2 : w1.cell? ⟨w.heap.size, 2, none⟩ = some (.int .i64 rk) := (hb.cell (p := ⟨w.heap.size, 2, none⟩) (by simp)).trans (cell_new _ rfl)
  have c3 : w1.cell? ⟨w.heap.size, 3, none⟩ = some (.int .i64 my) := (hb.cell (p := ⟨w.heap.size, 3, none⟩) (by simp)).trans (cell_new _ rfl)
  have c4 : w1.cell? ⟨w.heap.size, 4, none⟩ = some (.int .i64 gu) := (hb.cell (p := ⟨w.heap.size, 4, none⟩) (by simp)).trans (cell_new _ rfl)
  have c5 : w1.cell? ⟨w.heap.size, 5, none⟩ = some (.int .i64 lo) := (hb.cell (p := ⟨w.heap.size, 5, none⟩) (by simp)).trans (cell_new _ rfl)
  have c6 : w1.cell? ⟨w.heap.size, 6, none⟩ = some (.int .i64 hi) := (hb.cell (p := ⟨w.heap.size, 6, none⟩) (by simp)).trans (cell_new _ rfl)
  have c7 : w1.cell? ⟨w.heap.size, 7, none⟩ = some (.int .i64 hd) := (hb.cell (p := ⟨w.heap.size, 7, none⟩) (by simp)).trans (cell_new _ rfl)
  have c8 : w1.cell? ⟨w.heap.size, 8, none⟩ = some (.int .i64 ca) := (hb.cell (p := ⟨w.heap.size, 8, none⟩) (by simp)).trans (cell_new _ rfl)
  have c9 : w1.cell? ⟨w.heap.size, 9, none⟩ = some (.int .i64 ut) := (hb.cell (p := ⟨w.heap.size, 9, none⟩) (by simp)).trans (cell_new _ rfl)
  have c10 : w1.cell? ⟨w.heap.size, 10, none⟩ = some (.int .i64 wk) := (hb.cell (p := ⟨w.heap.size, 10, none⟩) (by simp)).trans (cell_new _ rfl)
  have Hb := hide (((Below.refl w.heap.size w).alloc (Nat.le_refl _) _).trans (hb.mono (by simp)))
  clear hb
  go_wp2_with fail
  go_ret
  exact ⟨rfl, unhide Hb⟩
set_option maxHeartbeats 1000000 in
theorem shapeOf_wrong {st be rk my gu lo hi hd ca ut wk : Int} (hg : goneB (st, be, rk, my, gu, lo, hi, hd, ca, ut, wk) = false) (hp : presB (st, be, rk, my, gu, lo, hi, hd, ca, ut, wk) = false) (w : World) : Calls Tryz.prog 174 #[.agg #[.int .i64 st, .int .i64 be, .int .i64 rk, .int .i64 my, .int .i64 gu, .int .i64 lo, .int .i64 hi, .int .i64 hd, .int .i64 ca, .int .i64 ut, .int .i64 wk]] w fun e w' => e = .returned (.iface 182 (.agg #[])) ∧ Below w.heap.size w w' := by
  have hz : sameB (st, be, rk, my, gu, lo, hi, hd, ca, ut, wk) (0, 0, 0, 0, 0, 0, 0, 0, 0, 0, 0) = false := hg
  have Hp := hide hp
  clear hg hp
  go_enter Tryz.func174, Tryz.ntmps174
  go_wp2_with fail
  refine (isPresent_any st be rk my gu lo hi hd ca ut wk _).mono ?_
  rw [unhide Hp]
  rintro e w1 ⟨rfl, hb⟩
  have Hb := hide (((Below.refl w.heap.size w).alloc (Nat.le_refl _) _).trans (hb.mono (by simp)))
  clear hb
  go_wp2_with fail
  go_ret
  exact ⟨rfl, unhide Hb⟩

theorem m_gone (w : World) : (method 315 179 (.agg #[]) "loop.example/g00553/impl.isSmith").run Tryz.prog w = .ok (218, .agg #[]) w := by kernel_rfl
theorem m_wrong (w : World) : (method 315 182 (.agg #[]) "loop.example/g00553/impl.isSmith").run Tryz.prog w = .ok (220, .agg #[]) w := by kernel_rfl
theorem m_pres (st be rk my gu lo hi hd ca ut wk : Int) (w : World) : (method 315 181 (.agg #[.int .i64 st, .int .i64 be, .int .i64 rk, .int .i64 my, .int .i64 gu, .int .i64 lo, .int .i64 hi, .int .i64 hd, .int .i64 ca, .int .i64 ut, .int .i64 wk]) "loop.example/g00553/impl.isSmith").run Tryz.prog w = .ok (219, .agg #[.int .i64 st, .int .i64 be, .int .i64 rk, .int .i64 my, .int .i64 gu, .int .i64 lo, .int .i64 hi, .int .i64 hd, .int .i64 ca, .int .i64 ut, .int .i64 wk]) w := by kernel_rfl
theorem goneIs_any (w : World) : Calls Tryz.prog 218 #[.agg #[]] w fun e w' => e = .returned (.bool true) ∧ Below w.heap.size w w' := by
  go_enter Tryz.func218, Tryz.ntmps218
  go_wp2_with fail
  go_ret
  exact ⟨rfl, (Below.refl _ _).alloc (Nat.le_refl _) _⟩
theorem wrongIs_any (w : World) : Calls Tryz.prog 220 #[.agg #[]] w fun e w' => e = .returned (.bool false) ∧ Below w.heap.size w w' := by
  go_enter Tryz.func220, Tryz.ntmps220
  go_wp2_with fail
  go_ret
  exact ⟨rfl, (Below.refl _ _).alloc (Nat.le_refl _) _⟩
theorem presIs_any (st be rk my gu lo hi hd ca ut wk : Int) (w : World) : Calls Tryz.prog 219 #[.agg #[.int .i64 st, .int .i64 be, .int .i64 rk, .int .i64 my, .int .i64 gu, .int .i64 lo, .int .i64 hi, .int .i64 hd, .int .i64 ca, .int .i64 ut, .int .i64 wk]] w fun e w' => e = .returned (.bool true) ∧ Below w.heap.size w w' := by
  go_enter Tryz.func219, Tryz.ntmps219
  go_wp2_with fail
  go_ret
  exact ⟨rfl, (Below.refl _ _).alloc (Nat.le_refl _) _⟩

attribute [local go_sem] m_gone m_wrong m_pres
set_option maxHeartbeats 1000000 in
theorem implSmithOk_any (st be rk my gu lo hi hd ca ut wk : Int) (w : World) : Calls Tryz.prog 153 #[.agg #[.int .i64 st, .int .i64 be, .int .i64 rk, .int .i64 my, .int .i64 gu, .int .i64 lo, .int .i64 hi, .int .i64 hd, .int .i64 ca, .int .i64 ut, .int .i64 wk]] w fun e w' => e = .returned (.bool (smithB (st, be, rk, my, gu, lo, hi, hd, ca, ut, wk))) ∧ Below w.heap.size w w' := by
  unfold smithB
  cases hg : goneB (st, be, rk, my, gu, lo, hi, hd, ca, ut, wk)
  · cases hp : presB (st, be, rk, my, gu, lo, hi, hd, ca, ut, wk)
    · rw [show (false || false) = false from rfl]
      have Hg := hide hg
      have Hp := hide hp
      clear hg hp
      go_enter Tryz.func153, Tryz.ntmps153
      go_wp2_with fail
      refine (shapeOf_wrong (unhide Hg) (unhide Hp) _).mono ?_
      rintro e w1 ⟨rfl, hb⟩
      have B1 := hide (((Below.refl w.heap.size w).alloc (Nat.le_refl _) _).trans (hb.mono (by simp)))
      clear hb
      go_wp2_with fail
      refine (wrongIs_any _).mono ?_
      rintro e w2 ⟨rfl, hb⟩
      have B2 := hide ((unhide B1).trans (hb.mono (unhide B1).size))
      clear hb
      go_wp2_with fail
      go_ret
      exact ⟨rfl, unhide B2⟩
    · rw [show (false || true) = true from rfl]
      have Hg := hide hg
      have Hp := hide hp
      clear hg hp
      go_enter Tryz.func153, Tryz.ntmps153
      go_wp2_with fail
      refine (shapeOf_pres (unhide Hg) (unhide Hp) _).mono ?_
      rintro e w1 ⟨rfl, hb⟩
      have B1 := hide (((Below.refl w.heap.size w).alloc (Nat.le_refl _) _).trans (hb.mono (by simp)))
      clear hb
      go_wp2_with fail
      refine (presIs_any _ _ _ _ _ _ _ _ _ _ _ _).mono ?_
      rintro e w2 ⟨rfl, hb⟩
      have B2 := hide ((unhide B1).trans (hb.mono (unhide B1).size))
      clear hb
      go_wp2_with fail
      go_ret
      exact ⟨rfl, unhide B2⟩
  · rw [Bool.true_or]
    cases goneB_of hg
    clear hg
    go_enter Tryz.func153, Tryz.ntmps153
    go_wp2_with fail
    refine (shapeOf_gone _).mono ?_
    rintro e w1 ⟨rfl, hb⟩
    have B1 := hide (((Below.refl w.heap.size w).alloc (Nat.le_refl _) _).trans (hb.mono (by simp)))
    clear hb
    go_wp2_with fail
    refine (goneIs_any _).mono ?_
    rintro e w2 ⟨rfl, hb⟩
    have B2 := hide ((unhide B1).trans (hb.mono (unhide B1).size))
    clear hb
    go_wp2_with fail
    go_ret
    exact ⟨rfl, unhide B2⟩

end Go.Proofs.YtnponpamjddpjabGreat

