/- What the proof rests on, part 21: lists and numbers, how they lie in memory, and contracts of the calls. No condition but those that a theorem names. -/
import Derived.Test.YtmhagllddhjgmaaGreatXw01
import Derived.Test.YtmhagllddhjgmaaGreatXw02
import Derived.Test.YtmhagllddhjgmaaGreatXw03
import Derived.Test.YtmhagllddhjgmaaGreatXw04
import Derived.Test.YtmhagllddhjgmaaGreatXw07
import Derived.Test.YtmhagllddhjgmaaGreatXw08
import Derived.Maps.AppendAt
import Derived.WalkKit
import Derived.ProofKit
import Derived.OpenShut
import Derived.Outline
import Derived.Lib.QuietBelow
import Derived.Deep.RegionWith
import Derived.Deep.QuietTactic
import Derived.BigQuiet
import Derived.Laws.OwnMore
import Derived.OwnWalk
import Derived.Lib.SmallJoins
import Derived.Deep.Fields
import Derived.Deep.Slices
/- What the program asks of a smithy, as plain lists; and that it is what the model asks. Lists and numbers alone; no condition but those that a theorem names. -/
namespace Go.Proofs.YtmhagllddhjgmaaGreat
open Go.ChangeShapes Go.WideShapes Go.ChangeAt Go.RowKit Go.Sort
set_option linter.unusedVariables false

/-- Of the first k, the places where it is so. -/
def whereTo {α : Type} [Inhabited α] (p : α → Bool) (xs : List α) : Nat → List Int
  | 0 => []
  | k + 1 => if p (recAt xs k) then whereTo p xs k ++ [(k : Int)] else whereTo p xs k
theorem whereTo_yes {α : Type} [Inhabited α] {p : α → Bool} {xs : List α} {k : Nat} (h : p (recAt xs k) = true) : whereTo p xs (k + 1) = whereTo p xs k ++ [(k : Int)] := by rw [whereTo, if_pos h]
theorem whereTo_no {α : Type} [Inhabited α] {p : α → Bool} {xs : List α} {k : Nat} (h : p (recAt xs k) = false) : whereTo p xs (k + 1) = whereTo p xs k := by rw [whereTo, if_neg (by simp [h])]
theorem whereTo_len {α : Type} [Inhabited α] (p : α → Bool) (xs : List α) : ∀ k, (whereTo p xs k).length ≤ k
  | 0 => Nat.le_refl _
  | k + 1 => by
    have := whereTo_len p xs k
    unfold whereTo
    split
    · simp; omega
    · omega
theorem whereTo_mem {α : Type} [Inhabited α] (p : α → Bool) (xs : List α) (x : Int) : ∀ k, x ∈ whereTo p xs k ↔ ∃ i : Nat, i < k ∧ x = (i : Int) ∧ p (recAt xs i) = true
  | 0 => by simp [whereTo]
  | k + 1 => by
    have ih := whereTo_mem p xs x k
    cases h : p (recAt xs k)
    · rw [whereTo_no h, ih]
      constructor
      · rintro ⟨i, hi, h1, h2⟩
        exact ⟨i, by omega, h1, h2⟩
      · rintro ⟨i, hi, h1, h2⟩
        by_cases hik : i = k
        · subst hik; rw [h] at h2; cases h2
        · exact ⟨i, by omega, h1, h2⟩
    · rw [whereTo_yes h, List.mem_append, ih]
      constructor
      · rintro (⟨i, hi, h1, h2⟩ | h1)
        · exact ⟨i, by omega, h1, h2⟩
        · exact ⟨k, by omega, by simpa using h1, h⟩
      · rintro ⟨i, hi, h1, h2⟩
        by_cases hik : i = k
        · subst hik; right; simp [h1]
        · exact .inl ⟨i, by omega, h1, h2⟩
theorem whereTo_any {α : Type} [Inhabited α] (p : α → Bool) (xs : List α) : ∀ k, decide (0 < (whereTo p xs k).length) = (List.range k).any fun j => p (recAt xs j)
  | 0 => rfl
  | k + 1 => by
    have ih := whereTo_any p xs k
    rw [any_up, ← ih]
    cases h : p (recAt xs k)
    · rw [whereTo_no h]; simp
    · rw [whereTo_yes h]; simp
def allTo {α : Type} [Inhabited α] (p : α → Bool) (xs : List α) (k : Nat) : Bool := (List.range k).all fun j => p (recAt xs j)
theorem allTo_no {α : Type} [Inhabited α] {p : α → Bool} {xs : List α} {k n : Nat} (hk : k < n) (h : p (recAt xs k) = false) : allTo p xs n = false := all_no (p := fun j => p (recAt xs j)) hk h
theorem allTo_up {α : Type} [Inhabited α] {p : α → Bool} {xs : List α} {k : Nat} (h : allTo p xs k = true) (h2 : p (recAt xs k) = true) : allTo p xs (k + 1) = true := by unfold allTo at h ⊢; rw [all_up, h, h2]; rfl
theorem allTo_and {α : Type} [Inhabited α] (p q : α → Bool) (xs : List α) : ∀ k, (allTo p xs k && allTo q xs k) = allTo (fun x => p x && q x) xs k
  | 0 => rfl
  | k + 1 => by
    have ih := allTo_and p q xs k
    unfold allTo at ih ⊢
    rw [all_up, all_up, all_up, ← ih]
    generalize ((List.range k).all fun j => p (recAt xs j)) = a
    generalize ((List.range k).all fun j => q (recAt xs j)) = b
    cases a <;> cases b <;> cases hp : p (recAt xs k) <;> cases hq : q (recAt xs k) <;> simp [hp, hq]
theorem allTo_congr {α : Type} [Inhabited α] {p q : α → Bool} (xs : List α) (h : ∀ x, p x = q x) (k : Nat) : allTo p xs k = allTo q xs k := by unfold allTo; congr 1; funext j; exact h _

def hasB (n : Nat) (i : Int) : Bool := decide (0 ≤ i) && decide (i < n)
def atB (b : Int) (s : SmithV) : Bool := (s.1 == 2 || s.1 == 3) && s.2.1 == b
def worksB (b : Int) (s : SmithV) : Bool := s.1 == 3 && s.2.1 == b
def thereB (n : Nat) (s : SmithV) : Bool := s.1 == 0 || (s.2.2.2.2.1 == -1 || hasB n s.2.2.2.2.1)
def placeB (ds : List DeskV) (s : SmithV) : Bool := s.1 == 0 || (hasB ds.length s.2.1 && (s.1 == 1 || ((recAt ds s.2.1.toNat).1 && (memB s.2.2.2.1 s.2.1 && inBandB s.2.2.2.2.2.2.2.1 (recAt ds s.2.1.toNat).2.2))))
def smithsIB (ss : List SmithV) (n : Nat) : Bool := decide (ss.length ≤ 12) && (allTo smithB ss ss.length && allTo (thereB n) ss ss.length)
def desksIB (ds : List DeskV) (n : Int) : Bool := decide ((ds.length : Int) = n) && (allTo deskB ds ds.length && decide (0 < (whereTo (fun d : DeskV => d.1) ds ds.length).length))
def pacesIB (ps : List Int) (rs : List RoomV) : Bool := decide (ps.length = rs.length) && (List.range ps.length).all fun j => hasB (roomAt rs j).2.length (recAt ps j)
def partsIB (m : SmyV) : Bool := hallB m.rooms && (guildsB m.guilds && (smithsIB m.smiths m.guilds.length && (desksIB m.desks (benchSum m.rooms) && (pacesIB m.paces m.rooms && inB m.now 0 1000000))))
def inPlaceIB (m : SmyV) : Bool := partsIB m && allTo (placeB m.desks) m.smiths m.smiths.length
def turnIB (m : SmyV) (b : Nat) : Bool := if (recAt m.desks b).2.1 = -1 then decide ((whereTo (atB b) m.smiths m.smiths.length).length = 0) else decide ((whereTo (worksB b) m.smiths m.smiths.length).length = 1) && decide (recAt (whereTo (worksB b) m.smiths m.smiths.length) 0 = (recAt m.desks b).2.1)
def turnsIB (m : SmyV) : Bool := (List.range m.desks.length).all (turnIB m)
def smyIB (m : SmyV) : Bool := inPlaceIB m && turnsIB m

theorem band_same (h m : Int) : inBandB h m = bandB h m := by
  unfold inBandB bandB hadB
  rw [Bool.and_assoc]
theorem one_same (m : SmyV) (s : SmithV) : (smithB s && (thereB m.guilds.length s && placeB m.desks s)) = (hereB m s && seatB m s) := by
  cases hs : smithB s
  · unfold hereB; rw [hs]; rfl
  · have hh : hereB m s = (s.1 == 0 || (decide (s.2.2.2.2.1 < m.guilds.length) && decide (s.2.1 < m.desks.length))) := by unfold hereB; rw [hs]; rfl
    rw [hh, Bool.true_and]
    unfold smithB at hs
    simp only [Bool.or_eq_true] at hs
    rcases hs with hg | hp
    · have e := goneB_of hg
      subst e
      rfl
    · obtain ⟨st, be, rk, my, gu, lo, hi, hd, ca, ut, wk⟩ := s
      obtain ⟨⟨s1, s2⟩, ⟨b1, b2⟩, _, ⟨m1, m2⟩, ⟨g1, g2⟩, _⟩ := presB_of hp
      have hmem : memB my be = bitB my be := memB_t (inB_t (by omega) (by omega)) (inB_t (by omega) (by omega))
      have hst0 : (st == 0) = false := by simp; omega
      have hgu : (gu == -1 || hasB m.guilds.length gu) = decide (gu < m.guilds.length) := by
        unfold hasB
        by_cases e : gu = -1
        · subst e; simp; omega
        · have : (gu == -1) = false := by simpa using e
          rw [this, Bool.false_or, show decide (0 ≤ gu) = true from decide_eq_true (by omega), Bool.true_and]
      have hbe : hasB m.desks.length be = decide (be < m.desks.length) := by
        unfold hasB
        rw [show decide (0 ≤ be) = true from decide_eq_true (by omega), Bool.true_and]
      have hpr : presS (st, be, rk, my, gu, lo, hi, hd, ca, ut, wk) = !(st == 1) := by
        unfold presS
        rcases (by omega : st = 1 ∨ st = 2 ∨ st = 3) with e | e | e <;> subst e <;> rfl
      unfold thereB placeB seatB
      simp only
      rw [hst0, hgu, hbe, hpr, hmem, band_same, Bool.not_not]
      simp only [Bool.false_or, Bool.and_assoc]
theorem scan_same (ss : List SmithV) (b : Int) : ∀ k : Nat,
    (match scanV ss b k with
      | none => 2 ≤ (whereTo (worksB b) ss k).length
      | some (wk, wt) => ((wk = -1 ∧ whereTo (worksB b) ss k = []) ∨ (0 ≤ wk ∧ whereTo (worksB b) ss k = [wk])) ∧ ((whereTo (atB b) ss k = []) ↔ (whereTo (worksB b) ss k = [] ∧ wt = false)))
  | 0 => by simp [scanV, whereTo]
  | k + 1 => by
    have ih := scan_same ss b k
    unfold scanV
    cases hsc : scanV ss b k with
    | none =>
      rw [hsc] at ih
      simp only at ih ⊢
      unfold whereTo
      split
      · simp; omega
      · exact ih
    | some r =>
      obtain ⟨wk, wt⟩ := r
      rw [hsc] at ih
      simp only at ih ⊢
      by_cases hat : (recAt ss k).2.1 = b ∧ presS (recAt ss k) = true
      · rw [if_pos hat]
        have hA : atB b (recAt ss k) = true := by
          have h2 := hat.2
          unfold presS at h2
          unfold atB
          rw [h2, hat.1]; simp
        by_cases h2 : (recAt ss k).1 = 2
        · rw [if_pos h2]
          have hW : worksB b (recAt ss k) = false := by unfold worksB; rw [h2]; rfl
          rw [whereTo_no hW, whereTo_yes hA]
          exact ⟨ih.1, by simp⟩
        · rw [if_neg h2]
          have h3 : (recAt ss k).1 = 3 := by
            have := hat.2
            unfold presS at this
            simp only [Bool.or_eq_true, beq_iff_eq] at this
            omega
          have hW : worksB b (recAt ss k) = true := by unfold worksB; rw [h3, hat.1]; simp
          rw [whereTo_yes hW, whereTo_yes hA]
          by_cases hwk : 0 ≤ wk
          · rw [if_pos hwk]
            rcases ih.1 with ⟨e, _⟩ | ⟨_, e⟩
            · omega
            · simp only
              rw [e]; simp
          · rw [if_neg hwk]
            rcases ih.1 with ⟨_, e⟩ | ⟨e, _⟩
            · simp only
              rw [e]; simp
            · omega
      · rw [if_neg hat]
        have hA : atB b (recAt ss k) = false := by
          cases hc : atB b (recAt ss k)
          · rfl
          · exfalso
            apply hat
            unfold atB at hc
            simp only [Bool.and_eq_true, beq_iff_eq] at hc
            exact ⟨hc.2, by unfold presS; exact hc.1⟩
        have hW : worksB b (recAt ss k) = false := by
          cases hc : worksB b (recAt ss k)
          · rfl
          · exfalso
            apply hat
            unfold worksB at hc
            simp only [Bool.and_eq_true, beq_iff_eq] at hc
            exact ⟨hc.2, by unfold presS; rw [hc.1]; rfl⟩
        rw [whereTo_no hW, whereTo_no hA]
        exact ih
theorem turn_same (m : SmyV) (b : Nat) : turnIB m b = benchOkB m b := by
  have h := scan_same m.smiths b m.smiths.length
  unfold turnIB benchOkB
  cases hsc : scanV m.smiths b m.smiths.length with
  | none =>
    rw [hsc] at h
    simp only at h ⊢
    split
    · have : whereTo (atB b) m.smiths m.smiths.length ≠ [] := by
        intro e
        have hx : recAt (whereTo (worksB b) m.smiths m.smiths.length) 0 ∈ whereTo (worksB b) m.smiths m.smiths.length := recAt_mem (by omega)
        obtain ⟨i, hi, _, hw⟩ := (whereTo_mem _ _ _ _).1 hx
        have : (i : Int) ∈ whereTo (atB b) m.smiths m.smiths.length := (whereTo_mem _ _ _ _).2 ⟨i, hi, rfl, by
          unfold worksB at hw
          simp only [Bool.and_eq_true, beq_iff_eq] at hw
          unfold atB
          rw [hw.1, hw.2]; simp⟩
        rw [e] at this
        cases this
      simp only [List.length_eq_zero_iff, this, decide_false]
    · rw [show decide ((whereTo (worksB b) m.smiths m.smiths.length).length = 1) = false from decide_eq_false (by omega), Bool.false_and]
  | some r =>
    obtain ⟨wk, wt⟩ := r
    rw [hsc] at h
    simp only at h ⊢
    obtain ⟨h1, h2⟩ := h
    generalize whereTo (worksB b) m.smiths m.smiths.length = ws at *
    generalize whereTo (atB b) m.smiths m.smiths.length = az at *
    generalize (recAt m.desks b).2.1 = who at *
    by_cases hw : who = -1
    · subst hw
      simp only [if_true, List.length_eq_zero_iff]
      rcases h1 with ⟨rfl, rfl⟩ | ⟨hk, rfl⟩
      · cases wt
        · simp at h2; simp [h2]
        · simp at h2; simp [h2]
      · have hne : az ≠ [] := by
          intro e
          have := (h2.1 e).1
          cases this
        have : ((-1 : Int) == wk) = false := by simp; omega
        rw [this]
        simp [hne]
    · rw [if_neg hw]
      rcases h1 with ⟨rfl, rfl⟩ | ⟨hk, rfl⟩
      · have : (who == -1) = false := by simpa using hw
        rw [this]; simp
      · have h0 : decide (wk < 0) = false := decide_eq_false (by omega)
        rw [h0, Bool.and_false, Bool.not_false, Bool.and_true]
        simp only [List.length_cons, List.length_nil, decide_true, Bool.true_and]
        show decide (wk = who) = (who == wk)
        by_cases e : wk = who
        · subst e; simp
        · rw [decide_eq_false e]; symm; simp; omega
theorem has_in (n : Nat) (i : Int) : hasB n i = inB i 0 ((n : Int) - 1) := by
  unfold hasB inB
  by_cases h0 : 0 ≤ i <;> by_cases h1 : i < n
  · rw [decide_eq_true h0, decide_eq_true h1, decide_eq_true (show 0 ≤ i ∧ i ≤ (n : Int) - 1 by omega)]; rfl
  · rw [decide_eq_true h0, decide_eq_false h1, decide_eq_false (show ¬ (0 ≤ i ∧ i ≤ (n : Int) - 1) by omega)]; rfl
  · rw [decide_eq_false h0, decide_eq_false (show ¬ (0 ≤ i ∧ i ≤ (n : Int) - 1) by omega)]; rfl
  · rw [decide_eq_false h0, decide_eq_false (show ¬ (0 ≤ i ∧ i ≤ (n : Int) - 1) by omega)]; rfl
theorem loose_same (m : SmyV) : inPlaceIB m = looseB m := by
  have e1 : upSmiths m m.smiths.length = (allTo smithB m.smiths m.smiths.length && (allTo (thereB m.guilds.length) m.smiths m.smiths.length && allTo (placeB m.desks) m.smiths m.smiths.length)) := by
    rw [allTo_and, allTo_and]
    exact (allTo_congr m.smiths (one_same m) m.smiths.length).symm
  have e2 : pacesIB m.paces m.rooms = (decide (m.paces.length = m.rooms.length) && upPaces m m.paces.length) := by
    unfold pacesIB upPaces
    congr 2
    funext j
    unfold paceInB
    exact has_in _ _
  have e3 : decide (0 < (whereTo (fun d : DeskV => d.1) m.desks m.desks.length).length) = upOpen m m.desks.length := whereTo_any _ _ _
  unfold inPlaceIB partsIB looseB headB smithsIB desksIB
  rw [e1, e2, e3]
  have e4 : allTo deskB m.desks m.desks.length = upDesks m m.desks.length := rfl
  rw [e4]
  generalize hallB m.rooms = x1
  generalize guildsB m.guilds = x2
  generalize decide (m.smiths.length ≤ 12) = x3
  generalize allTo smithB m.smiths m.smiths.length = x4
  generalize allTo (thereB m.guilds.length) m.smiths m.smiths.length = x5
  generalize decide ((m.desks.length : Int) = benchSum m.rooms) = x6
  generalize upDesks m m.desks.length = x7
  generalize upOpen m m.desks.length = x8
  generalize decide (m.paces.length = m.rooms.length) = x9
  generalize upPaces m m.paces.length = x10
  generalize inB m.now 0 1000000 = x11
  generalize allTo (placeB m.desks) m.smiths m.smiths.length = x12
  rw [Bool.eq_iff_iff]
  simp only [Bool.and_eq_true]
  constructor
  · rintro ⟨⟨a1, a2, ⟨a3, a4, a5⟩, ⟨a6, a7, a8⟩, ⟨a9, a10⟩, a11⟩, a12⟩
    exact ⟨⟨a1, a2, a3, a6, a9, a11⟩, a7, a10, ⟨a4, a5, a12⟩, a8⟩
  · rintro ⟨⟨a1, a2, a3, a6, a9, a11⟩, a7, a10, ⟨a4, a5, a12⟩, a8⟩
    exact ⟨⟨a1, a2, ⟨a3, a4, a5⟩, ⟨a6, a7, a8⟩, ⟨a9, a10⟩, a11⟩, a12⟩
theorem smy_same (m : SmyV) : smyIB m = smyB m := by
  unfold smyIB smyB turnsIB
  rw [loose_same, show turnIB m = benchOkB m from funext (turn_same m)]

/-! ### The program's queue -/
end Go.Proofs.YtmhagllddhjgmaaGreat

/- The members of a set, as a list; the model's Members and FirstOf. No condition. -/
namespace Go.Proofs.YtmhagllddhjgmaaGreat
open Go.ChangeShapes Go.WideShapes Go.ChangeAt Go.RowKit
set_option linter.unusedVariables false

/-- The benches below k that are in the set s, in their order. -/
def upto (s : Int) : Nat → List Int
  | 0 => []
  | k + 1 => if memB s k = true then upto s k ++ [(k : Int)] else upto s k
def mems (s : Int) : List Int := upto s 8
def firstMV (s : Int) : Int := (mems s).headD (-1)
theorem upto_hit {s : Int} {k : Nat} (h : memB s k = true) : upto s (k + 1) = upto s k ++ [(k : Int)] := by simp [upto, h]
theorem upto_miss {s : Int} {k : Nat} (h : memB s k = false) : upto s (k + 1) = upto s k := by simp [upto, h]
theorem upto_len (s : Int) : ∀ k, (upto s k).length ≤ k
  | 0 => by simp [upto]
  | k + 1 => by
    have := upto_len s k
    cases h : memB s k
    · rw [upto_miss h]; omega
    · rw [upto_hit h]; simp; omega
theorem upto_none {s : Int} (h : inB s 0 255 = false) : ∀ k, upto s k = []
  | 0 => rfl
  | k + 1 => by rw [upto_miss (memB_f (.inl h))]; exact upto_none h k
theorem upto_pre (s : Int) : ∀ k, k ≤ 8 → upto s k <+: mems s := by
  have step : ∀ k, upto s k <+: upto s (k + 1) := fun k => by
    cases h : memB s k
    · rw [upto_miss h]; exact List.prefix_refl _
    · rw [upto_hit h]; exact List.prefix_append _ _
  have go : ∀ d k, upto s k <+: upto s (k + d) := by
    intro d
    induction d with
    | zero => intro k; exact List.prefix_refl _
    | succ d ih => intro k; exact (ih k).trans (step (k + d))
  intro k hk
  have := go (8 - k) k
  rwa [show k + (8 - k) = 8 by omega] at this
end Go.Proofs.YtmhagllddhjgmaaGreat

