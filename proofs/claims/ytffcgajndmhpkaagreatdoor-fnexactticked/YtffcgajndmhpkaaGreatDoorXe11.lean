/- Part 11 of what the proof rests on. No condition but those that a theorem names. -/
import Derived.Test.YtffcgajndmhpkaaGreatDoorXe05
import Derived.Test.YtffcgajndmhpkaaGreatDoorXe10
import Derived.ChangeKeysEq
set_option maxHeartbeats 8000000
set_option maxRecDepth 100000
namespace Go.Proofs.YtffcgajndmhpkaaGreatDoor
open Go.ChangeShapes Go.WideShapes Go.ChangeAt Go.RowKit Go.Sort
set_option linter.unusedVariables false
theorem l4Room_any {w : World} {v : Value} {rs : List RoomV} (n : Int) (h : IsRooms w v rs) (hbn : isBench rs n = true) :
  Calls Tryz.prog 41 #[.agg #[v], .int .i64 n] w fun e w' => e = .returned (.int .i64 (roomN rs n)) ∧ Below w.heap.size w w' := by
 obtain ⟨a, cap, rfl, hc, hm, hr⟩ := h
 have Hr := hide hr
 have H := hide hbn
 have hh := (isBench_of hbn).1
 have hn0 := (isBench_of hbn).2.1
 have hn1 : n < 12 := by have h1 := (isBench_of hbn).2.2; have := (hallB_of hh).2.2.2; omega
 have Hh := hide hh
 have hl3 : rs.length ≤ 3 := (hallB_of hh).2.1
 clear hr hbn hh
 go_enter Tryz.func41, Tryz.ntmps41
 go_wp2_with fail
 go_loop [1, 5] (fun q i => ∃ r : Nat, r ≤ rs.length ∧ i = .int .i64 r ∧ q = .int .i64 (n - benchSum (rs.take r)) ∧ (∀ j, j < r → benchSum (rs.take (j + 1)) ≤ n)) (fun _ i => rs.length - (intOf i).toNat)
 case atStart => exact ⟨0, Nat.zero_le _, rfl, by simp [benchSum], fun j hj => by omega⟩
 case round =>
  obtain ⟨r, hr, rfl, rfl, hl⟩ := hrel
  have hlt := room_more (uh H) hr hl
  rcases uh Hr with e0 | ⟨b, off, rfl, hbw, hcl⟩
  ·rw [e0] at hlt; simp at hlt
  obtain ⟨c0, pv, c1, hip⟩ := hcl r hlt
  have hne : b ≠ w.heap.size := Nat.ne_of_lt hbw
  have Hl := hide hl
  have hb0 := benches_hall (uh Hh) r hr
  have hb1 := benches_hall (uh Hh) (r + 1) hlt
  have Hs := hide (benchSum_take rs hlt)
  have HN : Hid (n < benchSum (rs.take (r + 1)) → roomN rs n = r) := hide (fun hx => roomN_eq hlt hx (uh Hl))
  have HM : Hid (benchSum (rs.take (r + 1)) ≤ n → ∀ j, j < r + 1 → benchSum (rs.take (j + 1)) ≤ n) := hide (fun hx => next_all (uh Hl) hx)
  rw [benchSum_take rs hlt] at hb1 HN HM
  generalize benchSum (rs.take r) = s at *
  generalize (roomAt rs r).1 = rb at *
  clear hcl hip hl
  by_cases hq : rb ≤ n - s
  ·go_wp2_with fail
   go_round
   case rel => exact ⟨r + 1, by omega, by go_num, by rw [uh Hs]; congr 1; omega, uh HM (by omega)⟩
   case measure => exact ms
  ·go_wp2_with fail
   go_ret
   exact ⟨ret_int (by rw [uh HN (by omega)]), (ba _ _)⟩
open Go.ChangeShapes Go.WideShapes Go.ChangeAt Go.RowKit
def upto (s : Int) : Nat → List Int
 | 0 => []
 | k + 1 => if memB s k = true then upto s k ++ [(k : Int)] else upto s k
def mems (s : Int) : List Int := upto s 8
def firstMV (s : Int) : Int := (mems s).headD (-1)
theorem upto_hit {s : Int} {k : Nat} (h : memB s k = true) : upto s (k + 1) = upto s k ++ [(k : Int)] := by simp [upto, h]
theorem upto_miss {s : Int} {k : Nat} (h : memB s k = false) : upto s (k + 1) = upto s k := by simp [upto, h]
theorem upto_len (s : Int) : ∀ k, (upto s k).length ≤ k
 | 0 => by simp [upto]
 | k + 1 => by
  have := upto_len s k
  cases h : memB s k
  ·rw [upto_miss h]; omega
  ·rw [upto_hit h]; simp; omega
theorem upto_none {s : Int} (h : inB s 0 255 = false) : ∀ k, upto s k = []
 | 0 => rfl
 | k + 1 => by rw [upto_miss (memB_f (.inl h))]; exact upto_none h k
theorem upto_pre (s : Int) : ∀ k, k ≤ 8 → upto s k <+: mems s := by
 have step : ∀ k, upto s k <+: upto s (k + 1) := fun k => by
  cases h : memB s k
  ·rw [upto_miss h]; exact List.prefix_refl _
  ·rw [upto_hit h]; exact List.prefix_append _ _
 have go : ∀ d k, upto s k <+: upto s (k + d) := by
  intro d
  induction d with
  | zero => intro k; exact List.prefix_refl _
  | succ d ih => intro k; exact (ih k).trans (step (k + d))
 intro k hk
 have := go (8 - k) k
 rwa [show k + (8 - k) = 8 by omega] at this
def whereTo {α : Type} [Inhabited α] (p : α → Bool) (xs : List α) : Nat → List Int
 | 0 => []
 | k + 1 => if p (recAt xs k) then whereTo p xs k ++ [(k : Int)] else whereTo p xs k
theorem whereTo_yes {α : Type} [Inhabited α] {p : α → Bool} {xs : List α} {k : Nat} (h : p (recAt xs k) = true) : whereTo p xs (k + 1) = whereTo p xs k ++ [(k : Int)] := by rw [whereTo, if_pos h]
theorem whereTo_no {α : Type} [Inhabited α] {p : α → Bool} {xs : List α} {k : Nat} (h : p (recAt xs k) = false) : whereTo p xs (k + 1) = whereTo p xs k := by rw [whereTo, if_neg (by simp [h])]
theorem whereTo_len {α : Type} [Inhabited α] (p : α → Bool) (xs : List α) : ∀ k, (whereTo p xs k).length ≤ k
 | 0 => Nat.le_refl _
 | k + 1 => by
  have := whereTo_len p xs k
  unfold whereTo
  split
  ·simp; omega
  ·omega
theorem whereTo_mem {α : Type} [Inhabited α] (p : α → Bool) (xs : List α) (x : Int) : ∀ k, x ∈ whereTo p xs k ↔ ∃ i : Nat, i < k ∧ x = (i : Int) ∧ p (recAt xs i) = true
 | 0 => by simp [whereTo]
 | k + 1 => by
  have ih := whereTo_mem p xs x k
  cases h : p (recAt xs k)
  ·rw [whereTo_no h, ih]
   constructor
   ·rintro ⟨i, hi, h1, h2⟩
    exact ⟨i, by omega, h1, h2⟩
   ·rintro ⟨i, hi, h1, h2⟩
    by_cases hik : i = k
    ·subst hik; rw [h] at h2; cases h2
    ·exact ⟨i, by omega, h1, h2⟩
  ·rw [whereTo_yes h, List.mem_append, ih]
   constructor
   ·rintro (⟨i, hi, h1, h2⟩ | h1)
    ·exact ⟨i, by omega, h1, h2⟩
    ·exact ⟨k, by omega, by simpa using h1, h⟩
   ·rintro ⟨i, hi, h1, h2⟩
    by_cases hik : i = k
    ·subst hik; right; simp [h1]
    ·exact .inl ⟨i, by omega, h1, h2⟩
theorem whereTo_any {α : Type} [Inhabited α] (p : α → Bool) (xs : List α) : ∀ k, decide (0 < (whereTo p xs k).length) = (List.range k).any fun j => p (recAt xs j)
 | 0 => rfl
 | k + 1 => by
  have ih := whereTo_any p xs k
  rw [any_up, ← ih]
  cases h : p (recAt xs k)
  ·rw [whereTo_no h]; simp
  ·rw [whereTo_yes h]; simp
def allTo {α : Type} [Inhabited α] (p : α → Bool) (xs : List α) (k : Nat) : Bool := (List.range k).all fun j => p (recAt xs j)
theorem allTo_no {α : Type} [Inhabited α] {p : α → Bool} {xs : List α} {k n : Nat} (hk : k < n) (h : p (recAt xs k) = false) : allTo p xs n = false := all_no (p := fun j => p (recAt xs j)) hk h
theorem allTo_up {α : Type} [Inhabited α] {p : α → Bool} {xs : List α} {k : Nat} (h : allTo p xs k = true) (h2 : p (recAt xs k) = true) : allTo p xs (k + 1) = true := by unfold allTo at h ⊢; rw [all_up, h, h2]; rfl
theorem allTo_and {α : Type} [Inhabited α] (p q : α → Bool) (xs : List α) : ∀ k, (allTo p xs k && allTo q xs k) = allTo (fun x => p x && q x) xs k
 | 0 => rfl
 | k + 1 => by
  have ih := allTo_and p q xs k
  unfold allTo at ih ⊢
  rw [all_up, all_up, all_up, ← ih]
  generalize ((List.range k).all fun j => p (recAt xs j)) = a
  generalize ((List.range k).all fun j => q (recAt xs j)) = b
  cases a <;> cases b <;> cases hp : p (recAt xs k) <;> cases hq : q (recAt xs k) <;> simp [hp, hq]
theorem allTo_congr {α : Type} [Inhabited α] {p q : α → Bool} (xs : List α) (h : ∀ x, p x = q x) (k : Nat) : allTo p xs k = allTo q xs k := by unfold allTo; congr 1; funext j; exact h _
def hasB (n : Nat) (i : Int) : Bool := decide (0 ≤ i) && decide (i < n)
def atB (b : Int) (s : SmithV) : Bool := (s.1 == 2 || s.1 == 3) && s.2.1 == b
def worksB (b : Int) (s : SmithV) : Bool := s.1 == 3 && s.2.1 == b
def thereB (n : Nat) (s : SmithV) : Bool := s.1 == 0 || (s.2.2.2.2.1 == -1 || hasB n s.2.2.2.2.1)
def placeB (ds : List DeskV) (s : SmithV) : Bool := s.1 == 0 || (hasB ds.length s.2.1 && (s.1 == 1 || ((recAt ds s.2.1.toNat).1 && (memB s.2.2.2.1 s.2.1 && inBandB s.2.2.2.2.2.2.2.1 (recAt ds s.2.1.toNat).2.2))))
def smithsIB (ss : List SmithV) (n : Nat) : Bool := decide (ss.length ≤ 12) && (allTo smithB ss ss.length && allTo (thereB n) ss ss.length)
def desksIB (ds : List DeskV) (n : Int) : Bool := decide ((ds.length : Int) = n) && (allTo deskB ds ds.length && decide (0 < (whereTo (fun d : DeskV => d.1) ds ds.length).length))
def pacesIB (ps : List Int) (rs : List RoomV) : Bool := decide (ps.length = rs.length) && (List.range ps.length).all fun j => hasB (roomAt rs j).2.length (recAt ps j)
def partsIB (m : SmyV) : Bool := hallB m.rooms && (guildsB m.guilds && (smithsIB m.smiths m.guilds.length && (desksIB m.desks (benchSum m.rooms) && (pacesIB m.paces m.rooms && inB m.now 0 1000000))))
def inPlaceIB (m : SmyV) : Bool := partsIB m && allTo (placeB m.desks) m.smiths m.smiths.length
def turnIB (m : SmyV) (b : Nat) : Bool := if (recAt m.desks b).2.1 = -1 then decide ((whereTo (atB b) m.smiths m.smiths.length).length = 0) else decide ((whereTo (worksB b) m.smiths m.smiths.length).length = 1) && decide (recAt (whereTo (worksB b) m.smiths m.smiths.length) 0 = (recAt m.desks b).2.1)
def turnsIB (m : SmyV) : Bool := (List.range m.desks.length).all (turnIB m)
def smyIB (m : SmyV) : Bool := inPlaceIB m && turnsIB m
theorem band_same (h m : Int) : inBandB h m = bandB h m := by
 unfold inBandB bandB hadB
 rw [Bool.and_assoc]
theorem one_same (m : SmyV) (s : SmithV) : (smithB s && (thereB m.guilds.length s && placeB m.desks s)) = (hereB m s && seatB m s) := by
 cases hs : smithB s
 ·unfold hereB; rw [hs]; rfl
 ·have hh : hereB m s = (s.1 == 0 || (decide (s.2.2.2.2.1 < m.guilds.length) && decide (s.2.1 < m.desks.length))) := by unfold hereB; rw [hs]; rfl
  rw [hh, Bool.true_and]
  unfold smithB at hs
  simp only [Bool.or_eq_true] at hs
  rcases hs with hg | hp
  ·have e := goneB_of hg
   subst e
   rfl
  ·obtain ⟨st, be, rk, my, gu, lo, hi, hd, ca, ut, wk⟩ := s
   obtain ⟨⟨s1, s2⟩, ⟨b1, b2⟩, _, ⟨m1, m2⟩, ⟨g1, g2⟩, _⟩ := presB_of hp
   have hmem : memB my be = bitB my be := memB_t (inB_t (by omega) (by omega)) (inB_t (by omega) (by omega))
   have hst0 : (st == 0) = false := by simp; omega
   have hgu : (gu == -1 || hasB m.guilds.length gu) = decide (gu < m.guilds.length) := by
    unfold hasB
    by_cases e : gu = -1
    ·subst e; simp; omega
    ·have : (gu == -1) = false := by simpa using e
     rw [this, Bool.false_or, show decide (0 ≤ gu) = true from decide_eq_true (by omega), Bool.true_and]
   have hbe : hasB m.desks.length be = decide (be < m.desks.length) := by
    unfold hasB
    rw [show decide (0 ≤ be) = true from decide_eq_true (by omega), Bool.true_and]
   have hpr : presS (st, be, rk, my, gu, lo, hi, hd, ca, ut, wk) = !(st == 1) := by
    unfold presS
    rcases (by omega : st = 1 ∨ st = 2 ∨ st = 3) with e | e | e <;> subst e <;> rfl
   unfold thereB placeB seatB
   simp only
   rw [hst0, hgu, hbe, hpr, hmem, band_same, Bool.not_not]
   simp only [Bool.false_or, Bool.and_assoc]
theorem scan_same (ss : List SmithV) (b : Int) : ∀ k : Nat,
  (match scanV ss b k with
   | none => 2 ≤ (whereTo (worksB b) ss k).length
   | some (wk, wt) => ((wk = -1 ∧ whereTo (worksB b) ss k = []) ∨ (0 ≤ wk ∧ whereTo (worksB b) ss k = [wk])) ∧ ((whereTo (atB b) ss k = []) ↔ (whereTo (worksB b) ss k = [] ∧ wt = false)))
 | 0 => by simp [scanV, whereTo]
 | k + 1 => by
  have ih := scan_same ss b k
  unfold scanV
  cases hsc : scanV ss b k with
  | none =>
   rw [hsc] at ih
   simp only at ih ⊢
   unfold whereTo
   split
   ·simp; omega
   ·exact ih
  | some r =>
   obtain ⟨wk, wt⟩ := r
   rw [hsc] at ih
   simp only at ih ⊢
   by_cases hat : (recAt ss k).2.1 = b ∧ presS (recAt ss k) = true
   ·rw [if_pos hat]
    have hA : atB b (recAt ss k) = true := by
     have h2 := hat.2
     unfold presS at h2
     unfold atB
     rw [h2, hat.1]; simp
    by_cases h2 : (recAt ss k).1 = 2
    ·rw [if_pos h2]
     have hW : worksB b (recAt ss k) = false := by unfold worksB; rw [h2]; rfl
     rw [whereTo_no hW, whereTo_yes hA]
     exact ⟨ih.1, by simp⟩
    ·rw [if_neg h2]
     have h3 : (recAt ss k).1 = 3 := by
      have := hat.2
      unfold presS at this
      simp only [Bool.or_eq_true, beq_iff_eq] at this
      omega
     have hW : worksB b (recAt ss k) = true := by unfold worksB; rw [h3, hat.1]; simp
     rw [whereTo_yes hW, whereTo_yes hA]
     by_cases hwk : 0 ≤ wk
     ·rw [if_pos hwk]
      rcases ih.1 with ⟨e, _⟩ | ⟨_, e⟩
      ·omega
      ·simp only
       rw [e]; simp
     ·rw [if_neg hwk]
      rcases ih.1 with ⟨_, e⟩ | ⟨e, _⟩
      ·simp only
       rw [e]; simp
      ·omega
   ·rw [if_neg hat]
    have hA : atB b (recAt ss k) = false := by
     cases hc : atB b (recAt ss k)
     ·rfl
     ·exfalso
      apply hat
      unfold atB at hc
      simp only [Bool.and_eq_true, beq_iff_eq] at hc
      exact ⟨hc.2, by unfold presS; exact hc.1⟩
    have hW : worksB b (recAt ss k) = false := by
     cases hc : worksB b (recAt ss k)
     ·rfl
     ·exfalso
      apply hat
      unfold worksB at hc
      simp only [Bool.and_eq_true, beq_iff_eq] at hc
      exact ⟨hc.2, by unfold presS; rw [hc.1]; rfl⟩
    rw [whereTo_no hW, whereTo_no hA]
    exact ih
theorem turn_same (m : SmyV) (b : Nat) : turnIB m b = benchOkB m b := by
 have h := scan_same m.smiths b m.smiths.length
 unfold turnIB benchOkB
 cases hsc : scanV m.smiths b m.smiths.length with
 | none =>
  rw [hsc] at h
  simp only at h ⊢
  split
  ·have : whereTo (atB b) m.smiths m.smiths.length ≠ [] := by
    intro e
    have hx : recAt (whereTo (worksB b) m.smiths m.smiths.length) 0 ∈ whereTo (worksB b) m.smiths m.smiths.length := recAt_mem (by omega)
    obtain ⟨i, hi, _, hw⟩ := (whereTo_mem _ _ _ _).1 hx
    have : (i : Int) ∈ whereTo (atB b) m.smiths m.smiths.length := (whereTo_mem _ _ _ _).2 ⟨i, hi, rfl, by
     unfold worksB at hw
     simp only [Bool.and_eq_true, beq_iff_eq] at hw
     unfold atB
     rw [hw.1, hw.2]; simp⟩
    rw [e] at this
    cases this
   simp only [List.length_eq_zero_iff, this, decide_false]
  ·rw [show decide ((whereTo (worksB b) m.smiths m.smiths.length).length = 1) = false from decide_eq_false (by omega), Bool.false_and]
 | some r =>
  obtain ⟨wk, wt⟩ := r
  rw [hsc] at h
  simp only at h ⊢
  obtain ⟨h1, h2⟩ := h
  generalize whereTo (worksB b) m.smiths m.smiths.length = ws at *
  generalize whereTo (atB b) m.smiths m.smiths.length = az at *
  generalize (recAt m.desks b).2.1 = who at *
  by_cases hw : who = -1
  ·subst hw
   simp only [if_true, List.length_eq_zero_iff]
   rcases h1 with ⟨rfl, rfl⟩ | ⟨hk, rfl⟩
   ·cases wt
    ·simp at h2; simp [h2]
    ·simp at h2; simp [h2]
   ·have hne : az ≠ [] := by
     intro e
     have := (h2.1 e).1
     cases this
    have : ((-1 : Int) == wk) = false := by simp; omega
    rw [this]
    simp [hne]
  ·rw [if_neg hw]
   rcases h1 with ⟨rfl, rfl⟩ | ⟨hk, rfl⟩
   ·have : (who == -1) = false := by simpa using hw
    rw [this]; simp
   ·have h0 : decide (wk < 0) = false := decide_eq_false (by omega)
    rw [h0, Bool.and_false, Bool.not_false, Bool.and_true]
    simp only [List.length_cons, List.length_nil, decide_true, Bool.true_and]
    show decide (wk = who) = (who == wk)
    by_cases e : wk = who
    ·subst e; simp
    ·rw [decide_eq_false e]; symm; simp; omega
theorem has_in (n : Nat) (i : Int) : hasB n i = inB i 0 ((n : Int) - 1) := by
 unfold hasB inB
 by_cases h0 : 0 ≤ i <;> by_cases h1 : i < n
 ·rw [decide_eq_true h0, decide_eq_true h1, decide_eq_true (show 0 ≤ i ∧ i ≤ (n : Int) - 1 by omega)]; rfl
 ·rw [decide_eq_true h0, decide_eq_false h1, decide_eq_false (show ¬ (0 ≤ i ∧ i ≤ (n : Int) - 1) by omega)]; rfl
 ·rw [decide_eq_false h0, decide_eq_false (show ¬ (0 ≤ i ∧ i ≤ (n : Int) - 1) by omega)]; rfl
 ·rw [decide_eq_false h0, decide_eq_false (show ¬ (0 ≤ i ∧ i ≤ (n : Int) - 1) by omega)]; rfl
theorem loose_same (m : SmyV) : inPlaceIB m = looseB m := by
 have e1 : upSmiths m m.smiths.length = (allTo smithB m.smiths m.smiths.length && (allTo (thereB m.guilds.length) m.smiths m.smiths.length && allTo (placeB m.desks) m.smiths m.smiths.length)) := by
  rw [allTo_and, allTo_and]
  exact (allTo_congr m.smiths (one_same m) m.smiths.length).symm
 have e2 : pacesIB m.paces m.rooms = (decide (m.paces.length = m.rooms.length) && upPaces m m.paces.length) := by
  unfold pacesIB upPaces
  congr 2
  funext j
  unfold paceInB
  exact has_in _ _
 have e3 : decide (0 < (whereTo (fun d : DeskV => d.1) m.desks m.desks.length).length) = upOpen m m.desks.length := whereTo_any _ _ _
 unfold inPlaceIB partsIB looseB headB smithsIB desksIB
 rw [e1, e2, e3]
 have e4 : allTo deskB m.desks m.desks.length = upDesks m m.desks.length := rfl
 rw [e4]
 generalize hallB m.rooms = x1
 generalize guildsB m.guilds = x2
 generalize decide (m.smiths.length ≤ 12) = x3
 generalize allTo smithB m.smiths m.smiths.length = x4
 generalize allTo (thereB m.guilds.length) m.smiths m.smiths.length = x5
 generalize decide ((m.desks.length : Int) = benchSum m.rooms) = x6
 generalize upDesks m m.desks.length = x7
 generalize upOpen m m.desks.length = x8
 generalize decide (m.paces.length = m.rooms.length) = x9
 generalize upPaces m m.paces.length = x10
 generalize inB m.now 0 1000000 = x11
 generalize allTo (placeB m.desks) m.smiths m.smiths.length = x12
 rw [Bool.eq_iff_iff]
 simp only [Bool.and_eq_true]
 constructor
 ·rintro ⟨⟨a1, a2, ⟨a3, a4, a5⟩, ⟨a6, a7, a8⟩, ⟨a9, a10⟩, a11⟩, a12⟩
  exact ⟨⟨a1, a2, a3, a6, a9, a11⟩, a7, a10, ⟨a4, a5, a12⟩, a8⟩
 ·rintro ⟨⟨a1, a2, a3, a6, a9, a11⟩, a7, a10, ⟨a4, a5, a12⟩, a8⟩
  exact ⟨⟨a1, a2, ⟨a3, a4, a5⟩, ⟨a6, a7, a8⟩, ⟨a9, a10⟩, a11⟩, a12⟩
theorem smy_same (m : SmyV) : smyIB m = smyB m := by
 unfold smyIB smyB turnsIB
 rw [loose_same, show turnIB m = benchOkB m from funext (turn_same m)]
def queueOf (ss : List SmithV) (ps : List Int) : List PaceV := ps.foldl (fun q i => putV q (hadS (recAt ss i.toNat), i)) []
theorem queueOf_snoc (ss : List SmithV) (ps : List Int) (i : Int) : queueOf ss (ps ++ [i]) = putV (queueOf ss ps) (hadS (recAt ss i.toNat), i) := by unfold queueOf; rw [List.foldl_append]; rfl
theorem queueOf_at (ss : List SmithV) (b : Int) : ∀ k, queueOf ss (whereTo (atB b) ss k) = atV ss b k
 | 0 => rfl
 | k + 1 => by
  have ih := queueOf_at ss b k
  by_cases hat : (recAt ss k).2.1 = b ∧ presS (recAt ss k) = true
  ·have hA : atB b (recAt ss k) = true := by
    have h2 := hat.2
    unfold presS at h2
    unfold atB
    rw [h2, hat.1]; simp
   rw [whereTo_yes hA, queueOf_snoc, ih, atV_yes hat.1 hat.2]
   rfl
  ·have hA : atB b (recAt ss k) = false := by
    cases hc : atB b (recAt ss k)
    ·rfl
    ·exfalso
     apply hat
     unfold atB at hc
     simp only [Bool.and_eq_true, beq_iff_eq] at hc
     exact ⟨hc.2, by unfold presS; exact hc.1⟩
   rw [whereTo_no hA, atV_no hat, ih]
theorem take_snoc_at {ps : List Int} {k : Nat} (h : k < ps.length) : ps.take (k + 1) = ps.take k ++ [recAt ps k] := by
 unfold recAt
 rw [List.take_add_one, List.getD, List.getElem?_eq_getElem h]; rfl
theorem at_queue {m : SmyV} (h : Loose m) (b : Int) (k : Nat) (hk : k ≤ m.smiths.length) : queueB (atV m.smiths b k) = true := by
 have hd := h.head
 unfold headB at hd
 simp only [Bool.and_eq_true, decide_eq_true_eq] at hd
 have hl := atV_len m.smiths b k
 have h12 := hd.2.2.1
 refine queueB_isQ ⟨by omega, fun p hp => ?_, ?_, atV_whos _ _ _⟩
 ·obtain ⟨i, hi, h1, h2, rfl⟩ := (atV_mem m.smiths b p k).1 hp
  have := bandB_of (h.at (i := i) (by omega) h2).2.2.2.2
  unfold entB
  rw [inB_t (by omega) (by omega), inB_t (by omega) (by show (i : Int) ≤ 99; omega)]; rfl
 ·refine ((atV_ris m.smiths b k).and (atV_whos m.smiths b k)).imp fun {x y} hxy => ?_
  have h1 := hxy.1
  have h2 := hxy.2
  rw [ltB_f] at h1
  rw [ltB_t]
  omega
theorem whereTo_sub {α : Type} [Inhabited α] (p : α → Bool) (xs : List α) : ∀ n k : Nat, ∃ j, j ≤ n ∧ (whereTo p xs n).take k = whereTo p xs j
 | 0, k => ⟨0, Nat.le_refl _, by simp [whereTo]⟩
 | n + 1, k => by
  obtain ⟨j, hj, e⟩ := whereTo_sub p xs n k
  cases h : p (recAt xs n)
  ·rw [whereTo_no h]; exact ⟨j, by omega, e⟩
  ·rw [whereTo_yes h]
   by_cases hk : k ≤ (whereTo p xs n).length
   ·rw [List.take_append_of_le_length hk]; exact ⟨j, by omega, e⟩
   ·refine ⟨n + 1, Nat.le_refl _, ?_⟩
    rw [whereTo_yes h, List.take_of_length_le (by simp; omega)]
theorem part_queue {m : SmyV} (h : Loose m) (b : Int) (k : Nat) : queueB (queueOf m.smiths ((whereTo (atB b) m.smiths m.smiths.length).take k)) = true := by
 obtain ⟨j, hj, e⟩ := whereTo_sub (atB b) m.smiths m.smiths.length k
 rw [e, queueOf_at]
 exact at_queue h b j hj
theorem spec_q {w : World} {v0 v1 v2 v3 v4 : Value} {m : SmyV} {q : Bool} (hq : smyB m = q) (h : Smy w v0 v1 v2 v3 v4 m) : Calls Tryz.prog 12 #[.agg #[v0, v1, v2, v3, v4, .int .i64 m.now]] w fun e w' => e = .returned (.bool q) ∧ Below w.heap.size w w' := by
 have := specSmithyOk_any h; rw [hq] at this; exact this
def isRoomB (m : SmyV) (r : Int) : Bool := inB r 0 ((m.rooms.length : Int) - 1)
theorem room_of {m : SmyV} {b : Int} (h : isRoomB m b = true) : ∃ k : Nat, b = (k : Int) ∧ k < m.rooms.length := by
 have := inB_of (show inB b 0 ((m.rooms.length : Int) - 1) = true from h)
 exact ⟨b.toNat, by omega, by omega⟩
theorem l13Room_q {w : World} {v0 v1 v2 v3 v4 : Value} {m : SmyV} {b : Int} {q : Bool} (hq : isRoomB m b = q) (h : Smy w v0 v1 v2 v3 v4 m) :
  Calls Tryz.prog 58 #[.agg #[v0, v1, v2, v3, v4, .int .i64 m.now], .int .i64 b] w fun e w' => e = .returned (.bool q) ∧ Below w.heap.size w w' := by
 have hq2 : inB b 0 ((m.rooms.length : Int) - 1) = q := hq
 clear hq
 obtain ⟨a0, p0, rfl, hc3, hm3⟩ := IsRooms.shape h.rooms
 obtain ⟨a1, p1, rfl, _, _⟩ := IsRec.shape h.guilds
 obtain ⟨a2, p2, rfl, _, _⟩ := IsRec.shape h.smiths
 obtain ⟨a3, p3, rfl, _, _⟩ := IsRec.shape h.desks
 obtain ⟨a4, p4, rfl, _, _⟩ := IsRec.shape h.paces
 clear h
 go_enter Tryz.func58, Tryz.ntmps58
 go_wp2_with (go_at_call 40; refine (l1In_any _ _ _ _).mono ?_; rw [hq2]; rintro e w' ⟨rfl, h9⟩; subst w')
 go_ret
 exact ⟨rfl, (ba _ _)⟩
def doneV (m X : SmyV) (c : Int) : SmyV × Int := if smyB m then (if c = 0 then (turnedV X, 0) else (m, c)) else (zeroM, 3)
theorem done_bad {m : SmyV} (h : smyB m = false) (X : SmyV) (c : Int) : doneV m X c = (zeroM, 3) := by unfold doneV; rw [h]; rfl
theorem done_yes {m : SmyV} (h : smyB m = true) (X : SmyV) : doneV m X 0 = (turnedV X, 0) := by unfold doneV; rw [h]; rfl
theorem done_no {m : SmyV} (h : smyB m = true) (X : SmyV) {c : Int} (hc : c ≠ 0) : doneV m X c = (m, c) := by unfold doneV; rw [h, if_pos rfl, if_neg hc]
theorem turned_is {m : SmyV} (h : Loose m) : turnedV m = turnV m := by unfold turnedV; rw [h.mk', if_pos rfl]
structure Two (p q : Option Nat) (w w' : World) : Prop where
 os : w'.os = w.os
 tape : w'.tape = w.tape
 output : w'.output = w.output
 size : w.heap.size ≤ w'.heap.size
 block : ∀ k, k < w.heap.size → p ≠ some k → q ≠ some k → w'.heap[k]? = w.heap[k]?
section
variable {p q : Option Nat} {w w' w'' : World}
theorem Two.refl (p q : Option Nat) (w : World) : Two p q w w := ⟨rfl, rfl, rfl, Nat.le_refl _, fun _ _ _ _ => rfl⟩
theorem Two.trans (h : Two p q w w') (k : Two p q w' w'') : Two p q w w'' :=
 ⟨k.os.trans h.os, k.tape.trans h.tape, k.output.trans h.output, Nat.le_trans h.size k.size, fun i hi hp hq => (k.block i (Nat.lt_of_lt_of_le hi h.size) hp hq).trans (h.block i hi hp hq)⟩
theorem Two.of_below (h : Below w.heap.size w w') : Two p q w w' := ⟨h.os, h.tape, h.output, h.size, fun i hi _ _ => h.block i hi⟩
theorem Two.of_set (w : World) {g : Nat} (hg : p = some g ∨ q = some g) (o : Nat) (u : Value) : Two p q w (w.setCell ⟨g, o, none⟩ u) :=
 ⟨rfl, rfl, rfl, by simp, fun i hi hp hq => heap_setCell_other w _ i u (fun e => by
  have e : i = g := e
  subst e
  rcases hg with h | h
  ·exact hp h
  ·exact hq h)⟩
theorem Two.below {B : Nat} (h : Two p q w w') (hB : B ≤ w.heap.size) (hp : ∀ k, p = some k → B ≤ k) (hq : ∀ k, q = some k → B ≤ k) : Below B w w' :=
 ⟨h.os, h.tape, h.output, h.size, fun i hi => h.block i (Nat.lt_of_lt_of_le hi hB) (fun e => by have := hp i e; omega) (fun e => by have := hq i e; omega)⟩
theorem Blk.two {R : Nat} {t : TypeId} {cs : Array Value} (h : Blk w R t cs) (ht : Two p q w w') (hp : p ≠ some R) (hq : q ≠ some R) : Blk w' R t cs := h.same (ht.block R h.lt hp hq)
end
theorem OwnHall.same2 {n₀ : Nat} {w w' : World} {v : Value} {qs : List (RoomV × Value)} (h : OwnHall n₀ w v qs) (hs : ∀ k, (v.ownBlock = some k ∨ ∃ q ∈ qs, q.2.ownBlock = some k) → w'.heap[k]? = w.heap[k]?) : OwnHall n₀ w' v qs :=
 ⟨own_same h.row (fun k e => hs k (.inl e)), fun q hq => own_same (h.paces q hq) (fun k e => hs k (.inr ⟨q, hq, e⟩)), h.off, h.apart⟩
section
variable {n₀ n cap g : Nat} {w : World} {v0 v1 v2 v3 v4 : Value} {m : SmyV} {qs : List (RoomV × Value)}
theorem FullSmy.putS (hf : FullSmy n₀ w v0 v1 (.slice (some ⟨g, 0, none⟩) n cap) v3 v4 m qs) (hn : n = m.smiths.length) {j i : Nat} (hj : j < m.smiths.length) (hi : i < 11) (u : Value) (x : SmithV) (hx : encSmith x = (encSmith (recAt m.smiths j)).set i u) :
  FullSmy n₀ (w.setCell ⟨g, j * 11 + i, none⟩ u) v0 v1 (.slice (some ⟨g, 0, none⟩) n cap) v3 v4 { m with smiths := m.smiths.set j x } qs := by
 have hb : (Value.slice (some ⟨g, 0, none⟩) n cap).ownBlock = some g := rfl
 have hne : ∀ k, k ≠ g → (w.setCell ⟨g, j * 11 + i, none⟩ u).heap[k]? = w.heap[k]? := fun k hk => heap_setCell_other w _ k u hk
 refine ⟨hf.hall.same2 fun k e => hne k fun e' => ?_, hf.rooms, RecAt.same hf.guilds fun k e => hne k fun e' => ?_, (RecAt.put1 encSmith_len (by omega) hf.smiths hn hj hi u x hx).1, RecAt.same hf.desks fun k e => hne k fun e' => ?_, RecAt.same hf.paces fun k e => hne k fun e' => ?_, hf.h1, hf.h2, hf.h3, hf.h4, hf.a12, hf.a13, hf.a14, hf.a23, hf.a24, hf.a34⟩
 ·subst e'
  rcases e with e | ⟨q, hq, e⟩
  ·exact hf.h2.1 _ hb e
  ·exact hf.h2.2 q hq _ hb e
 ·subst e'; exact hf.a12 _ e hb
 ·subst e'; exact hf.a23 _ hb e
 ·subst e'; exact hf.a24 _ hb e
theorem FullSmy.putD (hf : FullSmy n₀ w v0 v1 v2 (.slice (some ⟨g, 0, none⟩) n cap) v4 m qs) (hn : n = m.desks.length) {j i : Nat} (hj : j < m.desks.length) (hi : i < 3) (u : Value) (x : DeskV) (hx : encDesk x = (encDesk (recAt m.desks j)).set i u) :
  FullSmy n₀ (w.setCell ⟨g, j * 3 + i, none⟩ u) v0 v1 v2 (.slice (some ⟨g, 0, none⟩) n cap) v4 { m with desks := m.desks.set j x } qs := by
 have hb : (Value.slice (some ⟨g, 0, none⟩) n cap).ownBlock = some g := rfl
 have hne : ∀ k, k ≠ g → (w.setCell ⟨g, j * 3 + i, none⟩ u).heap[k]? = w.heap[k]? := fun k hk => heap_setCell_other w _ k u hk
 refine ⟨hf.hall.same2 fun k e => hne k fun e' => ?_, hf.rooms, RecAt.same hf.guilds fun k e => hne k fun e' => ?_, RecAt.same hf.smiths fun k e => hne k fun e' => ?_, (RecAt.put1 encDesk_len (by omega) hf.desks hn hj hi u x hx).1, RecAt.same hf.paces fun k e => hne k fun e' => ?_, hf.h1, hf.h2, hf.h3, hf.h4, hf.a12, hf.a13, hf.a14, hf.a23, hf.a24, hf.a34⟩
 ·subst e'
  rcases e with e | ⟨q, hq, e⟩
  ·exact hf.h3.1 _ hb e
  ·exact hf.h3.2 q hq _ hb e
 ·subst e'; exact hf.a13 _ e hb
 ·subst e'; exact hf.a23 _ e hb
 ·subst e'; exact hf.a34 _ hb e
theorem FullSmy.putP (hf : FullSmy n₀ w v0 v1 v2 v3 (.slice (some ⟨g, 0, none⟩) n cap) m qs) (hn : n = m.paces.length) {j : Nat} (hj : j < m.paces.length) (x : Int) :
  FullSmy n₀ (w.setCell ⟨g, j, none⟩ (.int .i64 x)) v0 v1 v2 v3 (.slice (some ⟨g, 0, none⟩) n cap) { m with paces := m.paces.set j x } qs := by
 have hb : (Value.slice (some ⟨g, 0, none⟩) n cap).ownBlock = some g := rfl
 have hne : ∀ k, k ≠ g → (w.setCell ⟨g, j, none⟩ (.int .i64 x)).heap[k]? = w.heap[k]? := fun k hk => heap_setCell_other w _ k _ hk
 have hput := (RecAt.put1 (i := 0) encNum_len (by omega) hf.paces hn hj (by omega) (.int .i64 x) x (by simp [encNum])).1
 simp only [Nat.mul_one, Nat.add_zero] at hput
 refine ⟨hf.hall.same2 fun k e => hne k fun e' => ?_, hf.rooms, RecAt.same hf.guilds fun k e => hne k fun e' => ?_, RecAt.same hf.smiths fun k e => hne k fun e' => ?_, RecAt.same hf.desks fun k e => hne k fun e' => ?_, hput, hf.h1, hf.h2, hf.h3, hf.h4, hf.a12, hf.a13, hf.a14, hf.a23, hf.a24, hf.a34⟩
 ·subst e'
  rcases e with e | ⟨q, hq, e⟩
  ·exact hf.h4.1 _ hb e
  ·exact hf.h4.2 q hq _ hb e
 ·subst e'; exact hf.a14 _ e hb
 ·subst e'; exact hf.a24 _ e hb
 ·subst e'; exact hf.a34 _ e hb
end
end Go.Proofs.YtffcgajndmhpkaaGreatDoor
namespace Go.Proofs.YtffcgajndmhpkaaGreatDoor
open Go.ChangeShapes Go.WideShapes Go.ChangeAt Go.RowKit Go.Sort
set_option linter.unusedVariables false
set_option maxRecDepth 100000
theorem band_equal (a b c d : Int) (w : World) : (Op.equalIn 10000 249 (.agg #[.int .i64 a, .int .i64 b]) (.agg #[.int .i64 c, .int .i64 d])).run Tryz.prog w = .ok (a == c && b == d) w := by
 have u := Tryz.underlying2
 have ag := Tryz.isAgg2
 have z := Tryz.sizeOf2
 have hc : Tryz.prog.cellsOf 2 = 1 := by kernel_rfl
 obtain ⟨i, hi⟩ := Option.isSome_iff_exists.1 (show (Tryz.prog.info? 2).isSome = true by kernel_rfl)
 rw [show (10000 : Nat) = 9999 + 1 from rfl, run_equalIn_array w 9999 _ _ Tryz.underlying249 hi, hc]
 simp only [show List.range 2 = [0, 1] from rfl, Op.eqItems]
 go_simp
 by_cases h : a = c
 ·subst h
  by_cases h2 : b = d
  ·subst h2; simp
  ·simp [h2]
 ·simp [h]
theorem band_eql (a b c d : Int) (w : World) : (binOp .eql 249 (.agg #[.int .i64 a, .int .i64 b]) (.agg #[.int .i64 c, .int .i64 d])).run Tryz.prog w = .ok (.bool (a == c && b == d)) w := by
 rw [run_eql_struct, band_equal]; rfl
theorem bandStretched_any (lo hi n : Int) (w : World) : Calls Tryz.prog 272 #[.agg #[.int .i64 lo, .int .i64 hi], .int .i64 n] w fun e w' => e = .returned (.agg #[.int .i64 (min lo n), .int .i64 (max hi n)]) ∧ Below w.heap.size w w' := by
 by_cases h1 : lo ≤ n
 all_goals
  by_cases h2 : hi < n
  all_goals
   go_enter Tryz.func272, Tryz.ntmps272
   go_wp2_with fail
   exact bodyPost_ret (v := .agg #[.int .i64 (min lo n), .int .i64 (max hi n)]) (by simp [results, Tryz.results272, go_sem]; omega) rfl ⟨rfl, ((ba _ _)).alloc (by simp) _⟩
theorem bandOf_any (m : Int) (w : World) (m0 : -1000000000000 ≤ m) (m1 : m ≤ 1000000000000) : Calls Tryz.prog 223 #[.int .i64 m] w fun e w' => e = .returned (.agg #[.int .i64 (m - 20000), .int .i64 (m + 63000)]) ∧ Below w.heap.size w w' := by
 go_enter Tryz.func223, Tryz.ntmps223
 go_wp2_with fail
 exact bodyPost_ret (v := .agg #[.int .i64 (m - 20000), .int .i64 (m + 63000)]) (by simp [results, Tryz.results223, go_sem]) rfl ⟨rfl, (ba _ _)⟩
def loL (lo : Int) (zs : List Int) : Int := zs.foldl min lo
def hiL (hi : Int) (zs : List Int) : Int := zs.foldl max hi
theorem loL_le (zs : List Int) : ∀ lo, loL lo zs ≤ lo := by
 induction zs with
 | nil => intro lo; exact Int.le_refl _
 | cons z zs ih => intro lo; exact Int.le_trans (ih (min lo z)) (Int.min_le_left _ _)
theorem hiL_ge (zs : List Int) : ∀ hi, hi ≤ hiL hi zs := by
 induction zs with
 | nil => intro hi; exact Int.le_refl _
 | cons z zs ih => intro hi; exact Int.le_trans (Int.le_max_left _ _) (ih (max hi z))
theorem stretched_is (zs : List Int) : ∀ lo hi, (loL lo zs == lo && hiL hi zs == hi) = zs.all fun z => inB z lo hi := by
 induction zs with
 | nil => intro lo hi; simp [loL, hiL]
 | cons z zs ih =>
  intro lo hi
  show (loL (min lo z) zs == lo && hiL (max hi z) zs == hi) = (inB z lo hi && zs.all fun z => inB z lo hi)
  cases hz : inB z lo hi
  ·have hn : ¬ (lo ≤ z ∧ z ≤ hi) := of_decide_eq_false hz
   have h1 := loL_le zs (min lo z)
   have h2 := hiL_ge zs (max hi z)
   simp only [Bool.false_and, Bool.and_eq_false_iff, beq_eq_false_iff_ne]
   omega
  ·obtain ⟨h1, h2⟩ := inB_of hz
   rw [show min lo z = lo by omega, show max hi z = hi by omega, ih]; rfl
theorem loL_snoc {lo : Int} {zs : List Int} {k : Nat} (hk : k < zs.length) : loL lo (zs.take (k + 1)) = min (loL lo (zs.take k)) (zs.getD k 0) := by
 unfold loL; rw [List.take_succ_eq_append_getElem hk, List.foldl_append]; simp [List.getD, List.getElem?_eq_getElem hk]
theorem hiL_snoc {hi : Int} {zs : List Int} {k : Nat} (hk : k < zs.length) : hiL hi (zs.take (k + 1)) = max (hiL hi (zs.take k)) (zs.getD k 0) := by
 unfold hiL; rw [List.take_succ_eq_append_getElem hk, List.foldl_append]; simp [List.getD, List.getElem?_eq_getElem hk]
attribute [local go_sem ↓] band_eql
theorem bandHolds_any (lo hi : Int) (b cap : Nat) (zs : List Int) (w : World) (hl : zs.length ≤ 1000) (hb : b < w.heap.size) (hc : ∀ k, k < zs.length → w.cell? ⟨b, k, none⟩ = some (.int .i64 (zs.getD k 0))) :
  Calls Tryz.prog 224 #[.agg #[.int .i64 lo, .int .i64 hi], .slice (some ⟨b, 0, none⟩) zs.length cap] w fun e w' => e = .returned (.bool (zs.all fun z => inB z lo hi)) ∧ Below w.heap.size w w' := by
 have Hc := hide hc
 clear hc
 go_enter Tryz.func224, Tryz.ntmps224
 go_wp2_with fail
 go_loopw [11] (fun i wr => ∃ k : Nat, k ≤ zs.length ∧ i = .int .i64 k ∧ Blk wr (w.heap.size + 1) 249 #[.int .i64 (loL lo (zs.take k)), .int .i64 (hiL hi (zs.take k))] ∧ Blk wr w.heap.size 249 #[.int .i64 lo, .int .i64 hi] ∧ Below w.heap.size w wr) (fun i _ => zs.length - (intOf i).toNat)
 case atStart =>
  refine ⟨0, Nat.zero_le _, rfl, ?_, (Blk.new w _ _).alloc _, ((ba _ _)).alloc (by simp) _⟩
  have := Blk.new (w.alloc (.cells #[.int .i64 lo, .int .i64 hi] 249)) 249 #[.int .i64 lo, .int .i64 hi]
  simpa [loL, hiL] using this
 case round =>
  obtain ⟨k, hk, rfl, hs, ho, hbl⟩ := hrel
  have Hs := hide hs
  have Ho := hide ho
  have Hb := hide hbl
  by_cases hlt : k < zs.length
  ·have c0 := uh Hc k hlt
   rw [← hbl.cell (p := ⟨b, k, none⟩) hb] at c0
   have e1 := loL_snoc (lo := lo) hlt
   have e2 := hiL_snoc (hi := hi) hlt
   have s0 := hs.cell (i := 0) rfl
   have s1 := hs.cell (i := 1) rfl
   have g0 := hs.free 0
   have g1 := hs.free 1
   generalize zs.getD k 0 = z at *
   generalize loL lo (zs.take k) = x at *
   generalize hiL hi (zs.take k) = y at *
   have E1 := hide e1
   have E2 := hide e2
   clear e1 e2 hs ho hbl
   go_wp2_with fail
   refine ck (bandStretched_any x y z _) fun w1 hb1 => ?_
   have hs1 := (uh Hs).below hb1 (uh Hs).lt
   have Hs1 := hide hs1
   have Ho1 : Hid (Blk w1 w.heap.size 249 #[.int .i64 lo, .int .i64 hi]) := hide ((uh Ho).below hb1 (uh Ho).lt)
   have B1 : Hid (Below w.heap.size w w1) := hide ((uh Hb).trans (hb1.mono (uh Hb).size))
   have s0 := hs1.cell (i := 0) rfl
   have s1 := hs1.cell (i := 1) rfl
   have g0 := hs1.free 0
   have g1 := hs1.free 1
   clear hs1 hb1
   go_wp2_with fail
   go_roundw
   case rel =>
    refine ⟨k + 1, by omega, by go_num, ?_, ?_, ?_⟩
    ·rw [uh E1, uh E2]
     simpa using ((uh Hs1).set 0 (.int .i64 (min x z))).set 1 (.int .i64 (max y z))
    ·exact ((uh Ho1).other (by simp) _).other (by simp) _
    ·exact ((uh B1).setCell (by simp) _).setCell (by simp) _
   case measure => exact ms
  ·obtain rfl : k = zs.length := by omega
   rw [List.take_length] at hs
   have e3 := stretched_is zs lo hi
   have s0 := hs.cell (i := 0) rfl
   have s1 := hs.cell (i := 1) rfl
   have o0 := ho.cell (i := 0) rfl
   have o1 := ho.cell (i := 1) rfl
   generalize loL lo zs = x at *
   generalize hiL hi zs = y at *
   have E3 := hide e3
   clear e3 hs ho hbl Hs
   go_wp2_with fail
   go_ret
   exact ⟨ret_bool (uh E3), uh Hb⟩
theorem areHads_any (b cap : Nat) (zs : List Int) (w : World) (hl : zs.length ≤ 1000) (hb : b < w.heap.size) (hc : ∀ k, k < zs.length → w.cell? ⟨b, k, none⟩ = some (.int .i64 (zs.getD k 0))) :
  Calls Tryz.prog 222 #[.slice (some ⟨b, 0, none⟩) zs.length cap] w fun e w' => e = .returned (.bool (zs.all fun z => inB z (-1000000000000) 1000000000000)) ∧ Below w.heap.size w w' := by
 have Hc := hide hc
 clear hc
 go_enter Tryz.func222, Tryz.ntmps222
 go_wp2_with fail
 refine ck (bandHolds_any _ _ b cap zs _ hl hb (uh Hc)) fun w1 hb1 => ?_
 have B1 := hide hb1
 clear hb1
 go_wp2_with fail
 go_ret
 exact ⟨rfl, uh B1⟩
theorem implInBand_any (h m : Int) (w : World) : Calls Tryz.prog 175 #[.int .i64 h, .int .i64 m] w fun e w' => e = .returned (.bool (inBandB h m)) ∧ Below w.heap.size w w' := by
 cases hh : hadB h && hadB m
 ·have hs : inBandB h m = false := by unfold inBandB; rw [hh]; rfl
  have Hs := hide hs
  clear hs
  go_enter Tryz.func175, Tryz.ntmps175
  go_wp2_with fail
  refine (areHads_any _ _ [h, m] _ (by simp) (by simp) ?_).mono ?_
  ·intro k hk
   simp at hk
   match k, hk with
   | 0, _ => simp
   | 1, _ => simp
  rintro e w1 ⟨rfl, hb⟩
  rw [hads2, hh]
  have B1 : Hid (Below w.heap.size w w1) := hide (((ba _ _)).trans (hb.mono (by simp)))
  clear hb
  go_wp2_with fail
  go_ret
  exact ⟨ret_bool (uh Hs).symm, uh B1⟩
 ·have hs : inBandB h m = inB (h - m) (-20000) 63000 := by unfold inBandB; rw [hh]; rfl
  have Hs := hide hs
  have h' := hh
  simp only [Bool.and_eq_true] at h'
  obtain ⟨m0, m1⟩ := had_of h'.2
  clear hs h'
  go_enter Tryz.func175, Tryz.ntmps175
  go_wp2_with fail
  refine (areHads_any _ _ [h, m] _ (by simp) (by simp) ?_).mono ?_
  ·intro k hk
   simp at hk
   match k, hk with
   | 0, _ => simp
   | 1, _ => simp
  rintro e w1 ⟨rfl, hb⟩
  rw [hads2, hh]
  have B1 : Hid (Below w.heap.size w w1) := hide (((ba _ _)).trans (hb.mono (by simp)))
  clear hb
  go_wp2_with fail
  refine ck (bandOf_any m _ m0 m1) fun w2 hb => ?_
  have B2 : Hid (Below w.heap.size w w2) := hide ((uh B1).trans (hb.mono (uh B1).size))
  clear hb B1
  go_wp2_with fail
  refine (bandHolds_any _ _ _ _ [h] _ (by simp) (by simp) ?_).mono ?_
  ·intro k hk
   simp at hk
   subst hk
   simp
  rintro e w3 ⟨rfl, hb⟩
  rw [band_at]
  have B3 : Hid (Below w.heap.size w w3) := hide (((uh B2).alloc (uh B2).size _).trans (hb.mono (by have := (uh B2).size; simp; omega)))
  clear hb B2
  go_wp2_with fail
  go_ret
  exact ⟨ret_bool (uh Hs).symm, uh B3⟩
theorem implMarked_any (m f : Int) (w : World) : Calls Tryz.prog 206 #[.int .i64 m, .int .i64 f] w fun e w' => e = .returned (.int .i64 (markedV m f)) ∧ Below w.heap.size w w' := by
 cases hh : hadB m && hadB f
 ·have hs : markedV m f = m := by unfold markedV; rw [hh]; rfl
  have Hs := hide hs
  clear hs
  go_enter Tryz.func206, Tryz.ntmps206
  go_wp2_with fail
  refine (areHads_any _ _ [m, f] _ (by simp) (by simp) ?_).mono ?_
  ·intro k hk
   simp at hk
   match k, hk with
   | 0, _ => simp
   | 1, _ => simp
  rintro e w1 ⟨rfl, hb⟩
  rw [hads2, hh]
  have B1 : Hid (Below w.heap.size w w1) := hide (((ba _ _)).trans (hb.mono (by simp)))
  clear hb
  go_wp2_with fail
  go_ret
  exact ⟨ret_int (uh Hs).symm, uh B1⟩
 ·have hs : markedV m f = min (max m f) 900000000000 := by unfold markedV; rw [hh]; rfl
  have Hs := hide hs
  clear hs
  go_enter Tryz.func206, Tryz.ntmps206
  go_wp2_with fail
  refine (areHads_any _ _ [m, f] _ (by simp) (by simp) ?_).mono ?_
  ·intro k hk
   simp at hk
   match k, hk with
   | 0, _ => simp
   | 1, _ => simp
  rintro e w1 ⟨rfl, hb⟩
  rw [hads2, hh]
  have B1 : Hid (Below w.heap.size w w1) := hide (((ba _ _)).trans (hb.mono (by simp)))
  clear hb
  go_wp2_with fail
  refine ck (implClamped_any m f 900000000000 _) fun w2 hw2 => ?_
  subst w2
  go_wp2_with fail
  go_ret
  exact ⟨ret_int (uh Hs).symm, uh B1⟩
theorem bandHad_any (x : Int) (w : World) : Calls Tryz.prog 161 #[.int .i64 x] w fun e w' => e = .returned (.bool (hadB x)) ∧ w' = w := by
 go_enter Tryz.func161, Tryz.ntmps161
 go_wp2_with (go_at_call 40; refine (l1In_any _ _ _ _).mono ?_; rintro e w' ⟨rfl, rfl⟩)
 go_ret
 exact ⟨rfl, rfl⟩
theorem bandHad_v {x : Int} {r : Bool} (h : hadB x = r) (w : World) : Calls Tryz.prog 161 #[.int .i64 x] w fun e w' => e = .returned (.bool r) ∧ w' = w := by
 rw [← h]; exact bandHad_any x w
theorem specMarked_any (m f : Int) (w : World) : Calls Tryz.prog 122 #[.int .i64 m, .int .i64 f] w fun e w' => e = .returned (.int .i64 (markedV m f)) ∧ w' = w := by
 cases h1 : hadB m
 ·have hs : markedV m f = m := by unfold markedV; rw [h1]; rfl
  have Hs := hide hs
  have H1 := hide h1
  clear hs h1
  go_enter Tryz.func122, Tryz.ntmps122
  go_wp2_with (go_at_call 161; refine (bandHad_v (uh H1) _).mono ?_; rintro e w' ⟨rfl, rfl⟩)
  go_ret
  exact ⟨ret_int (uh Hs).symm, rfl⟩
 cases h2 : hadB f
 ·have hs : markedV m f = m := by unfold markedV; rw [h1, h2]; rfl
  have Hs := hide hs
  have H1 := hide h1
  have H2 := hide h2
  clear hs h1 h2
  go_enter Tryz.func122, Tryz.ntmps122
  go_wp2_with (go_at_call 161; first | (refine (bandHad_v (uh H1) _).mono ?_; rintro e w' ⟨rfl, rfl⟩) | (refine (bandHad_v (uh H2) _).mono ?_; rintro e w' ⟨rfl, rfl⟩))
  go_ret
  exact ⟨ret_int (uh Hs).symm, rfl⟩
 have hs : markedV m f = min (max m f) 900000000000 := by unfold markedV; rw [h1, h2]; rfl
 have Hs := hide hs
 have H1 := hide h1
 have H2 := hide h2
 clear hs h1 h2
 go_enter Tryz.func122, Tryz.ntmps122
 go_wp2_with (first | (go_at_call 124; refine (l1Max_any _ _ _).mono ?_; rintro e w' ⟨rfl, rfl⟩) | (go_at_call 187; refine (l1Min_any _ _ _).mono ?_; rintro e w' ⟨rfl, rfl⟩) | (go_at_call 161; first | (refine (bandHad_v (uh H1) _).mono ?_; rintro e w' ⟨rfl, rfl⟩) | (refine (bandHad_v (uh H2) _).mono ?_; rintro e w' ⟨rfl, rfl⟩)))
 go_ret
 exact ⟨ret_int (uh Hs).symm, rfl⟩
end Go.Proofs.YtffcgajndmhpkaaGreatDoor
