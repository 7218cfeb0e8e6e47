/- Part 19 of what the proof rests on. No condition but those that a theorem names. -/
import Derived.Test.YthbbahagpmdooaaGreatDoorXw18
import Derived.RangeFuncNested
import Derived.RangeFuncBound
import Derived.RangeFuncCalls
import Derived.RangeFuncLeaves
import Derived.RangeFuncBox
import Derived.Shelf.Abstract
import Derived.Shelf.RegionOpen
import Derived.OwnWalkIn
import Derived.TacticsInMore
import Derived.LoopNIn
import Derived.LoopIn
set_option maxHeartbeats 8000000
set_option maxRecDepth 100000
namespace Go.Proofs.YthbbahagpmdooaaGreatDoor
open Go.ChangeShapes Go.WideShapes Go.ChangeAt Go.RowKit Go.Sort
set_option linter.unusedVariables false
def awayS (s : SmithV) : SmithV := (1, s.2)
def awayM (m : SmyV) (who : Int) : SmyV := { m with smiths := m.smiths.set who.toNat (awayS (recAt m.smiths who.toNat)) }
theorem away_at (m : SmyV) {k : Nat} (hk : k < m.smiths.length) (i : Nat) : recAt (awayM m (k : Int)).smiths i = if i = k then awayS (recAt m.smiths k) else recAt m.smiths i := by
 unfold awayM
 simp only [Int.toNat_natCast]
 exact recAt_set hk i
theorem away_len (m : SmyV) (who : Int) : (awayM m who).smiths.length = m.smiths.length := by unfold awayM; simp
theorem away_want (m : SmyV) {k : Nat} (hk : k < m.smiths.length) (x : Int) : wantV (awayM m (k : Int)) x = wantV m x := by
 unfold wantV
 rw [away_at m hk]
 by_cases e : x.toNat = k
 ·rw [if_pos e, e]; rfl
 ·rw [if_neg e]; rfl
def sumB (m : SmyV) (but : Int) : List PaceV → Int
 | [] => 0
 | e :: q => (if e.2 = but then 0 else wantV m e.2) + sumB m but q
theorem sumB_app (m : SmyV) (but : Int) (a b : List PaceV) : sumB m but (a ++ b) = sumB m but a + sumB m but b := by
 induction a with
 | nil => show sumB m but b = 0 + sumB m but b; omega
 | cons e a ih => show _ + sumB m but (a ++ b) = _ + sumB m but a + sumB m but b; omega
theorem sumB_put (m : SmyV) (but : Int) (q : List PaceV) (e : PaceV) : sumB m but (putV q e) = sumB m but q + (if e.2 = but then 0 else wantV m e.2) := by
 have h := sumB_app m but (q.take (lessN e q)) (q.drop (lessN e q))
 rw [List.take_append_drop] at h
 unfold putV
 rw [sumB_app, h]
 show _ + ((if e.2 = but then 0 else wantV m e.2) + _) = _
 omega
theorem usedF_B (m : SmyV) (but : Int) : ∀ (q : List PaceV) (n : Int), q.foldl (fun n e => if e.2 = but then n else n + wantV m e.2) n = n + sumB m but q
 | [], n => by show n = n + 0; omega
 | e :: q, n => by
  have ih := usedF_B m but q (if e.2 = but then n else n + wantV m e.2)
  rw [List.foldl_cons, ih]
  show _ = n + ((if e.2 = but then 0 else wantV m e.2) + sumB m but q)
  split <;> omega
theorem usedV_B (m : SmyV) (b but : Int) : usedV m b but = sumB m but (atV m.smiths b m.smiths.length) := by
 have := usedF_B m but (atV m.smiths b m.smiths.length) 0
 unfold usedV usedL
 omega
theorem sum_away (m : SmyV) {k : Nat} (hk : k < m.smiths.length) (b : Int) : ∀ j, sumB (awayM m (k : Int)) (-1) (atV (awayM m (k : Int)).smiths b j) = sumB m (k : Int) (atV m.smiths b j)
 | 0 => rfl
 | j + 1 => by
  have ih := sum_away m hk b j
  by_cases e : j = k
  ·subst e
   rw [atV_no (ss := (awayM m (j : Int)).smiths) (by rw [away_at m hk, if_pos rfl]; rintro ⟨_, h⟩; cases h), ih]
   by_cases hat : (recAt m.smiths j).2.1 = b ∧ presS (recAt m.smiths j) = true
   ·rw [atV_yes hat.1 hat.2, sumB_put, if_pos rfl]; omega
   ·rw [atV_no hat]
  ·have hr : recAt (awayM m (k : Int)).smiths j = recAt m.smiths j := by rw [away_at m hk, if_neg e]
   by_cases hat : (recAt m.smiths j).2.1 = b ∧ presS (recAt m.smiths j) = true
   ·rw [atV_yes (ss := (awayM m (k : Int)).smiths) (by rw [hr]; exact hat.1) (by rw [hr]; exact hat.2), atV_yes hat.1 hat.2, sumB_put, sumB_put, ih, away_want m hk]
    show _ + (if (j : Int) = -1 then 0 else wantV m (j : Int)) = _ + (if (j : Int) = (k : Int) then 0 else wantV m (j : Int))
    rw [if_neg (by omega), if_neg (by omega)]
   ·rw [atV_no (ss := (awayM m (k : Int)).smiths) (by rw [hr]; exact hat), atV_no hat, ih]
theorem used_away (m : SmyV) {k : Nat} (hk : k < m.smiths.length) (b : Int) : usedV (awayM m (k : Int)) b (-1) = usedV m b (k : Int) := by
 rw [usedV_B, usedV_B, away_len]
 exact sum_away m hk b _
theorem Wants.away {m : SmyV} (h : Wants m) {k : Nat} (hk : k < m.smiths.length) (hs : (recAt m.smiths k).1 ≠ 0) : Wants (awayM m (k : Int)) := by
 refine ⟨h.guilds, fun i hi hne => ?_⟩
 rw [away_len] at hi
 rw [away_at m hk] at hne ⊢
 by_cases e : i = k
 ·rw [if_pos e]; exact h.each k hk hs
 ·rw [if_neg e] at hne ⊢; exact h.each i hi hne
abbrev BenchV := Int × Int × Int
def benchV (m : SmyV) (k : Nat) : BenchV := ((k : Int), usedV m (k : Int) (-1), forceV m.rooms (k : Int))
def openTo (m : SmyV) : Nat → List BenchV
 | 0 => []
 | k + 1 => if (recAt m.desks k).1 then openTo m k ++ [benchV m k] else openTo m k
theorem openTo_yes {m : SmyV} {k : Nat} (h : (recAt m.desks k).1 = true) : openTo m (k + 1) = openTo m k ++ [benchV m k] := by show (if _ then _ else _) = _; rw [if_pos h]
theorem openTo_no {m : SmyV} {k : Nat} (h : (recAt m.desks k).1 = false) : openTo m (k + 1) = openTo m k := by show (if _ then _ else _) = _; rw [h]; rfl
theorem openTo_len (m : SmyV) : ∀ k, (openTo m k).length ≤ k
 | 0 => Nat.le_refl _
 | k + 1 => by
  have := openTo_len m k
  unfold openTo
  split
  ·simp; omega
  ·omega
theorem openTo_mem (m : SmyV) (x : BenchV) : ∀ k, x ∈ openTo m k ↔ ∃ b : Nat, b < k ∧ (recAt m.desks b).1 = true ∧ x = benchV m b
 | 0 => by simp [openTo]
 | k + 1 => by
  have ih := openTo_mem m x k
  cases ho : (recAt m.desks k).1
  ·rw [openTo_no ho, ih]
   constructor
   ·rintro ⟨b, hb, h⟩; exact ⟨b, by omega, h⟩
   ·rintro ⟨b, hb, h1, h2⟩
    by_cases e : b = k
    ·subst e; rw [ho] at h1; cases h1
    ·exact ⟨b, by omega, h1, h2⟩
  ·rw [openTo_yes ho, List.mem_append, ih]
   constructor
   ·rintro (⟨b, hb, h⟩ | h)
    ·exact ⟨b, by omega, h⟩
    ·exact ⟨k, by omega, ho, by simpa using h⟩
   ·rintro ⟨b, hb, h1, h2⟩
    by_cases e : b = k
    ·subst e; right; simp [h2]
    ·left; exact ⟨b, by omega, h1, h2⟩
def butV (m : SmyV) (who : Int) (k : Nat) : BenchV := ((k : Int), usedV m (k : Int) who, forceV m.rooms (k : Int))
def mayTo (m : SmyV) (who : Int) : Nat → List BenchV
 | 0 => []
 | k + 1 => if mayAt m who k then mayTo m who k ++ [butV m who k] else mayTo m who k
theorem mayTo_yes {m : SmyV} {who : Int} {k : Nat} (h : mayAt m who k = true) : mayTo m who (k + 1) = mayTo m who k ++ [butV m who k] := by show (if _ then _ else _) = _; rw [if_pos h]
theorem mayTo_no {m : SmyV} {who : Int} {k : Nat} (h : mayAt m who k = false) : mayTo m who (k + 1) = mayTo m who k := by show (if _ then _ else _) = _; rw [h]; rfl
theorem mayTo_len (m : SmyV) (who : Int) : ∀ k, (mayTo m who k).length ≤ k
 | 0 => Nat.le_refl _
 | k + 1 => by
  have := mayTo_len m who k
  unfold mayTo
  split
  ·simp; omega
  ·omega
def inMay (m : SmyV) (k : Nat) (x : BenchV) : Bool := bitB (recAt m.smiths k).2.2.2.1 x.1
theorem open_may (m : SmyV) {k : Nat} (hk : k < m.smiths.length) : ∀ n, (openTo (awayM m (k : Int)) n).filter (inMay m k) = mayTo m (k : Int) n
 | 0 => rfl
 | n + 1 => by
  have ih := open_may m hk n
  have hd : (awayM m (k : Int)).desks = m.desks := rfl
  have hm : mayAt m (k : Int) n = ((recAt m.desks n).1 && bitB (recAt m.smiths k).2.2.2.1 (n : Int)) := rfl
  have hi : inMay m k (benchV (awayM m (k : Int)) n) = bitB (recAt m.smiths k).2.2.2.1 (n : Int) := rfl
  cases ho : (recAt m.desks n).1
  ·rw [openTo_no (by rw [hd]; exact ho), ih, mayTo_no (by rw [hm, ho]; rfl)]
  ·rw [openTo_yes (by rw [hd]; exact ho), List.filter_append, ih]
   cases hb : bitB (recAt m.smiths k).2.2.2.1 (n : Int)
   ·rw [mayTo_no (by rw [hm, ho, hb]; rfl), List.filter_cons_of_neg (by rw [hi, hb]; simp)]
    simp
   ·rw [mayTo_yes (by rw [hm, ho, hb]; rfl), List.filter_cons_of_pos (by rw [hi, hb])]
    have hv : benchV (awayM m (k : Int)) n = butV m (k : Int) n := by unfold benchV butV; rw [used_away m hk]; rfl
    rw [hv]
    rfl
def forV (m : SmyV) (who : Int) : List BenchV := if smyB m && whoB m who then mayTo m who m.desks.length else []
def fittingOfV (m : SmyV) (who : Int) : List Int := if smyB m && whoB m who then fittingL m who else []
def crowdedV (m : SmyV) : Bool := smyB m && crowdB m
def chosenOfV (m : SmyV) (who : Int) : Int := if smyB m && whoB m who then chosenV m who else -1
def takesB (wn : Int) (x : BenchV) : Bool := fitsB wn x.2.1 x.2.2
theorem may_fit (m : SmyV) (who : Int) : ∀ k, ((mayTo m who k).filter (takesB (wantV m who))).map (·.1) = fitTo m who k
 | 0 => rfl
 | k + 1 => by
  have ih := may_fit m who k
  have hf : fitAt m who k = (mayAt m who k && takesB (wantV m who) (butV m who k)) := rfl
  cases hm : mayAt m who k
  ·rw [mayTo_no hm, ih]
   show _ = if _ then _ else _
   rw [hf, hm]; rfl
  ·rw [mayTo_yes hm, List.filter_append, List.map_append, ih]
   show _ = if _ then _ else _
   cases ht : takesB (wantV m who) (butV m who k)
   ·rw [hf, hm, ht, List.filter_cons_of_neg (by rw [ht]; simp)]; simp
   ·rw [hf, hm, ht, List.filter_cons_of_pos ht]; rfl
theorem for_fit (m : SmyV) (who : Int) : ((forV m who).filter (takesB (wantOfV m who))).map (·.1) = fittingOfV m who := by
 unfold forV fittingOfV wantOfV
 cases h : (smyB m && whoB m who)
 ·rfl
 ·simp only [if_true]; exact may_fit m who _
def roomStep (a : Int × Int) (x : BenchV) : Int × Int := if a.1 = -1 ∨ a.2 < spareV x.2.1 x.2.2 then (x.1, spareV x.2.1 x.2.2) else a
def roomL (l : List BenchV) : Int × Int := l.foldl roomStep (-1, 0)
theorem roomL_snoc (l : List BenchV) (x : BenchV) : roomL (l ++ [x]) = roomStep (roomL l) x := by unfold roomL; rw [List.foldl_append]; rfl
theorem may_most (m : SmyV) (who : Int) : ∀ k, roomL (mayTo m who k) = mostTo m who k
 | 0 => rfl
 | k + 1 => by
  have ih := may_most m who k
  have ho := most_or m who k
  have hn : ((mostTo m who k).1 < 0) ↔ (mostTo m who k).1 = -1 := by
   rcases ho with ⟨e, _⟩ | ⟨b, _, e, _⟩
   ·rw [e]; omega
   ·rw [e]; omega
  have hM : mostTo m who (k + 1) = if mayAt m who k && (decide ((mostTo m who k).1 < 0) || decide ((mostTo m who k).2 < spareV (usedV m k who) (forceV m.rooms k))) then ((k : Int), spareV (usedV m k who) (forceV m.rooms k)) else mostTo m who k := rfl
  rw [hM]
  cases hm : mayAt m who k
  ·rw [mayTo_no hm, ih]; rfl
  ·rw [mayTo_yes hm, roomL_snoc, ih]
   show (if (mostTo m who k).1 = -1 ∨ (mostTo m who k).2 < spareV (usedV m k who) (forceV m.rooms k) then _ else _) = _
   by_cases hc : (mostTo m who k).1 = -1 ∨ (mostTo m who k).2 < spareV (usedV m k who) (forceV m.rooms k)
   ·rw [if_pos hc, if_pos (by rw [Bool.true_and, Bool.or_eq_true, decide_eq_true_iff, decide_eq_true_iff, hn]; exact hc)]; rfl
   ·rw [if_neg hc, if_neg (by rw [Bool.true_and, Bool.or_eq_true, decide_eq_true_iff, decide_eq_true_iff, hn]; exact hc)]
def cheapStep (m : SmyV) (who : Int) (a : Int × Int) (b : Int) : Int × Int := if a.1 = -1 ∨ coalWithV m who b < a.2 ∨ (coalWithV m who b = a.2 ∧ b = (recAt m.smiths who.toNat).2.1) then (b, coalWithV m who b) else a
def cheapL (m : SmyV) (who : Int) (f : List Int) : Int × Int := f.foldl (cheapStep m who) (-1, 0)
theorem cheapL_snoc (m : SmyV) (who : Int) (f : List Int) (b : Int) : cheapL m who (f ++ [b]) = cheapStep m who (cheapL m who f) b := by unfold cheapL; rw [List.foldl_append]; rfl
theorem cheap_fold (m : SmyV) (who : Int) : ∀ (f : List Int) (a : Int × Int), 0 ≤ a.1 → (∀ x ∈ f, 0 ≤ x) → f.foldl (cheapStep m who) a = f.foldl (stepBest m who) a
 | [], a, _, _ => rfl
 | b :: f, a, h0, hf => by
  have e : cheapStep m who a b = stepBest m who a b := by
   unfold cheapStep stepBest
   by_cases hc : coalWithV m who b < a.2 ∨ (coalWithV m who b = a.2 ∧ b = (recAt m.smiths who.toNat).2.1)
   ·rw [if_pos hc, if_pos (.inr hc)]
   ·rw [if_neg hc, if_neg (not_or.2 ⟨by omega, hc⟩)]
  rw [List.foldl_cons, List.foldl_cons, e]
  refine cheap_fold m who f _ ?_ (fun x hx => hf x (List.mem_cons_of_mem _ hx))
  unfold stepBest
  split
  ·exact hf b (by simp)
  ·exact h0
theorem cheap_best (m : SmyV) (who : Int) {f : List Int} (h : 0 < f.length) (hf : ∀ x ∈ f, 0 ≤ x) : cheapL m who f = bestTo m who f f.length := by
 obtain ⟨x, r, rfl⟩ : ∃ x r, f = x :: r := by
  cases f with
  | nil => simp at h
  | cons x r => exact ⟨x, r, rfl⟩
 unfold cheapL bestTo
 rw [List.take_length, List.foldl_cons]
 show r.foldl (cheapStep m who) (cheapStep m who (-1, 0) x) = r.foldl (stepBest m who) (x, coalWithV m who x)
 have e : cheapStep m who (-1, 0) x = (x, coalWithV m who x) := by unfold cheapStep; rw [if_pos (.inl rfl)]
 rw [e]
 exact cheap_fold m who r _ (hf x (by simp)) (fun y hy => hf y (by simp [hy]))
theorem fitL_mem {m : SmyV} {who x : Int} (h : x ∈ fittingL m who) : ∃ b : Nat, b < m.desks.length ∧ x = (b : Int) ∧ mayAt m who b = true := by
 obtain ⟨b, hb, e, hf⟩ := (fitTo_mem m who x m.desks.length).1 h
 unfold fitAt at hf
 simp only [Bool.and_eq_true] at hf
 exact ⟨b, hb, e, hf.1⟩
theorem chosen_is (m : SmyV) (who : Int) : chosenOfV m who = if crowdedV m || decide ((fittingOfV m who).length = 0) then (roomL (forV m who)).1 else (cheapL m who (fittingOfV m who)).1 := by
 unfold chosenOfV crowdedV fittingOfV forV
 cases h1 : smyB m
 ·rfl
 cases h2 : whoB m who
 ·cases crowdB m <;> rfl
 simp only [Bool.and_self, if_true, Bool.true_and]
 unfold chosenV
 rw [may_most]
 cases hc : crowdB m
 ·by_cases hl : (fittingL m who).length = 0
  ·rw [if_neg (by simp [hl]), if_pos (by simp [hl])]
  ·rw [if_pos (by simp; omega), if_neg (by simp; intro e; rw [e] at hl; simp at hl)]
   rw [cheap_best m who (by omega) (fun x hx => by obtain ⟨b, _, rfl, _⟩ := fitL_mem hx; omega)]
 ·rfl
theorem take_snocR {α : Type} [Inhabited α] {l : List α} {k : Nat} (h : k < l.length) : l.take (k + 1) = l.take k ++ [recAt l k] := by
 rw [List.take_succ_eq_append_getElem h, recAt_get h]
theorem may_bd {m : SmyV} (h : Loose m) {k : Nat} (hk : k < m.smiths.length) (hs : (recAt m.smiths k).1 ≠ 0) : 0 ≤ (recAt m.smiths k).2.2.2.1 ∧ (recAt m.smiths k).2.2.2.1 ≤ 255 := by
 obtain ⟨hp, _, _⟩ := h.limits hk hs
 generalize recAt m.smiths k = s at *
 obtain ⟨st, be, rk, my, gu, lo, hi, hd, ca, ut, wk⟩ := s
 obtain ⟨_, _, _, ⟨y0, y1⟩, _⟩ := presB_of hp
 show 0 ≤ my ∧ my ≤ 255
 omega
theorem open_at {m : SmyV} {k : Nat} (hk : k < m.desks.length) : openB m (k : Int) = (recAt m.desks k).1 := by
 unfold openB hasB
 rw [Int.toNat_natCast, decide_eq_true (show (0 : Int) ≤ (k : Int) by omega), decide_eq_true (show (k : Int) < (m.desks.length : Int) by omega)]
 simp
theorem mem_may {m : SmyV} (h : Loose m) {k : Nat} (hk : k < m.smiths.length) (hs : (recAt m.smiths k).1 ≠ 0) {x : BenchV} (hx : x ∈ openTo (awayM m (k : Int)) m.desks.length) : memB (recAt m.smiths k).2.2.2.1 x.1 = inMay m k x := by
 obtain ⟨b, hb, _, rfl⟩ := (openTo_mem _ x _).1 hx
 obtain ⟨y0, y1⟩ := may_bd h hk hs
 have h8 := h.sane.eight
 unfold memB inMay benchV
 rw [inB_t y0 y1, inB_t (show (0 : Int) ≤ (b : Int) by omega) (show (b : Int) ≤ 7 by omega)]
 rfl
theorem for_none {m : SmyV} {who : Int} (h : wantOfV m who = -1) : forV m who = [] := by
 unfold forV
 unfold wantOfV at h
 have hb := (wantV_bd m who).1
 cases hc : (smyB m && whoB m who)
 ·rfl
 ·rw [hc, if_pos rfl] at h; omega
theorem for_some {m : SmyV} {k : Nat} (h : smyB m = true) (hw : whoB m (k : Int) = true) (hk : k < m.smiths.length) : (openTo (awayM m (k : Int)) m.desks.length).filter (inMay m k) = forV m (k : Int) := by
 unfold forV
 rw [h, hw, open_may m hk]
 rfl
theorem crowd_any (m : SmyV) : (openTo m m.desks.length).any (fun x => muchB x.2.1 x.2.2) = crowdB m := by
 unfold crowdB
 rw [Bool.eq_iff_iff, List.any_eq_true, List.any_eq_true]
 constructor
 ·rintro ⟨x, hx, hm⟩
  obtain ⟨b, hb, ho, rfl⟩ := (openTo_mem m x _).1 hx
  exact ⟨b, List.mem_range.2 hb, by unfold crowdAt; rw [ho]; exact hm⟩
 ·rintro ⟨b, hb, hc⟩
  unfold crowdAt at hc
  simp only [Bool.and_eq_true] at hc
  exact ⟨benchV m b, (openTo_mem m _ _).2 ⟨b, List.mem_range.1 hb, hc.1, rfl⟩, hc.2⟩
theorem any_no {α : Type} [Inhabited α] {p : α → Bool} {l : List α} (h : ∀ i, i < l.length → p (recAt l i) = false) : l.any p = false := by
 rw [List.any_eq_false]
 intro x hx
 obtain ⟨i, hi, rfl⟩ := List.getElem_of_mem hx
 rw [← recAt_get hi, h i hi]
 simp
theorem any_yes {α : Type} [Inhabited α] {p : α → Bool} {l : List α} {i : Nat} (hi : i < l.length) (h : p (recAt l i) = true) : l.any p = true := List.any_eq_true.2 ⟨_, recAt_mem hi, h⟩
theorem filter_yes {α : Type} [Inhabited α] {p : α → Bool} {l : List α} {j : Nat} (hj : j < l.length) (h : p (recAt l j) = true) : (l.take (j + 1)).filter p = (l.take j).filter p ++ [recAt l j] := by
 rw [take_snocR hj, List.filter_append, List.filter_cons_of_pos h]; rfl
theorem filter_no {α : Type} [Inhabited α] {p : α → Bool} {l : List α} {j : Nat} (hj : j < l.length) (h : p (recAt l j) = false) : (l.take (j + 1)).filter p = (l.take j).filter p := by
 rw [take_snocR hj, List.filter_append, List.filter_cons_of_neg (by rw [h]; simp)]; simp
theorem room_next {l : List BenchV} {j : Nat} (hj : j < l.length) : roomL (l.take (j + 1)) = roomStep (roomL (l.take j)) (recAt l j) := by rw [take_snocR hj, roomL_snoc]
theorem cheap_next {m : SmyV} {who : Int} {l : List Int} {j : Nat} (hj : j < l.length) : cheapL m who (l.take (j + 1)) = cheapStep m who (cheapL m who (l.take j)) (recAt l j) := by rw [take_snocR hj, cheapL_snoc]
theorem fit_open {m : SmyV} {k : Nat} {x : Int} (hx : x ∈ fittingOfV m (k : Int)) : coalWithOfV m (k : Int) x = coalWithV m (k : Int) x := by
 unfold fittingOfV at hx
 cases hc : (smyB m && whoB m (k : Int))
 ·rw [hc] at hx; simp at hx
 rw [hc, if_pos rfl] at hx
 simp only [Bool.and_eq_true] at hc
 obtain ⟨b, hb, rfl, hm⟩ := fitL_mem hx
 unfold mayAt at hm
 simp only [Bool.and_eq_true] at hm
 unfold coalWithOfV
 rw [hc.1, hc.2, open_at hb, hm.1]
 rfl
def doneV (m X : SmyV) (c : Int) : SmyV × Int := if smyB m then (if c = 0 then (turnedV X, 0) else (m, c)) else (zeroM, 3)
theorem done_bad {m : SmyV} (h : smyB m = false) (X : SmyV) (c : Int) : doneV m X c = (zeroM, 3) := by unfold doneV; rw [h]; rfl
theorem done_yes {m : SmyV} (h : smyB m = true) (X : SmyV) : doneV m X 0 = (turnedV X, 0) := by unfold doneV; rw [h]; rfl
theorem done_no {m : SmyV} (h : smyB m = true) (X : SmyV) {c : Int} (hc : c ≠ 0) : doneV m X c = (m, c) := by unfold doneV; rw [h, if_pos rfl, if_neg hc]
theorem turned_is {m : SmyV} (h : Loose m) : turnedV m = turnV m := by unfold turnedV; rw [h.mk', if_pos rfl]
theorem scan_push (ss : List SmithV) {s : SmithV} (hp : presS s = false) (b : Int) : ∀ k, k ≤ ss.length → scanV (ss ++ [s]) b k = scanV ss b k
 | 0, _ => rfl
 | k + 1, h => by
  have ih := scan_push ss hp b k (by omega)
  have e : recAt (ss ++ [s]) k = recAt ss k := by rw [recAt_push, if_neg (by omega)]
  show (match scanV (ss ++ [s]) b k with | none => none | some (wk, wt) => _) = _
  rw [ih, e]
  rfl
theorem push_right {m : SmyV} (h : smyB m = true) {s : SmithV} (hl : m.smiths.length < 12) (h1 : hereB m s = true) (hp : presS s = false) : smyB (pushS m s) = true := by
 have hlo := (smy_loose h).pushS hl h1 (seat_away hp)
 unfold smyB at h ⊢
 simp only [Bool.and_eq_true] at h ⊢
 refine ⟨hlo.mk', List.all_eq_true.2 fun b hb => ?_⟩
 have hb := List.mem_range.1 hb
 have hk := List.all_eq_true.1 h.2 b (List.mem_range.2 hb)
 unfold benchOkB at hk ⊢
 have e : scanV (pushS m s).smiths (b : Int) (pushS m s).smiths.length = scanV m.smiths (b : Int) m.smiths.length := by
  show scanV (m.smiths ++ [s]) (b : Int) (m.smiths ++ [s]).length = _
  rw [List.length_append, List.length_singleton]
  show (match scanV (m.smiths ++ [s]) (b : Int) m.smiths.length with | none => none | some (wk, wt) => _) = _
  rw [scan_push m.smiths hp _ _ (Nat.le_refl _), recAt_push, if_pos rfl, hp]
  cases scanV m.smiths (b : Int) m.smiths.length with
  | none => rfl
  | some p => obtain ⟨wk, wt⟩ := p; simp
 rw [e]
 exact hk
def restC (m : SmyV) (who : Int) : Int := if whoB m who then (if (recAt m.smiths who.toNat).1 = 1 then 2 else 0) else 1
def wakeC (m : SmyV) (who : Int) : Int := if whoB m who then (if (recAt m.smiths who.toNat).1 = 1 then (if chosenOfV m who = -1 then 2 else (if bandB (wakeHad m (recAt m.smiths who.toNat) (chosenOfV m who)) (mark m (chosenOfV m who)) then 0 else 4)) else 2) else 1
theorem wake_loose {m : SmyV} (h : Loose m) {k b : Nat} (hk : k < m.smiths.length) (hs : (recAt m.smiths k).1 ≠ 0) (hb : b < m.desks.length) (hm : mayAt m (k : Int) b = true) : looseB (wakeX m k (b : Int)) = bandB (wakeHad m (recAt m.smiths k) (b : Int)) (mark m (b : Int)) := by
 have hmk : mark m (b : Int) = (recAt m.desks b).2.2 := by unfold mark; rw [Int.toNat_natCast]
 have hbx : (recAt m.desks ((b : Int)).toNat) = recAt m.desks b := by rw [Int.toNat_natCast]
 obtain ⟨hp, hg, hbe⟩ := h.limits hk hs
 have hat : recAt (wakeX m k (b : Int)).smiths k = sitS (recAt m.smiths k) (b : Int) (wakeHad m (recAt m.smiths k) (b : Int)) := by
  unfold wakeX setS
  rw [recAt_set hk, if_pos rfl]
 have hlen : k < (wakeX m k (b : Int)).smiths.length := by unfold wakeX setS; simpa using hk
 unfold mayAt at hm
 simp only [Bool.and_eq_true, Int.toNat_natCast] at hm
 cases hx : bandB (wakeHad m (recAt m.smiths k) (b : Int)) (mark m (b : Int))
 ·cases hy : looseB (wakeX m k (b : Int))
  ·rfl
  ·exfalso
   have := (loose_of hy).at hlen (by rw [hat]; rfl)
   rw [hat] at this
   have h5 := this.2.2.2.2
   have h6 : bandB (wakeHad m (recAt m.smiths k) (b : Int)) (recAt m.desks ((b : Int)).toNat).2.2 = true := h5
   rw [hbx, ← hmk, hx] at h6
   cases h6
 ·have hin := hx
  unfold bandB at hin
  simp only [Bool.and_eq_true] at hin
  have hhad := inB_of hin.1
  refine (h.setS hk ?_ ?_).mk'
  ·refine here_iff.2 (.inr ⟨?_, hg, ?_⟩)
   ·obtain ⟨⟨st, be, rk, my, gu, lo, hi, hd, ca, ut, wk⟩, hrk⟩ : ∃ d, recAt m.smiths k = d := ⟨_, rfl⟩
    rw [hrk] at hp hhad ⊢
    obtain ⟨x0, x1, x2, x3, x4, x5, x6, x7, x8, x9⟩ := presB_of hp
    have h8 := bench_few h
    exact presB_mk (by omega) (by omega) x2 x3 x4 x5 hhad x7 x8 x9
   ·show (b : Int) < (m.desks.length : Int)
    omega
  ·refine seat_mk ?_ ?_ ?_
   ·show (recAt m.desks ((b : Int)).toNat).1 = true
    rw [hbx]; exact hm.1
   ·exact hm.2
   ·show bandB (wakeHad m (recAt m.smiths k) (b : Int)) (recAt m.desks ((b : Int)).toNat).2.2 = true
    rw [hbx, ← hmk]; exact hx
theorem wake_is (m : SmyV) (who : Int) : wakeV m who = doneV m (wakeX m who.toNat (chosenOfV m who)) (wakeC m who) := by
 cases h : smyB m
 ·rw [done_bad h]; unfold wakeV; rw [h]; rfl
 have hlo := smy_loose h
 unfold wakeV wakeC
 rw [h]
 simp only [if_true]
 by_cases hw : whoB m who = true
 rotate_left
 ·rw [if_neg hw, if_neg hw, done_no h _ (by omega)]
 have hch : chosenOfV m who = chosenV m who := by unfold chosenOfV; rw [h, hw]; rfl
 rw [if_pos hw, if_pos hw, hch]
 by_cases e : (recAt m.smiths who.toNat).1 = 1
 rotate_left
 ·rw [if_neg e, if_neg e, done_no h _ (by omega)]
 rw [if_pos e, if_pos e]
 obtain ⟨k, rfl, hk, hs⟩ := whoB_of hw
 rw [Int.toNat_natCast]
 rcases chosen_or m (k : Int) with ⟨ec, _⟩ | ⟨b, hb, ec, hm⟩
 ·have h1 : (-1 : Int) < 0 := by omega
  rw [ec, if_pos h1, if_pos rfl, done_no h _ (by omega)]
 ·have h1 : ¬ (b : Int) < 0 := by omega
  have h2 : ¬ (b : Int) = -1 := by omega
  rw [ec, if_neg h1, if_neg h2, wake_loose hlo hk hs hb hm]
  cases hx : bandB (wakeHad m (recAt m.smiths k) (b : Int)) (mark m (b : Int))
  ·rw [if_neg (by simp), if_neg (by simp), done_no h _ (by omega)]
  ·rw [if_pos rfl, if_pos rfl, done_yes h, turned_is (loose_of (by rw [wake_loose hlo hk hs hb hm, hx]))]
def comeC (m : SmyV) (rank may guild : Int) : Int := if smithB (newS rank may guild) && decide (guild < m.guilds.length) then (if 12 ≤ m.smiths.length then 4 else (if chosenOfV (pushS m (newS rank may guild)) (m.smiths.length : Int) = -1 then 2 else 0)) else 3
def comeX (m : SmyV) (rank may guild : Int) : SmyV := setS (pushS m (newS rank may guild)) m.smiths.length (sitS (newS rank may guild) (chosenOfV (pushS m (newS rank may guild)) (m.smiths.length : Int)) (mark m (chosenOfV (pushS m (newS rank may guild)) (m.smiths.length : Int))))
theorem come_push {m : SmyV} (h : smyB m = true) {rank may guild : Int} (hs : smithB (newS rank may guild) = true) (hg : guild < m.guilds.length) (hl : m.smiths.length < 12) : smyB (pushS m (newS rank may guild)) = true ∧ chosenOfV (pushS m (newS rank may guild)) (m.smiths.length : Int) = comeB m (newS rank may guild) := by
 obtain ⟨j, hj, _⟩ := (smy_loose h).openD
 have hr := push_right h hl (here_iff.2 (.inr ⟨new_pres hs, hg, by show (0 : Int) < _; omega⟩)) (s := newS rank may guild) rfl
 refine ⟨hr, ?_⟩
 unfold chosenOfV comeB
 rw [hr]
 have hat : recAt (pushS m (newS rank may guild)).smiths m.smiths.length = newS rank may guild := by
  show recAt (m.smiths ++ [newS rank may guild]) m.smiths.length = _
  rw [recAt_push, if_pos rfl]
 have hw : whoB (pushS m (newS rank may guild)) (m.smiths.length : Int) = true := by
  unfold whoB
  rw [Int.toNat_natCast, hat, inB_t (by omega) (by show (m.smiths.length : Int) ≤ ((m.smiths ++ [newS rank may guild]).length : Int) - 1; simp)]
  rfl
 rw [hw]
 rfl
theorem come_is (m : SmyV) (rank may guild : Int) : comeV m rank may guild = doneV m (comeX m rank may guild) (comeC m rank may guild) := by
 cases h : smyB m
 ·rw [done_bad h]; unfold comeV; rw [h]; rfl
 have hlo := smy_loose h
 have h12 := smy_twelve hlo
 have hr := come_right h rank may guild
 unfold comeV at hr ⊢
 unfold comeC
 rw [h] at hr ⊢
 simp only [if_true] at hr ⊢
 by_cases hs : (smithB (newS rank may guild) && decide (guild < (m.guilds.length : Int))) = true
 rotate_left
 ·rw [if_neg hs, if_neg hs, done_no h _ (by omega)]
 rw [if_pos hs] at hr ⊢
 rw [if_pos hs]
 simp only [Bool.and_eq_true, decide_eq_true_eq] at hs
 by_cases hl : m.smiths.length = 12
 ·have hl9 : 12 ≤ m.smiths.length := by omega
  rw [if_pos hl, if_pos hl9, done_no h _ (by omega)]
 rw [if_neg hl] at hr ⊢
 obtain ⟨_, hc⟩ := come_push h hs.1 hs.2 (by omega)
 unfold comeX
 have hl9 : ¬ 12 ≤ m.smiths.length := by omega
 rw [if_neg hl9, hc]
 rcases chosen_or (pushS m (newS rank may guild)) (m.smiths.length : Int) with ⟨e, _⟩ | ⟨b, hb, e, hm⟩
 ·have e' : comeB m (newS rank may guild) = -1 := e
  have h1 : (-1 : Int) < 0 := by omega
  rw [e', if_pos h1, if_pos rfl, done_no h _ (by omega)]
 ·have e' : comeB m (newS rank may guild) = (b : Int) := e
  have h1 : ¬ (b : Int) < 0 := by omega
  have h2 : ¬ (b : Int) = -1 := by omega
  rw [e', if_neg h1, if_neg h2, done_yes h]
  rw [turned_is]
  have hbd : b < m.desks.length := hb
  have hpl : m.smiths.length < (pushS m (newS rank may guild)).smiths.length := by show _ < (m.smiths ++ [_]).length; simp
  rcases new_here hlo hs.1 hs.2 with hx | hx
  rotate_left
  ·omega
  have hat : recAt (pushS m (newS rank may guild)).smiths m.smiths.length = newS rank may guild := by
   show recAt (m.smiths ++ [newS rank may guild]) m.smiths.length = _
   rw [recAt_push, if_pos rfl]
  unfold mayAt at hm
  simp only [Bool.and_eq_true, Int.toNat_natCast] at hm
  rw [hat] at hm
  have hbx : (recAt m.desks ((b : Int)).toNat) = recAt m.desks b := by rw [Int.toNat_natCast]
  have hmk : mark m (b : Int) = (recAt m.desks b).2.2 := by unfold mark; rw [hbx]
  have hband := mark_band hlo hbd
  have h8 := bench_few hlo
  refine hx.setS hpl ?_ ?_
  ·refine here_iff.2 (.inr ⟨?_, hs.2, by show (b : Int) < (m.desks.length : Int); omega⟩)
   obtain ⟨x0, x1, x2, x3, x4, x5, x6, x7, x8, x9⟩ := presB_of (new_pres hs.1)
   have hin := hband
   unfold bandB at hin
   simp only [Bool.and_eq_true] at hin
   exact presB_mk (by omega) (by omega) x2 x3 x4 x5 (inB_of hin.1) x7 x8 x9
  ·refine seat_mk ?_ ?_ ?_
   ·show (recAt m.desks ((b : Int)).toNat).1 = true
    rw [hbx]; exact hm.1
   ·exact hm.2
   ·show bandB (mark m (b : Int)) (recAt m.desks ((b : Int)).toNat).2.2 = true
    rw [hbx]; exact hband
def encBench (x : BenchV) : List Value := [.iface 303 (.agg #[.int .i64 x.1, .int .i64 x.2.1, .int .i64 x.2.2])]
theorem encBench_len (x : BenchV) : (encBench x).length = 1 := rfl
abbrev BenchesAt (n₀ : Nat) (w : World) (v : Value) (xs : List BenchV) : Prop := RecAt 246 1 encBench n₀ w v xs
theorem infoBench : (Tryz.prog.info? 246).map (fun i => (i.zero, i.size, i.bytes)) = some (some .nilIface, 1, 16) := by kernel_rfl
theorem bench_cell {w : World} {g : Nat} {xs : List BenchV} (h : ∀ j, j < xs.length → ∀ i u, (encBench (recAt xs j))[i]? = some u → w.cell? ⟨g, j * 1 + i, none⟩ = some u) {j : Nat} (hj : j < xs.length) : w.cell? ⟨g, j, none⟩ = some (.iface 303 (.agg #[.int .i64 (recAt xs j).1, .int .i64 (recAt xs j).2.1, .int .i64 (recAt xs j).2.2])) := by
 have := h j hj 0 _ rfl
 simpa using this
theorem run_append_bench {w : World} {base t ty : Nat} (ht : Tryz.prog.underlying t = some (.slice 246)) {v x : Value} {ps qs : List BenchV} (hown : BenchesAt base w v ps) (hx : IsRec 1 encBench w x qs) (hb : ps.length + qs.length ≤ 4000) (hbase : base ≤ w.heap.size) :
  ∃ v' w', (Builtin.append_ #[t, t] ty #[v, x]).run Tryz.prog w = .ok v' w' ∧ BenchesAt base w' v' (ps ++ qs) ∧ w.grownBy w' v.ownBlock ∧ (v'.ownBlock = v.ownBlock ∨ v'.ownBlock = some w.heap.size) := by
 obtain ⟨i0, hi, hz0, hz1, hz2⟩ := parts_of infoBench
 obtain ⟨a, c, rfl, hc, hm, hr⟩ := hx
 by_cases h0 : qs = []
 ·subst h0
  refine ⟨v, w, run_append_none ht hi hown a c, by simpa using hown, grown_refl _ _, .inl rfl⟩
 ·rcases hr with hr | ⟨b, off, rfl, hlt, hcl⟩
  ·exact absurd hr h0
  ·obtain ⟨v', w', hr, h2, h3, _, h5⟩ := run_append_own_at (P := Tryz.prog) w base t ty 246 i0 .nilIface 1 16 ht hi hz0 hz1 hz2 rfl (by omega) v ps.length _ hown ⟨b, off, none⟩ qs.length c (flat encBench qs) (flat_len encBench_len qs)
    (rec_cells encBench_len (by omega) hcl) (flat_one (fun x u hu => by rcases List.mem_singleton.1 hu with rfl; rfl) qs) (by simp only [maxLen]; omega) (by omega) hbase
   refine ⟨v', w', hr, ?_, h3, h5⟩
   unfold BenchesAt RecAt
   rw [flat_append, List.length_append]
   exact h2
theorem wpList_append_bench {w : World} {ops : Array Oper} {rest : List Oper} {o : Oper} {a : Act} {Q : Exit → Act → World → Prop} (hgd : o.guard = none) (s x : Operand) (t : TypeId) (ht : Tryz.prog.underlying t = some (.slice 246))
  (ho : o.op = .call { callee := .builtin .append, args := #[s, x], argTypes := #[t, t] }) (base : Nat) (v u : Value) (ps qs : List BenchV) (hs : a.eval s = v) (hx : a.eval x = u) (hown : BenchesAt base w v ps) (hr : IsRec 1 encBench w u qs)
  (hb : ps.length + qs.length ≤ 4000) (hbase : base ≤ w.heap.size)
  (h : ∀ v' w', BenchesAt base w' v' (ps ++ qs) → w.grownBy w' v.ownBlock → (v'.ownBlock = v.ownBlock ∨ v'.ownBlock = some w.heap.size) → wpList Tryz.prog ops Q rest (a.put o.dst v') w') :
  wpList Tryz.prog ops Q (o :: rest) a w := by
 refine wpList_plain hgd fun K hK => ?_
 obtain ⟨v', w', hrun, h2, h3, h5⟩ := run_append_bench (ty := o.type) ht hown hr hb hbase
 unfold Oper.wp execOp
 simp only [ho, resolve, invoke, builtin, Sem.run_bind, Sem.run_pure, Result.andThen_ok, List.map_toArray, List.map_cons, List.map_nil, hs, hx, hrun]
 exact hK _ _ (h v' w' h2 h3 h5)
open Go.ChangeShapes Go.WideShapes Go.ChangeAt Go.RowKit Go.Shelf
attribute [local go_sem] Oper.semAt_some
def KeepsBox (Bn : Nat) (t : TypeId) (W W' : World) : Prop := ∀ v, Boxed W Bn t v → Boxed W' Bn t v
theorem KeepsBox.trans {Bn : Nat} {t : TypeId} {A B C : World} (h : KeepsBox Bn t A B) (k : KeepsBox Bn t B C) : KeepsBox Bn t A C := fun v hv => k v (h v hv)
theorem KeepsBox.putObj {Bn : Nat} {t : TypeId} {n : Nat} (h : Bn < n) (W : World) (l : Nat) (o o' : Obj) (hl : n ≤ l) (_ : W.heap[l]? = some o) (_ : o.isCells = false) (_ : o.isWalk = false) : KeepsBox Bn t W (W.putObj l o') :=
 fun v hv => hv.kept (grownBy_putObj' W l o') (fun e => by cases e; omega)
theorem members1_in (n : Nat) (hn : 1 ≤ n) (l Bn : Nat) (s : Int) (J Jx : List Int → World → Prop)
  (hY : ∀ pre x W, J pre W → pre.length < 8 → YieldAt Fence.wide (n - 1) Tryz.prog l #[.int .i64 x] W fun e W' =>
   (e = .returned (.bool true) ∧ J (pre ++ [x]) W' ∧ KeepsBox Bn 2 W W') ∨ (e = .returned (.bool false) ∧ Jx (pre ++ [x]) W'))
  (W : World) (hBn : Boxed W Bn 2 (.int .i64 s)) (h0 : J [] W) :
  CallsIn Fence.wide n Tryz.prog 333 #[.func (.yield l) #[] #[], .pointer (some ⟨Bn, 0, none⟩)] W fun e W' => (∃ v, e = .returned v) ∧
   ((∃ ys, ys = mems s ∧ J ys W') ∨ (∃ pre, pre <+: mems s ∧ Jx pre W')) := by
 refine callsIn_of_wp Tryz.func333 rfl trivial ?_ rfl
 simp only [Tryz.ntmps333, List.size_toArray, List.length_cons, List.length_nil, Nat.reduceAdd, Nat.reduceSub, Array.replicate_succ, Array.replicate_zero, List.push_toArray, List.append_toArray, List.nil_append, List.cons_append]
 gi_wp2
 gi_loopw [4] (fun i wr => ∃ k : Nat, k ≤ 8 ∧ i = .int .i64 k ∧ Boxed wr Bn 2 (.int .i64 s) ∧ J (upto s k) wr)
  (fun i wr => 8 - (intOf i).toNat)
 case atStart => exact ⟨0, by omega, rfl, hBn, h0⟩
 case round =>
  obtain ⟨k, hk, rfl, hbx, hJ⟩ := hrel
  have hul := upto_len s k
  have hc := hbx.cell
  have Hb := hide hbx
  clear hbx
  by_cases hlt : (k : Int) < 8
  ·cases hm : memB s k
   ·gi_wp2_with (refine ⟨trivial, ?_⟩; gi_at_call 192; refine (callsIn_wide.2 (implInSet_any _ _ _)).mono ?_; rintro e w' ⟨rfl, rfl⟩)
    refine ⟨fun _ h => (by cases h), ?_⟩
    gi_wp2
    go_roundw
    case rel => exact ⟨k + 1, by omega, by go_num, uh Hb, by rw [upto_miss hm]; exact hJ⟩
    case measure => simp [intOf]; omega
   ·obtain ⟨fn, tmps, assign, body, hy, hR⟩ := hY (upto s k) k wr hJ (by omega)
    gi_wp2_with (refine ⟨trivial, ?_⟩; gi_at_call 192; refine (callsIn_wide.2 (implInSet_any _ _ _)).mono ?_; rintro e w' ⟨rfl, rfl⟩)
    refine hR.mono ?_
    rintro e W3 (⟨rfl, hJ3, hk3⟩ | ⟨rfl, hJx3⟩)
    ·gi_wp2
     go_roundw
     case rel => exact ⟨k + 1, by omega, by go_num, hk3 _ (uh Hb), by rw [upto_hit hm]; exact hJ3⟩
     case measure => simp [intOf]; omega
    ·gi_wp2
     refine bodyPost_ret (results_none rfl _ _ _) rfl ?_
     exact ⟨⟨_, rfl⟩, .inr ⟨upto s k ++ [(k : Int)], by rw [← upto_hit hm]; exact upto_pre s (k + 1) (by omega), hJx3⟩⟩
  ·obtain rfl : k = 8 := by omega
   gi_wp2
   go_end0
   exact ⟨⟨_, rfl⟩, .inl hJ⟩
theorem membersOf_in (n : Nat) (s : Int) (w : World) :
  CallsIn Fence.wide n Tryz.prog 319 #[.int .i64 s] w fun e w' => e = .returned (.func (.func 333) #[] #[.pointer (some ⟨w.heap.size, 0, none⟩)]) ∧ w' = w.alloc (.cells #[.int .i64 s] 2) := by
 refine callsIn_of_wp Tryz.func319 rfl trivial ?_ rfl
 simp only [Tryz.ntmps319, List.size_toArray, List.length_cons, List.length_nil, Nat.reduceAdd, Nat.reduceSub, Array.replicate_succ, Array.replicate_zero, List.push_toArray, List.append_toArray, List.nil_append, List.cons_append]
 gi_wp2
 go_ret
 exact ⟨rfl, rfl⟩
theorem members_stops (n : Nat) (hn : 1 ≤ n) (Bn : Nat) (s : Int) (w : World) (hBn : Boxed w Bn 2 (.int .i64 s)) :
  SeqStopsK Fence.wide n Tryz.prog 333 #[.pointer (some ⟨Bn, 0, none⟩)] (fun x : Int => #[Value.int .i64 x]) (KeepsBox Bn 2) (fun ys => ys = mems s) (fun pre => pre <+: mems s) 8 w := fun l J Jx W hW _ _ hY h0 =>
 members1_in n hn l Bn s J Jx hY W ((hW.block Bn hBn.lt).trans hBn) h0
theorem implFirstOf_in (n : Nat) (hn : 3 ≤ n) (s : Int) (w : World) :
  CallsIn Fence.wide n Tryz.prog 300 #[.int .i64 s] w fun e w' => e = .returned (.int .i64 (firstMV s)) ∧ Below w.heap.size w w' := by
 have h1 : 1 ≤ n := by omega
 refine callsIn_of_wp_marks Tryz.func300 rfl trivial ?_ rfl
 simp only [Tryz.ntmps300, List.size_toArray, List.length_cons, List.length_nil, Nat.reduceAdd, Nat.reduceSub, Array.replicate_succ, Array.replicate_zero, List.push_toArray, List.append_toArray, List.nil_append, List.cons_append]
 gi_wp2_with (refine ⟨trivial, ?_⟩; gi_at_call 319; refine (membersOf_in (n - 1) _ _).mono ?_; rintro e w' ⟨rfl, rfl⟩)
 have bR := Boxed.new w 2 (.int .i64 0)
 have bN := Boxed.new (w.alloc (.cells #[.int .i64 0] 2)) 2 (.int .i64 s)
 simp only [World.size_alloc] at bN
 have hB0 : Below w.heap.size w ((w.alloc (.cells #[.int .i64 0] 2)).alloc (.cells #[.int .i64 s] 2)) := ((Below.refl _ w).alloc (Nat.le_refl _) _).alloc (by simp) _
 refine wpIn_rangeFunc_ownG rfl h1 (gf := 333) (lb := #[.pointer (some ⟨w.heap.size + 1, 0, none⟩)]) rfl trivial (enters_of Tryz.func333 (by kernel_rfl) rfl)
  (members_stops (n - 1) (by omega) (w.heap.size + 1) s _ bN) (fun h k => h.trans k) (KeepsBox.putObj (by simp)) (Below.refl _ _) (fun _ => rfl)
  (fun pre W => (pre = [] ∧ Boxed W w.heap.size 2 (.int .i64 0)) ∧ Below w.heap.size w W)
  (fun c pre W => (c = .ret ∧ ∃ x, pre = [x] ∧ Boxed W w.heap.size 2 (.int .i64 x)) ∧ Below w.heap.size w W)
  (OwnFrom.and (Own.from (fun s A B row hs hg hr => ⟨hs.1, hs.2.kept hg (fun e => by obtain ⟨o, ho, hc⟩ := hr _ e.symm; rw [show A.heap[w.heap.size]? = _ from hs.2] at ho; cases ho; cases hc)⟩) _) (ownFrom_below (Nat.le_refl _) (by simp; omega)))
  (fun c => OwnFrom.and (Own.from (fun s A B row hs hg hr => by obtain ⟨e1, x, e2, hb⟩ := hs; exact ⟨e1, x, e2, hb.kept hg (fun e => by obtain ⟨o, ho, hc⟩ := hr _ e.symm; rw [show A.heap[w.heap.size]? = _ from hb] at ho; cases ho; cases hc)⟩) _) (ownFrom_below (Nat.le_refl _) (by simp; omega)))
  ⟨⟨rfl, bR.alloc _⟩, hB0⟩
  (fun x => { tmps := #[.int .i64 s, undef, .pointer (some ⟨w.heap.size, 0, none⟩), .int .i64 x, .int .i64 s, .func (.func 333) #[] #[.pointer (some ⟨w.heap.size + 1, 0, none⟩)], .int .i64 x, undef], defers := [] }) ?assign ?body ?done ?stop
 case assign =>
  intro l x W K hK
  gi_wp2
  exact hK
 case body =>
  rintro l pre x W ⟨⟨rfl, hb⟩, hB⟩ _
  have hc := hb.cell
  have hf := hb.frozen
  gi_wp2
  exact ⟨(KeepsOthers.setCell _ _ _).from _, ⟨rfl, x, rfl, hb.set _⟩, hB.setCell (p := ⟨w.heap.size, 0, none⟩) (Nat.le_refl _) _⟩
 case done =>
  rintro D ys W hD hys ⟨⟨hp, hb⟩, hB⟩ hK
  have hc := hb.cell
  have hf := hb.frozen
  gi_wp2
  have hK' := (KeepsOthers.setCell W ⟨w.heap.size, 0, none⟩ (.int .i64 (-1))).same D _ hK rfl
  refine ⟨by simp, .inl ⟨_, _, rfl, run_takeDeferred hK', ?_⟩⟩
  have hc5 := cell_kept (hb.set (.int .i64 (-1))).cell (grownBy_putObj' _ D (.deferred none)) (fun r e => by cases e; exact ⟨_, hK', rfl⟩)
  have hm : mems s = [] := hys.symm.trans hp
  refine ⟨.int .i64 (-1), ?_, ret_int (by unfold firstMV; rw [hm]; rfl), (hB.setCell (p := ⟨w.heap.size, 0, none⟩) (Nat.le_refl _) _).trans (belowK_b (w := w) (Nat.le_refl _) _ D _ _ (by simp at hD; omega) hK' rfl rfl)⟩
  simp [results, Tryz.f300, go_sem, hc5]
 case stop =>
  rintro D c pre W hD hpre ⟨⟨rfl, x, rfl, hb⟩, hB⟩ hK
  gi_wp2
  refine ⟨by simp, .inl ⟨_, _, rfl, run_takeDeferred hK, ?_⟩⟩
  have hc5 := cell_kept hb.cell (grownBy_putObj' _ D (.deferred none)) (fun r e => by cases e; exact ⟨_, hK, rfl⟩)
  have hx : firstMV s = x := by obtain ⟨r, hr⟩ := hpre; unfold firstMV; rw [← hr]; rfl
  refine ⟨.int .i64 x, ?_, ret_int hx.symm, hB.trans (belowK_b (w := w) (Nat.le_refl _) W D _ _ (by simp at hD; omega) hK rfl rfl)⟩
  simp [results, Tryz.f300, go_sem, hc5]
theorem implFirstOf_any (s : Int) (w : World) : Calls Tryz.prog 300 #[.int .i64 s] w fun e w' => e = .returned (.int .i64 (firstMV s)) ∧ Below w.heap.size w w' :=
 callsIn_wide.1 (implFirstOf_in 3 (Nat.le_refl _) s w)
end Go.Proofs.YthbbahagpmdooaaGreatDoor
