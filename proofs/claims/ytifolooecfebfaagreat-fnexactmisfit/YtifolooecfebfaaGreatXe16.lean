/- What the proof rests on, part 16: lists and numbers, how they lie in memory, and contracts of the calls. No condition but those that a theorem names. -/
import Derived.Test.YtifolooecfebfaaGreatXe01
import Derived.Test.YtifolooecfebfaaGreatXe02
import Derived.Test.YtifolooecfebfaaGreatXe03
import Derived.Test.YtifolooecfebfaaGreatXe05
import Derived.Test.YtifolooecfebfaaGreatXe06
import Derived.Test.YtifolooecfebfaaGreatXe07
import Derived.Test.YtifolooecfebfaaGreatXe08
import Derived.Test.YtifolooecfebfaaGreatXe10
import Derived.Test.YtifolooecfebfaaGreatXe12
import Derived.Test.YtifolooecfebfaaGreatXe13
import Derived.WalkMore
import Derived.Below
import Derived.ChangeKeysEq
import Derived.Laws.StructEq
import GoSem.Claim
import GoSem.ClaimJoined
import GoSem.ClaimMapViews
import Derived.JoinedTies
import Derived.KernelRfl
import Derived.RowKit
import Derived.WalkKit
import Derived.ProofKit
import Derived.OpenShut
import Derived.Outline
import Derived.Lib.QuietBelow
import Derived.Deep.RegionWith
import Derived.Deep.QuietTactic
import Derived.BigQuiet
import Derived.Deep.DrawnRows
import Derived.BigRegion
import Derived.Deep.RegionLawGrows
import Derived.Laws.OwnMore
import Derived.OwnWalk
import Derived.Maps.AppendAt
import Derived.RangeFuncNested
import Derived.RangeFuncBound
import Derived.RangeFuncCalls
import Derived.RangeFuncLeaves
import Derived.RangeFuncBox
import Derived.Shelf.Abstract
import Derived.Shelf.RegionOpen
import Derived.OwnWalkIn
import Derived.TacticsInMore
import Derived.LoopNIn
import Derived.LoopIn
import Derived.Lib.SmallJoins
import Derived.Deep.Fields
import Derived.Deep.Slices
import Derived.OrdersHeld
import Derived.Deep.RegionHeldLaw
import Derived.Deep.DeepCutAuto
/- A smithy that is turned, as plain lists: the first one at each bench works, all others there wait; and turned it is right, where it was right but for who works. Lists and numbers alone; no condition but those that a theorem names. -/
namespace Go.Proofs.YtifolooecfebfaaGreat
open Go.ChangeShapes Go.WideShapes Go.ChangeAt Go.RowKit Go.Sort
set_option linter.unusedVariables false

/-- One in another state. -/
def stS (s : SmithV) (st : Int) : SmithV := (st, s.2)
/-- All of a queue wait. -/
def waitAll (ss : List SmithV) (q : List PaceV) : List SmithV := q.foldl (fun ss e => ss.set e.2.toNat (stS (recAt ss e.2.toNat) 2)) ss
theorem waitAll_snoc (ss : List SmithV) (q : List PaceV) (e : PaceV) : waitAll ss (q ++ [e]) = (waitAll ss q).set e.2.toNat (stS (recAt (waitAll ss q) e.2.toNat) 2) := by
  unfold waitAll; rw [List.foldl_append]; rfl
theorem waitAll_len (q : List PaceV) : ∀ ss : List SmithV, (waitAll ss q).length = ss.length := by
  induction q with
  | nil => intro ss; rfl
  | cons e q ih => intro ss; show (waitAll (ss.set e.2.toNat (stS (recAt ss e.2.toNat) 2)) q).length = _; rw [ih, List.length_set]
theorem waitAll_at (q : List PaceV) : ∀ (ss : List SmithV) (i : Nat), (∀ e ∈ q, 0 ≤ e.2 ∧ e.2 < ss.length) → ((∃ e ∈ q, e.2 = (i : Int)) → recAt (waitAll ss q) i = stS (recAt ss i) 2) ∧ ((∀ e ∈ q, e.2 ≠ (i : Int)) → recAt (waitAll ss q) i = recAt ss i) := by
  induction q with
  | nil =>
    intro ss i h
    exact ⟨fun ⟨e, he, _⟩ => (List.not_mem_nil he).elim, fun _ => rfl⟩
  | cons e q ih =>
    intro ss i h
    obtain ⟨e0, e1⟩ := h e (by simp)
    have hs := recAt_set (x := stS (recAt ss e.2.toNat) 2) (show e.2.toNat < ss.length by omega) i
    obtain ⟨i1, i2⟩ := ih (ss.set e.2.toNat (stS (recAt ss e.2.toNat) 2)) i (fun x hx => by rw [List.length_set]; exact h x (List.mem_cons_of_mem _ hx))
    show ((∃ x ∈ e :: q, x.2 = (i : Int)) → recAt (waitAll (ss.set e.2.toNat (stS (recAt ss e.2.toNat) 2)) q) i = _) ∧ ((∀ x ∈ e :: q, x.2 ≠ (i : Int)) → recAt (waitAll (ss.set e.2.toNat (stS (recAt ss e.2.toNat) 2)) q) i = _)
    constructor
    · rintro ⟨x, hx, hxi⟩
      by_cases hq : ∃ y ∈ q, y.2 = (i : Int)
      · rw [i1 hq, hs]
        split
        · rename_i he; rw [he]; rfl
        · rfl
      · rw [i2 (fun y hy e => hq ⟨y, hy, e⟩), hs]
        rcases List.mem_cons.1 hx with rfl | hx
        · rw [if_pos (by omega)]
          rw [show x.2.toNat = i by omega]
        · exact absurd ⟨x, hx, hxi⟩ hq
    · intro hn
      rw [i2 (fun y hy => hn y (List.mem_cons_of_mem _ hy)), hs, if_neg]
      have := hn e (by simp)
      omega

def turnedD (ss : List SmithV) (b : Int) (d : DeskV) : DeskV := match atV ss b ss.length with
  | [] => (d.1, -1, d.2.2)
  | e :: _ => (d.1, e.2, markedV d.2.2 e.1)
/-- One bench is turned. -/
def turnB (m : SmyV) (b : Nat) : SmyV := match atV m.smiths b m.smiths.length with
  | [] => { m with desks := m.desks.set b ((recAt m.desks b).1, -1, (recAt m.desks b).2.2) }
  | e :: t => { m with smiths := (waitAll m.smiths (e :: t)).set e.2.toNat (stS (recAt (waitAll m.smiths (e :: t)) e.2.toNat) 3), desks := m.desks.set b ((recAt m.desks b).1, e.2, markedV (recAt m.desks b).2.2 e.1) }
def turnK (m : SmyV) : Nat → SmyV
  | 0 => m
  | k + 1 => turnB (turnK m k) k
def turnV (m : SmyV) : SmyV := turnK m m.desks.length
theorem turnB_same (m : SmyV) (b : Nat) : (turnB m b).rooms = m.rooms ∧ (turnB m b).guilds = m.guilds ∧ (turnB m b).paces = m.paces ∧ (turnB m b).now = m.now ∧ (turnB m b).smiths.length = m.smiths.length ∧ (turnB m b).desks.length = m.desks.length := by
  unfold turnB
  split
  · simp
  · simp [waitAll_len]
theorem turnK_same (m : SmyV) : ∀ k, (turnK m k).rooms = m.rooms ∧ (turnK m k).guilds = m.guilds ∧ (turnK m k).paces = m.paces ∧ (turnK m k).now = m.now ∧ (turnK m k).smiths.length = m.smiths.length ∧ (turnK m k).desks.length = m.desks.length
  | 0 => ⟨rfl, rfl, rfl, rfl, rfl, rfl⟩
  | k + 1 => by
    obtain ⟨h1, h2, h3, h4, h5, h6⟩ := turnK_same m k
    obtain ⟨g1, g2, g3, g4, g5, g6⟩ := turnB_same (turnK m k) k
    exact ⟨g1.trans h1, g2.trans h2, g3.trans h3, g4.trans h4, g5.trans h5, g6.trans h6⟩
theorem turnB_smith (m : SmyV) (b : Nat) {i : Nat} (hi : i < m.smiths.length) : recAt (turnB m b).smiths i = if (recAt m.smiths i).2.1 = (b : Int) ∧ presS (recAt m.smiths i) = true then stS (recAt m.smiths i) (if firstAt m.smiths b = (i : Int) then 3 else 2) else recAt m.smiths i := by
  have hq := atV_mem m.smiths (b : Int)
  have hf : firstAt m.smiths (b : Int) = match atV m.smiths (b : Int) m.smiths.length with
    | [] => -1
    | h :: _ => h.2 := rfl
  unfold turnB
  split
  · rename_i h0
    rw [if_neg]
    intro hp
    have := (hq (hadS (recAt m.smiths i), (i : Int)) m.smiths.length).2 ⟨i, hi, hp.1, hp.2, rfl⟩
    rw [h0] at this
    exact List.not_mem_nil this
  · rename_i e t h0
    rw [h0] at hf
    simp only at hf
    have hin : ∀ x ∈ e :: t, 0 ≤ x.2 ∧ x.2 < m.smiths.length := by
      intro x hx
      rw [← h0] at hx
      obtain ⟨j, hj, _, _, rfl⟩ := (hq x _).1 hx
      exact ⟨by show (0 : Int) ≤ (j : Int); omega, by show (j : Int) < _; omega⟩
    obtain ⟨w1, w2⟩ := waitAll_at (e :: t) m.smiths i hin
    obtain ⟨e0, e1⟩ := hin e (by simp)
    show recAt ((waitAll m.smiths (e :: t)).set e.2.toNat _) i = _
    rw [recAt_set (by rw [waitAll_len]; omega)]
    by_cases hp : (recAt m.smiths i).2.1 = (b : Int) ∧ presS (recAt m.smiths i) = true
    · have hmem : (hadS (recAt m.smiths i), (i : Int)) ∈ e :: t := by rw [← h0]; exact (hq _ _).2 ⟨i, hi, hp.1, hp.2, rfl⟩
      rw [if_pos hp, hf]
      by_cases hie : i = e.2.toNat
      · rw [if_pos hie, if_pos (by omega), ← hie, w1 ⟨_, hmem, rfl⟩]
        rfl
      · rw [if_neg hie, if_neg (by omega), w1 ⟨_, hmem, rfl⟩]
    · have hnm : ∀ x ∈ e :: t, x.2 ≠ (i : Int) := by
        intro x hx hxi
        rw [← h0] at hx
        obtain ⟨j, hj, j1, j2, rfl⟩ := (hq x _).1 hx
        have : j = i := by have : (j : Int) = (i : Int) := hxi
                           omega
        subst this
        exact hp ⟨j1, j2⟩
      rw [if_neg hp, if_neg (by have := hnm e (by simp); omega), w2 hnm]
theorem turnB_desk (m : SmyV) {b : Nat} (hb : b < m.desks.length) (j : Nat) : recAt (turnB m b).desks j = if j = b then turnedD m.smiths b (recAt m.desks b) else recAt m.desks j := by
  have hf : turnedD m.smiths (b : Int) (recAt m.desks b) = match atV m.smiths (b : Int) m.smiths.length with
    | [] => ((recAt m.desks b).1, -1, (recAt m.desks b).2.2)
    | e :: _ => ((recAt m.desks b).1, e.2, markedV (recAt m.desks b).2.2 e.1) := rfl
  unfold turnB
  split
  · rename_i h0
    rw [h0] at hf
    rw [hf, ← recAt_set hb]
  · rename_i e t h0
    rw [h0] at hf
    rw [hf, ← recAt_set hb]
theorem turnB_alike (m : SmyV) (b : Nat) : Alike m.smiths (turnB m b).smiths m.smiths.length := by
  intro i hi
  rw [turnB_smith m b hi]
  split
  · rename_i hp
    refine ⟨rfl, ?_, rfl⟩
    rw [hp.2]
    split <;> rfl
  · exact ⟨rfl, rfl, rfl⟩
theorem Alike.trans {a b c : List SmithV} {k : Nat} (h : Alike a b k) (g : Alike b c k) : Alike a c k := fun i hi => ⟨(g i hi).1.trans (h i hi).1, (g i hi).2.1.trans (h i hi).2.1, (g i hi).2.2.trans (h i hi).2.2⟩
theorem turnK_alike (m : SmyV) : ∀ k, Alike m.smiths (turnK m k).smiths m.smiths.length
  | 0 => fun _ _ => ⟨rfl, rfl, rfl⟩
  | k + 1 => by
    have h := turnB_alike (turnK m k) k
    rw [(turnK_same m k).2.2.2.2.1] at h
    exact (turnK_alike m k).trans h
theorem turnK_atV (m : SmyV) (k : Nat) (b : Int) : atV (turnK m k).smiths b (turnK m k).smiths.length = atV m.smiths b m.smiths.length := by
  rw [(turnK_same m k).2.2.2.2.1]
  exact atV_alike b _ (turnK_alike m k)
theorem turnK_first (m : SmyV) (k : Nat) (b : Int) : firstAt (turnK m k).smiths b = firstAt m.smiths b := by unfold firstAt; rw [turnK_atV]
theorem turnK_turnedD (m : SmyV) (k : Nat) (b : Int) (d : DeskV) : turnedD (turnK m k).smiths b d = turnedD m.smiths b d := by unfold turnedD; rw [turnK_atV]
theorem turnK_smith (m : SmyV) {i : Nat} (hi : i < m.smiths.length) : ∀ k : Nat, recAt (turnK m k).smiths i = if (0 ≤ (recAt m.smiths i).2.1 ∧ (recAt m.smiths i).2.1 < (k : Int)) ∧ presS (recAt m.smiths i) = true then stS (recAt m.smiths i) (if firstAt m.smiths (recAt m.smiths i).2.1 = (i : Int) then 3 else 2) else recAt m.smiths i
  | 0 => by rw [if_neg (by omega)]; rfl
  | k + 1 => by
    have ih := turnK_smith m hi k
    have ha := turnK_alike m k i hi
    show recAt (turnB (turnK m k) k).smiths i = _
    rw [turnB_smith _ _ (by rw [(turnK_same m k).2.2.2.2.1]; exact hi), ha.1, ha.2.1, turnK_first]
    by_cases hp : presS (recAt m.smiths i) = true
    · by_cases hb : (recAt m.smiths i).2.1 = (k : Int)
      · have hc : (0 ≤ (recAt m.smiths i).2.1 ∧ (recAt m.smiths i).2.1 < ((k + 1 : Nat) : Int)) ∧ presS (recAt m.smiths i) = true := ⟨by omega, hp⟩
        rw [if_pos ⟨hb, hp⟩, if_pos hc, ih, if_neg (by omega), hb]
      · rw [if_neg (fun h => hb h.1), ih]
        by_cases hk : 0 ≤ (recAt m.smiths i).2.1 ∧ (recAt m.smiths i).2.1 < (k : Int)
        · have hc : (0 ≤ (recAt m.smiths i).2.1 ∧ (recAt m.smiths i).2.1 < ((k + 1 : Nat) : Int)) ∧ presS (recAt m.smiths i) = true := ⟨by omega, hp⟩
          rw [if_pos ⟨hk, hp⟩, if_pos hc]
        · rw [if_neg (fun h => hk h.1), if_neg (fun h => hk (by omega))]
    · rw [if_neg (fun h => hp h.2), ih, if_neg (fun h => hp h.2), if_neg (fun h => hp h.2)]
theorem turnK_desk (m : SmyV) (j : Nat) : ∀ k : Nat, k ≤ m.desks.length → recAt (turnK m k).desks j = if j < k then turnedD m.smiths j (recAt m.desks j) else recAt m.desks j
  | 0, _ => by rw [if_neg (by omega)]; rfl
  | k + 1, hk => by
    have ih := turnK_desk m j k (by omega)
    show recAt (turnB (turnK m k) k).desks j = _
    rw [turnB_desk _ (by rw [(turnK_same m k).2.2.2.2.2]; omega)]
    by_cases hjk : j = k
    · subst hjk
      rw [if_pos rfl, if_pos (by omega), turnK_turnedD, ih, if_neg (by omega)]
    · rw [if_neg hjk, ih]
      by_cases h : j < k
      · rw [if_pos h, if_pos (by omega)]
      · rw [if_neg h, if_neg (by omega)]

/-! ### What is right but for who works -/
structure Loose (m : SmyV) : Prop where
  head : headB m = true
  desk : ∀ j, j < m.desks.length → deskB (recAt m.desks j) = true
  pace : ∀ j, j < m.paces.length → paceInB m j = true
  here : ∀ i, i < m.smiths.length → hereB m (recAt m.smiths i) = true
  seat : ∀ i, i < m.smiths.length → seatB m (recAt m.smiths i) = true
  openD : ∃ j, j < m.desks.length ∧ (recAt m.desks j).1 = true
theorem loose_of {m : SmyV} (h : looseB m = true) : Loose m := by
  unfold looseB upDesks upPaces upSmiths upOpen at h
  simp only [Bool.and_eq_true] at h
  obtain ⟨h1, h2, h3, h4, h5⟩ := h
  have h4' := fun i hi => all_at h4 (k := i) hi
  simp only [Bool.and_eq_true] at h4'
  obtain ⟨j, hj, ho⟩ := List.any_eq_true.1 h5
  exact ⟨h1, fun j hj => all_at h2 hj, fun j hj => all_at h3 hj, fun i hi => (h4' i hi).1, fun i hi => (h4' i hi).2, j, List.mem_range.1 hj, ho⟩
theorem Loose.mk' {m : SmyV} (h : Loose m) : looseB m = true := by
  unfold looseB upDesks upPaces upSmiths upOpen
  simp only [Bool.and_eq_true]
  refine ⟨h.head, ?_, ?_, ?_, ?_⟩
  · exact List.all_eq_true.2 fun j hj => h.desk j (List.mem_range.1 hj)
  · exact List.all_eq_true.2 fun j hj => h.pace j (List.mem_range.1 hj)
  · exact List.all_eq_true.2 fun j hj => by rw [h.here j (List.mem_range.1 hj), h.seat j (List.mem_range.1 hj)]; rfl
  · obtain ⟨j, hj, ho⟩ := h.openD
    exact List.any_eq_true.2 ⟨j, List.mem_range.2 hj, ho⟩
/-- Who waits or works: where, and what of it is within which limits. -/
theorem Loose.at {m : SmyV} (h : Loose m) {i : Nat} (hi : i < m.smiths.length) (hp : presS (recAt m.smiths i) = true) : 0 ≤ (recAt m.smiths i).2.1 ∧ (recAt m.smiths i).2.1 < m.desks.length ∧ (recAt m.desks (recAt m.smiths i).2.1.toNat).1 = true ∧ bitB (recAt m.smiths i).2.2.2.1 (recAt m.smiths i).2.1 = true ∧ bandB (hadS (recAt m.smiths i)) (recAt m.desks (recAt m.smiths i).2.1.toNat).2.2 = true := by
  obtain ⟨b0, b1, _⟩ := hereB_of (h.here i hi) hp
  have hs := h.seat i hi
  unfold seatB at hs
  rw [hp] at hs
  simp only [Bool.not_true, Bool.false_or, Bool.and_eq_true] at hs
  exact ⟨b0, b1, hs.1, hs.2.1, hs.2.2⟩
theorem bandB_of {had mark : Int} (h : bandB had mark = true) : -1000000000000 ≤ had ∧ had ≤ 1000000000000 ∧ -1000000000000 ≤ mark ∧ mark ≤ 1000000000000 ∧ -20000 ≤ had - mark ∧ had - mark ≤ 63000 := by
  unfold bandB at h
  simp only [Bool.and_eq_true] at h
  have h1 := inB_of h.1
  have h2 := inB_of h.2.1
  have h3 := inB_of h.2.2
  omega
theorem bandB_t {had mark : Int} (h0 : -1000000000000 ≤ had) (h1 : had ≤ 1000000000000) (h2 : -1000000000000 ≤ mark) (h3 : mark ≤ 1000000000000) (h4 : -20000 ≤ had - mark) (h5 : had - mark ≤ 63000) : bandB had mark = true := by
  unfold bandB; rw [inB_t h0 h1, inB_t h2 h3, inB_t h4 h5]; rfl
theorem deskB_of {d : DeskV} (h : deskB d = true) : -900000000000 ≤ d.2.2 ∧ d.2.2 ≤ 900000000000 := inB_of h

/-- In the state 2 or 3 one is as right as in the other. -/
theorem smithB_st {s : SmithV} {st : Int} (h : smithB s = true) (hp : presS s = true) (h0 : 1 ≤ st) (h1 : st ≤ 3) : smithB (stS s st) = true := by
  obtain ⟨x0, be, rk, my, gu, lo, hi, hd, ca, ut, wk⟩ := s
  have hx : x0 ≠ 0 := by intro e; subst e; cases hp
  unfold smithB at h ⊢
  rw [goneB_st (x := (x0, be, rk, my, gu, lo, hi, hd, ca, ut, wk)) hx, Bool.false_or] at h
  unfold presB at h
  simp only [Bool.and_eq_true] at h
  obtain ⟨g0, g⟩ := h
  have : presB (stS (x0, be, rk, my, gu, lo, hi, hd, ca, ut, wk) st) = true := by
    unfold presB stS
    simp only [Bool.and_eq_true]
    exact ⟨inB_t h0 h1, g⟩
  rw [this, Bool.or_true]
theorem hereB_st {m : SmyV} {s : SmithV} {st : Int} (h : hereB m s = true) (hp : presS s = true) (h0 : 1 ≤ st) (h1 : st ≤ 3) : hereB m (stS s st) = true := by
  unfold hereB at h ⊢
  simp only [Bool.and_eq_true, Bool.or_eq_true] at h ⊢
  refine ⟨smithB_st h.1 hp h0 h1, .inr ?_⟩
  rcases h.2 with e | e
  · have : s.1 = 0 := by simpa using e
    unfold presS at hp
    rw [this] at hp
    cases hp
  · exact e
/-- Which fields rightness of a smith's place looks at. -/
theorem hereB_same {m m' : SmyV} (hg : m'.guilds.length = m.guilds.length) (hd : m'.desks.length = m.desks.length) (s : SmithV) : hereB m' s = hereB m s := by unfold hereB; rw [hg, hd]

theorem turn_loose {m : SmyV} (h : Loose m) : Loose (turnV m) := by
  obtain ⟨e1, e2, e3, e4, e5, e6⟩ := turnK_same m m.desks.length
  have hd := fun j => turnK_desk m j m.desks.length (Nat.le_refl _)
  have hopen : ∀ j, (recAt (turnV m).desks j).1 = (recAt m.desks j).1 := by
    intro j
    unfold turnV
    rw [hd j]
    split
    · unfold turnedD; split <;> rfl
    · rfl
  -- what the mark is
  have hmark : ∀ j, j < m.desks.length → (-900000000000 ≤ (recAt (turnV m).desks j).2.2 ∧ (recAt (turnV m).desks j).2.2 ≤ 900000000000) ∧ (recAt m.desks j).2.2 ≤ (recAt (turnV m).desks j).2.2 ∧ ((recAt (turnV m).desks j).2.2 ≤ (recAt m.desks j).2.2 ∨ ∀ i, i < m.smiths.length → (recAt m.smiths i).2.1 = (j : Int) → presS (recAt m.smiths i) = true → (recAt (turnV m).desks j).2.2 ≤ hadS (recAt m.smiths i)) := by
    intro j hj
    obtain ⟨k0, k1⟩ := deskB_of (h.desk j hj)
    unfold turnV
    rw [hd j, if_pos hj]
    unfold turnedD
    split
    · exact ⟨⟨k0, k1⟩, Int.le_refl _, .inl (Int.le_refl _)⟩
    · rename_i e t hq
      obtain ⟨_, i, hi, hib, hip, rfl⟩ := firstAt_some hq
      obtain ⟨_, _, _, _, hband⟩ := h.at hi hip
      obtain ⟨a0, a1, _⟩ := bandB_of hband
      have hm := marked_in (m := (recAt m.desks j).2.2) (f := hadS (recAt m.smiths i)) (by omega) (by omega) a0 a1
      show (-900000000000 ≤ markedV _ _ ∧ markedV _ _ ≤ 900000000000) ∧ _ ≤ markedV _ _ ∧ (markedV _ _ ≤ _ ∨ _)
      rw [hm]
      refine ⟨by omega, by omega, ?_⟩
      by_cases hc : hadS (recAt m.smiths i) ≤ (recAt m.desks j).2.2
      · left; omega
      · right
        intro i' hi' hb' hp'
        have := first_least hq hi' hb' hp'
        simp only at this
        show min (max (recAt m.desks j).2.2 (hadS (recAt m.smiths i))) 900000000000 ≤ _
        omega
  refine ⟨?_, ?_, ?_, ?_, ?_, ?_⟩
  · have := h.head
    unfold headB at this ⊢
    unfold turnV
    rw [e1, e2, e3, e4, e5, e6]
    exact this
  · intro j hj
    have hj' : j < m.desks.length := by unfold turnV at hj; omega
    exact inB_t (hmark j hj').1.1 (hmark j hj').1.2
  · intro j hj
    have hj' : j < m.paces.length := by unfold turnV at hj; rw [e3] at hj; exact hj
    have := h.pace j hj'
    unfold paceInB at this ⊢
    unfold turnV
    rw [e1, e3]
    exact this
  · intro i hi
    have hi' : i < m.smiths.length := by unfold turnV at hi; omega
    rw [hereB_same (m := m) (by unfold turnV; rw [e2]) (by unfold turnV; rw [e6])]
    unfold turnV
    rw [turnK_smith m hi']
    split
    · rename_i hp
      exact hereB_st (h.here i hi') hp.2 (by split <;> omega) (by split <;> omega)
    · exact h.here i hi'
  · intro i hi
    have hi' : i < m.smiths.length := by unfold turnV at hi; omega
    have ha := turnK_alike m m.desks.length i hi'
    unfold seatB
    show (!presS (recAt (turnK m m.desks.length).smiths i) || _) = true
    rw [ha.2.1]
    cases hp : presS (recAt m.smiths i)
    · rfl
    · obtain ⟨b0, b1, ho, hm, hband⟩ := h.at hi' hp
      obtain ⟨a0, a1, a2, a3, a4, a5⟩ := bandB_of hband
      obtain ⟨⟨q0, q1⟩, q2, q3⟩ := hmark (recAt m.smiths i).2.1.toNat (by omega)
      have hmay : (recAt (turnK m m.desks.length).smiths i).2.2.2.1 = (recAt m.smiths i).2.2.2.1 := by
        rw [turnK_smith m hi']; split <;> rfl
      show (!true || ((recAt (turnV m).desks (recAt (turnK m m.desks.length).smiths i).2.1.toNat).1 && (bitB (recAt (turnK m m.desks.length).smiths i).2.2.2.1 (recAt (turnK m m.desks.length).smiths i).2.1 && bandB (hadS (recAt (turnK m m.desks.length).smiths i)) (recAt (turnV m).desks (recAt (turnK m m.desks.length).smiths i).2.1.toNat).2.2))) = true
      rw [ha.1, ha.2.2, hmay, hopen, ho, hm]
      rw [bandB_t a0 a1 (by omega) (by omega) ?_ (by omega)]
      · rfl
      · rcases q3 with q3 | q3
        · omega
        · have := q3 i hi' (by omega) hp
          omega
  · obtain ⟨j, hj, ho⟩ := h.openD
    exact ⟨j, by unfold turnV; omega, by rw [hopen]; exact ho⟩

/-- At a bench where just f works: the scan says so. -/
theorem scan_of {ss : List SmithV} {b f : Int} : ∀ k : Nat, (∀ i, i < k → (recAt ss i).2.1 = b → presS (recAt ss i) = true → ((recAt ss i).1 = 2 ∧ (i : Int) ≠ f) ∨ ((recAt ss i).1 = 3 ∧ (i : Int) = f)) →
    ∃ wk wt, scanV ss b k = some (wk, wt) ∧ ((wk = -1 ∧ ∀ i, i < k → (recAt ss i).2.1 = b → presS (recAt ss i) = true → (i : Int) ≠ f) ∨ (wk = f ∧ ∃ i : Nat, i < k ∧ (recAt ss i).2.1 = b ∧ presS (recAt ss i) = true ∧ (i : Int) = f)) ∧ (wt = true → ∃ i, i < k ∧ (recAt ss i).2.1 = b ∧ presS (recAt ss i) = true)
  | 0, _ => ⟨-1, false, rfl, .inl ⟨rfl, fun i hi => by omega⟩, fun h => by cases h⟩
  | k + 1, h => by
    obtain ⟨wk, wt, hs, hw, ht⟩ := scan_of k (fun i hi => h i (by omega))
    have hu : scanV ss b (k + 1) = if (recAt ss k).2.1 = b ∧ presS (recAt ss k) = true then (if (recAt ss k).1 = 2 then some (wk, true) else if 0 ≤ wk then none else some ((k : Int), wt)) else some (wk, wt) := by
      show (match scanV ss b k with
        | none => none
        | some (wk, wt) => _) = _
      rw [hs]
    rw [hu]
    by_cases hp : (recAt ss k).2.1 = b ∧ presS (recAt ss k) = true
    · rw [if_pos hp]
      rcases h k (by omega) hp.1 hp.2 with ⟨h2, hne⟩ | ⟨h3, hkf⟩
      · rw [if_pos h2]
        refine ⟨wk, true, rfl, ?_, fun _ => ⟨k, by omega, hp.1, hp.2⟩⟩
        rcases hw with ⟨e, hn⟩ | ⟨e, i, hi, hb, hpi, hif⟩
        · refine .inl ⟨e, fun i hi hb hpi => ?_⟩
          by_cases hik : i = k
          · subst hik; exact hne
          · exact hn i (by omega) hb hpi
        · exact .inr ⟨e, i, by omega, hb, hpi, hif⟩
      · rw [if_neg (by omega)]
        have hw1 : wk = -1 := by
          rcases hw with ⟨e, _⟩ | ⟨e, i, hi, hb, hpi, hif⟩
          · exact e
          · omega
        rw [if_neg (by omega)]
        exact ⟨k, wt, rfl, .inr ⟨hkf, k, by omega, hp.1, hp.2, hkf⟩, fun e => by obtain ⟨i, hi, r⟩ := ht e; exact ⟨i, by omega, r⟩⟩
    · rw [if_neg hp]
      refine ⟨wk, wt, rfl, ?_, fun e => by obtain ⟨i, hi, r⟩ := ht e; exact ⟨i, by omega, r⟩⟩
      rcases hw with ⟨e, hn⟩ | ⟨e, i, hi, r⟩
      · refine .inl ⟨e, fun i hi hb hpi => ?_⟩
        by_cases hik : i = k
        · subst hik; exact absurd ⟨hb, hpi⟩ hp
        · exact hn i (by omega) hb hpi
      · exact .inr ⟨e, i, by omega, r⟩

/-- Turned it is right. -/
theorem turn_right {m : SmyV} (h : Loose m) : smyB (turnV m) = true := by
  unfold smyB
  rw [Bool.and_eq_true]
  refine ⟨(turn_loose h).mk', ?_⟩
  obtain ⟨e1, e2, e3, e4, e5, e6⟩ := turnK_same m m.desks.length
  refine List.all_eq_true.2 fun b hb => ?_
  have hb := List.mem_range.1 hb
  have hb' : b < m.desks.length := by unfold turnV at hb; omega
  have hn : (turnV m).smiths.length = m.smiths.length := e5
  have ha := turnK_alike m m.desks.length
  have hstate : ∀ i, i < m.smiths.length → (recAt (turnV m).smiths i).2.1 = (b : Int) → presS (recAt (turnV m).smiths i) = true → ((recAt (turnV m).smiths i).1 = 2 ∧ (i : Int) ≠ firstAt m.smiths b) ∨ ((recAt (turnV m).smiths i).1 = 3 ∧ (i : Int) = firstAt m.smiths b) := by
    intro i hi hib hip
    have hib' : (recAt m.smiths i).2.1 = (b : Int) := (ha i hi).1.symm.trans hib
    have hip' : presS (recAt m.smiths i) = true := (ha i hi).2.1.symm.trans hip
    unfold turnV
    rw [turnK_smith m hi, if_pos ⟨by omega, hip'⟩, hib']
    by_cases hf : firstAt m.smiths (b : Int) = (i : Int)
    · right; rw [if_pos hf]; exact ⟨rfl, hf.symm⟩
    · left; rw [if_neg hf]; exact ⟨rfl, fun e => hf e.symm⟩
  obtain ⟨wk, wt, hs, hw, ht⟩ := scan_of (b := (b : Int)) (f := firstAt m.smiths b) (ss := (turnV m).smiths) m.smiths.length hstate
  unfold benchOkB
  rw [hn, hs]
  simp only
  have hdesk := turnK_desk m b m.desks.length (Nat.le_refl _)
  rw [if_pos hb'] at hdesk
  cases hq : atV m.smiths (b : Int) m.smiths.length with
  | nil =>
    have hempty : ∀ i, i < m.smiths.length → ¬ ((recAt (turnV m).smiths i).2.1 = (b : Int) ∧ presS (recAt (turnV m).smiths i) = true) := by
      rintro i hi ⟨hib, hip⟩
      have := (atV_mem m.smiths (b : Int) (hadS (recAt m.smiths i), (i : Int)) m.smiths.length).2 ⟨i, hi, (ha i hi).1.symm.trans hib, (ha i hi).2.1.symm.trans hip, rfl⟩
      rw [hq] at this
      exact List.not_mem_nil this
    have hwt : wt = false := by
      cases wt
      · rfl
      · obtain ⟨i, hi, r⟩ := ht rfl
        exact absurd r (hempty i hi)
    have hwk : wk = -1 := by
      rcases hw with ⟨e, _⟩ | ⟨_, i, hi, hb, hp, _⟩
      · exact e
      · exact absurd ⟨hb, hp⟩ (hempty i hi)
    have hwho : (recAt (turnV m).desks b).2.1 = -1 := by
      unfold turnV; rw [hdesk]; unfold turnedD; rw [hq]
    rw [hwho, hwk, hwt]
    rfl
  | cons e t =>
    obtain ⟨hfe, i, hi, hib, hip, rfl⟩ := firstAt_some hq
    have hwho : (recAt (turnV m).desks b).2.1 = (i : Int) := by
      unfold turnV; rw [hdesk]; unfold turnedD; rw [hq]
    have hwk : wk = (i : Int) := by
      rcases hw with ⟨_, hn⟩ | ⟨e, _⟩
      · exact absurd hfe.symm (hn i hi ((ha i hi).1.trans hib) ((ha i hi).2.1.trans hip))
      · exact e.trans hfe
    rw [hwho, hwk]
    have : decide ((i : Int) < 0) = false := decide_eq_false (by omega)
    rw [this]
    simp

end Go.Proofs.YtifolooecfebfaaGreat

/- What the program asks of a smithy, as plain lists; and that it is what the model asks. Lists and numbers alone; no condition but those that a theorem names. -/
namespace Go.Proofs.YtifolooecfebfaaGreat
open Go.ChangeShapes Go.WideShapes Go.ChangeAt Go.RowKit Go.Sort
set_option linter.unusedVariables false

/-- Of the first k, the places where it is so. -/
def whereTo {α : Type} [Inhabited α] (p : α → Bool) (xs : List α) : Nat → List Int
  | 0 => []
  | k + 1 => if p (recAt xs k) then whereTo p xs k ++ [(k : Int)] else whereTo p xs k
theorem whereTo_yes {α : Type} [Inhabited α] {p : α → Bool} {xs : List α} {k : Nat} (h : p (recAt xs k) = true) : whereTo p xs (k + 1) = whereTo p xs k ++ [(k : Int)] := by rw [whereTo, if_pos h]
theorem whereTo_no {α : Type} [Inhabited α] {p : α → Bool} {xs : List α} {k : Nat} (h : p (recAt xs k) = false) : whereTo p xs (k + 1) = whereTo p xs k := by rw [whereTo, if_neg (by simp [h])]
theorem whereTo_len {α : Type} [Inhabited α] (p : α → Bool) (xs : List α) : ∀ k, (whereTo p xs k).length ≤ k
  | 0 => Nat.le_refl _
  | k + 1 => by
    have := whereTo_len p xs k
    unfold whereTo
    split
    · simp; omega
    · omega
theorem whereTo_mem {α : Type} [Inhabited α] (p : α → Bool) (xs : List α) (x : Int) : ∀ k, x ∈ whereTo p xs k ↔ ∃ i : Nat, i < k ∧ x = (i : Int) ∧ p (recAt xs i) = true
  | 0 => by simp [whereTo]
  | k + 1 => by
    have ih := whereTo_mem p xs x k
    cases h : p (recAt xs k)
    · rw [whereTo_no h, ih]
      constructor
      · rintro ⟨i, hi, h1, h2⟩
        exact ⟨i, by omega, h1, h2⟩
      · rintro ⟨i, hi, h1, h2⟩
        by_cases hik : i = k
        · subst hik; rw [h] at h2; cases h2
        · exact ⟨i, by omega, h1, h2⟩
    · rw [whereTo_yes h, List.mem_append, ih]
      constructor
      · rintro (⟨i, hi, h1, h2⟩ | h1)
        · exact ⟨i, by omega, h1, h2⟩
        · exact ⟨k, by omega, by simpa using h1, h⟩
      · rintro ⟨i, hi, h1, h2⟩
        by_cases hik : i = k
        · subst hik; right; simp [h1]
        · exact .inl ⟨i, by omega, h1, h2⟩
theorem whereTo_any {α : Type} [Inhabited α] (p : α → Bool) (xs : List α) : ∀ k, decide (0 < (whereTo p xs k).length) = (List.range k).any fun j => p (recAt xs j)
  | 0 => rfl
  | k + 1 => by
    have ih := whereTo_any p xs k
    rw [any_up, ← ih]
    cases h : p (recAt xs k)
    · rw [whereTo_no h]; simp
    · rw [whereTo_yes h]; simp
def allTo {α : Type} [Inhabited α] (p : α → Bool) (xs : List α) (k : Nat) : Bool := (List.range k).all fun j => p (recAt xs j)
theorem allTo_no {α : Type} [Inhabited α] {p : α → Bool} {xs : List α} {k n : Nat} (hk : k < n) (h : p (recAt xs k) = false) : allTo p xs n = false := all_no (p := fun j => p (recAt xs j)) hk h
theorem allTo_up {α : Type} [Inhabited α] {p : α → Bool} {xs : List α} {k : Nat} (h : allTo p xs k = true) (h2 : p (recAt xs k) = true) : allTo p xs (k + 1) = true := by unfold allTo at h ⊢; rw [all_up, h, h2]; rfl
theorem allTo_and {α : Type} [Inhabited α] (p q : α → Bool) (xs : List α) : ∀ k, (allTo p xs k && allTo q xs k) = allTo (fun x => p x && q x) xs k
  | 0 => rfl
  | k + 1 => by
    have ih := allTo_and p q xs k
    unfold allTo at ih ⊢
    rw [all_up, all_up, all_up, ← ih]
    generalize ((List.range k).all fun j => p (recAt xs j)) = a
    generalize ((List.range k).all fun j => q (recAt xs j)) = b
    cases a <;> cases b <;> cases hp : p (recAt xs k) <;> cases hq : q (recAt xs k) <;> simp [hp, hq]
theorem allTo_congr {α : Type} [Inhabited α] {p q : α → Bool} (xs : List α) (h : ∀ x, p x = q x) (k : Nat) : allTo p xs k = allTo q xs k := by unfold allTo; congr 1; funext j; exact h _

def hasB (n : Nat) (i : Int) : Bool := decide (0 ≤ i) && decide (i < n)
def atB (b : Int) (s : SmithV) : Bool := (s.1 == 2 || s.1 == 3) && s.2.1 == b
def worksB (b : Int) (s : SmithV) : Bool := s.1 == 3 && s.2.1 == b
def thereB (n : Nat) (s : SmithV) : Bool := s.1 == 0 || (s.2.2.2.2.1 == -1 || hasB n s.2.2.2.2.1)
def placeB (ds : List DeskV) (s : SmithV) : Bool := s.1 == 0 || (hasB ds.length s.2.1 && (s.1 == 1 || ((recAt ds s.2.1.toNat).1 && (memB s.2.2.2.1 s.2.1 && inBandB s.2.2.2.2.2.2.2.1 (recAt ds s.2.1.toNat).2.2))))
def smithsIB (ss : List SmithV) (n : Nat) : Bool := decide (ss.length ≤ 12) && (allTo smithB ss ss.length && allTo (thereB n) ss ss.length)
def desksIB (ds : List DeskV) (n : Int) : Bool := decide ((ds.length : Int) = n) && (allTo deskB ds ds.length && decide (0 < (whereTo (fun d : DeskV => d.1) ds ds.length).length))
def pacesIB (ps : List Int) (rs : List RoomV) : Bool := decide (ps.length = rs.length) && (List.range ps.length).all fun j => hasB (roomAt rs j).2.length (recAt ps j)
def partsIB (m : SmyV) : Bool := hallB m.rooms && (guildsB m.guilds && (smithsIB m.smiths m.guilds.length && (desksIB m.desks (benchSum m.rooms) && (pacesIB m.paces m.rooms && inB m.now 0 1000000))))
def inPlaceIB (m : SmyV) : Bool := partsIB m && allTo (placeB m.desks) m.smiths m.smiths.length
def turnIB (m : SmyV) (b : Nat) : Bool := if (recAt m.desks b).2.1 = -1 then decide ((whereTo (atB b) m.smiths m.smiths.length).length = 0) else decide ((whereTo (worksB b) m.smiths m.smiths.length).length = 1) && decide (recAt (whereTo (worksB b) m.smiths m.smiths.length) 0 = (recAt m.desks b).2.1)
def turnsIB (m : SmyV) : Bool := (List.range m.desks.length).all (turnIB m)
def smyIB (m : SmyV) : Bool := inPlaceIB m && turnsIB m

theorem band_same (h m : Int) : inBandB h m = bandB h m := by
  unfold inBandB bandB hadB
  rw [Bool.and_assoc]
theorem one_same (m : SmyV) (s : SmithV) : (smithB s && (thereB m.guilds.length s && placeB m.desks s)) = (hereB m s && seatB m s) := by
  cases hs : smithB s
  · unfold hereB; rw [hs]; rfl
  · have hh : hereB m s = (s.1 == 0 || (decide (s.2.2.2.2.1 < m.guilds.length) && decide (s.2.1 < m.desks.length))) := by unfold hereB; rw [hs]; rfl
    rw [hh, Bool.true_and]
    unfold smithB at hs
    simp only [Bool.or_eq_true] at hs
    rcases hs with hg | hp
    · have e := goneB_of hg
      subst e
      rfl
    · obtain ⟨st, be, rk, my, gu, lo, hi, hd, ca, ut, wk⟩ := s
      obtain ⟨⟨s1, s2⟩, ⟨b1, b2⟩, _, ⟨m1, m2⟩, ⟨g1, g2⟩, _⟩ := presB_of hp
      have hmem : memB my be = bitB my be := memB_t (inB_t (by omega) (by omega)) (inB_t (by omega) (by omega))
      have hst0 : (st == 0) = false := by simp; omega
      have hgu : (gu == -1 || hasB m.guilds.length gu) = decide (gu < m.guilds.length) := by
        unfold hasB
        by_cases e : gu = -1
        · subst e; simp; omega
        · have : (gu == -1) = false := by simpa using e
          rw [this, Bool.false_or, show decide (0 ≤ gu) = true from decide_eq_true (by omega), Bool.true_and]
      have hbe : hasB m.desks.length be = decide (be < m.desks.length) := by
        unfold hasB
        rw [show decide (0 ≤ be) = true from decide_eq_true (by omega), Bool.true_and]
      have hpr : presS (st, be, rk, my, gu, lo, hi, hd, ca, ut, wk) = !(st == 1) := by
        unfold presS
        rcases (by omega : st = 1 ∨ st = 2 ∨ st = 3) with e | e | e <;> subst e <;> rfl
      unfold thereB placeB seatB
      simp only
      rw [hst0, hgu, hbe, hpr, hmem, band_same, Bool.not_not]
      simp only [Bool.false_or, Bool.and_assoc]
theorem scan_same (ss : List SmithV) (b : Int) : ∀ k : Nat,
    (match scanV ss b k with
      | none => 2 ≤ (whereTo (worksB b) ss k).length
      | some (wk, wt) => ((wk = -1 ∧ whereTo (worksB b) ss k = []) ∨ (0 ≤ wk ∧ whereTo (worksB b) ss k = [wk])) ∧ ((whereTo (atB b) ss k = []) ↔ (whereTo (worksB b) ss k = [] ∧ wt = false)))
  | 0 => by simp [scanV, whereTo]
  | k + 1 => by
    have ih := scan_same ss b k
    unfold scanV
    cases hsc : scanV ss b k with
    | none =>
      rw [hsc] at ih
      simp only at ih ⊢
      unfold whereTo
      split
      · simp; omega
      · exact ih
    | some r =>
      obtain ⟨wk, wt⟩ := r
      rw [hsc] at ih
      simp only at ih ⊢
      by_cases hat : (recAt ss k).2.1 = b ∧ presS (recAt ss k) = true
      · rw [if_pos hat]
        have hA : atB b (recAt ss k) = true := by
          have h2 := hat.2
          unfold presS at h2
          unfold atB
          rw [h2, hat.1]; simp
        by_cases h2 : (recAt ss k).1 = 2
        · rw [if_pos h2]
          have hW : worksB b (recAt ss k) = false := by unfold worksB; rw [h2]; rfl
          rw [whereTo_no hW, whereTo_yes hA]
          exact ⟨ih.1, by simp⟩
        · rw [if_neg h2]
          have h3 : (recAt ss k).1 = 3 := by
            have := hat.2
            unfold presS at this
            simp only [Bool.or_eq_true, beq_iff_eq] at this
            omega
          have hW : worksB b (recAt ss k) = true := by unfold worksB; rw [h3, hat.1]; simp
          rw [whereTo_yes hW, whereTo_yes hA]
          by_cases hwk : 0 ≤ wk
          · rw [if_pos hwk]
            rcases ih.1 with ⟨e, _⟩ | ⟨_, e⟩
            · omega
            · simp only
              rw [e]; simp
          · rw [if_neg hwk]
            rcases ih.1 with ⟨_, e⟩ | ⟨e, _⟩
            · simp only
              rw [e]; simp
            · omega
      · rw [if_neg hat]
        have hA : atB b (recAt ss k) = false := by
          cases hc : atB b (recAt ss k)
          · rfl
          · exfalso
            apply hat
            unfold atB at hc
            simp only [Bool.and_eq_true, beq_iff_eq] at hc
            exact ⟨hc.2, by unfold presS; exact hc.1⟩
        have hW : worksB b (recAt ss k) = false := by
          cases hc : worksB b (recAt ss k)
          · rfl
          · exfalso
            apply hat
            unfold worksB at hc
            simp only [Bool.and_eq_true, beq_iff_eq] at hc
            exact ⟨hc.2, by unfold presS; rw [hc.1]; rfl⟩
        rw [whereTo_no hW, whereTo_no hA]
        exact ih
theorem turn_same (m : SmyV) (b : Nat) : turnIB m b = benchOkB m b := by
  have h := scan_same m.smiths b m.smiths.length
  unfold turnIB benchOkB
  cases hsc : scanV m.smiths b m.smiths.length with
  | none =>
    rw [hsc] at h
    simp only at h ⊢
    split
    · have : whereTo (atB b) m.smiths m.smiths.length ≠ [] := by
        intro e
        have hx : recAt (whereTo (worksB b) m.smiths m.smiths.length) 0 ∈ whereTo (worksB b) m.smiths m.smiths.length := recAt_mem (by omega)
        obtain ⟨i, hi, _, hw⟩ := (whereTo_mem _ _ _ _).1 hx
        have : (i : Int) ∈ whereTo (atB b) m.smiths m.smiths.length := (whereTo_mem _ _ _ _).2 ⟨i, hi, rfl, by
          unfold worksB at hw
          simp only [Bool.and_eq_true, beq_iff_eq] at hw
          unfold atB
          rw [hw.1, hw.2]; simp⟩
        rw [e] at this
        cases this
      simp only [List.length_eq_zero_iff, this, decide_false]
    · rw [show decide ((whereTo (worksB b) m.smiths m.smiths.length).length = 1) = false from decide_eq_false (by omega), Bool.false_and]
  | some r =>
    obtain ⟨wk, wt⟩ := r
    rw [hsc] at h
    simp only at h ⊢
    obtain ⟨h1, h2⟩ := h
    generalize whereTo (worksB b) m.smiths m.smiths.length = ws at *
    generalize whereTo (atB b) m.smiths m.smiths.length = az at *
    generalize (recAt m.desks b).2.1 = who at *
    by_cases hw : who = -1
    · subst hw
      simp only [if_true, List.length_eq_zero_iff]
      rcases h1 with ⟨rfl, rfl⟩ | ⟨hk, rfl⟩
      · cases wt
        · simp at h2; simp [h2]
        · simp at h2; simp [h2]
      · have hne : az ≠ [] := by
          intro e
          have := (h2.1 e).1
          cases this
        have : ((-1 : Int) == wk) = false := by simp; omega
        rw [this]
        simp [hne]
    · rw [if_neg hw]
      rcases h1 with ⟨rfl, rfl⟩ | ⟨hk, rfl⟩
      · have : (who == -1) = false := by simpa using hw
        rw [this]; simp
      · have h0 : decide (wk < 0) = false := decide_eq_false (by omega)
        rw [h0, Bool.and_false, Bool.not_false, Bool.and_true]
        simp only [List.length_cons, List.length_nil, decide_true, Bool.true_and]
        show decide (wk = who) = (who == wk)
        by_cases e : wk = who
        · subst e; simp
        · rw [decide_eq_false e]; symm; simp; omega
theorem has_in (n : Nat) (i : Int) : hasB n i = inB i 0 ((n : Int) - 1) := by
  unfold hasB inB
  by_cases h0 : 0 ≤ i <;> by_cases h1 : i < n
  · rw [decide_eq_true h0, decide_eq_true h1, decide_eq_true (show 0 ≤ i ∧ i ≤ (n : Int) - 1 by omega)]; rfl
  · rw [decide_eq_true h0, decide_eq_false h1, decide_eq_false (show ¬ (0 ≤ i ∧ i ≤ (n : Int) - 1) by omega)]; rfl
  · rw [decide_eq_false h0, decide_eq_false (show ¬ (0 ≤ i ∧ i ≤ (n : Int) - 1) by omega)]; rfl
  · rw [decide_eq_false h0, decide_eq_false (show ¬ (0 ≤ i ∧ i ≤ (n : Int) - 1) by omega)]; rfl
theorem loose_same (m : SmyV) : inPlaceIB m = looseB m := by
  have e1 : upSmiths m m.smiths.length = (allTo smithB m.smiths m.smiths.length && (allTo (thereB m.guilds.length) m.smiths m.smiths.length && allTo (placeB m.desks) m.smiths m.smiths.length)) := by
    rw [allTo_and, allTo_and]
    exact (allTo_congr m.smiths (one_same m) m.smiths.length).symm
  have e2 : pacesIB m.paces m.rooms = (decide (m.paces.length = m.rooms.length) && upPaces m m.paces.length) := by
    unfold pacesIB upPaces
    congr 2
    funext j
    unfold paceInB
    exact has_in _ _
  have e3 : decide (0 < (whereTo (fun d : DeskV => d.1) m.desks m.desks.length).length) = upOpen m m.desks.length := whereTo_any _ _ _
  unfold inPlaceIB partsIB looseB headB smithsIB desksIB
  rw [e1, e2, e3]
  have e4 : allTo deskB m.desks m.desks.length = upDesks m m.desks.length := rfl
  rw [e4]
  generalize hallB m.rooms = x1
  generalize guildsB m.guilds = x2
  generalize decide (m.smiths.length ≤ 12) = x3
  generalize allTo smithB m.smiths m.smiths.length = x4
  generalize allTo (thereB m.guilds.length) m.smiths m.smiths.length = x5
  generalize decide ((m.desks.length : Int) = benchSum m.rooms) = x6
  generalize upDesks m m.desks.length = x7
  generalize upOpen m m.desks.length = x8
  generalize decide (m.paces.length = m.rooms.length) = x9
  generalize upPaces m m.paces.length = x10
  generalize inB m.now 0 1000000 = x11
  generalize allTo (placeB m.desks) m.smiths m.smiths.length = x12
  rw [Bool.eq_iff_iff]
  simp only [Bool.and_eq_true]
  constructor
  · rintro ⟨⟨a1, a2, ⟨a3, a4, a5⟩, ⟨a6, a7, a8⟩, ⟨a9, a10⟩, a11⟩, a12⟩
    exact ⟨⟨a1, a2, a3, a6, a9, a11⟩, a7, a10, ⟨a4, a5, a12⟩, a8⟩
  · rintro ⟨⟨a1, a2, a3, a6, a9, a11⟩, a7, a10, ⟨a4, a5, a12⟩, a8⟩
    exact ⟨⟨a1, a2, ⟨a3, a4, a5⟩, ⟨a6, a7, a8⟩, ⟨a9, a10⟩, a11⟩, a12⟩
theorem smy_same (m : SmyV) : smyIB m = smyB m := by
  unfold smyIB smyB turnsIB
  rw [loose_same, show turnIB m = benchOkB m from funext (turn_same m)]

/-! ### The program's queue -/
/-- Those of a list of places, put into a queue one after the other. -/
def queueOf (ss : List SmithV) (ps : List Int) : List PaceV := ps.foldl (fun q i => putV q (hadS (recAt ss i.toNat), i)) []
theorem queueOf_snoc (ss : List SmithV) (ps : List Int) (i : Int) : queueOf ss (ps ++ [i]) = putV (queueOf ss ps) (hadS (recAt ss i.toNat), i) := by unfold queueOf; rw [List.foldl_append]; rfl
theorem queueOf_at (ss : List SmithV) (b : Int) : ∀ k, queueOf ss (whereTo (atB b) ss k) = atV ss b k
  | 0 => rfl
  | k + 1 => by
    have ih := queueOf_at ss b k
    by_cases hat : (recAt ss k).2.1 = b ∧ presS (recAt ss k) = true
    · have hA : atB b (recAt ss k) = true := by
        have h2 := hat.2
        unfold presS at h2
        unfold atB
        rw [h2, hat.1]; simp
      rw [whereTo_yes hA, queueOf_snoc, ih, atV_yes hat.1 hat.2]
      rfl
    · have hA : atB b (recAt ss k) = false := by
        cases hc : atB b (recAt ss k)
        · rfl
        · exfalso
          apply hat
          unfold atB at hc
          simp only [Bool.and_eq_true, beq_iff_eq] at hc
          exact ⟨hc.2, by unfold presS; exact hc.1⟩
      rw [whereTo_no hA, atV_no hat, ih]
theorem take_snoc_at {ps : List Int} {k : Nat} (h : k < ps.length) : ps.take (k + 1) = ps.take k ++ [recAt ps k] := by
  unfold recAt
  rw [List.take_add_one, List.getD, List.getElem?_eq_getElem h]; rfl
/-- Who is at a bench of what is right but for who works can be queued. -/
theorem at_queue {m : SmyV} (h : Loose m) (b : Int) (k : Nat) (hk : k ≤ m.smiths.length) : queueB (atV m.smiths b k) = true := by
  have hd := h.head
  unfold headB at hd
  simp only [Bool.and_eq_true, decide_eq_true_eq] at hd
  have hl := atV_len m.smiths b k
  have h12 := hd.2.2.1
  refine queueB_isQ ⟨by omega, fun p hp => ?_, ?_, atV_whos _ _ _⟩
  · obtain ⟨i, hi, h1, h2, rfl⟩ := (atV_mem m.smiths b p k).1 hp
    have := bandB_of (h.at (i := i) (by omega) h2).2.2.2.2
    unfold entB
    rw [inB_t (by omega) (by omega), inB_t (by omega) (by show (i : Int) ≤ 99; omega)]; rfl
  · refine ((atV_ris m.smiths b k).and (atV_whos m.smiths b k)).imp fun {x y} hxy => ?_
    have h1 := hxy.1
    have h2 := hxy.2
    rw [ltB_f] at h1
    rw [ltB_t]
    omega
theorem whereTo_sub {α : Type} [Inhabited α] (p : α → Bool) (xs : List α) : ∀ n k : Nat, ∃ j, j ≤ n ∧ (whereTo p xs n).take k = whereTo p xs j
  | 0, k => ⟨0, Nat.le_refl _, by simp [whereTo]⟩
  | n + 1, k => by
    obtain ⟨j, hj, e⟩ := whereTo_sub p xs n k
    cases h : p (recAt xs n)
    · rw [whereTo_no h]; exact ⟨j, by omega, e⟩
    · rw [whereTo_yes h]
      by_cases hk : k ≤ (whereTo p xs n).length
      · rw [List.take_append_of_le_length hk]; exact ⟨j, by omega, e⟩
      · refine ⟨n + 1, Nat.le_refl _, ?_⟩
        rw [whereTo_yes h, List.take_of_length_le (by simp; omega)]
/-- As far as it goes, the program's queue is right. -/
theorem part_queue {m : SmyV} (h : Loose m) (b : Int) (k : Nat) : queueB (queueOf m.smiths ((whereTo (atB b) m.smiths m.smiths.length).take k)) = true := by
  obtain ⟨j, hj, e⟩ := whereTo_sub (atB b) m.smiths m.smiths.length k
  rw [e, queueOf_at]
  exact at_queue h b j hj

end Go.Proofs.YtifolooecfebfaaGreat

/- Contracts of the program's small functions of chapter 11, and of its lists: whether all are so, and where one is so. Condition: the lists can be read. -/
namespace Go.Proofs.YtifolooecfebfaaGreat
open Go.ChangeShapes Go.WideShapes Go.ChangeAt Go.RowKit Go.Sort
set_option linter.unusedVariables false
set_option maxRecDepth 100000

/-- Whether it is open. -/
def openD1 (d : DeskV) : Bool := d.1
theorem hasDesk_any (a : Option Addr) (n cap : Nat) (i : Int) (w : World) : Calls Tryz.prog 171 #[.slice a n cap, .int .i64 i] w fun e w' => e = .returned (.bool (hasB n i)) ∧ w' = w := by
  by_cases h0 : 0 ≤ i
  · by_cases h1 : i < (n : Int)
    all_goals
      go_enter Tryz.func171, Tryz.ntmps171
      go_wp2_with fail
      go_ret
      exact ⟨ret_bool (by unfold hasB; simp [h0, h1]), rfl⟩
  · go_enter Tryz.func171, Tryz.ntmps171
    go_wp2_with fail
    go_ret
    exact ⟨ret_bool (by unfold hasB; simp; omega), rfl⟩
theorem hasGuild_any (a : Option Addr) (n cap : Nat) (i : Int) (w : World) : Calls Tryz.prog 233 #[.slice a n cap, .int .i64 i] w fun e w' => e = .returned (.bool (hasB n i)) ∧ w' = w := by
  by_cases h0 : 0 ≤ i
  · by_cases h1 : i < (n : Int)
    all_goals
      go_enter Tryz.func233, Tryz.ntmps233
      go_wp2_with fail
      go_ret
      exact ⟨ret_bool (by unfold hasB; simp [h0, h1]), rfl⟩
  · go_enter Tryz.func233, Tryz.ntmps233
    go_wp2_with fail
    go_ret
    exact ⟨ret_bool (by unfold hasB; simp; omega), rfl⟩
theorem hasPace_any (a : Option Addr) (n cap : Nat) (i : Int) (w : World) : Calls Tryz.prog 208 #[.slice a n cap, .int .i64 i] w fun e w' => e = .returned (.bool (hasB n i)) ∧ w' = w := by
  by_cases h0 : 0 ≤ i
  · by_cases h1 : i < (n : Int)
    all_goals
      go_enter Tryz.func208, Tryz.ntmps208
      go_wp2_with fail
      go_ret
      exact ⟨ret_bool (by unfold hasB; simp [h0, h1]), rfl⟩
  · go_enter Tryz.func208, Tryz.ntmps208
    go_wp2_with fail
    go_ret
    exact ⟨ret_bool (by unfold hasB; simp; omega), rfl⟩
theorem isGone_any (st be rk my gu lo hi hd ca ut wk : Int) (w : World) : Calls Tryz.prog 170 #[.agg #[.int .i64 st, .int .i64 be, .int .i64 rk, .int .i64 my, .int .i64 gu, .int .i64 lo, .int .i64 hi, .int .i64 hd, .int .i64 ca, .int .i64 ut, .int .i64 wk]] w fun e w' => e = .returned (.bool (st == 0)) ∧ Below w.heap.size w w' := by
  go_enter Tryz.func170, Tryz.ntmps170
  go_wp2_with fail
  go_ret
  exact ⟨rfl, (Below.refl _ _).alloc (Nat.le_refl _) _⟩
theorem isAway_any (st be rk my gu lo hi hd ca ut wk : Int) (w : World) : Calls Tryz.prog 172 #[.agg #[.int .i64 st, .int .i64 be, .int .i64 rk, .int .i64 my, .int .i64 gu, .int .i64 lo, .int .i64 hi, .int .i64 hd, .int .i64 ca, .int .i64 ut, .int .i64 wk]] w fun e w' => e = .returned (.bool (st == 1)) ∧ Below w.heap.size w w' := by
  go_enter Tryz.func172, Tryz.ntmps172
  go_wp2_with fail
  go_ret
  exact ⟨rfl, (Below.refl _ _).alloc (Nat.le_refl _) _⟩
theorem isOpen_any (op : Bool) (who mk : Int) (w : World) : Calls Tryz.prog 173 #[.agg #[.bool op, .int .i64 who, .int .i64 mk]] w fun e w' => e = .returned (.bool op) ∧ Below w.heap.size w w' := by
  go_enter Tryz.func173, Tryz.ntmps173
  go_wp2_with fail
  go_ret
  exact ⟨rfl, (Below.refl _ _).alloc (Nat.le_refl _) _⟩
theorem hasMark_any (op : Bool) (who mk : Int) (w : World) : Calls Tryz.prog 206 #[.agg #[.bool op, .int .i64 who, .int .i64 mk]] w fun e w' => e = .returned (.bool (deskB (op, who, mk))) ∧ Below w.heap.size w w' := by
  go_enter Tryz.func206, Tryz.ntmps206
  go_wp2_with fail
  refine (liesFrom_any _ _ _ _).mono ?_
  rintro e w' ⟨rfl, h9⟩
  subst w'
  go_wp2_with fail
  go_ret
  exact ⟨rfl, (Below.refl _ _).alloc (Nat.le_refl _) _⟩
set_option maxHeartbeats 1000000 in
theorem isAt_any (st be rk my gu lo hi hd ca ut wk b : Int) (w : World) : Calls Tryz.prog 101 #[.agg #[.int .i64 st, .int .i64 be, .int .i64 rk, .int .i64 my, .int .i64 gu, .int .i64 lo, .int .i64 hi, .int .i64 hd, .int .i64 ca, .int .i64 ut, .int .i64 wk], .int .i64 b] w fun e w' => e = .returned (.bool (atB b (st, be, rk, my, gu, lo, hi, hd, ca, ut, wk))) ∧ Below w.heap.size w w' := by
  by_cases h2 : st = 2
  · subst h2
    go_enter Tryz.func101, Tryz.ntmps101
    go_wp2_with fail
    go_ret
    exact ⟨ret_bool (by unfold atB; simp), (Below.refl _ _).alloc (Nat.le_refl _) _⟩
  have n2 : (st == 2) = false := by simpa using h2
  by_cases h3 : st = 3
  · subst h3
    go_enter Tryz.func101, Tryz.ntmps101
    go_wp2_with fail
    go_ret
    exact ⟨ret_bool (by unfold atB; simp), (Below.refl _ _).alloc (Nat.le_refl _) _⟩
  have n3 : (st == 3) = false := by simpa using h3
  go_enter Tryz.func101, Tryz.ntmps101
  go_wp2_with fail
  go_ret
  exact ⟨ret_bool (by unfold atB; simp [n2, n3]), (Below.refl _ _).alloc (Nat.le_refl _) _⟩
set_option maxHeartbeats 1000000 in
theorem worksAt_any (st be rk my gu lo hi hd ca ut wk b : Int) (w : World) : Calls Tryz.prog 211 #[.agg #[.int .i64 st, .int .i64 be, .int .i64 rk, .int .i64 my, .int .i64 gu, .int .i64 lo, .int .i64 hi, .int .i64 hd, .int .i64 ca, .int .i64 ut, .int .i64 wk], .int .i64 b] w fun e w' => e = .returned (.bool (worksB b (st, be, rk, my, gu, lo, hi, hd, ca, ut, wk))) ∧ Below w.heap.size w w' := by
  by_cases h3 : st = 3
  · subst h3
    go_enter Tryz.func211, Tryz.ntmps211
    go_wp2_with fail
    go_ret
    exact ⟨ret_bool (by unfold worksB; simp), (Below.refl _ _).alloc (Nat.le_refl _) _⟩
  have n3 : (st == 3) = false := by simpa using h3
  go_enter Tryz.func211, Tryz.ntmps211
  go_wp2_with fail
  go_ret
  exact ⟨ret_bool (by unfold worksB; simp [n3]), (Below.refl _ _).alloc (Nat.le_refl _) _⟩
theorem whoIsAt1_any (st be rk my gu lo hi hd ca ut wk b : Int) (R : Nat) (w : World) (hc : w.cell? ⟨R, 0, none⟩ = some (.int .i64 b)) (hR : R < w.heap.size) : Calls Tryz.prog 181 #[.agg #[.int .i64 st, .int .i64 be, .int .i64 rk, .int .i64 my, .int .i64 gu, .int .i64 lo, .int .i64 hi, .int .i64 hd, .int .i64 ca, .int .i64 ut, .int .i64 wk], .pointer (some ⟨R, 0, none⟩)] w fun e w' => e = .returned (.bool (atB b (st, be, rk, my, gu, lo, hi, hd, ca, ut, wk))) ∧ Below w.heap.size w w' := by
  have hne : R ≠ w.heap.size := Nat.ne_of_lt hR
  go_enter Tryz.func181, Tryz.ntmps181
  go_wp2_with fail
  refine (isAt_any st be rk my gu lo hi hd ca ut wk b _).mono ?_
  rintro e w1 ⟨rfl, hb⟩
  have Hb := hide (((Below.refl w.heap.size w).alloc (Nat.le_refl _) _).trans (hb.mono (by simp)))
  clear hb
  go_wp2_with fail
  go_ret
  exact ⟨rfl, unhide Hb⟩
theorem whoWorksAt1_any (st be rk my gu lo hi hd ca ut wk b : Int) (R : Nat) (w : World) (hc : w.cell? ⟨R, 0, none⟩ = some (.int .i64 b)) (hR : R < w.heap.size) : Calls Tryz.prog 210 #[.agg #[.int .i64 st, .int .i64 be, .int .i64 rk, .int .i64 my, .int .i64 gu, .int .i64 lo, .int .i64 hi, .int .i64 hd, .int .i64 ca, .int .i64 ut, .int .i64 wk], .pointer (some ⟨R, 0, none⟩)] w fun e w' => e = .returned (.bool (worksB b (st, be, rk, my, gu, lo, hi, hd, ca, ut, wk))) ∧ Below w.heap.size w w' := by
  have hne : R ≠ w.heap.size := Nat.ne_of_lt hR
  go_enter Tryz.func210, Tryz.ntmps210
  go_wp2_with fail
  refine (worksAt_any st be rk my gu lo hi hd ca ut wk b _).mono ?_
  rintro e w1 ⟨rfl, hb⟩
  have Hb := hide (((Below.refl w.heap.size w).alloc (Nat.le_refl _) _).trans (hb.mono (by simp)))
  clear hb
  go_wp2_with fail
  go_ret
  exact ⟨rfl, unhide Hb⟩
set_option maxHeartbeats 1000000 in
theorem guildIsThere_any (st be rk my gu lo hi hd ca ut wk : Int) (a : Option Addr) (n cap : Nat) (w : World) : Calls Tryz.prog 204 #[.agg #[.int .i64 st, .int .i64 be, .int .i64 rk, .int .i64 my, .int .i64 gu, .int .i64 lo, .int .i64 hi, .int .i64 hd, .int .i64 ca, .int .i64 ut, .int .i64 wk], .slice a n cap] w fun e w' => e = .returned (.bool (thereB n (st, be, rk, my, gu, lo, hi, hd, ca, ut, wk))) ∧ Below w.heap.size w w' := by
  have hx : ∀ q : Bool, Calls Tryz.prog 204 #[.agg #[.int .i64 st, .int .i64 be, .int .i64 rk, .int .i64 my, .int .i64 gu, .int .i64 lo, .int .i64 hi, .int .i64 hd, .int .i64 ca, .int .i64 ut, .int .i64 wk], .slice a n cap] w (fun e w' => e = .returned (.bool q) ∧ Below w.heap.size w w') → q = thereB n (st, be, rk, my, gu, lo, hi, hd, ca, ut, wk) → Calls Tryz.prog 204 #[.agg #[.int .i64 st, .int .i64 be, .int .i64 rk, .int .i64 my, .int .i64 gu, .int .i64 lo, .int .i64 hi, .int .i64 hd, .int .i64 ca, .int .i64 ut, .int .i64 wk], .slice a n cap] w fun e w' => e = .returned (.bool (thereB n (st, be, rk, my, gu, lo, hi, hd, ca, ut, wk))) ∧ Below w.heap.size w w' := fun q h e => by rw [← e]; exact h
  by_cases h0 : st = 0
  · subst h0
    refine hx true ?_ (by unfold thereB; simp)
    go_enter Tryz.func204, Tryz.ntmps204
    go_wp2_with fail
    refine (isGone_any 0 be rk my gu lo hi hd ca ut wk _).mono ?_
    rintro e w1 ⟨rfl, hb⟩
    have Hb := hide (((Below.refl w.heap.size w).alloc (Nat.le_refl _) _).trans (hb.mono (by simp)))
    clear hb
    go_wp2_with fail
    go_ret
    exact ⟨rfl, unhide Hb⟩
  have n0 : (st == 0) = false := by simpa using h0
  by_cases h1 : gu = -1
  · subst h1
    refine hx true ?_ (by unfold thereB; simp)
    go_enter Tryz.func204, Tryz.ntmps204
    go_wp2_with fail
    refine (isGone_any st be rk my (-1) lo hi hd ca ut wk _).mono ?_
    rw [n0]
    rintro e w1 ⟨rfl, hb⟩
    have c4 : w1.cell? ⟨w.heap.size, 4, none⟩ = some (.int .i64 (-1)) := (hb.cell (p := ⟨w.heap.size, 4, none⟩) (by simp)).trans (cell_new _ rfl)
    have Hb := hide (((Below.refl w.heap.size w).alloc (Nat.le_refl _) _).trans (hb.mono (by simp)))
    clear hb
    go_wp2_with fail
    go_ret
    exact ⟨rfl, unhide Hb⟩
  have n1 : (gu == -1) = false := by simpa using h1
  refine hx (hasB n gu) ?_ (by unfold thereB; simp [n0, n1])
  go_enter Tryz.func204, Tryz.ntmps204
  go_wp2_with fail
  refine (isGone_any st be rk my gu lo hi hd ca ut wk _).mono ?_
  rw [n0]
  rintro e w1 ⟨rfl, hb⟩
  have c4 : w1.cell? ⟨w.heap.size, 4, none⟩ = some (.int .i64 gu) := (hb.cell (p := ⟨w.heap.size, 4, none⟩) (by simp)).trans (cell_new _ rfl)
  have Hb := hide (((Below.refl w.heap.size w).alloc (Nat.le_refl _) _).trans (hb.mono (by simp)))
  clear hb
  go_wp2_with fail
  refine (hasGuild_any a n cap gu _).mono ?_
  rintro e w2 ⟨rfl, h9⟩
  subst w2
  go_wp2_with fail
  go_ret
  exact ⟨rfl, unhide Hb⟩
theorem smithsOk1_any (st be rk my gu lo hi hd ca ut wk : Int) (R : Nat) (a : Option Addr) (n cap : Nat) (w : World) (hc : w.cell? ⟨R, 0, none⟩ = some (.slice a n cap)) (hR : R < w.heap.size) : Calls Tryz.prog 203 #[.agg #[.int .i64 st, .int .i64 be, .int .i64 rk, .int .i64 my, .int .i64 gu, .int .i64 lo, .int .i64 hi, .int .i64 hd, .int .i64 ca, .int .i64 ut, .int .i64 wk], .pointer (some ⟨R, 0, none⟩)] w fun e w' => e = .returned (.bool (thereB n (st, be, rk, my, gu, lo, hi, hd, ca, ut, wk))) ∧ Below w.heap.size w w' := by
  have hne : R ≠ w.heap.size := Nat.ne_of_lt hR
  go_enter Tryz.func203, Tryz.ntmps203
  go_wp2_with fail
  refine (guildIsThere_any st be rk my gu lo hi hd ca ut wk a n cap _).mono ?_
  rintro e w1 ⟨rfl, hb⟩
  have Hb := hide (((Below.refl w.heap.size w).alloc (Nat.le_refl _) _).trans (hb.mono (by simp)))
  clear hb
  go_wp2_with fail
  go_ret
  exact ⟨rfl, unhide Hb⟩
theorem Calls.bool_of {P : Program} {f : FuncId} {args : Array Value} {w : World} {q q' : Bool} (h : Calls P f args w fun e w' => e = .returned (.bool q) ∧ Below w.heap.size w w') (e : q = q') : Calls P f args w fun e w' => e = .returned (.bool q') ∧ Below w.heap.size w w' := by rw [← e]; exact h
set_option maxHeartbeats 4000000 in
theorem isInPlace_any (st be rk my gu lo hi hd ca ut wk : Int) {v : Value} {ds : List DeskV} {w : World} (h : IsDesks w v ds) : Calls Tryz.prog 122 #[.agg #[.int .i64 st, .int .i64 be, .int .i64 rk, .int .i64 my, .int .i64 gu, .int .i64 lo, .int .i64 hi, .int .i64 hd, .int .i64 ca, .int .i64 ut, .int .i64 wk], v] w fun e w' => e = .returned (.bool (placeB ds (st, be, rk, my, gu, lo, hi, hd, ca, ut, wk))) ∧ Below w.heap.size w w' := by
  obtain ⟨a, cap, rfl, hc, hm, hr⟩ := h
  have Hr := hide hr
  clear hr
  by_cases h0 : st = 0
  · subst h0
    refine Calls.bool_of (q := true) ?_ (by unfold placeB; simp)
    go_enter Tryz.func122, Tryz.ntmps122
    go_wp2_with fail
    refine (isGone_any 0 be rk my gu lo hi hd ca ut wk _).mono ?_
    rintro e w1 ⟨rfl, hb⟩
    have Hb := hide (((Below.refl w.heap.size w).alloc (Nat.le_refl _) _).trans (hb.mono (by simp)))
    clear hb
    go_wp2_with fail
    go_ret
    exact ⟨rfl, unhide Hb⟩
  have n0 : (st == 0) = false := by simpa using h0
  cases hh : hasB ds.length be
  · refine Calls.bool_of (q := false) ?_ (by unfold placeB; simp only [n0, hh]; rfl)
    have Hh := hide hh
    clear hh
    go_enter Tryz.func122, Tryz.ntmps122
    go_wp2_with fail
    refine (isGone_any st be rk my gu lo hi hd ca ut wk _).mono ?_
    rw [n0]
    rintro e w1 ⟨rfl, hb⟩
    have c1 : w1.cell? ⟨w.heap.size, 1, none⟩ = some (.int .i64 be) := (hb.cell (p := ⟨w.heap.size, 1, none⟩) (by simp)).trans (cell_new _ rfl)
    have Hb := hide (((Below.refl w.heap.size w).alloc (Nat.le_refl _) _).trans (hb.mono (by simp)))
    clear hb
    go_wp2_with fail
    refine (hasDesk_any a ds.length cap be _).mono ?_
    rw [unhide Hh]
    rintro e w2 ⟨rfl, h9⟩
    subst w2
    go_wp2_with fail
    go_ret
    exact ⟨rfl, unhide Hb⟩
  have hbe : 0 ≤ be ∧ be < (ds.length : Int) := by unfold hasB at hh; simpa using hh
  obtain ⟨j, rfl⟩ : ∃ j : Nat, be = j := ⟨be.toNat, by omega⟩
  have hj : j < ds.length := by omega
  have hj1 : (j : Int) < (ds.length : Int) := by omega
  rcases unhide Hr with e0 | ⟨b, off, rfl, hbw, hcl⟩
  · rw [e0] at hj; simp at hj
  obtain ⟨t0, t1, t2⟩ := desk_cells hcl hj
  have hD : placeB ds (st, (j : Int), rk, my, gu, lo, hi, hd, ca, ut, wk) = (st == 1 || ((recAt ds j).1 && (memB my j && inBandB hd (recAt ds j).2.2))) := by
    unfold placeB
    simp only [n0, hh, Int.toNat_natCast, Bool.false_or, Bool.true_and]
  have HD := hide hD
  have Hh := hide hh
  clear hD hh hcl Hr
  generalize recAt ds j = d at *
  obtain ⟨op, who, mk⟩ := d
  simp only at t0 t1 t2
  obtain ⟨qm, hqm⟩ : ∃ q, memB my j = q := ⟨_, rfl⟩
  have Hm := hide hqm
  obtain ⟨qb, hqb⟩ : ∃ q, inBandB hd mk = q := ⟨_, rfl⟩
  have Hbd := hide hqb
  clear hqm hqb
  refine Calls.bool_of (q := (st == 1 || (op && (qm && qb)))) ?_ (by rw [unhide HD, unhide Hm, unhide Hbd])
  clear HD
  go_enter Tryz.func122, Tryz.ntmps122
  go_wp2_with fail
  refine (isGone_any st (j : Int) rk my gu lo hi hd ca ut wk _).mono ?_
  rw [n0]
  rintro e w1 ⟨rfl, hb⟩
  have SB : Hid (Blk w1 w.heap.size 42 #[.int .i64 st, .int .i64 j, .int .i64 rk, .int .i64 my, .int .i64 gu, .int .i64 lo, .int .i64 hi, .int .i64 hd, .int .i64 ca, .int .i64 ut, .int .i64 wk]) := hide ((Blk.new w _ _).below hb (by simp))
  have Hb := hide (((Below.refl w.heap.size w).alloc (Nat.le_refl _) _).trans (hb.mono (by simp)))
  rw [← (unhide Hb).cell (p := ⟨b, off + j * 3, none⟩) hbw] at t0
  rw [← (unhide Hb).cell (p := ⟨b, off + j * 3 + 1, none⟩) hbw] at t1
  rw [← (unhide Hb).cell (p := ⟨b, off + j * 3 + 2, none⟩) hbw] at t2
  clear hb
  have s1 := (unhide SB).cell (i := 1) (v := .int .i64 j) rfl
  go_wp2_with fail
  refine (hasDesk_any _ ds.length cap (j : Int) _).mono ?_
  rw [unhide Hh]
  rintro e w2 ⟨rfl, h9⟩
  subst w2
  clear s1
  have s1 := (unhide SB).cell (i := 1) (v := .int .i64 j) rfl
  have hbw1 : b < w1.heap.size := Nat.lt_of_lt_of_le hbw (unhide Hb).size
  have hl0 := (unhide SB).lt
  go_upto_region 6 with fail
  clear t0 t1 t2 s1
  replace SB : Hid (Blk (w1.alloc (.cells #[.bool op, .int .i64 who, .int .i64 mk] 78)) w.heap.size 42 #[.int .i64 st, .int .i64 j, .int .i64 rk, .int .i64 my, .int .i64 gu, .int .i64 lo, .int .i64 hi, .int .i64 hd, .int .i64 ca, .int .i64 ut, .int .i64 wk]) := hide ((unhide SB).alloc _)
  have DB : Hid (Blk (w1.alloc (.cells #[.bool op, .int .i64 who, .int .i64 mk] 78)) w1.heap.size 78 #[.bool op, .int .i64 who, .int .i64 mk]) := hide (Blk.new w1 _ _)
  replace Hb : Hid (Below w.heap.size w (w1.alloc (.cells #[.bool op, .int .i64 who, .int .i64 mk] 78))) := hide ((unhide Hb).alloc (unhide Hb).size _)
  generalize w1.alloc (.cells #[.bool op, .int .i64 who, .int .i64 mk] 78) = W at *
  generalize w1.heap.size = db at *
  have s0 := (unhide SB).cell (i := 0) (v := .int .i64 st) rfl
  have s1 := (unhide SB).cell (i := 1) (v := .int .i64 j) rfl
  have s2 := (unhide SB).cell (i := 2) (v := .int .i64 rk) rfl
  have s3 := (unhide SB).cell (i := 3) (v := .int .i64 my) rfl
  have s4 := (unhide SB).cell (i := 4) (v := .int .i64 gu) rfl
  have s5 := (unhide SB).cell (i := 5) (v := .int .i64 lo) rfl
  have s6 := (unhide SB).cell (i := 6) (v := .int .i64 hi) rfl
  have s7 := (unhide SB).cell (i := 7) (v := .int .i64 hd) rfl
  have s8 := (unhide SB).cell (i := 8) (v := .int .i64 ca) rfl
  have s9 := (unhide SB).cell (i := 9) (v := .int .i64 ut) rfl
  have s10 := (unhide SB).cell (i := 10) (v := .int .i64 wk) rfl
  go_wp2_with fail
  refine (isAway_any st (j : Int) rk my gu lo hi hd ca ut wk _).mono ?_
  rintro e w3 ⟨rfl, hb⟩
  replace SB := hide ((unhide SB).below hb (unhide SB).lt)
  replace DB := hide ((unhide DB).below hb (unhide DB).lt)
  replace Hb := hide ((unhide Hb).trans (hb.mono (unhide Hb).size))
  clear hb s0 s1 s2 s3 s4 s5 s6 s7 s8 s9 s10
  by_cases h1 : st = 1
  · subst h1
    go_wp2_with fail
    go_ret
    exact ⟨ret_bool (by simp), unhide Hb⟩
  have n1 : (st == 1) = false := by simpa using h1
  rw [n1]
  have g0 := (unhide DB).cell (i := 0) (v := .bool op) rfl
  have g1 := (unhide DB).cell (i := 1) (v := .int .i64 who) rfl
  have g2 := (unhide DB).cell (i := 2) (v := .int .i64 mk) rfl
  go_wp2_with fail
  refine (isOpen_any op who mk _).mono ?_
  rintro e w4 ⟨rfl, hb⟩
  replace SB := hide ((unhide SB).below hb (unhide SB).lt)
  replace DB := hide ((unhide DB).below hb (unhide DB).lt)
  replace Hb := hide ((unhide Hb).trans (hb.mono (unhide Hb).size))
  clear hb g0 g1 g2
  cases op
  · go_wp2_with fail
    go_ret
    exact ⟨ret_bool (by simp [h1]), unhide Hb⟩
  have s1 := (unhide SB).cell (i := 1) (v := .int .i64 j) rfl
  have s3 := (unhide SB).cell (i := 3) (v := .int .i64 my) rfl
  have s7 := (unhide SB).cell (i := 7) (v := .int .i64 hd) rfl
  have g2 := (unhide DB).cell (i := 2) (v := .int .i64 mk) rfl
  go_wp2_with fail
  refine (implInSet_any my (j : Int) _).mono ?_
  rw [unhide Hm]
  rintro e w5 ⟨rfl, h9⟩
  subst w5
  cases qm
  · go_wp2_with fail
    go_ret
    exact ⟨ret_bool (by simp [h1]), unhide Hb⟩
  go_wp2_with fail
  refine (implInBand_any hd mk _).mono ?_
  rw [unhide Hbd]
  rintro e w6 ⟨rfl, hb⟩
  replace Hb := hide ((unhide Hb).trans (hb.mono (unhide Hb).size))
  clear hb
  go_wp2_with fail
  go_ret
  exact ⟨ret_bool (by simp [h1]), unhide Hb⟩
set_option maxHeartbeats 8000000 in
/-- all, of smiths, of any test: written once. -/
theorem all_m {w : World} {v : Value} {ss : List SmithV} (h : IsSmiths w v ss) {f : FuncId} {cap : Array Value} {av : Int → Int → Int → Int → Int → Int → Int → Int → Int → Int → Int → Array Value} {p : SmithV → Bool} (hp : ∀ (st be rk my gu lo hi hd ca ut wk : Int) {W : World}, Below w.heap.size w W → Calls Tryz.prog f (av st be rk my gu lo hi hd ca ut wk) W fun e w' => e = .returned (.bool (p (st, be, rk, my, gu, lo, hi, hd, ca, ut, wk))) ∧ Below W.heap.size W w')
    (s : ∀ (p : SmithV → Bool), IsSmiths w v ss → Hid (∀ (st be rk my gu lo hi hd ca ut wk : Int) {W : World}, Below w.heap.size w W → Calls Tryz.prog f (av st be rk my gu lo hi hd ca ut wk) W fun e w' => e = .returned (.bool (p (st, be, rk, my, gu, lo, hi, hd, ca, ut, wk))) ∧ Below W.heap.size W w') → Calls Tryz.prog 120 #[v, .func (Fn.func f) #[] cap] w fun e w' => e = .returned (.bool (allTo p ss ss.length)) ∧ Below w.heap.size w w' := by
    intro p h Hp
    obtain ⟨a, cap, rfl, hc, hm, hr⟩ := h
    have Hr := hide hr
    clear hr
    go_enter Tryz.func120, Tryz.ntmps120
    go_wp2_with fail
    go_loopw [9] (fun i wr => ∃ k : Nat, k ≤ ss.length ∧ i = .int .i64 k ∧ allTo p ss k = true ∧ Below w.heap.size w wr) (fun i _ => ss.length - (intOf i).toNat)
    case atStart => exact ⟨0, Nat.zero_le _, rfl, rfl, Below.refl _ _⟩
    case round =>
      obtain ⟨k, hk, rfl, hst, hb0⟩ := hrel
      have Hst := hide hst
      have BB := hide hb0
      by_cases hlt : k < ss.length
      · have hlt1 : (k : Int) < (ss.length : Int) := by omega
        rcases unhide Hr with e0 | ⟨b, off, rfl, hbw, hcl⟩
        · rw [e0] at hlt; simp at hlt
        obtain ⟨d0, d1, d2, d3, d4, d5, d6, d7, d8, d9, d10⟩ := smith_cells hcl hlt
        rw [← hb0.cell (p := ⟨b, off + k * 11, none⟩) hbw] at d0
        rw [← hb0.cell (p := ⟨b, off + k * 11 + 1, none⟩) hbw] at d1
        rw [← hb0.cell (p := ⟨b, off + k * 11 + 2, none⟩) hbw] at d2
        rw [← hb0.cell (p := ⟨b, off + k * 11 + 3, none⟩) hbw] at d3
        rw [← hb0.cell (p := ⟨b, off + k * 11 + 4, none⟩) hbw] at d4
        rw [← hb0.cell (p := ⟨b, off + k * 11 + 5, none⟩) hbw] at d5
        rw [← hb0.cell (p := ⟨b, off + k * 11 + 6, none⟩) hbw] at d6
        rw [← hb0.cell (p := ⟨b, off + k * 11 + 7, none⟩) hbw] at d7
        rw [← hb0.cell (p := ⟨b, off + k * 11 + 8, none⟩) hbw] at d8
        rw [← hb0.cell (p := ⟨b, off + k * 11 + 9, none⟩) hbw] at d9
        rw [← hb0.cell (p := ⟨b, off + k * 11 + 10, none⟩) hbw] at d10
        have HU := hide (fun hh => allTo_up (p := p) (xs := ss) (k := k) hst hh)
        have HN := hide (fun hh => allTo_no (p := p) (xs := ss) hlt hh)
        clear hcl hst hb0
        generalize recAt ss k = s at *
        obtain ⟨st, be, rk, my, gu, lo, hi, hd, ca, ut, wk⟩ := s
        simp only at d0 d1 d2 d3 d4 d5 d6 d7 d8 d9 d10
        have hbr : b < wr.heap.size := Nat.lt_of_lt_of_le hbw (unhide BB).size
        go_wp2_with fail
        clear d0 d1 d2 d3 d4 d5 d6 d7 d8 d9 d10
        obtain ⟨q, hq⟩ : ∃ q, p (st, be, rk, my, gu, lo, hi, hd, ca, ut, wk) = q := ⟨_, rfl⟩
        have Hq := hide hq
        clear hq
        have hba : Below wr.heap.size wr (wr.alloc (.cells #[.int .i64 st, .int .i64 be, .int .i64 rk, .int .i64 my, .int .i64 gu, .int .i64 lo, .int .i64 hi, .int .i64 hd, .int .i64 ca, .int .i64 ut, .int .i64 wk] 42)) := (Below.refl _ _).alloc (Nat.le_refl _) _
        replace BB := hide ((unhide BB).trans (hba.mono (unhide BB).size))
        clear hba
        refine (unhide Hp st be rk my gu lo hi hd ca ut wk (unhide BB)).mono ?_
        rw [unhide Hq]
        rintro e w1 ⟨rfl, hb⟩
        replace BB := hide ((unhide BB).trans (hb.mono (unhide BB).size))
        clear hb
        cases q
        · go_wp2_with fail
          go_ret
          exact ⟨ret_bool (unhide HN (unhide Hq)).symm, unhide BB⟩
        · go_wp2_with fail
          go_roundw
          case rel => exact ⟨k + 1, by omega, by go_num, unhide HU (unhide Hq), unhide BB⟩
          case measure => simp [intOf]; omega
      · obtain rfl : k = ss.length := by omega
        go_wp2_with fail
        go_ret
        exact ⟨ret_bool (unhide Hst).symm, unhide BB⟩) : Calls Tryz.prog 120 #[v, .func (Fn.func f) #[] cap] w fun e w' => e = .returned (.bool (allTo p ss ss.length)) ∧ Below w.heap.size w w' := s p h (hide hp)
set_option maxHeartbeats 4000000 in
theorem allOk_any {w : World} {v : Value} {ss : List SmithV} (h : IsSmiths w v ss) : Calls Tryz.prog 120 #[v, .func (Fn.func 202) #[] #[]] w fun e w' => e = .returned (.bool (allTo smithB ss ss.length)) ∧ Below w.heap.size w w' := all_m h (fun st be rk my gu lo hi hd ca ut wk _ hb => implSmithOk_any st be rk my gu lo hi hd ca ut wk _)
set_option maxHeartbeats 4000000 in
theorem allThere_any {w : World} {v : Value} {ss : List SmithV} {R n gc : Nat} {ga : Option Addr} (h : IsSmiths w v ss) (hc0 : w.cell? ⟨R, 0, none⟩ = some (.slice ga n gc)) (hR : R < w.heap.size) : Calls Tryz.prog 120 #[v, .func (Fn.func 203) #[] #[.pointer (some ⟨R, 0, none⟩)]] w fun e w' => e = .returned (.bool (allTo (thereB n) ss ss.length)) ∧ Below w.heap.size w w' := all_m h (fun st be rk my gu lo hi hd ca ut wk _ hb => smithsOk1_any st be rk my gu lo hi hd ca ut wk R ga n gc _ (((hb.cell (p := ⟨R, 0, none⟩) hR).trans hc0)) (Nat.lt_of_lt_of_le hR hb.size))
set_option maxHeartbeats 4000000 in
theorem allMark_any {w : World} {v : Value} {ss : List DeskV} (h : IsDesks w v ss) : Calls Tryz.prog 205 #[v, .func (Fn.func 206) #[] #[]] w fun e w' => e = .returned (.bool (allTo deskB ss ss.length)) ∧ Below w.heap.size w w' := by
  obtain ⟨a, cap, rfl, hc, hm, hr⟩ := h
  have Hr := hide hr
  clear hr
  go_enter Tryz.func205, Tryz.ntmps205
  go_wp2_with fail
  go_loopw [9] (fun i wr => ∃ k : Nat, k ≤ ss.length ∧ i = .int .i64 k ∧ allTo deskB ss k = true ∧ Below w.heap.size w wr) (fun i _ => ss.length - (intOf i).toNat)
  case atStart => exact ⟨0, Nat.zero_le _, rfl, rfl, Below.refl _ _⟩
  case round =>
    obtain ⟨k, hk, rfl, hst, hb0⟩ := hrel
    have Hst := hide hst
    have BB := hide hb0
    by_cases hlt : k < ss.length
    · have hlt1 : (k : Int) < (ss.length : Int) := by omega
      rcases unhide Hr with e0 | ⟨b, off, rfl, hbw, hcl⟩
      · rw [e0] at hlt; simp at hlt
      obtain ⟨d0, d1, d2⟩ := desk_cells hcl hlt
      rw [← hb0.cell (p := ⟨b, off + k * 3, none⟩) hbw] at d0
      rw [← hb0.cell (p := ⟨b, off + k * 3 + 1, none⟩) hbw] at d1
      rw [← hb0.cell (p := ⟨b, off + k * 3 + 2, none⟩) hbw] at d2
      have HU := hide (fun hh => allTo_up (p := deskB) (xs := ss) (k := k) hst hh)
      have HN := hide (fun hh => allTo_no (p := deskB) (xs := ss) hlt hh)
      clear hcl hst hb0
      generalize recAt ss k = s at *
      obtain ⟨op, who, mk⟩ := s
      simp only at d0 d1 d2
      have hbr : b < wr.heap.size := Nat.lt_of_lt_of_le hbw (unhide BB).size
      go_wp2_with fail
      clear d0 d1 d2
      obtain ⟨q, hq⟩ : ∃ q, deskB (op, who, mk) = q := ⟨_, rfl⟩
      have Hq := hide hq
      clear hq
      have hba : Below wr.heap.size wr (wr.alloc (.cells #[.bool op, .int .i64 who, .int .i64 mk] 78)) := (Below.refl _ _).alloc (Nat.le_refl _) _
      replace BB := hide ((unhide BB).trans (hba.mono (unhide BB).size))
      clear hba
      refine (hasMark_any op who mk _).mono ?_
      rw [unhide Hq]
      rintro e w1 ⟨rfl, hb⟩
      replace BB := hide ((unhide BB).trans (hb.mono (unhide BB).size))
      clear hb
      cases q
      · go_wp2_with fail
        go_ret
        exact ⟨ret_bool (unhide HN (unhide Hq)).symm, unhide BB⟩
      · go_wp2_with fail
        go_roundw
        case rel => exact ⟨k + 1, by omega, by go_num, unhide HU (unhide Hq), unhide BB⟩
        case measure => simp [intOf]; omega
    · obtain rfl : k = ss.length := by omega
      go_wp2_with fail
      go_ret
      exact ⟨ret_bool (unhide Hst).symm, unhide BB⟩
set_option maxHeartbeats 8000000 in
/-- placesWhere, of smiths, of any test: written once. -/
theorem where_m {w : World} {v : Value} {ss : List SmithV} (h : IsSmiths w v ss) (hl : ss.length ≤ 1000) {f : FuncId} {cap : Array Value} {av : Int → Int → Int → Int → Int → Int → Int → Int → Int → Int → Int → Array Value} {p : SmithV → Bool} (hp : ∀ (st be rk my gu lo hi hd ca ut wk : Int) {W : World}, Below w.heap.size w W → Calls Tryz.prog f (av st be rk my gu lo hi hd ca ut wk) W fun e w' => e = .returned (.bool (p (st, be, rk, my, gu, lo, hi, hd, ca, ut, wk))) ∧ Below W.heap.size W w')
    (s : ∀ (p : SmithV → Bool), IsSmiths w v ss → ss.length ≤ 1000 → Hid (∀ (st be rk my gu lo hi hd ca ut wk : Int) {W : World}, Below w.heap.size w W → Calls Tryz.prog f (av st be rk my gu lo hi hd ca ut wk) W fun e w' => e = .returned (.bool (p (st, be, rk, my, gu, lo, hi, hd, ca, ut, wk))) ∧ Below W.heap.size W w') → Calls Tryz.prog 180 #[v, .func (Fn.func f) #[] cap] w fun e w' => ∃ v', e = .returned v' ∧ NumsAt w.heap.size w' v' (whereTo p ss ss.length) ∧ Below w.heap.size w w' := by
    intro p h hl Hp
    obtain ⟨a, cap, rfl, hc, hm, hr⟩ := h
    have Hr := hide hr
    clear hr
    go_enter Tryz.func180, Tryz.ntmps180
    go_wp2_with fail
    go_loopw [5, 11] (fun l i wr => ∃ k : Nat, k ≤ ss.length ∧ i = .int .i64 k ∧ NumsAt w.heap.size wr l (whereTo p ss k) ∧ Below w.heap.size w wr) (fun _ i _ => ss.length - (intOf i).toNat)
    case atStart => exact ⟨0, Nat.zero_le _, rfl, recs_empty rfl (Nat.le_refl _), (Below.refl _ _).alloc (Nat.le_refl _) _⟩
    case round =>
      obtain ⟨k, hk, rfl, hln, hb0⟩ := hrel
      obtain ⟨la, lc, rfl⟩ := RecAt.shape hln
      have HL := hide hln
      have BB := hide hb0
      have hfl := whereTo_len p ss k
      clear hln
      by_cases hlt : k < ss.length
      · have hlt1 : (k : Int) < (ss.length : Int) := by omega
        rcases unhide Hr with e0 | ⟨b, off, rfl, hbw, hcl⟩
        · rw [e0] at hlt; simp at hlt
        obtain ⟨d0, d1, d2, d3, d4, d5, d6, d7, d8, d9, d10⟩ := smith_cells hcl hlt
        rw [← hb0.cell (p := ⟨b, off + k * 11, none⟩) hbw] at d0
        rw [← hb0.cell (p := ⟨b, off + k * 11 + 1, none⟩) hbw] at d1
        rw [← hb0.cell (p := ⟨b, off + k * 11 + 2, none⟩) hbw] at d2
        rw [← hb0.cell (p := ⟨b, off + k * 11 + 3, none⟩) hbw] at d3
        rw [← hb0.cell (p := ⟨b, off + k * 11 + 4, none⟩) hbw] at d4
        rw [← hb0.cell (p := ⟨b, off + k * 11 + 5, none⟩) hbw] at d5
        rw [← hb0.cell (p := ⟨b, off + k * 11 + 6, none⟩) hbw] at d6
        rw [← hb0.cell (p := ⟨b, off + k * 11 + 7, none⟩) hbw] at d7
        rw [← hb0.cell (p := ⟨b, off + k * 11 + 8, none⟩) hbw] at d8
        rw [← hb0.cell (p := ⟨b, off + k * 11 + 9, none⟩) hbw] at d9
        rw [← hb0.cell (p := ⟨b, off + k * 11 + 10, none⟩) hbw] at d10
        have HY := hide (fun hh => whereTo_yes (p := p) (xs := ss) (k := k) hh)
        have HN := hide (fun hh => whereTo_no (p := p) (xs := ss) (k := k) hh)
        clear hcl hb0
        generalize recAt ss k = s at *
        obtain ⟨st, be, rk, my, gu, lo, hi, hd, ca, ut, wk⟩ := s
        simp only at d0 d1 d2 d3 d4 d5 d6 d7 d8 d9 d10
        have hbr : b < wr.heap.size := Nat.lt_of_lt_of_le hbw (unhide BB).size
        go_wp2_with fail
        clear d0 d1 d2 d3 d4 d5 d6 d7 d8 d9 d10
        obtain ⟨q, hq⟩ : ∃ q, p (st, be, rk, my, gu, lo, hi, hd, ca, ut, wk) = q := ⟨_, rfl⟩
        have Hq := hide hq
        clear hq
        have hba : Below wr.heap.size wr (wr.alloc (.cells #[.int .i64 st, .int .i64 be, .int .i64 rk, .int .i64 my, .int .i64 gu, .int .i64 lo, .int .i64 hi, .int .i64 hd, .int .i64 ca, .int .i64 ut, .int .i64 wk] 42)) := (Below.refl _ _).alloc (Nat.le_refl _) _
        replace BB := hide ((unhide BB).trans (hba.mono (unhide BB).size))
        replace HL := hide (RecAt.later (unhide HL) hba)
        clear hba
        refine (unhide Hp st be rk my gu lo hi hd ca ut wk (unhide BB)).mono ?_
        rw [unhide Hq]
        rintro e w1 ⟨rfl, hb⟩
        replace BB := hide ((unhide BB).trans (hb.mono (unhide BB).size))
        replace HL := hide (RecAt.later (unhide HL) hb)
        clear hb
        cases q
        · go_wp2_with fail
          go_roundw
          case rel => exact ⟨k + 1, by omega, by go_num, by rw [unhide HN (unhide Hq)]; exact unhide HL, unhide BB⟩
          case measure => simp [intOf]; omega
        · have hsx := (unhide BB).size
          go_wp2_with (at_builtin; refine wpList_append_recs tyN rfl (.tmp 19) (.tmp 21) 108 Tryz.underlying108 rfl w.heap.size _ _ (whereTo p ss k) [(k : Int)] rfl rfl (RecAt.later (unhide HL) ((Below.refl _ _).alloc (Nat.le_refl _) _)) (recs_one (k : Int) rfl (Nat.le_refl _) (by omega)) (by simp; omega) (by simp; omega) ?_; intro u9 w9 hp9 hg9 hat9; have HP9 := hide hp9; have HG9 := hide hg9; clear hp9 hg9 hat9)
          have hgo : ∀ i, (Value.slice la (whereTo p ss k).length lc).ownBlock = some i → w.heap.size ≤ i := fun i e => (RecAt.lt (unhide HL) e).1
          have hb9 : Below w.heap.size w1 w9 := ((Below.refl _ _).alloc hsx _).trans ((Below.refl _ _).grown (unhide HG9) (by simp; omega) hgo)
          have hb8 := (unhide BB).trans hb9
          go_wp2_with fail
          go_roundw
          case rel => exact ⟨k + 1, by omega, by go_num, by rw [unhide HY (unhide Hq)]; exact unhide HP9, hb8⟩
          case measure => simp [intOf]; omega
      · obtain rfl : k = ss.length := by omega
        go_wp2_with fail
        go_ret
        exact ⟨_, rfl, unhide HL, unhide BB⟩) : Calls Tryz.prog 180 #[v, .func (Fn.func f) #[] cap] w fun e w' => ∃ v', e = .returned v' ∧ NumsAt w.heap.size w' v' (whereTo p ss ss.length) ∧ Below w.heap.size w w' := s p h hl (hide hp)
set_option maxHeartbeats 4000000 in
theorem whereAt_any {w : World} {v : Value} {ss : List SmithV} {R : Nat} {bn : Int} (h : IsSmiths w v ss) (hl : ss.length ≤ 1000) (hc0 : w.cell? ⟨R, 0, none⟩ = some (.int .i64 bn)) (hR : R < w.heap.size) : Calls Tryz.prog 180 #[v, .func (Fn.func 181) #[] #[.pointer (some ⟨R, 0, none⟩)]] w fun e w' => ∃ v', e = .returned v' ∧ NumsAt w.heap.size w' v' (whereTo (atB bn) ss ss.length) ∧ Below w.heap.size w w' := where_m h hl (fun st be rk my gu lo hi hd ca ut wk _ hb => whoIsAt1_any st be rk my gu lo hi hd ca ut wk bn R _ (((hb.cell (p := ⟨R, 0, none⟩) hR).trans hc0)) (Nat.lt_of_lt_of_le hR hb.size))
set_option maxHeartbeats 4000000 in
theorem whereWorks_any {w : World} {v : Value} {ss : List SmithV} {R : Nat} {bn : Int} (h : IsSmiths w v ss) (hl : ss.length ≤ 1000) (hc0 : w.cell? ⟨R, 0, none⟩ = some (.int .i64 bn)) (hR : R < w.heap.size) : Calls Tryz.prog 180 #[v, .func (Fn.func 210) #[] #[.pointer (some ⟨R, 0, none⟩)]] w fun e w' => ∃ v', e = .returned v' ∧ NumsAt w.heap.size w' v' (whereTo (worksB bn) ss ss.length) ∧ Below w.heap.size w w' := where_m h hl (fun st be rk my gu lo hi hd ca ut wk _ hb => whoWorksAt1_any st be rk my gu lo hi hd ca ut wk bn R _ (((hb.cell (p := ⟨R, 0, none⟩) hR).trans hc0)) (Nat.lt_of_lt_of_le hR hb.size))
set_option maxHeartbeats 4000000 in
theorem whereOpen_any {w : World} {v : Value} {ss : List DeskV} (h : IsDesks w v ss) (hl : ss.length ≤ 1000) : Calls Tryz.prog 207 #[v, .func (Fn.func 173) #[] #[]] w fun e w' => ∃ v', e = .returned v' ∧ NumsAt w.heap.size w' v' (whereTo openD1 ss ss.length) ∧ Below w.heap.size w w' := by
  obtain ⟨a, cap, rfl, hc, hm, hr⟩ := h
  have Hr := hide hr
  clear hr
  go_enter Tryz.func207, Tryz.ntmps207
  go_wp2_with fail
  go_loopw [5, 11] (fun l i wr => ∃ k : Nat, k ≤ ss.length ∧ i = .int .i64 k ∧ NumsAt w.heap.size wr l (whereTo openD1 ss k) ∧ Below w.heap.size w wr) (fun _ i _ => ss.length - (intOf i).toNat)
  case atStart => exact ⟨0, Nat.zero_le _, rfl, recs_empty rfl (Nat.le_refl _), (Below.refl _ _).alloc (Nat.le_refl _) _⟩
  case round =>
    obtain ⟨k, hk, rfl, hln, hb0⟩ := hrel
    obtain ⟨la, lc, rfl⟩ := RecAt.shape hln
    have HL := hide hln
    have BB := hide hb0
    have hfl := whereTo_len openD1 ss k
    clear hln
    by_cases hlt : k < ss.length
    · have hlt1 : (k : Int) < (ss.length : Int) := by omega
      rcases unhide Hr with e0 | ⟨b, off, rfl, hbw, hcl⟩
      · rw [e0] at hlt; simp at hlt
      obtain ⟨d0, d1, d2⟩ := desk_cells hcl hlt
      rw [← hb0.cell (p := ⟨b, off + k * 3, none⟩) hbw] at d0
      rw [← hb0.cell (p := ⟨b, off + k * 3 + 1, none⟩) hbw] at d1
      rw [← hb0.cell (p := ⟨b, off + k * 3 + 2, none⟩) hbw] at d2
      have HY := hide (fun hh => whereTo_yes (p := openD1) (xs := ss) (k := k) hh)
      have HN := hide (fun hh => whereTo_no (p := openD1) (xs := ss) (k := k) hh)
      clear hcl hb0
      generalize recAt ss k = s at *
      obtain ⟨op, who, mk⟩ := s
      simp only at d0 d1 d2
      have hbr : b < wr.heap.size := Nat.lt_of_lt_of_le hbw (unhide BB).size
      go_wp2_with fail
      clear d0 d1 d2
      obtain ⟨q, hq⟩ : ∃ q, openD1 (op, who, mk) = q := ⟨_, rfl⟩
      have Hq := hide hq
      clear hq
      have hba : Below wr.heap.size wr (wr.alloc (.cells #[.bool op, .int .i64 who, .int .i64 mk] 78)) := (Below.refl _ _).alloc (Nat.le_refl _) _
      replace BB := hide ((unhide BB).trans (hba.mono (unhide BB).size))
      replace HL := hide (RecAt.later (unhide HL) hba)
      clear hba
      refine (Calls.bool_of (isOpen_any op who mk _) (unhide Hq)).mono ?_
      rintro e w1 ⟨rfl, hb⟩
      replace BB := hide ((unhide BB).trans (hb.mono (unhide BB).size))
      replace HL := hide (RecAt.later (unhide HL) hb)
      clear hb
      cases q
      · go_wp2_with fail
        go_roundw
        case rel => exact ⟨k + 1, by omega, by go_num, by rw [unhide HN (unhide Hq)]; exact unhide HL, unhide BB⟩
        case measure => simp [intOf]; omega
      · have hsx := (unhide BB).size
        go_wp2_with (at_builtin; refine wpList_append_recs tyN rfl (.tmp 19) (.tmp 21) 108 Tryz.underlying108 rfl w.heap.size _ _ (whereTo openD1 ss k) [(k : Int)] rfl rfl (RecAt.later (unhide HL) ((Below.refl _ _).alloc (Nat.le_refl _) _)) (recs_one (k : Int) rfl (Nat.le_refl _) (by omega)) (by simp; omega) (by simp; omega) ?_; intro u9 w9 hp9 hg9 hat9; have HP9 := hide hp9; have HG9 := hide hg9; clear hp9 hg9 hat9)
        have hgo : ∀ i, (Value.slice la (whereTo openD1 ss k).length lc).ownBlock = some i → w.heap.size ≤ i := fun i e => (RecAt.lt (unhide HL) e).1
        have hb9 : Below w.heap.size w1 w9 := ((Below.refl _ _).alloc hsx _).trans ((Below.refl _ _).grown (unhide HG9) (by simp; omega) hgo)
        have hb8 := (unhide BB).trans hb9
        go_wp2_with fail
        go_roundw
        case rel => exact ⟨k + 1, by omega, by go_num, by rw [unhide HY (unhide Hq)]; exact unhide HP9, hb8⟩
        case measure => simp [intOf]; omega
    · obtain rfl : k = ss.length := by omega
      go_wp2_with fail
      go_ret
      exact ⟨_, rfl, unhide HL, unhide BB⟩

end Go.Proofs.YtifolooecfebfaaGreat

/- What one wants, what is used, which bench is chosen, what all of it costs: as plain lists and numbers. No condition but those that a theorem names. -/
namespace Go.Proofs.YtifolooecfebfaaGreat
open Go.ChangeShapes Go.WideShapes Go.ChangeAt Go.RowKit Go.Sort
set_option linter.unusedVariables false

/-- Util within the bounds. -/
def wantS (gs : List GuildV) (s : SmithV) : Int := min (max s.2.2.2.2.2.2.2.2.2.1 (narV (bnd gs s.2.2.2.2.1) s.2.2.2.2.2.1 s.2.2.2.2.2.2.1).1) (narV (bnd gs s.2.2.2.2.1) s.2.2.2.2.2.1 s.2.2.2.2.2.2.1).2
def wantV (m : SmyV) (who : Int) : Int := wantS m.guilds (recAt m.smiths who.toNat)
def mayAt (m : SmyV) (who : Int) (b : Nat) : Bool := (recAt m.desks b).1 && bitB (recAt m.smiths who.toNat).2.2.2.1 b
end Go.Proofs.YtifolooecfebfaaGreat

/- Whatever is changed, a smithy stays right: each change as plain lists, and that it keeps what is right but for who works. Lists and numbers alone; no condition but those that a theorem names. -/
namespace Go.Proofs.YtifolooecfebfaaGreat
open Go.ChangeShapes Go.WideShapes Go.ChangeAt Go.RowKit Go.Sort
set_option linter.unusedVariables false

theorem presB_mk {st be rk my gu lo hi hd ca ut wk : Int} (h0 : 1 ≤ st ∧ st ≤ 3) (h1 : 0 ≤ be ∧ be ≤ 7) (h2 : inB rk (-5) 5 = true) (h3 : 1 ≤ my ∧ my ≤ 255) (h4 : -1 ≤ gu ∧ gu ≤ 5) (h5 : pairB lo hi = true) (h6 : -1000000000000 ≤ hd ∧ hd ≤ 1000000000000) (h7 : 0 ≤ ca ∧ ca ≤ weightV rk - 1) (h8 : 0 ≤ ut ∧ ut ≤ 1024) (h9 : 0 ≤ wk ∧ wk ≤ 100000000000) :
    presB (st, be, rk, my, gu, lo, hi, hd, ca, ut, wk) = true := by
  unfold presB
  simp only [Bool.and_eq_true]
  exact ⟨inB_t h0.1 h0.2, inB_t h1.1 h1.2, h2, inB_t h3.1 h3.2, inB_t h4.1 h4.2, h5, inB_t h6.1 h6.2, inB_t h7.1 h7.2, inB_t h8.1 h8.2, inB_t h9.1 h9.2⟩
theorem here_iff {m : SmyV} {s : SmithV} : hereB m s = true ↔ s = zeroS ∨ (presB s = true ∧ s.2.2.2.2.1 < m.guilds.length ∧ s.2.1 < m.desks.length) := by
  unfold hereB smithB
  simp only [Bool.and_eq_true, Bool.or_eq_true, decide_eq_true_eq]
  constructor
  · rintro ⟨hg | hp, hr⟩
    · exact .inl (goneB_of hg)
    · right
      refine ⟨hp, ?_⟩
      rcases hr with e | e
      · have : s.1 = 0 := by simpa using e
        rw [presB_st this] at hp
        cases hp
      · exact e
  · rintro (rfl | ⟨hp, hr⟩)
    · exact ⟨.inl goneB_zero, .inl rfl⟩
    · exact ⟨.inr hp, .inr hr⟩
theorem seat_mk {m : SmyV} {s : SmithV} (h1 : (recAt m.desks s.2.1.toNat).1 = true) (h2 : bitB s.2.2.2.1 s.2.1 = true) (h3 : bandB (hadS s) (recAt m.desks s.2.1.toNat).2.2 = true) : seatB m s = true := by
  unfold seatB
  rw [h1, h2, show s.2.2.2.2.2.2.2.1 = hadS s from rfl, h3]
  simp
theorem smy_loose {m : SmyV} (h : smyB m = true) : Loose m := by
  unfold smyB at h
  simp only [Bool.and_eq_true] at h
  exact loose_of h.1

/-- Smith k is another one. -/
def setS (m : SmyV) (k : Nat) (s : SmithV) : SmyV := { m with smiths := m.smiths.set k s }
theorem Loose.setS {m : SmyV} (h : Loose m) {k : Nat} (hk : k < m.smiths.length) {s : SmithV} (h1 : hereB m s = true) (h2 : seatB m s = true) : Loose (setS m k s) := by
  refine ⟨?_, h.desk, h.pace, ?_, ?_, h.openD⟩
  · have := h.head
    unfold headB at this ⊢
    unfold Go.Proofs.YtifolooecfebfaaGreat.setS
    simpa using this
  · intro i hi
    have hi' : i < m.smiths.length := by unfold Go.Proofs.YtifolooecfebfaaGreat.setS at hi; simpa using hi
    show hereB (Go.Proofs.YtifolooecfebfaaGreat.setS m k s) (recAt (m.smiths.set k s) i) = true
    rw [hereB_same (m := m) (m' := Go.Proofs.YtifolooecfebfaaGreat.setS m k s) rfl rfl, recAt_set hk]
    split
    · exact h1
    · exact h.here i hi'
  · intro i hi
    have hi' : i < m.smiths.length := by unfold Go.Proofs.YtifolooecfebfaaGreat.setS at hi; simpa using hi
    show seatB m (recAt (m.smiths.set k s) i) = true
    rw [recAt_set hk]
    split
    · exact h2
    · exact h.seat i hi'
def mark (m : SmyV) (b : Int) : Int := (recAt m.desks b.toNat).2.2
/-- It sits at a bench from now on. -/
def sitS (s : SmithV) (b had : Int) : SmithV := (2, b, s.2.2.1, s.2.2.2.1, s.2.2.2.2.1, s.2.2.2.2.2.1, s.2.2.2.2.2.2.1, had, s.2.2.2.2.2.2.2.2)
/-- It is put at another bench. -/
def putS (m : SmyV) (s : SmithV) (b : Int) : SmithV := (s.1, b, s.2.2.1, s.2.2.2.1, s.2.2.2.2.1, s.2.2.2.2.2.1, s.2.2.2.2.2.2.1, movedV (hadS s) (mark m s.2.1) (mark m b), s.2.2.2.2.2.2.2.2)
theorem bench_few {m : SmyV} (h : Loose m) : m.desks.length ≤ 8 := by
  have := h.head
  unfold headB at this
  simp only [Bool.and_eq_true, decide_eq_true_eq] at this
  have h8 := (hallB_of this.1).2.2.2
  omega
/-- One who is there and not gone: all of its limits. -/
theorem Loose.limits {m : SmyV} (h : Loose m) {k : Nat} (hk : k < m.smiths.length) (hs : (recAt m.smiths k).1 ≠ 0) : presB (recAt m.smiths k) = true ∧ (recAt m.smiths k).2.2.2.2.1 < m.guilds.length ∧ (recAt m.smiths k).2.1 < m.desks.length := by
  rcases here_iff.1 (h.here k hk) with e | e
  · rw [e] at hs; exact absurd rfl hs
  · exact e

/-- One who sits down at an open bench in its May, in the band. -/
theorem keep_sit {m : SmyV} {s : SmithV} {b : Nat} {had : Int} (h : Loose m) (hp : presB s = true) (hg : s.2.2.2.2.1 < m.guilds.length) (hb : b < m.desks.length) (ho : (recAt m.desks b).1 = true) (hm : bitB s.2.2.2.1 b = true) (hd : bandB had (recAt m.desks b).2.2 = true) :
    hereB m (sitS s b had) = true ∧ seatB m (sitS s b had) = true := by
  have h8 := bench_few h
  obtain ⟨st, be, rk, my, gu, lo', hi', hd', ca, ut, wk⟩ := s
  obtain ⟨x0, x1, x2, x3, x4, x5, x6, x7, x8, x9⟩ := presB_of hp
  obtain ⟨d0, d1, _⟩ := bandB_of hd
  refine ⟨here_iff.2 (.inr ⟨presB_mk (by omega) ⟨by omega, by omega⟩ x2 x3 x4 x5 ⟨d0, d1⟩ x7 x8 x9, hg, ?_⟩), ?_⟩
  · show (b : Int) < _; omega
  · exact seat_mk (m := m) (s := sitS (st, be, rk, my, gu, lo', hi', hd', ca, ut, wk) b had) (by show (recAt m.desks ((b : Int)).toNat).1 = true; simpa using ho) hm (by show bandB had (recAt m.desks ((b : Int)).toNat).2.2 = true; simpa using hd)
/-- One who is put at another bench, open and in its May. -/
theorem keep_put {m : SmyV} (h : Loose m) {s : SmithV} {b : Nat} (hp : presB s = true) (hpr : presS s = true) (hg : s.2.2.2.2.1 < m.guilds.length) (b0 : 0 ≤ s.2.1) (b1 : s.2.1 < m.desks.length) (hband : bandB (hadS s) (mark m s.2.1) = true) (hb : b < m.desks.length) (ho : (recAt m.desks b).1 = true) (hm : bitB s.2.2.2.1 b = true) :
    hereB m (putS m s b) = true ∧ seatB m (putS m s b) = true := by
  have h8 := bench_few h
  obtain ⟨k0, k1⟩ := deskB_of (h.desk s.2.1.toNat (by omega))
  obtain ⟨k2, k3⟩ := deskB_of (h.desk b hb)
  obtain ⟨a0, a1, a2, a3, a4, a5⟩ := bandB_of hband
  have hmk : mark m (b : Int) = (recAt m.desks b).2.2 := by unfold mark; simp
  have hmv : movedV (hadS s) (mark m s.2.1) (mark m b) = hadS s - mark m s.2.1 + mark m b := moved_in a0 a1 a2 a3 (by omega) (by omega)
  obtain ⟨st, be, rk, my, gu, lo', hi', hd', ca, ut, wk⟩ := s
  obtain ⟨x0, x1, x2, x3, x4, x5, x6, x7, x8, x9⟩ := presB_of hp
  simp only at b0 b1 hmv a4 a5 k0 k1 hg hm
  refine ⟨here_iff.2 (.inr ⟨?_, hg, ?_⟩), ?_⟩
  · unfold putS
    simp only
    rw [hmv]
    exact presB_mk x0 ⟨by omega, by omega⟩ x2 x3 x4 x5 ⟨by omega, by omega⟩ x7 x8 x9
  · show (b : Int) < _; omega
  · refine seat_mk (m := m) (s := putS m (st, be, rk, my, gu, lo', hi', hd', ca, ut, wk) b) (by show (recAt m.desks ((b : Int)).toNat).1 = true; simpa using ho) hm ?_
    show bandB (movedV _ _ _) (recAt m.desks ((b : Int)).toNat).2.2 = true
    rw [hmv, show ((b : Int)).toNat = b by simp, ← hmk]
    exact bandB_t (by omega) (by omega) (by omega) (by omega) (by omega) (by omega)
end Go.Proofs.YtifolooecfebfaaGreat

/- Rest, Leave, Ranked, Limited, Granted, Opened, joined: as plain lists; and each keeps a smithy right. Lists and numbers alone; no condition but those that a theorem names. -/
namespace Go.Proofs.YtifolooecfebfaaGreat
open Go.ChangeShapes Go.WideShapes Go.ChangeAt Go.RowKit Go.Sort
set_option linter.unusedVariables false

def zeroM : SmyV := ⟨[], [], [], [], [], 0⟩
theorem few_of {m : SmyV} (h : Loose m) : Few m := by
  have hd := h.head
  unfold headB at hd
  simp only [Bool.and_eq_true, decide_eq_true_eq] at hd
  obtain ⟨h1, h2, h3, h4, h5, _⟩ := hd
  obtain ⟨r1, r2, r3, r4⟩ := hallB_of h1
  have hg := (guildsB_of h2).2
  refine ⟨by omega, fun r hr => ?_, by omega, by omega, by omega, by omega⟩
  have hrb := List.all_eq_true.1 r3 r hr
  unfold roomB at hrb
  simp only [Bool.and_eq_true] at hrb
  have := inB_of hrb.2.1
  omega
end Go.Proofs.YtifolooecfebfaaGreat

/- Come, Wake, Allowed, joined, asked, Ticked: as plain lists; and each keeps a smithy right. Lists and numbers alone; no condition but those that a theorem names. -/
namespace Go.Proofs.YtifolooecfebfaaGreat
open Go.ChangeShapes Go.WideShapes Go.ChangeAt Go.RowKit Go.Sort
set_option linter.unusedVariables false

theorem smy_twelve {m : SmyV} (h : Loose m) : m.smiths.length ≤ 12 := by
  have hd := h.head
  unfold headB at hd
  simp only [Bool.and_eq_true, decide_eq_true_eq] at hd
  exact hd.2.2.1
end Go.Proofs.YtifolooecfebfaaGreat

/- A smithy's own memory stays where another block is written; the smithy with nothing in it. Conditions: those that each theorem names. -/
namespace Go.Proofs.YtifolooecfebfaaGreat
open Go.ChangeShapes Go.WideShapes Go.ChangeAt Go.RowKit Go.Sort
set_option linter.unusedVariables false

theorem FullSmy.set_off {n₀ : Nat} {w : World} {v0 v1 v2 v3 v4 : Value} {m : SmyV} {qs : List (RoomV × Value)} (h : FullSmy n₀ w v0 v1 v2 v3 v4 m qs) {g : Nat} (ho : ∀ k, (v0.ownBlock = some k ∨ (∃ q ∈ qs, q.2.ownBlock = some k) ∨ v1.ownBlock = some k ∨ v2.ownBlock = some k ∨ v3.ownBlock = some k ∨ v4.ownBlock = some k) → k ≠ g) (o : Nat) (u : Value) : FullSmy n₀ (w.setCell ⟨g, o, none⟩ u) v0 v1 v2 v3 v4 m qs := by
  have hne : ∀ k, k ≠ g → (w.setCell ⟨g, o, none⟩ u).heap[k]? = w.heap[k]? := fun k hk => heap_setCell_other w _ k u hk
  exact ⟨h.hall.same2 fun k e => hne k (ho k (by rcases e with e | e; exact .inl e; exact .inr (.inl e))), h.rooms, RecAt.same h.guilds fun k e => hne k (ho k (.inr (.inr (.inl e)))), RecAt.same h.smiths fun k e => hne k (ho k (.inr (.inr (.inr (.inl e))))), RecAt.same h.desks fun k e => hne k (ho k (.inr (.inr (.inr (.inr (.inl e)))))), RecAt.same h.paces fun k e => hne k (ho k (.inr (.inr (.inr (.inr (.inr e)))))), h.h1, h.h2, h.h3, h.h4, h.a12, h.a13, h.a14, h.a23, h.a24, h.a34⟩
theorem full_zero (n₀ : Nat) (w : World) : FullSmy n₀ w (.slice none 0 0) (.slice none 0 0) (.slice none 0 0) (.slice none 0 0) (.slice none 0 0) zeroM [] := by
  have hz : Off2 (.slice none 0 0) (.slice none 0 0) := fun b e => by cases e
  exact ⟨OwnHall.nil _ _, rfl, World.ownsRow_nil _ _ _ _, World.ownsRow_nil _ _ _ _, World.ownsRow_nil _ _ _ _, World.ownsRow_nil _ _ _ _, ⟨hz, fun q hq => by cases hq⟩, ⟨hz, fun q hq => by cases hq⟩, ⟨hz, fun q hq => by cases hq⟩, ⟨hz, fun q hq => by cases hq⟩, hz, hz, hz, hz, hz, hz⟩

end Go.Proofs.YtifolooecfebfaaGreat

/- What a right smithy measures: no more than the laws' own bound; and so do the answers of the model's operations. No condition but those that a theorem names. -/
namespace Go.Proofs.YtifolooecfebfaaGreat
open Go.ChangeShapes Go.WideShapes Go.ChangeAt Go.RowKit Go.Sort
set_option linter.unusedVariables false

theorem right_small {m : SmyV} (h : smyB m = true) : SmySmall m := by
  have hf := few_of (smy_loose h)
  have h1 := hf.rooms
  have h2 := hf.guilds
  have h3 := hf.smiths
  have h4 := hf.desks
  have h5 := hf.nums
  exact ⟨⟨by omega, fun j hj => by have := hf.paces _ (roomAt_mem hj); omega⟩, by omega, by omega, by omega, by omega⟩
theorem zero_small : SmySmall zeroM := ⟨⟨by simp [zeroM], fun j hj => by simp [zeroM] at hj⟩, by simp [zeroM], by simp [zeroM], by simp [zeroM], by simp [zeroM]⟩
end Go.Proofs.YtifolooecfebfaaGreat

