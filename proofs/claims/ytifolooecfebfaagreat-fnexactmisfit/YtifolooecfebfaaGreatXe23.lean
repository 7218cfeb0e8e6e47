/- What the proof rests on, part 23: lists and numbers, how they lie in memory, and contracts of the calls. No condition but those that a theorem names. -/
import Derived.Test.YtifolooecfebfaaGreatXe01
import Derived.Test.YtifolooecfebfaaGreatXe02
import Derived.Test.YtifolooecfebfaaGreatXe03
import Derived.Test.YtifolooecfebfaaGreatXe05
import Derived.Test.YtifolooecfebfaaGreatXe06
import Derived.Test.YtifolooecfebfaaGreatXe07
import Derived.Test.YtifolooecfebfaaGreatXe08
import Derived.Test.YtifolooecfebfaaGreatXe10
import Derived.Test.YtifolooecfebfaaGreatXe11
import Derived.Test.YtifolooecfebfaaGreatXe12
import Derived.Test.YtifolooecfebfaaGreatXe13
import Derived.Test.YtifolooecfebfaaGreatXe16
import Derived.Test.YtifolooecfebfaaGreatXe18
import Derived.Deep.RegionWith
import Derived.Deep.DeepCutAuto
import Derived.WalkMore
import Derived.Below
import GoSem.Claim
import GoSem.ClaimJoined
import GoSem.ClaimMapViews
import Derived.JoinedTies
import Derived.KernelRfl
import Derived.RowKit
import Derived.WalkKit
import Derived.ProofKit
import Derived.OpenShut
import Derived.Outline
import Derived.Lib.QuietBelow
import Derived.Deep.QuietTactic
import Derived.BigQuiet
import Derived.Deep.DrawnRows
import Derived.BigRegion
import Derived.Deep.RegionLawGrows
import Derived.Laws.OwnMore
import Derived.OwnWalk
import Derived.Maps.AppendAt
import Derived.Lib.SmallJoins
import Derived.Deep.Fields
import Derived.Deep.Slices
import Derived.OrdersHeld
import Derived.Deep.RegionHeldLaw
/- Misfit, Waiting, Levelled as plain lists: each move keeps a smithy right, and there is an end of moves. Lists and numbers alone; no condition but those that a theorem names. -/
namespace Go.Proofs.YtifolooecfebfaaGreat
open Go.ChangeShapes Go.WideShapes Go.ChangeAt Go.RowKit Go.Sort
set_option linter.unusedVariables false

/-! ### Counting -/
def cnt (p : Nat → Bool) : Nat → Nat
  | 0 => 0
  | n + 1 => cnt p n + (if p n then 1 else 0)
theorem cnt_bd (p : Nat → Bool) : ∀ n, cnt p n ≤ n
  | 0 => Nat.le_refl _
  | n + 1 => by
    have := cnt_bd p n
    unfold cnt
    split <;> omega
theorem cnt_le {p q : Nat → Bool} : ∀ n, (∀ i, i < n → p i = true → q i = true) → cnt p n ≤ cnt q n
  | 0, _ => Nat.le_refl _
  | n + 1, h => by
    have ih := cnt_le n (fun i hi => h i (by omega))
    have hn := h n (by omega)
    unfold cnt
    cases hp : p n
    · simp; omega
    · rw [hn hp]; simp; exact ih
theorem cnt_drop {p q : Nat → Bool} {x : Nat} (hp : p x = true) (hq : q x = false) : ∀ n, x < n → (∀ i, i < n → q i = true → p i = true) → cnt q n + 1 ≤ cnt p n
  | 0, hx, _ => by omega
  | n + 1, hx, h => by
    unfold cnt
    by_cases e : x = n
    · subst e
      have := cnt_le (p := q) (q := p) x (fun i hi => h i (by omega))
      rw [hp, hq]; simp; exact this
    · have ih := cnt_drop hp hq n (by omega) (fun i hi => h i (by omega))
      have hn := h n (by omega)
      cases hqn : q n
      · simp; omega
      · rw [hn hqn]; simp; exact ih
theorem cnt_but (q : Nat → Bool) (y : Nat) : ∀ n, cnt q n ≤ cnt (fun i => q i && !(i == y)) n + 1
  | 0 => by simp [cnt]
  | n + 1 => by
    unfold cnt
    by_cases e : n = y
    · subst e
      have := cnt_le (p := q) (q := fun i => q i && !(i == n)) n (fun i hi hqi => by
        simp only [hqi, Bool.true_and, Bool.not_eq_true', beq_eq_false_iff_ne]; omega)
      simp only [beq_self_eq_true, Bool.not_true, Bool.and_false]
      split <;> simp <;> omega
    · have ih := cnt_but q y n
      have he : (n == y) = false := by simpa using e
      simp only [he, Bool.not_false, Bool.and_true]
      omega
theorem cnt_swap {p q : Nat → Bool} {x y n : Nat} (hx : x < n) (hp : p x = true) (hq : q x = false) (h : ∀ i, i < n → i ≠ y → q i = true → p i = true) : cnt q n ≤ cnt p n := by
  have h1 := cnt_but q y n
  have h2 := cnt_drop (p := p) (q := fun i => q i && !(i == y)) hp (by simp [hq]) n hx (fun i hi hqi => by
    simp only [Bool.and_eq_true, Bool.not_eq_true', beq_eq_false_iff_ne] at hqi
    exact h i hi hqi.2 hqi.1)
  omega

/-! ### Who is to be moved -/
def idleB (m : SmyV) (b : Nat) : Bool := (recAt m.desks b).1 && decide ((atV m.smiths b m.smiths.length).length = 0)
def misB (m : SmyV) (i : Nat) : Bool := presS (recAt m.smiths i) && !fitsB (wantV m (i : Int)) 0 (forceV m.rooms (recAt m.smiths i).2.1)
def goodB (m : SmyV) (w b : Nat) : Bool := idleB m b && (mayAt m (w : Int) b && fitsB (wantV m (w : Int)) 0 (forceV m.rooms (b : Int)))
def goodTo (m : SmyV) (w : Nat) : Nat → Option Nat
  | 0 => none
  | k + 1 => match goodTo m w k with
    | some b => some b
    | none => if goodB m w k then some k else none
def misAt (m : SmyV) (w : Nat) : Option Nat := if misB m w then goodTo m w m.desks.length else none
def misTo (m : SmyV) : Nat → Option (Nat × Nat)
  | 0 => none
  | k + 1 => match misTo m k with
    | some r => some r
    | none => (misAt m k).map fun b => (k, b)
def misfitV (m : SmyV) : Option (Nat × Nat) := if smyB m then misTo m m.smiths.length else none
def waitB (m : SmyV) (w b : Nat) : Bool := (recAt m.smiths w).1 == 2 && mayAt m (w : Int) b
def waitTo (m : SmyV) (b : Nat) : Nat → Option Nat
  | 0 => none
  | k + 1 => match waitTo m b k with
    | some w => some w
    | none => if waitB m k b then some k else none
def waitAt (m : SmyV) (b : Nat) : Option Nat := if idleB m b then waitTo m b m.smiths.length else none
def waitsTo (m : SmyV) : Nat → Option (Nat × Nat)
  | 0 => none
  | k + 1 => match waitsTo m k with
    | some r => some r
    | none => (waitAt m k).map fun w => (w, k)
def waitingV (m : SmyV) : Option (Nat × Nat) := if smyB m then waitsTo m m.desks.length else none
def moveV (m : SmyV) : Option (Nat × Nat) := match misfitV m with
  | some r => some r
  | none => waitingV m
theorem goodTo_of {m : SmyV} {w b : Nat} : ∀ {k}, goodTo m w k = some b → b < k ∧ goodB m w b = true
  | 0, h => by cases h
  | k + 1, h => by
    unfold goodTo at h
    cases hg : goodTo m w k with
    | some b' =>
      rw [hg] at h
      cases h
      have := goodTo_of hg
      exact ⟨by omega, this.2⟩
    | none =>
      rw [hg] at h
      simp only at h
      split at h
      · rename_i hh
        cases h
        exact ⟨by omega, hh⟩
      · cases h
theorem misTo_of {m : SmyV} {w b : Nat} : ∀ {k}, misTo m k = some (w, b) → w < k ∧ misB m w = true ∧ b < m.desks.length ∧ goodB m w b = true
  | 0, h => by cases h
  | k + 1, h => by
    unfold misTo at h
    cases hg : misTo m k with
    | some r =>
      rw [hg] at h
      cases h
      have := misTo_of hg
      exact ⟨by omega, this.2⟩
    | none =>
      rw [hg] at h
      simp only [Option.map_eq_some_iff, Prod.mk.injEq] at h
      obtain ⟨b', hb', rfl, rfl⟩ := h
      unfold misAt at hb'
      split at hb'
      · rename_i hh
        have := goodTo_of hb'
        exact ⟨by omega, hh, this⟩
      · cases hb'
theorem waitTo_of {m : SmyV} {w b : Nat} : ∀ {k}, waitTo m b k = some w → w < k ∧ waitB m w b = true
  | 0, h => by cases h
  | k + 1, h => by
    unfold waitTo at h
    cases hg : waitTo m b k with
    | some w' =>
      rw [hg] at h
      cases h
      have := waitTo_of hg
      exact ⟨by omega, this.2⟩
    | none =>
      rw [hg] at h
      simp only at h
      split at h
      · rename_i hh
        cases h
        exact ⟨by omega, hh⟩
      · cases h
theorem waitsTo_of {m : SmyV} {w b : Nat} : ∀ {k}, waitsTo m k = some (w, b) → b < k ∧ idleB m b = true ∧ w < m.smiths.length ∧ waitB m w b = true
  | 0, h => by cases h
  | k + 1, h => by
    unfold waitsTo at h
    cases hg : waitsTo m k with
    | some r =>
      rw [hg] at h
      cases h
      have := waitsTo_of hg
      exact ⟨by omega, this.2⟩
    | none =>
      rw [hg] at h
      simp only [Option.map_eq_some_iff, Prod.mk.injEq] at h
      obtain ⟨b', hb', rfl, rfl⟩ := h
      unfold waitAt at hb'
      split at hb'
      · rename_i hh
        have := waitTo_of hb'
        exact ⟨by omega, hh, this⟩
      · cases hb'

/-! ### A move -/
def putX (m : SmyV) (w b : Nat) : SmyV := setS m w (putS m (recAt m.smiths w) (b : Int))
def moveX (m : SmyV) (w b : Nat) : SmyV := turnV (putX m w b)
structure Moves (m : SmyV) (w b : Nat) : Prop where
  right : smyB m = true
  who : w < m.smiths.length
  bench : b < m.desks.length
  pres : presS (recAt m.smiths w) = true
  may : mayAt m (w : Int) b = true
  idle : idleB m b = true
  why : (misB m w = true ∧ fitsB (wantV m (w : Int)) 0 (forceV m.rooms (b : Int)) = true) ∨ (recAt m.smiths w).1 = 2
theorem moves_mis {m : SmyV} {w b : Nat} (h : misfitV m = some (w, b)) : Moves m w b := by
  unfold misfitV at h
  split at h
  · rename_i hr
    obtain ⟨h1, h2, h3, h4⟩ := misTo_of h
    unfold goodB at h4
    simp only [Bool.and_eq_true] at h4
    have h2' := h2
    unfold misB at h2'
    simp only [Bool.and_eq_true] at h2'
    exact ⟨hr, h1, h3, h2'.1, h4.2.1, h4.1, .inl ⟨h2, h4.2.2⟩⟩
  · cases h
theorem moves_wait {m : SmyV} {w b : Nat} (h : waitingV m = some (w, b)) : Moves m w b := by
  unfold waitingV at h
  split at h
  · rename_i hr
    obtain ⟨h1, h2, h3, h4⟩ := waitsTo_of h
    unfold waitB at h4
    simp only [Bool.and_eq_true, beq_iff_eq] at h4
    exact ⟨hr, h3, h1, by unfold presS; rw [h4.1]; rfl, h4.2, h2, .inr h4.1⟩
  · cases h
theorem moves_of {m : SmyV} {w b : Nat} (h : moveV m = some (w, b)) : Moves m w b := by
  unfold moveV at h
  cases hm : misfitV m with
  | some r => rw [hm] at h; cases h; exact moves_mis hm
  | none => rw [hm] at h; exact moves_wait h
theorem Moves.loose {m : SmyV} {w b : Nat} (h : Moves m w b) : Loose (putX m w b) := by
  have hlo := smy_loose h.right
  obtain ⟨p, g1, b1⟩ := hlo.limits h.who (by intro e; have := h.pres; unfold presS at this; rw [e] at this; cases this)
  obtain ⟨a0, a1, a2, a3, a4⟩ := hlo.at h.who h.pres
  have hm := h.may
  unfold mayAt at hm
  simp only [Bool.and_eq_true, Int.toNat_natCast] at hm
  have := keep_put (m := m) hlo (s := recAt m.smiths w) (b := b) p h.pres g1 a0 a1 a4 h.bench hm.1 hm.2
  exact hlo.setS h.who this.1 this.2
theorem Moves.keeps {m : SmyV} {w b : Nat} (h : Moves m w b) : smyB (moveX m w b) = true := turn_right h.loose
theorem at_nil {ss : List SmithV} {b : Int} {n : Nat} : (atV ss b n).length = 0 ↔ ∀ i, i < n → ¬ ((recAt ss i).2.1 = b ∧ presS (recAt ss i) = true) := by
  constructor
  · intro h i hi hp
    have hm : (hadS (recAt ss i), (i : Int)) ∈ atV ss b n := (atV_mem ss b _ n).2 ⟨i, hi, hp.1, hp.2, rfl⟩
    rw [List.length_eq_zero_iff.1 h] at hm
    cases hm
  · intro h
    rw [List.length_eq_zero_iff]
    refine List.eq_nil_iff_forall_not_mem.2 fun e he => ?_
    obtain ⟨i, hi, h1, h2, _⟩ := (atV_mem ss b e n).1 he
    exact h i hi ⟨h1, h2⟩
theorem putX_at {m : SmyV} {w b : Nat} (hw : w < m.smiths.length) (i : Nat) : recAt (putX m w b).smiths i = if i = w then putS m (recAt m.smiths w) (b : Int) else recAt m.smiths i := recAt_set hw i
theorem putX_len (m : SmyV) (w b : Nat) : (putX m w b).smiths.length = m.smiths.length := by unfold putX setS; simp
theorem turn_tail {m : SmyV} {i : Nat} (hi : i < m.smiths.length) : (recAt (turnV m).smiths i).2 = (recAt m.smiths i).2 := by
  unfold turnV
  rw [turnK_smith m hi]
  split <;> rfl
theorem turn_pres {m : SmyV} {i : Nat} (hi : i < m.smiths.length) : presS (recAt (turnV m).smiths i) = presS (recAt m.smiths i) := (turnK_alike m m.desks.length i hi).2.1
theorem turn_idle (m : SmyV) {b : Nat} (hb : b < m.desks.length) : idleB (turnV m) b = idleB m b := by
  unfold idleB turnV
  rw [turnK_atV, turnK_desk m b _ (Nat.le_refl _), if_pos hb]
  congr 1
  unfold turnedD
  split <;> rfl
theorem turn_mis (m : SmyV) {i : Nat} (hi : i < m.smiths.length) : misB (turnV m) i = misB m i := by
  have h1 : wantV (turnV m) (i : Int) = wantV m (i : Int) := by
    unfold wantV wantS
    rw [Int.toNat_natCast, turn_tail hi, show (turnV m).guilds = m.guilds from (turnK_same m m.desks.length).2.1]
  unfold misB
  rw [turn_pres hi, h1, turn_tail hi, show (turnV m).rooms = m.rooms from (turnK_same m m.desks.length).1]
def idleN (m : SmyV) : Nat := cnt (idleB m) m.desks.length
def misN (m : SmyV) : Nat := cnt (misB m) m.smiths.length
/-- What falls with each move. -/
def leftN (m : SmyV) : Nat := 13 * idleN m + misN m
theorem cnt_same {p q : Nat → Bool} (n : Nat) (h : ∀ i, i < n → p i = q i) : cnt p n = cnt q n :=
  Nat.le_antisymm (cnt_le n fun i hi hp => by rw [← h i hi]; exact hp) (cnt_le n fun i hi hp => by rw [h i hi]; exact hp)
theorem turn_idleN (m : SmyV) : idleN (turnV m) = idleN m := by
  unfold idleN
  rw [show (turnV m).desks.length = m.desks.length from (turnK_same m m.desks.length).2.2.2.2.2]
  exact cnt_same _ fun i hi => turn_idle m hi
theorem turn_misN (m : SmyV) : misN (turnV m) = misN m := by
  unfold misN
  rw [show (turnV m).smiths.length = m.smiths.length from (turnK_same m m.desks.length).2.2.2.2.1]
  exact cnt_same _ fun i hi => turn_mis m hi
theorem put_busy {m : SmyV} {w b : Nat} (hw : w < m.smiths.length) (hp : presS (recAt m.smiths w) = true) : idleB (putX m w b) b = false := by
  unfold idleB
  rw [decide_eq_false, Bool.and_false]
  intro h
  refine at_nil.1 h w (by rw [putX_len]; exact hw) ?_
  rw [putX_at hw, if_pos rfl]
  exact ⟨rfl, hp⟩
theorem put_idle {m : SmyV} {w b j : Nat} (hw : w < m.smiths.length) (hj : (recAt m.smiths w).2.1 ≠ (j : Int)) (h : idleB (putX m w b) j = true) : idleB m j = true := by
  unfold idleB at h ⊢
  simp only [Bool.and_eq_true, decide_eq_true_eq] at h ⊢
  refine ⟨h.1, at_nil.2 fun i hi hp => ?_⟩
  have := at_nil.1 h.2 i (by rw [putX_len]; exact hi)
  rw [putX_at hw] at this
  by_cases e : i = w
  · subst e; exact hj hp.1
  · rw [if_neg e] at this; exact this hp
theorem put_mis {m : SmyV} {w b i : Nat} (hw : w < m.smiths.length) (hi : i ≠ w) : misB (putX m w b) i = misB m i := by
  unfold misB wantV
  rw [Int.toNat_natCast, putX_at hw, if_neg hi]
  rfl
theorem put_fits {m : SmyV} {w b : Nat} (hw : w < m.smiths.length) (h : fitsB (wantV m (w : Int)) 0 (forceV m.rooms (b : Int)) = true) : misB (putX m w b) w = false := by
  unfold misB wantV
  rw [Int.toNat_natCast, putX_at hw, if_pos rfl]
  have e : wantS (putX m w b).guilds (putS m (recAt m.smiths w) (b : Int)) = wantV m (w : Int) := by
    unfold wantV
    rw [Int.toNat_natCast]
    rfl
  rw [e]
  show (_ && !fitsB _ 0 (forceV m.rooms (b : Int))) = false
  rw [h]; simp
/-- Where one waits somebody else is there, too. -/
theorem wait_other {m : SmyV} (h : smyB m = true) {w : Nat} (hw : w < m.smiths.length) (h2 : (recAt m.smiths w).1 = 2) : ∃ i, i < m.smiths.length ∧ i ≠ w ∧ (recAt m.smiths i).2.1 = (recAt m.smiths w).2.1 ∧ presS (recAt m.smiths i) = true := by
  have hlo := smy_loose h
  have hp : presS (recAt m.smiths w) = true := by unfold presS; rw [h2]; rfl
  obtain ⟨a0, a1, _⟩ := hlo.at hw hp
  obtain ⟨b, hb⟩ : ∃ b : Nat, (recAt m.smiths w).2.1 = (b : Int) := ⟨(recAt m.smiths w).2.1.toNat, by omega⟩
  have hbl : b < m.desks.length := by omega
  have hok : benchOkB m b = true := by
    unfold smyB at h
    simp only [Bool.and_eq_true] at h
    exact all_at h.2 hbl
  rw [← turn_same] at hok
  unfold turnIB at hok
  split at hok
  · simp only [decide_eq_true_eq, List.length_eq_zero_iff] at hok
    have : (w : Int) ∈ whereTo (atB (b : Int)) m.smiths m.smiths.length := (whereTo_mem _ _ _ _).2 ⟨w, hw, rfl, by unfold atB; rw [h2, hb]; simp⟩
    rw [hok] at this
    cases this
  · simp only [Bool.and_eq_true, decide_eq_true_eq] at hok
    have hx : recAt (whereTo (worksB (b : Int)) m.smiths m.smiths.length) 0 ∈ whereTo (worksB (b : Int)) m.smiths m.smiths.length := recAt_mem (by omega)
    obtain ⟨i, hi, _, hwk⟩ := (whereTo_mem _ _ _ _).1 hx
    unfold worksB at hwk
    simp only [Bool.and_eq_true, beq_iff_eq] at hwk
    exact ⟨i, hi, fun e => by subst e; omega, by rw [hb]; exact hwk.2, by unfold presS; rw [hwk.1]; rfl⟩
theorem Moves.falls {m : SmyV} {w b : Nat} (h : Moves m w b) : leftN (moveX m w b) < leftN m := by
  unfold leftN moveX
  rw [turn_idleN, turn_misN]
  have hlo := smy_loose h.right
  have h12 := smy_twelve hlo
  obtain ⟨a0, a1, _⟩ := hlo.at h.who h.pres
  have hmb := cnt_bd (misB (putX m w b)) m.smiths.length
  have hbusy := put_busy (b := b) h.who h.pres
  rcases h.why with ⟨hmis, hfit⟩ | hwait
  · have e1 : idleN (putX m w b) ≤ idleN m := cnt_swap (y := (recAt m.smiths w).2.1.toNat) h.bench h.idle hbusy fun i hi hne hq => put_idle h.who (by omega) hq
    have e2 : misN (putX m w b) + 1 ≤ misN m := by
      unfold misN
      rw [putX_len]
      refine cnt_drop hmis (put_fits h.who hfit) _ h.who fun i hi hq => ?_
      by_cases e : i = w
      · subst e; exact hmis
      · rw [put_mis h.who e] at hq; exact hq
    omega
  · have e1 : idleN (putX m w b) + 1 ≤ idleN m := by
      refine cnt_drop h.idle hbusy _ h.bench fun j hj hq => ?_
      by_cases e : (recAt m.smiths w).2.1 = (j : Int)
      · exfalso
        obtain ⟨i, hi, hiw, hbe, hpr⟩ := wait_other h.right h.who hwait
        unfold idleB at hq
        simp only [Bool.and_eq_true, decide_eq_true_eq] at hq
        have := at_nil.1 hq.2 i (by rw [putX_len]; exact hi)
        rw [putX_at h.who, if_neg hiw] at this
        exact this ⟨by rw [hbe, e], hpr⟩
      · exact put_idle h.who e hq
    have e2 : misN (putX m w b) ≤ 12 := by
      unfold misN
      rw [putX_len]
      omega
    omega
def levelF : Nat → SmyV → SmyV
  | 0, m => m
  | k + 1, m => match moveV m with
    | none => m
    | some (w, b) => levelF k (moveX m w b)
def levelV (m : SmyV) : SmyV := levelF (leftN m + 1) m
theorem levelF_same : ∀ (j k : Nat) (m : SmyV), leftN m < j → leftN m < k → levelF j m = levelF k m
  | 0, _, _, h, _ => by omega
  | _ + 1, 0, _, _, h => by omega
  | j + 1, k + 1, m, hj, hk => by
    show (match moveV m with | none => m | some (w, b) => levelF j (moveX m w b)) = (match moveV m with | none => m | some (w, b) => levelF k (moveX m w b))
    cases hm : moveV m with
    | none => rfl
    | some r =>
      obtain ⟨w, b⟩ := r
      have hf := (moves_of hm).falls
      exact levelF_same j k (moveX m w b) (by omega) (by omega)
theorem levelV_stop {m : SmyV} (h : moveV m = none) : levelV m = m := by
  unfold levelV levelF
  rw [h]
theorem levelV_go {m : SmyV} {w b : Nat} (h : moveV m = some (w, b)) : levelV m = levelV (moveX m w b) := by
  have hf := (moves_of h).falls
  have : levelV m = levelF (leftN m) (moveX m w b) := by
    show (match moveV m with | none => m | some (w, b) => levelF (leftN m) (moveX m w b)) = _
    rw [h]
  rw [this]
  exact levelF_same _ _ _ (by omega) (by omega)
theorem levelF_right : ∀ (k : Nat) (m : SmyV), smyB m = true → smyB (levelF k m) = true
  | 0, m, h => h
  | k + 1, m, h => by
    unfold levelF
    cases hm : moveV m with
    | none => exact h
    | some r =>
      obtain ⟨w, b⟩ := r
      exact levelF_right k (moveX m w b) (moves_of hm).keeps
theorem level_right {m : SmyV} (h : smyB m = true) : smyB (levelV m) = true := levelF_right _ m h
def levelledV (m : SmyV) : SmyV := if smyB m then levelV m else zeroM

end Go.Proofs.YtifolooecfebfaaGreat

/- Who is to be moved, as values; and what was found stays found. Lists alone; no condition but those that a theorem names. -/
namespace Go.Proofs.YtifolooecfebfaaGreat
open Go.ChangeShapes Go.WideShapes Go.ChangeAt Go.RowKit Go.Sort
set_option linter.unusedVariables false

def triV : Option (Nat × Nat) → Value
  | none => .tuple #[.int .i64 0, .int .i64 0, .bool false]
  | some (w, b) => .tuple #[.int .i64 (w : Int), .int .i64 (b : Int), .bool true]
theorem wait_stay {m : SmyV} {b w : Nat} {k n : Nat} (h : waitTo m b k = some w) (hn : k ≤ n) : waitTo m b n = some w := by
  obtain ⟨d, rfl⟩ : ∃ d, n = k + d := ⟨n - k, by omega⟩
  clear hn
  induction d with
  | zero => exact h
  | succ d ih =>
    show waitTo m b (k + d + 1) = some w
    unfold waitTo
    rw [ih]
theorem waits_stay {m : SmyV} {w b : Nat} {k n : Nat} (h : waitsTo m k = some (w, b)) (hn : k ≤ n) : waitsTo m n = some (w, b) := by
  obtain ⟨d, rfl⟩ : ∃ d, n = k + d := ⟨n - k, by omega⟩
  clear hn
  induction d with
  | zero => exact h
  | succ d ih =>
    show waitsTo m (k + d + 1) = some (w, b)
    unfold waitsTo
    rw [ih]
theorem good_stay {m : SmyV} {w b : Nat} {k n : Nat} (h : goodTo m w k = some b) (hn : k ≤ n) : goodTo m w n = some b := by
  obtain ⟨d, rfl⟩ : ∃ d, n = k + d := ⟨n - k, by omega⟩
  clear hn
  induction d with
  | zero => exact h
  | succ d ih =>
    show goodTo m w (k + d + 1) = some b
    unfold goodTo
    rw [ih]
theorem mis_stay {m : SmyV} {w b : Nat} {k n : Nat} (h : misTo m k = some (w, b)) (hn : k ≤ n) : misTo m n = some (w, b) := by
  obtain ⟨d, rfl⟩ : ∃ d, n = k + d := ⟨n - k, by omega⟩
  clear hn
  induction d with
  | zero => exact h
  | succ d ih =>
    show misTo m (k + d + 1) = some (w, b)
    unfold misTo
    rw [ih]

end Go.Proofs.YtifolooecfebfaaGreat

/- The walk of the exact law on Levelled, as far as the law goes: the model's and the program's contracts are its premises here. -/
namespace Go.Proofs.YtifolooecfebfaaGreat
open Go.ChangeShapes Go.WideShapes Go.ChangeAt Go.RowKit Go.Sort
set_option linter.unusedVariables false

set_option maxRecDepth 100000 in
set_option maxHeartbeats 16000000 in
theorem walkFnExactLevelled_of (hS : (∀ (w : World) (v0 v1 v2 v3 v4 : Value) (m : SmyV), Smy w v0 v1 v2 v3 v4 m → Calls Tryz.prog 16 #[.agg #[v0, v1, v2, v3, v4, .int .i64 m.now]] w fun e w' => ∃ u0 u1 u2 u3 u4 rs, e = .returned (.agg #[u0, u1, u2, u3, u4, .int .i64 (levelledV m).now]) ∧ FullSmy w.heap.size w' u0 u1 u2 u3 u4 (levelledV m) rs ∧ Below w.heap.size w w')) (hI : (∀ (w : World) (v0 v1 v2 v3 v4 : Value) (m : SmyV), Smy w v0 v1 v2 v3 v4 m → Calls Tryz.prog 11 #[.agg #[v0, v1, v2, v3, v4, .int .i64 m.now]] w fun e w' => ∃ u0 u1 u2 u3 u4 rs, e = .returned (.agg #[u0, u1, u2, u3, u4, .int .i64 (levelledV m).now]) ∧ FullSmy w.heap.size w' u0 u1 u2 u3 u4 (levelledV m) rs ∧ Below w.heap.size w w')) (hlen : ∀ (m : SmyV), SmySmall m → SmySmall (levelledV m)) (v0 v1 v2 v3 v4 : Value) (m : SmyV) (w : World) (h : Smy w v0 v1 v2 v3 v4 m) :
    Calls Tryz.prog 8 #[.agg #[v0, v1, v2, v3, v4, .int .i64 m.now]] w fun e w' => e = .returned (.bool true) ∧ Below w.heap.size w w' := by
  have HS := hide hS
  have HI := hide hI
  clear hS hI
  have Hv := hide h
  obtain ⟨a0, p0, rfl, _, _⟩ := IsRooms.shape h.rooms
  obtain ⟨a1, p1, rfl, _, _⟩ := IsRec.shape h.guilds
  obtain ⟨a2, p2, rfl, _, _⟩ := IsRec.shape h.smiths
  obtain ⟨a3, p3, rfl, _, _⟩ := IsRec.shape h.desks
  obtain ⟨a4, p4, rfl, _, _⟩ := IsRec.shape h.paces
  clear h
  have hLs := hide (fun hs => hlen m hs)
  have HS1 := hide (fun W u0 u1 u2 u3 u4 => unhide HS W u0 u1 u2 u3 u4 m)
  have HI1 := hide (fun W u0 u1 u2 u3 u4 => unhide HI W u0 u1 u2 u3 u4 m)
  clear HS HI hlen
  generalize levelledV m = M at *
  go_enter Tryz.func8, Tryz.ntmps8
  go_wp2_with fail
  refine (szSmithy_any ((unhide Hv).alloc _)).mono ?_
  rintro e w1 ⟨x, rfl, hx, hb⟩
  have ka : Hid (Blk w1 w.heap.size 56 #[.slice a0 m.rooms.length p0, .slice a1 m.guilds.length p1, .slice a2 m.smiths.length p2, .slice a3 m.desks.length p3, .slice a4 m.paces.length p4, .int .i64 m.now]) := hide ((Blk.new w _ _).below hb (by simp))
  have BB : Hid (Below w.heap.size w w1) := hide (((Below.refl _ _).alloc (Nat.le_refl _) _).trans (hb.mono (by simp)))
  have Hx := hide hx
  clear hx hb
  by_cases hx0 : x < 0
  · go_wp2_with fail
    go_ret
    exact ⟨rfl, unhide BB⟩
  have Hs := hide (unhide Hx (by omega))
  have HsM := hide (unhide hLs (unhide Hs))
  clear Hx hLs
  have c0 := (unhide ka).cell (i := 0) (v := .slice a0 m.rooms.length p0) rfl
  have c1 := (unhide ka).cell (i := 1) (v := .slice a1 m.guilds.length p1) rfl
  have c2 := (unhide ka).cell (i := 2) (v := .slice a2 m.smiths.length p2) rfl
  have c3 := (unhide ka).cell (i := 3) (v := .slice a3 m.desks.length p3) rfl
  have c4 := (unhide ka).cell (i := 4) (v := .slice a4 m.paces.length p4) rfl
  have c5 := (unhide ka).cell (i := 5) (v := .int .i64 m.now) rfl
  go_wp2_with fail
  refine (toSmithy_any ((unhide Hv).below (unhide BB)) (unhide Hs)).mono ?_
  rintro e w2 ⟨u0, u1, u2, u3, u4, rfl, ho, hb⟩
  clear c0 c1 c2 c3 c4 c5
  have k2 := ho.smy
  obtain ⟨b0, q0, rfl, _, _⟩ := IsRooms.shape k2.rooms
  obtain ⟨b1, q1, rfl, _, _⟩ := IsRec.shape k2.guilds
  obtain ⟨b2, q2, rfl, _, _⟩ := IsRec.shape k2.smiths
  obtain ⟨b3, q3, rfl, _, _⟩ := IsRec.shape k2.desks
  obtain ⟨b4, q4, rfl, _, _⟩ := IsRec.shape k2.paces
  have K2 := hide k2
  clear k2 ho
  replace ka := hide ((unhide ka).below hb (unhide ka).lt)
  replace BB := hide ((unhide BB).trans (hb.mono (unhide BB).size))
  have hw2 : w.heap.size < w2.heap.size := (unhide ka).lt
  clear hb
  go_wp2_with fail
  refine (unhide HS1 _ _ _ _ _ _ (unhide K2)).mono ?_
  rintro e w3 ⟨y0, y1, y2, y3, y4, uq, rfl, ho, hb⟩
  have k9 := ho.smy
  obtain ⟨ua0, uc0, rfl, _, _⟩ := IsRooms.shape k9.rooms
  obtain ⟨ua1, uc1, rfl, _, _⟩ := IsRec.shape k9.guilds
  obtain ⟨ua2, uc2, rfl, _, _⟩ := IsRec.shape k9.smiths
  obtain ⟨ua3, uc3, rfl, _, _⟩ := IsRec.shape k9.desks
  obtain ⟨ua4, uc4, rfl, _, _⟩ := IsRec.shape k9.paces
  clear k9 K2
  replace ka := hide ((unhide ka).below hb (unhide ka).lt)
  replace BB := hide ((unhide BB).trans (hb.mono (unhide BB).size))
  have HU := hide ho
  have LU : Hid (∀ k, OwnB (.slice ua0 M.rooms.length uc0) (.slice ua1 M.guilds.length uc1) (.slice ua2 M.smiths.length uc2) (.slice ua3 M.desks.length uc3) (.slice ua4 M.paces.length uc4) uq k → w2.heap.size ≤ k ∧ k < w3.heap.size) := hide (fun k e => ho.own e)
  have hw3 : w.heap.size < w3.heap.size := (unhide ka).lt
  clear ho hb
  have c0 := (unhide ka).cell (i := 0) (v := .slice a0 m.rooms.length p0) rfl
  have c1 := (unhide ka).cell (i := 1) (v := .slice a1 m.guilds.length p1) rfl
  have c2 := (unhide ka).cell (i := 2) (v := .slice a2 m.smiths.length p2) rfl
  have c3 := (unhide ka).cell (i := 3) (v := .slice a3 m.desks.length p3) rfl
  have c4 := (unhide ka).cell (i := 4) (v := .slice a4 m.paces.length p4) rfl
  have c5 := (unhide ka).cell (i := 5) (v := .int .i64 m.now) rfl
  go_wp2_with fail
  clear c0 c1 c2 c3 c4 c5
  have hba : Below w3.heap.size w3 (w3.alloc (.cells #[.slice ua0 M.rooms.length uc0, .slice ua1 M.guilds.length uc1, .slice ua2 M.smiths.length uc2, .slice ua3 M.desks.length uc3, .slice ua4 M.paces.length uc4, .int .i64 M.now] 32)) := (Below.refl _ _).alloc (Nat.le_refl _) _
  replace ka := hide ((unhide ka).below hba (unhide ka).lt)
  replace HU := hide ((unhide HU).below hba)
  replace BB := hide ((unhide BB).trans (hba.mono (unhide BB).size))
  have ku : Hid (Blk (w3.alloc (.cells #[.slice ua0 M.rooms.length uc0, .slice ua1 M.guilds.length uc1, .slice ua2 M.smiths.length uc2, .slice ua3 M.desks.length uc3, .slice ua4 M.paces.length uc4, .int .i64 M.now] 32)) w3.heap.size 32 #[.slice ua0 M.rooms.length uc0, .slice ua1 M.guilds.length uc1, .slice ua2 M.smiths.length uc2, .slice ua3 M.desks.length uc3, .slice ua4 M.paces.length uc4, .int .i64 M.now]) := hide (Blk.new _ _ _)
  have hsz_W3 : w3.heap.size + 1 ≤ (w3.alloc (.cells #[.slice ua0 M.rooms.length uc0, .slice ua1 M.guilds.length uc1, .slice ua2 M.smiths.length uc2, .slice ua3 M.desks.length uc3, .slice ua4 M.paces.length uc4, .int .i64 M.now] 32)).heap.size := by simp
  clear hba
  generalize w3.alloc (.cells #[.slice ua0 M.rooms.length uc0, .slice ua1 M.guilds.length uc1, .slice ua2 M.smiths.length uc2, .slice ua3 M.desks.length uc3, .slice ua4 M.paces.length uc4, .int .i64 M.now] 32) = W3 at *
  generalize w3.heap.size = ub at *
  refine (toSmithy_full ((unhide Hv).below (unhide BB)) (unhide Hs)).mono ?_
  rintro e w4 ⟨z0, z1, z2, z3, z4, xq, rfl, ho, hb⟩
  have k4 := ho.smy
  obtain ⟨d0, r0, rfl, _, _⟩ := IsRooms.shape k4.rooms
  obtain ⟨d1, r1, rfl, _, _⟩ := IsRec.shape k4.guilds
  obtain ⟨d2, r2, rfl, _, _⟩ := IsRec.shape k4.smiths
  obtain ⟨d3, r3, rfl, _, _⟩ := IsRec.shape k4.desks
  obtain ⟨d4, r4, rfl, _, _⟩ := IsRec.shape k4.paces
  clear k4
  replace ka := hide ((unhide ka).below hb (unhide ka).lt)
  replace HU := hide ((unhide HU).below hb)
  replace ku := hide ((unhide ku).below hb (unhide ku).lt)
  replace BB := hide ((unhide BB).trans (hb.mono (unhide BB).size))
  have HX := hide ho
  have LX : Hid (∀ k, OwnB (.slice d0 m.rooms.length r0) (.slice d1 m.guilds.length r1) (.slice d2 m.smiths.length r2) (.slice d3 m.desks.length r3) (.slice d4 m.paces.length r4) xq k → ub < k ∧ k < w4.heap.size) := hide (fun k e => ⟨Nat.lt_of_lt_of_le (Nat.lt_of_succ_le hsz_W3) (ho.own e).1, (ho.own e).2⟩)
  have hw4 : ub + 1 ≤ w4.heap.size := Nat.le_trans hsz_W3 hb.size
  clear ho hb hsz_W3
  go_wp2_with fail
  have hba : Below w4.heap.size w4 (w4.alloc (.cells #[.slice d0 m.rooms.length r0, .slice d1 m.guilds.length r1, .slice d2 m.smiths.length r2, .slice d3 m.desks.length r3, .slice d4 m.paces.length r4, .int .i64 m.now] 32)) := (Below.refl _ _).alloc (Nat.le_refl _) _
  replace ka := hide ((unhide ka).below hba (unhide ka).lt)
  replace HU := hide ((unhide HU).below hba)
  replace ku := hide ((unhide ku).below hba (unhide ku).lt)
  replace HX := hide ((unhide HX).below hba)
  replace BB := hide ((unhide BB).trans (hba.mono (unhide BB).size))
  have kx : Hid (Blk (w4.alloc (.cells #[.slice d0 m.rooms.length r0, .slice d1 m.guilds.length r1, .slice d2 m.smiths.length r2, .slice d3 m.desks.length r3, .slice d4 m.paces.length r4, .int .i64 m.now] 32)) w4.heap.size 32 #[.slice d0 m.rooms.length r0, .slice d1 m.guilds.length r1, .slice d2 m.smiths.length r2, .slice d3 m.desks.length r3, .slice d4 m.paces.length r4, .int .i64 m.now]) := hide (Blk.new _ _ _)
  have hsz_W4 : w4.heap.size + 1 ≤ (w4.alloc (.cells #[.slice d0 m.rooms.length r0, .slice d1 m.guilds.length r1, .slice d2 m.smiths.length r2, .slice d3 m.desks.length r3, .slice d4 m.paces.length r4, .int .i64 m.now] 32)).heap.size := by simp
  clear hba
  generalize w4.alloc (.cells #[.slice d0 m.rooms.length r0, .slice d1 m.guilds.length r1, .slice d2 m.smiths.length r2, .slice d3 m.desks.length r3, .slice d4 m.paces.length r4, .int .i64 m.now] 32) = W4 at *
  generalize w4.heap.size = xb at *
  refine (unhide HI1 _ _ _ _ _ _ (unhide HX).smy).mono ?_
  rintro e w5 ⟨y0, y1, y2, y3, y4, gq, rfl, ho, hb⟩
  have k9 := ho.smy
  obtain ⟨ga0, gc0, rfl, _, _⟩ := IsRooms.shape k9.rooms
  obtain ⟨ga1, gc1, rfl, _, _⟩ := IsRec.shape k9.guilds
  obtain ⟨ga2, gc2, rfl, _, _⟩ := IsRec.shape k9.smiths
  obtain ⟨ga3, gc3, rfl, _, _⟩ := IsRec.shape k9.desks
  obtain ⟨ga4, gc4, rfl, _, _⟩ := IsRec.shape k9.paces
  clear k9
  replace ka := hide ((unhide ka).below hb (unhide ka).lt)
  replace HU := hide ((unhide HU).below hb)
  replace ku := hide ((unhide ku).below hb (unhide ku).lt)
  replace HX := hide ((unhide HX).below hb)
  replace kx := hide ((unhide kx).below hb (unhide kx).lt)
  replace BB := hide ((unhide BB).trans (hb.mono (unhide BB).size))
  have HG := hide ho
  have LG : Hid (∀ k, OwnB (.slice ga0 M.rooms.length gc0) (.slice ga1 M.guilds.length gc1) (.slice ga2 M.smiths.length gc2) (.slice ga3 M.desks.length gc3) (.slice ga4 M.paces.length gc4) gq k → xb < k ∧ k < w5.heap.size) := hide (fun k e => ⟨Nat.lt_of_lt_of_le (Nat.lt_of_succ_le hsz_W4) (ho.own e).1, (ho.own e).2⟩)
  have hw5 : xb + 1 ≤ w5.heap.size := Nat.le_trans hsz_W4 hb.size
  clear ho hb hsz_W4
  have x0 := (unhide ku).cell (i := 0) (v := .slice ua0 M.rooms.length uc0) rfl
  have x1 := (unhide ku).cell (i := 1) (v := .slice ua1 M.guilds.length uc1) rfl
  have x2 := (unhide ku).cell (i := 2) (v := .slice ua2 M.smiths.length uc2) rfl
  have x3 := (unhide ku).cell (i := 3) (v := .slice ua3 M.desks.length uc3) rfl
  have x4 := (unhide ku).cell (i := 4) (v := .slice ua4 M.paces.length uc4) rfl
  have x5 := (unhide ku).cell (i := 5) (v := .int .i64 M.now) rfl
  go_upto_region 8 with fail
  clear x0 x1 x2 x3 x4 x5
  have hba : Below w5.heap.size w5 (w5.alloc (.cells #[.slice ga0 M.rooms.length gc0, .slice ga1 M.guilds.length gc1, .slice ga2 M.smiths.length gc2, .slice ga3 M.desks.length gc3, .slice ga4 M.paces.length gc4, .int .i64 M.now] 32)) := (Below.refl _ _).alloc (Nat.le_refl _) _
  replace ka := hide ((unhide ka).below hba (unhide ka).lt)
  replace HU := hide ((unhide HU).below hba)
  replace ku := hide ((unhide ku).below hba (unhide ku).lt)
  replace HX := hide ((unhide HX).below hba)
  replace kx := hide ((unhide kx).below hba (unhide kx).lt)
  replace HG := hide ((unhide HG).below hba)
  replace BB := hide ((unhide BB).trans (hba.mono (unhide BB).size))
  have kg : Hid (Blk (w5.alloc (.cells #[.slice ga0 M.rooms.length gc0, .slice ga1 M.guilds.length gc1, .slice ga2 M.smiths.length gc2, .slice ga3 M.desks.length gc3, .slice ga4 M.paces.length gc4, .int .i64 M.now] 32)) w5.heap.size 32 #[.slice ga0 M.rooms.length gc0, .slice ga1 M.guilds.length gc1, .slice ga2 M.smiths.length gc2, .slice ga3 M.desks.length gc3, .slice ga4 M.paces.length gc4, .int .i64 M.now]) := hide (Blk.new _ _ _)
  have hsz_W5 : w5.heap.size + 1 ≤ (w5.alloc (.cells #[.slice ga0 M.rooms.length gc0, .slice ga1 M.guilds.length gc1, .slice ga2 M.smiths.length gc2, .slice ga3 M.desks.length gc3, .slice ga4 M.paces.length gc4, .int .i64 M.now] 32)).heap.size := by simp
  clear hba
  generalize w5.alloc (.cells #[.slice ga0 M.rooms.length gc0, .slice ga1 M.guilds.length gc1, .slice ga2 M.smiths.length gc2, .slice ga3 M.desks.length gc3, .slice ga4 M.paces.length gc4, .int .i64 M.now] 32) = W5 at *
  generalize w5.heap.size = gb at *
  clear hsz_W5
  have x0 := (unhide ku).cell (i := 0) (v := .slice ua0 M.rooms.length uc0) rfl
  have x1 := (unhide ku).cell (i := 1) (v := .slice ua1 M.guilds.length uc1) rfl
  have x2 := (unhide ku).cell (i := 2) (v := .slice ua2 M.smiths.length uc2) rfl
  have x3 := (unhide ku).cell (i := 3) (v := .slice ua3 M.desks.length uc3) rfl
  have x4 := (unhide ku).cell (i := 4) (v := .slice ua4 M.paces.length uc4) rfl
  have x5 := (unhide ku).cell (i := 5) (v := .int .i64 M.now) rfl
  have y0 := (unhide kg).cell (i := 0) (v := .slice ga0 M.rooms.length gc0) rfl
  have y1 := (unhide kg).cell (i := 1) (v := .slice ga1 M.guilds.length gc1) rfl
  have y2 := (unhide kg).cell (i := 2) (v := .slice ga2 M.smiths.length gc2) rfl
  have y3 := (unhide kg).cell (i := 3) (v := .slice ga3 M.desks.length gc3) rfl
  have y4 := (unhide kg).cell (i := 4) (v := .slice ga4 M.paces.length gc4) rfl
  have y5 := (unhide kg).cell (i := 5) (v := .int .i64 M.now) rfl
  go_wp2_with fail
  clear x0 x1 x2 x3 x4 x5 y0 y1 y2 y3 y4 y5
  refine (eqSmithy_yes (unhide HG).smy (unhide HU).smy).mono ?_
  rintro e w6 ⟨rfl, hb⟩
  replace ka := hide ((unhide ka).below hb (unhide ka).lt)
  replace HU := hide ((unhide HU).below hb)
  replace ku := hide ((unhide ku).below hb (unhide ku).lt)
  replace HX := hide ((unhide HX).below hb)
  replace kx := hide ((unhide kx).below hb (unhide kx).lt)
  replace HG := hide ((unhide HG).below hb)
  replace kg := hide ((unhide kg).below hb (unhide kg).lt)
  replace BB := hide ((unhide BB).trans (hb.mono (unhide BB).size))
  clear hb
  have c0 := (unhide ka).cell (i := 0) (v := .slice a0 m.rooms.length p0) rfl
  have c1 := (unhide ka).cell (i := 1) (v := .slice a1 m.guilds.length p1) rfl
  have c2 := (unhide ka).cell (i := 2) (v := .slice a2 m.smiths.length p2) rfl
  have c3 := (unhide ka).cell (i := 3) (v := .slice a3 m.desks.length p3) rfl
  have c4 := (unhide ka).cell (i := 4) (v := .slice a4 m.paces.length p4) rfl
  have c5 := (unhide ka).cell (i := 5) (v := .int .i64 m.now) rfl
  have x0 := (unhide kx).cell (i := 0) (v := .slice d0 m.rooms.length r0) rfl
  have x1 := (unhide kx).cell (i := 1) (v := .slice d1 m.guilds.length r1) rfl
  have x2 := (unhide kx).cell (i := 2) (v := .slice d2 m.smiths.length r2) rfl
  have x3 := (unhide kx).cell (i := 3) (v := .slice d3 m.desks.length r3) rfl
  have x4 := (unhide kx).cell (i := 4) (v := .slice d4 m.paces.length r4) rfl
  have x5 := (unhide kx).cell (i := 5) (v := .int .i64 m.now) rfl
  have V6 := hide ((unhide Hv).below (unhide BB))
  go_upto_region 10 with fail
  go_cut [31] (fun s wc => s = .bool false ∧ Below w6.heap.size w6 wc)
  case first =>
    go_region_with (first
      | (go_at_call 29; refine (toSmithy_any (m := m) ?_ (unhide Hs)).mono ?_; exact (unhide V6).below (Below.refl _ _).drew; rintro e w7 ⟨t0, t1, t2, t3, t4, rfl, ho, hb⟩; have k7 := ho.smy; obtain ⟨f0, j0, rfl, _, _⟩ := IsRooms.shape k7.rooms; obtain ⟨f1, j1, rfl, _, _⟩ := IsRec.shape k7.guilds; obtain ⟨f2, j2, rfl, _, _⟩ := IsRec.shape k7.smiths; obtain ⟨f3, j3, rfl, _, _⟩ := IsRec.shape k7.desks; obtain ⟨f4, j4, rfl, _, _⟩ := IsRec.shape k7.paces; have K7 := hide k7; have Hb7 : Hid (Below w6.heap.size w6 w7) := hide ⟨hb.os, hb.tape, hb.output, hb.size, hb.block⟩; have kx7 := (unhide kx).below (unhide Hb7) (unhide kx).lt; have y0 := kx7.cell (i := 0) (v := .slice d0 m.rooms.length r0) rfl; have y1 := kx7.cell (i := 1) (v := .slice d1 m.guilds.length r1) rfl; have y2 := kx7.cell (i := 2) (v := .slice d2 m.smiths.length r2) rfl; have y3 := kx7.cell (i := 3) (v := .slice d3 m.desks.length r3) rfl; have y4 := kx7.cell (i := 4) (v := .slice d4 m.paces.length r4) rfl; have y5 := kx7.cell (i := 5) (v := .int .i64 m.now) rfl; clear k7 ho hb kx7)
      | (go_at_call 31; refine (eqSmithy_yes (m := m) ?_ ?_).mono ?_; exact ((unhide HX).below (unhide Hb7)).smy; exact unhide K7; rintro e w8 ⟨rfl, hb⟩; have Hb8 := hide hb; clear hb))
    all_goals
      go_wp2_with fail
      go_meet
      exact ⟨rfl, (unhide Hb7).trans ((unhide Hb8).mono (unhide Hb7).size)⟩
  case rest =>
    obtain ⟨rfl, hb⟩ := hcut
    obtain ⟨w8, rfl⟩ : ∃ x, x = wc := ⟨wc, rfl⟩
    clear c0 c1 c2 c3 c4 c5 x0 x1 x2 x3 x4 x5
    replace ka := hide ((unhide ka).below hb (unhide ka).lt)
    replace HU := hide ((unhide HU).below hb)
    replace ku := hide ((unhide ku).below hb (unhide ku).lt)
    replace HX := hide ((unhide HX).below hb)
    replace kx := hide ((unhide kx).below hb (unhide kx).lt)
    replace HG := hide ((unhide HG).below hb)
    replace kg := hide ((unhide kg).below hb (unhide kg).lt)
    replace BB := hide ((unhide BB).trans (hb.mono (unhide BB).size))
    clear hb V6
    have x0 := (unhide kx).cell (i := 0) (v := .slice d0 m.rooms.length r0) rfl
    have x1 := (unhide kx).cell (i := 1) (v := .slice d1 m.guilds.length r1) rfl
    have x2 := (unhide kx).cell (i := 2) (v := .slice d2 m.smiths.length r2) rfl
    have x3 := (unhide kx).cell (i := 3) (v := .slice d3 m.desks.length r3) rfl
    have x4 := (unhide kx).cell (i := 4) (v := .slice d4 m.paces.length r4) rfl
    have x5 := (unhide kx).cell (i := 5) (v := .int .i64 m.now) rfl
    go_wp2_with fail
    clear x0 x1 x2 x3 x4 x5
    refine (markSmithy_any 1 ((unhide HX).mono (n₁ := 0) (Nat.zero_le _)) (unhide Hs) (Nat.zero_le _) (by omega) (by omega)).mono ?_
    rintro e w9 ⟨rfl, _, hon⟩
    have hen := endM_bd (unhide Hs) (unhide HX).rooms
    generalize endM 1 m xq = em at *
    have hwle := (unhide BB).size
    replace HU := hide ((unhide HU).keep fun k e => hon.at ((unhide HU).own e).2 fun e9 => by have h1 := unhide LU k e; have h2 := unhide LX k e9; omega)
    replace HG := hide ((unhide HG).keep fun k e => hon.at ((unhide HG).own e).2 fun e9 => by have h1 := unhide LG k e; have h2 := unhide LX k e9; omega)
    replace ku := hide ((unhide ku).same (hon.at (unhide ku).lt fun e9 => by have h2 := unhide LX _ e9; omega))
    replace kg := hide ((unhide kg).same (hon.at (unhide kg).lt fun e9 => by have h2 := unhide LX _ e9; omega))
    replace ka := hide ((unhide ka).same (hon.at (unhide ka).lt fun e9 => by have h2 := unhide LX _ e9; omega))
    replace BB := hide ((unhide BB).trans (hon.below hwle (fun k e => by have h2 := unhide LX k e; omega)))
    clear hon kx HX hwle
    have hk0 : ¬ em < 0 := by omega
    have x0 := (unhide ku).cell (i := 0) (v := .slice ua0 M.rooms.length uc0) rfl
    have x1 := (unhide ku).cell (i := 1) (v := .slice ua1 M.guilds.length uc1) rfl
    have x2 := (unhide ku).cell (i := 2) (v := .slice ua2 M.smiths.length uc2) rfl
    have x3 := (unhide ku).cell (i := 3) (v := .slice ua3 M.desks.length uc3) rfl
    have x4 := (unhide ku).cell (i := 4) (v := .slice ua4 M.paces.length uc4) rfl
    have x5 := (unhide ku).cell (i := 5) (v := .int .i64 M.now) rfl
    have y0 := (unhide kg).cell (i := 0) (v := .slice ga0 M.rooms.length gc0) rfl
    have y1 := (unhide kg).cell (i := 1) (v := .slice ga1 M.guilds.length gc1) rfl
    have y2 := (unhide kg).cell (i := 2) (v := .slice ga2 M.smiths.length gc2) rfl
    have y3 := (unhide kg).cell (i := 3) (v := .slice ga3 M.desks.length gc3) rfl
    have y4 := (unhide kg).cell (i := 4) (v := .slice ga4 M.paces.length gc4) rfl
    have y5 := (unhide kg).cell (i := 5) (v := .int .i64 M.now) rfl
    go_wp2_with fail
    clear x0 x1 x2 x3 x4 x5 y0 y1 y2 y3 y4 y5
    refine (eqSmithy_yes (unhide HG).smy (unhide HU).smy).mono ?_
    rintro e w10 ⟨rfl, hb⟩
    replace ka := hide ((unhide ka).below hb (unhide ka).lt)
    replace HU := hide ((unhide HU).below hb)
    replace ku := hide ((unhide ku).below hb (unhide ku).lt)
    replace HG := hide ((unhide HG).below hb)
    replace kg := hide ((unhide kg).below hb (unhide kg).lt)
    replace BB := hide ((unhide BB).trans (hb.mono (unhide BB).size))
    clear hb
    have y0 := (unhide kg).cell (i := 0) (v := .slice ga0 M.rooms.length gc0) rfl
    have y1 := (unhide kg).cell (i := 1) (v := .slice ga1 M.guilds.length gc1) rfl
    have y2 := (unhide kg).cell (i := 2) (v := .slice ga2 M.smiths.length gc2) rfl
    have y3 := (unhide kg).cell (i := 3) (v := .slice ga3 M.desks.length gc3) rfl
    have y4 := (unhide kg).cell (i := 4) (v := .slice ga4 M.paces.length gc4) rfl
    have y5 := (unhide kg).cell (i := 5) (v := .int .i64 M.now) rfl
    go_wp2_with fail
    clear y0 y1 y2 y3 y4 y5
    refine (markSmithy_any 1 ((unhide HG).mono (n₁ := 0) (Nat.zero_le _)) (unhide HsM) (Nat.zero_le _) (by omega) (by omega)).mono ?_
    rintro e w11 ⟨rfl, hgm, hon⟩
    have hgr := (unhide HG).rooms
    have hen2 := endM_bd (unhide HsM) hgr
    have hwle := (unhide BB).size
    replace HU := hide ((unhide HU).keep fun k e => hon.at ((unhide HU).own e).2 fun e9 => by have h1 := unhide LU k e; have h2 := unhide LG k e9; omega)
    replace ku := hide ((unhide ku).same (hon.at (unhide ku).lt fun e9 => by have h2 := unhide LG _ e9; omega))
    replace kg := hide ((unhide kg).same (hon.at (unhide kg).lt fun e9 => by have h2 := unhide LG _ e9; omega))
    replace ka := hide ((unhide ka).same (hon.at (unhide ka).lt fun e9 => by have h2 := unhide LG _ e9; omega))
    replace BB := hide ((unhide BB).trans (hon.below hwle (fun k e => by have h2 := unhide LG k e; omega)))
    replace HG := hide hgm
    have Hgr := hide hgr
    clear hgm hon hwle hgr
    have y0 := (unhide kg).cell (i := 0) (v := .slice ga0 M.rooms.length gc0) rfl
    have y1 := (unhide kg).cell (i := 1) (v := .slice ga1 M.guilds.length gc1) rfl
    have y2 := (unhide kg).cell (i := 2) (v := .slice ga2 M.smiths.length gc2) rfl
    have y3 := (unhide kg).cell (i := 3) (v := .slice ga3 M.desks.length gc3) rfl
    have y4 := (unhide kg).cell (i := 4) (v := .slice ga4 M.paces.length gc4) rfl
    have y5 := (unhide kg).cell (i := 5) (v := .int .i64 M.now) rfl
    go_wp2_with fail
    clear y0 y1 y2 y3 y4 y5
    refine (heldSmithy_yes 1 (unhide HG) (unhide HsM).rooms (unhide Hgr) (unhide HsM) (by omega) (by omega)).mono ?_
    rintro e w12 ⟨rfl, hb⟩
    replace ka := hide ((unhide ka).below hb (unhide ka).lt)
    replace HU := hide ((unhide HU).below hb)
    replace ku := hide ((unhide ku).below hb (unhide ku).lt)
    replace HG := hide ((unhide HG).below hb)
    replace kg := hide ((unhide kg).below hb (unhide kg).lt)
    replace BB := hide ((unhide BB).trans (hb.mono (unhide BB).size))
    clear hb
    have Hen2 := hide hen2
    obtain ⟨en, hene⟩ : ∃ x, endM 1 M gq = x := ⟨_, rfl⟩
    have hnn : ¬ en < 0 := by rw [← hene]; omega
    have Hene := hide hene
    rw [hene]
    clear hene hen2
    have c0 := (unhide ka).cell (i := 0) (v := .slice a0 m.rooms.length p0) rfl
    have c1 := (unhide ka).cell (i := 1) (v := .slice a1 m.guilds.length p1) rfl
    have c2 := (unhide ka).cell (i := 2) (v := .slice a2 m.smiths.length p2) rfl
    have c3 := (unhide ka).cell (i := 3) (v := .slice a3 m.desks.length p3) rfl
    have c4 := (unhide ka).cell (i := 4) (v := .slice a4 m.paces.length p4) rfl
    have c5 := (unhide ka).cell (i := 5) (v := .int .i64 m.now) rfl
    go_wp2_with fail
    clear c0 c1 c2 c3 c4 c5
    refine (toSmithy_any ((unhide Hv).below (unhide BB)) (unhide Hs)).mono ?_
    rintro e w13 ⟨s0, s1, s2, s3, s4, rfl, ho, hb⟩
    have k13 := ho.smy
    obtain ⟨f0, j0, rfl, _, _⟩ := IsRooms.shape k13.rooms
    obtain ⟨f1, j1, rfl, _, _⟩ := IsRec.shape k13.guilds
    obtain ⟨f2, j2, rfl, _, _⟩ := IsRec.shape k13.smiths
    obtain ⟨f3, j3, rfl, _, _⟩ := IsRec.shape k13.desks
    obtain ⟨f4, j4, rfl, _, _⟩ := IsRec.shape k13.paces
    have K13 := hide k13
    clear k13 ho
    replace ka := hide ((unhide ka).below hb (unhide ka).lt)
    replace HU := hide ((unhide HU).below hb)
    replace ku := hide ((unhide ku).below hb (unhide ku).lt)
    replace HG := hide ((unhide HG).below hb)
    replace kg := hide ((unhide kg).below hb (unhide kg).lt)
    replace BB := hide ((unhide BB).trans (hb.mono (unhide BB).size))
    clear hb
    go_wp2_with fail
    refine (unhide HI1 _ _ _ _ _ _ (unhide K13)).mono ?_
    rintro e w14 ⟨y0, y1, y2, y3, y4, hq, rfl, ho, hb⟩
    have k9 := ho.smy
    obtain ⟨ha0, hc0, rfl, _, _⟩ := IsRooms.shape k9.rooms
    obtain ⟨ha1, hc1, rfl, _, _⟩ := IsRec.shape k9.guilds
    obtain ⟨ha2, hc2, rfl, _, _⟩ := IsRec.shape k9.smiths
    obtain ⟨ha3, hc3, rfl, _, _⟩ := IsRec.shape k9.desks
    obtain ⟨ha4, hc4, rfl, _, _⟩ := IsRec.shape k9.paces
    clear ho K13
    replace ka := hide ((unhide ka).below hb (unhide ka).lt)
    replace HU := hide ((unhide HU).below hb)
    replace ku := hide ((unhide ku).below hb (unhide ku).lt)
    replace HG := hide ((unhide HG).below hb)
    replace kg := hide ((unhide kg).below hb (unhide kg).lt)
    replace BB := hide ((unhide BB).trans (hb.mono (unhide BB).size))
    have HH := hide k9
    clear k9 hb
    go_upto_region 25 with fail
    have hba : Below w14.heap.size w14 (w14.alloc (.cells #[.slice ha0 M.rooms.length hc0, .slice ha1 M.guilds.length hc1, .slice ha2 M.smiths.length hc2, .slice ha3 M.desks.length hc3, .slice ha4 M.paces.length hc4, .int .i64 M.now] 32)) := (Below.refl _ _).alloc (Nat.le_refl _) _
    replace ka := hide ((unhide ka).below hba (unhide ka).lt)
    replace HU := hide ((unhide HU).below hba)
    replace ku := hide ((unhide ku).below hba (unhide ku).lt)
    replace HG := hide ((unhide HG).below hba)
    replace kg := hide ((unhide kg).below hba (unhide kg).lt)
    replace HH := hide ((unhide HH).below hba)
    replace BB := hide ((unhide BB).trans (hba.mono (unhide BB).size))
    have kh : Hid (Blk (w14.alloc (.cells #[.slice ha0 M.rooms.length hc0, .slice ha1 M.guilds.length hc1, .slice ha2 M.smiths.length hc2, .slice ha3 M.desks.length hc3, .slice ha4 M.paces.length hc4, .int .i64 M.now] 32)) w14.heap.size 32 #[.slice ha0 M.rooms.length hc0, .slice ha1 M.guilds.length hc1, .slice ha2 M.smiths.length hc2, .slice ha3 M.desks.length hc3, .slice ha4 M.paces.length hc4, .int .i64 M.now]) := hide (Blk.new _ _ _)
    have hsz_W14 : w14.heap.size + 1 ≤ (w14.alloc (.cells #[.slice ha0 M.rooms.length hc0, .slice ha1 M.guilds.length hc1, .slice ha2 M.smiths.length hc2, .slice ha3 M.desks.length hc3, .slice ha4 M.paces.length hc4, .int .i64 M.now] 32)).heap.size := by simp
    clear hba
    generalize w14.alloc (.cells #[.slice ha0 M.rooms.length hc0, .slice ha1 M.guilds.length hc1, .slice ha2 M.smiths.length hc2, .slice ha3 M.desks.length hc3, .slice ha4 M.paces.length hc4, .int .i64 M.now] 32) = W14 at *
    generalize w14.heap.size = hb2 at *
    clear hsz_W14
    have x0 := (unhide ku).cell (i := 0) (v := .slice ua0 M.rooms.length uc0) rfl
    have x1 := (unhide ku).cell (i := 1) (v := .slice ua1 M.guilds.length uc1) rfl
    have x2 := (unhide ku).cell (i := 2) (v := .slice ua2 M.smiths.length uc2) rfl
    have x3 := (unhide ku).cell (i := 3) (v := .slice ua3 M.desks.length uc3) rfl
    have x4 := (unhide ku).cell (i := 4) (v := .slice ua4 M.paces.length uc4) rfl
    have x5 := (unhide ku).cell (i := 5) (v := .int .i64 M.now) rfl
    have y0 := (unhide kh).cell (i := 0) (v := .slice ha0 M.rooms.length hc0) rfl
    have y1 := (unhide kh).cell (i := 1) (v := .slice ha1 M.guilds.length hc1) rfl
    have y2 := (unhide kh).cell (i := 2) (v := .slice ha2 M.smiths.length hc2) rfl
    have y3 := (unhide kh).cell (i := 3) (v := .slice ha3 M.desks.length hc3) rfl
    have y4 := (unhide kh).cell (i := 4) (v := .slice ha4 M.paces.length hc4) rfl
    have y5 := (unhide kh).cell (i := 5) (v := .int .i64 M.now) rfl
    go_wp2_with fail
    clear x0 x1 x2 x3 x4 x5 y0 y1 y2 y3 y4 y5
    refine (eqSmithy_yes (unhide HH) (unhide HU).smy).mono ?_
    rintro e w15 ⟨rfl, hb⟩
    replace ka := hide ((unhide ka).below hb (unhide ka).lt)
    replace HU := hide ((unhide HU).below hb)
    replace ku := hide ((unhide ku).below hb (unhide ku).lt)
    replace HG := hide ((unhide HG).below hb)
    replace kg := hide ((unhide kg).below hb (unhide kg).lt)
    replace HH := hide ((unhide HH).below hb)
    replace kh := hide ((unhide kh).below hb (unhide kh).lt)
    replace BB := hide ((unhide BB).trans (hb.mono (unhide BB).size))
    clear hb
    have y0 := (unhide kg).cell (i := 0) (v := .slice ga0 M.rooms.length gc0) rfl
    have y1 := (unhide kg).cell (i := 1) (v := .slice ga1 M.guilds.length gc1) rfl
    have y2 := (unhide kg).cell (i := 2) (v := .slice ga2 M.smiths.length gc2) rfl
    have y3 := (unhide kg).cell (i := 3) (v := .slice ga3 M.desks.length gc3) rfl
    have y4 := (unhide kg).cell (i := 4) (v := .slice ga4 M.paces.length gc4) rfl
    have y5 := (unhide kg).cell (i := 5) (v := .int .i64 M.now) rfl
    go_wp2_with fail
    clear y0 y1 y2 y3 y4 y5
    refine (heldSmithy_yes 1 (unhide HG) (unhide HsM).rooms (unhide Hgr) (unhide HsM) (by omega) (by omega)).mono ?_
    rw [unhide Hene]
    rintro e w16 ⟨rfl, hb⟩
    replace ka := hide ((unhide ka).below hb (unhide ka).lt)
    replace HU := hide ((unhide HU).below hb)
    replace ku := hide ((unhide ku).below hb (unhide ku).lt)
    replace HG := hide ((unhide HG).below hb)
    replace kg := hide ((unhide kg).below hb (unhide kg).lt)
    replace HH := hide ((unhide HH).below hb)
    replace kh := hide ((unhide kh).below hb (unhide kh).lt)
    replace BB := hide ((unhide BB).trans (hb.mono (unhide BB).size))
    clear hb
    go_wp2_with fail
    go_ret
    exact ⟨rfl, unhide BB⟩

end Go.Proofs.YtifolooecfebfaaGreat

