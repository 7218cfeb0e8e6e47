/- The paces that are enough, as lists: which place is told, and what is known of it. No program, no condition. -/
import Derived.Test.YtbekkdneldcehaaHallMem
import Derived.Test.YtbekkdneldcehaaCalc
namespace Go.Proofs.Ytbekkdneldcehaa
open Go.ChangeShapes Go.WideShapes Go.ChangeAt Go.RowKit
set_option linter.unusedVariables false

def enoughB (need : Int) (p : PaceV) : Bool := decide (5 * need ≤ 4 * p.1)
def paceN (need : Int) : List PaceV → Nat
  | [] => 0
  | [_] => 0
  | p :: q :: ps => if enoughB need p then 0 else paceN need (q :: ps) + 1
def paceForV (r : RoomV) (need : Int) : Int := if roomB r && inB need 0 1000000 then paceN need r.2 else -1
def coalForV (r : RoomV) (pace work : Int) : Int := if roomB r && (inB work 0 1000000 && inB pace 0 (r.2.length - 1)) then mulDivV (paceAt r.2 pace.toNat).2 work (paceAt r.2 pace.toNat).1 else -1
def leastV (r : RoomV) (need work : Int) : Int := coalForV r (paceForV r need) work

theorem paceAt_0 (p : PaceV) (ps : List PaceV) : paceAt (p :: ps) 0 = p := rfl
theorem paceAt_s (p : PaceV) (ps : List PaceV) (k : Nat) : paceAt (p :: ps) (k + 1) = paceAt ps k := by unfold paceAt; simp [List.getD]
theorem enough_t {need : Int} {p : PaceV} (h : 5 * need ≤ 4 * p.1) : enoughB need p = true := decide_eq_true h
theorem enough_f {need : Int} {p : PaceV} (h : 4 * p.1 < 5 * need) : enoughB need p = false := decide_eq_false (by omega)
theorem enough_of {need : Int} {p : PaceV} (h : enoughB need p = true) : 5 * need ≤ 4 * p.1 := of_decide_eq_true h
theorem enough_no {need : Int} {p : PaceV} (h : enoughB need p = false) : 4 * p.1 < 5 * need := by have := of_decide_eq_false h; omega

theorem paceN_eq (need : Int) : ∀ (ps : List PaceV) (k : Nat), k + 1 ≤ ps.length → (∀ j, j < k → enoughB need (paceAt ps j) = false) → (k + 1 = ps.length ∨ enoughB need (paceAt ps k) = true) → paceN need ps = k
  | [], k, hk, _, _ => by simp at hk
  | [p], k, hk, _, _ => by simp at hk; subst hk; rfl
  | p :: q :: ps, 0, _, _, he => by
    rcases he with he | he
    · simp at he
    · rw [paceAt_0] at he; simp [paceN, he]
  | p :: q :: ps, k + 1, hk, hlo, he => by
    have h0 := hlo 0 (by omega)
    rw [paceAt_0] at h0
    have ih := paceN_eq need (q :: ps) k (by simp at hk ⊢; omega) (fun j hj => by have := hlo (j + 1) (by omega); rwa [paceAt_s] at this) (by
      rcases he with he | he
      · left; simp at he ⊢; omega
      · right; rwa [paceAt_s] at he)
    simp [paceN, h0, ih]
theorem paceN_lt (need : Int) : ∀ ps : List PaceV, 1 ≤ ps.length → paceN need ps + 1 ≤ ps.length
  | [], h => by simp at h
  | [p], _ => by simp [paceN]
  | p :: q :: ps, _ => by
    have ih := paceN_lt need (q :: ps) (by simp)
    unfold paceN; split <;> simp at ih ⊢; omega
theorem paceN_lo (need : Int) : ∀ (ps : List PaceV) (j : Nat), j < paceN need ps → enoughB need (paceAt ps j) = false
  | [], j, h => by simp [paceN] at h
  | [p], j, h => by simp [paceN] at h
  | p :: q :: ps, j, h => by
    unfold paceN at h
    cases hp : enoughB need p
    · rw [hp] at h; simp at h
      cases j with
      | zero => exact hp
      | succ j => rw [paceAt_s]; exact paceN_lo need (q :: ps) j (by omega)
    · rw [hp] at h; simp at h
theorem paceN_hi (need : Int) : ∀ ps : List PaceV, 1 ≤ ps.length → paceN need ps + 1 = ps.length ∨ enoughB need (paceAt ps (paceN need ps)) = true
  | [], h => by simp at h
  | [p], _ => by simp [paceN]
  | p :: q :: ps, _ => by
    have ih := paceN_hi need (q :: ps) (by simp)
    unfold paceN
    cases hp : enoughB need p
    · simp only [Bool.false_eq_true, if_false, paceAt_s]
      rcases ih with ih | ih
      · left; simp at ih ⊢; omega
      · right; exact ih
    · right; simp only [if_true]; exact hp
theorem paceN_mono {need need' : Int} (h : need' ≤ need) : ∀ ps : List PaceV, paceN need' ps ≤ paceN need ps
  | [] => by simp [paceN]
  | [p] => by simp [paceN]
  | p :: q :: ps => by
    have ih := paceN_mono h (q :: ps)
    unfold paceN
    cases hp : enoughB need p
    · simp only [Bool.false_eq_true, if_false]
      split <;> omega
    · have hp' : enoughB need' p = true := enough_t (by have := enough_of hp; omega)
      simp [hp']

theorem room_pace {r : RoomV} (h : roomB r = true) {k : Nat} (hk : k < r.2.length) : 1 ≤ (paceAt r.2 k).1 ∧ (paceAt r.2 k).1 ≤ 1024 ∧ 1 ≤ (paceAt r.2 k).2 ∧ (paceAt r.2 k).2 ≤ 1024 := by
  unfold roomB at h; simp only [Bool.and_eq_true] at h
  have h1 := pacesB_of h.2.2 hk
  unfold stepB paceB at h1; simp only [Bool.and_eq_true] at h1
  have a := inB_of h1.1.1; have b := inB_of h1.1.2
  omega
theorem paceForV_f1 {r : RoomV} {need : Int} (h : roomB r = false) : paceForV r need = -1 := by unfold paceForV; simp [h]
theorem paceForV_f2 {r : RoomV} {need : Int} (h : inB need 0 1000000 = false) : paceForV r need = -1 := by unfold paceForV; simp [h]
theorem paceForV_t {r : RoomV} {need : Int} (h : roomB r = true) (h2 : inB need 0 1000000 = true) : paceForV r need = paceN need r.2 := by unfold paceForV; simp [h, h2]
theorem paceForV_bd (r : RoomV) (need : Int) : -1 ≤ paceForV r need ∧ paceForV r need ≤ 3 := by
  cases h : roomB r
  · rw [paceForV_f1 h]; omega
  · cases h2 : inB need 0 1000000
    · rw [paceForV_f2 h2]; omega
    · rw [paceForV_t h h2]; have := room_bd h; have := paceN_lt need r.2 (by omega); omega
theorem coalForV_f1 {r : RoomV} {pace work : Int} (h : roomB r = false) : coalForV r pace work = -1 := by unfold coalForV; simp [h]
theorem coalForV_f2 {r : RoomV} {pace work : Int} (h : inB work 0 1000000 = false) : coalForV r pace work = -1 := by unfold coalForV; simp [h]
theorem coalForV_f3 {r : RoomV} {pace work : Int} (h : inB pace 0 (r.2.length - 1) = false) : coalForV r pace work = -1 := by unfold coalForV; simp [h]
theorem coalForV_t {r : RoomV} {pace work : Int} (h : roomB r = true) (h2 : inB work 0 1000000 = true) (h3 : inB pace 0 (r.2.length - 1) = true) : coalForV r pace work = mulDivV (paceAt r.2 pace.toNat).2 work (paceAt r.2 pace.toNat).1 := by unfold coalForV; simp [h, h2, h3]
theorem mulDivV_t {a b c : Int} (a0 : 0 ≤ a) (a1 : a ≤ 1000000000) (b0 : 0 ≤ b) (b1 : b ≤ 1000000000) (c0 : 1 ≤ c) (c1 : c ≤ 1000000000) : mulDivV a b c = a * b / c := by
  unfold mulDivV; rw [inB_t a0 a1, inB_t b0 b1, inB_t c0 c1]; rfl
theorem coalForV_bd (r : RoomV) (pace work : Int) : -1 ≤ coalForV r pace work ∧ coalForV r pace work ≤ 1024000000 := by
  cases h : roomB r
  · rw [coalForV_f1 h]; omega
  cases h2 : inB work 0 1000000
  · rw [coalForV_f2 h2]; omega
  cases h3 : inB pace 0 (r.2.length - 1)
  · rw [coalForV_f3 h3]; omega
  rw [coalForV_t h h2 h3]
  have hb := inB_of h2; have hp := inB_of h3
  have hr := room_pace h (k := pace.toNat) (by omega)
  generalize paceAt r.2 pace.toNat = p at *
  rw [mulDivV_t (by omega) (by omega) (by omega) (by omega) (by omega) (by omega)]
  have m0 : 0 ≤ p.2 * work := Int.mul_nonneg (by omega) (by omega)
  have m1 : p.2 * work ≤ 1024 * 1000000 := Int.mul_le_mul (by omega) (by omega) (by omega) (by omega)
  have d0 := Int.ediv_nonneg m0 (show 0 ≤ p.1 by omega)
  have d1 := Int.ediv_le_self p.1 m0
  omega
/-- Less work costs no more. -/
theorem coalForV_mono {r : RoomV} {pace work : Int} (h : 0 ≤ coalForV r pace work) (hw : 0 < work) : coalForV r pace (work - 1) ≤ coalForV r pace work := by
  cases h1 : roomB r
  · rw [coalForV_f1 h1] at h; omega
  cases h2 : inB work 0 1000000
  · rw [coalForV_f2 h2] at h; omega
  cases h3 : inB pace 0 (r.2.length - 1)
  · rw [coalForV_f3 h3] at h; omega
  have hb := inB_of h2; have hp := inB_of h3
  rw [coalForV_t h1 h2 h3, coalForV_t h1 (inB_t (by omega) (by omega)) h3]
  have hr := room_pace h1 (k := pace.toNat) (by omega)
  generalize paceAt r.2 pace.toNat = p at *
  rw [mulDivV_t (by omega) (by omega) (by omega) (by omega) (by omega) (by omega), mulDivV_t (by omega) (by omega) (by omega) (by omega) (by omega) (by omega)]
  exact Int.ediv_le_ediv (by omega) (Int.mul_le_mul_of_nonneg_left (by omega) (by omega))

end Go.Proofs.Ytbekkdneldcehaa
