/- What the proof rests on, part 26: lists and numbers, how they lie in memory, and contracts of the calls. No condition but those that a theorem names. -/
import Derived.Test.YtifolooecfebfaaGreatXe01
import Derived.Test.YtifolooecfebfaaGreatXe02
import Derived.Test.YtifolooecfebfaaGreatXe03
import Derived.Test.YtifolooecfebfaaGreatXe04
import Derived.Test.YtifolooecfebfaaGreatXe05
import Derived.Test.YtifolooecfebfaaGreatXe06
import Derived.Test.YtifolooecfebfaaGreatXe07
import Derived.Test.YtifolooecfebfaaGreatXe08
import Derived.Test.YtifolooecfebfaaGreatXe09
import Derived.Test.YtifolooecfebfaaGreatXe10
import Derived.Test.YtifolooecfebfaaGreatXe12
import Derived.Test.YtifolooecfebfaaGreatXe13
import Derived.Test.YtifolooecfebfaaGreatXe14
import Derived.Test.YtifolooecfebfaaGreatXe16
import Derived.Test.YtifolooecfebfaaGreatXe17
import Derived.Test.YtifolooecfebfaaGreatXe21
import Derived.Test.YtifolooecfebfaaGreatXe23
import Derived.WalkMore
import Derived.Below
import GoSem.Claim
import GoSem.ClaimJoined
import GoSem.ClaimMapViews
import Derived.JoinedTies
import Derived.KernelRfl
import Derived.RowKit
import Derived.WalkKit
import Derived.ProofKit
import Derived.OpenShut
import Derived.Outline
import Derived.Lib.QuietBelow
import Derived.Deep.RegionHeld3
import Derived.Deep.DrawnRows
import Derived.BigRegion
import Derived.Deep.RegionLawGrows
import Derived.Deep.RegionWith
import Derived.Deep.QuietTactic
import Derived.BigQuiet
import Derived.Laws.OwnMore
import Derived.OwnWalk
import Derived.Maps.AppendAt
import Derived.Lib.SmallJoins
import Derived.Deep.Fields
import Derived.Deep.Slices
import Derived.OrdersHeld
import Derived.Deep.RegionHeldLaw
import Derived.Laws.StructEq
import Derived.Deep.DeepCutAuto
/- How the program seeks who is to be moved: a list of the idle benches, gone through; that it comes to what the model finds; who was moved needs not be asked again. Lists and numbers alone; no condition but those that a theorem names. -/
namespace Go.Proofs.YtifolooecfebfaaGreat
open Go.ChangeShapes Go.WideShapes Go.ChangeAt Go.RowKit Go.Sort
set_option linter.unusedVariables false
set_option linter.unusedSimpArgs false

/-- The idle benches. -/
def idleTo (m : SmyV) : Nat → List Int
  | 0 => []
  | k + 1 => if idleB m k then idleTo m k ++ [(k : Int)] else idleTo m k
theorem idleTo_yes {m : SmyV} {k : Nat} (h : idleB m k = true) : idleTo m (k + 1) = idleTo m k ++ [(k : Int)] := by show (if _ then _ else _) = _; rw [if_pos h]
theorem idleTo_no {m : SmyV} {k : Nat} (h : idleB m k = false) : idleTo m (k + 1) = idleTo m k := by show (if _ then _ else _) = _; rw [h]; rfl
theorem idleTo_len (m : SmyV) : ∀ k, (idleTo m k).length ≤ k
  | 0 => Nat.le_refl _
  | k + 1 => by
    have := idleTo_len m k
    unfold idleTo
    split
    · simp; omega
    · omega
theorem idle_open {m : SmyV} {k : Nat} (h : idleB m k = true) : (recAt m.desks k).1 = true := by
  unfold idleB at h
  simp only [Bool.and_eq_true] at h
  exact h.1
/-- Is that bench strong enough, and one where the smith may work? -/
def strP (m : SmyV) (w : Nat) (b : Int) : Bool := memB (recAt m.smiths w).2.2.2.1 b && fitsB (wantV m (w : Int)) 0 (forceV m.rooms b)
def goodZ (m : SmyV) (w : Nat) (l : List Int) : Option (Nat × Int) := (l.find? (strP m w)).map fun b => (w, b)
def castP : Nat × Nat → Nat × Int := fun p => (p.1, (p.2 : Int))
/-- One who could be elsewhere, and that bench, as the program holds it. -/
def seatZ : Option (Nat × Int) → Value
  | none => .agg #[.int .i64 0, .int .i64 0, .bool false]
  | some (w, b) => .agg #[.int .i64 (w : Int), .int .i64 b, .bool true]
theorem find_no {l : List Int} {p : Int → Bool} {j : Nat} (hj : j < l.length) (h0 : (l.take j).find? p = none) (h : p (recAt l j) = false) : (l.take (j + 1)).find? p = none := by
  rw [take_snocR hj, List.find?_append, h0]
  simp [h]
theorem find_yes {l : List Int} {p : Int → Bool} {j : Nat} (hj : j < l.length) (h0 : (l.take j).find? p = none) (h : p (recAt l j) = true) : l.find? p = some (recAt l j) := by
  have e : l.find? p = (l.take (j + 1) ++ l.drop (j + 1)).find? p := by rw [List.take_append_drop]
  rw [e, List.find?_append, take_snocR hj, List.find?_append, h0]
  simp [h]
theorem find_good {m : SmyV} {w : Nat} (hm : ∀ b : Nat, b < m.desks.length → memB (recAt m.smiths w).2.2.2.1 (b : Int) = bitB (recAt m.smiths w).2.2.2.1 (b : Int)) : ∀ n, n ≤ m.desks.length → (idleTo m n).find? (strP m w) = (goodTo m w n).map (fun b => (b : Int))
  | 0, _ => rfl
  | n + 1, hn => by
    have ih := find_good hm n (by omega)
    unfold idleTo goodTo
    cases hi : idleB m n
    · rw [if_neg (by simp), ih]
      cases hg : goodTo m w n with
      | some b => rfl
      | none => simp [goodB, hi]
    · rw [if_pos rfl, List.find?_append, ih]
      cases hg : goodTo m w n with
      | some b => rfl
      | none =>
        have e : strP m w (n : Int) = goodB m w n := by
          unfold strP goodB mayAt
          rw [hm n (by omega), hi, idle_open hi, Int.toNat_natCast]
          rfl
        simp only [Option.map_none, Option.none_or, List.find?_cons, List.find?_nil, e]
        cases goodB m w n <;> rfl
theorem good_mis {m : SmyV} {w : Nat} (hm : ∀ b : Nat, b < m.desks.length → memB (recAt m.smiths w).2.2.2.1 (b : Int) = bitB (recAt m.smiths w).2.2.2.1 (b : Int)) (h : misB m w = true) : goodZ m w (idleTo m m.desks.length) = (misAt m w).map fun b => (w, (b : Int)) := by
  unfold goodZ misAt
  rw [find_good hm _ (Nat.le_refl _), if_pos h, Option.map_map]
  rfl

/-! ### who waits -/
def wtP (m : SmyV) (b : Int) (w : Nat) : Bool := (recAt m.smiths w).1 == 2 && memB (recAt m.smiths w).2.2.2.1 b
def wtTo (m : SmyV) (b : Int) : Nat → Option Nat
  | 0 => none
  | k + 1 => match wtTo m b k with
    | some w => some w
    | none => if wtP m b k then some k else none
def wtOf (m : SmyV) (b : Int) : Option (Nat × Int) := (wtTo m b m.smiths.length).map fun w => (w, b)
theorem wt_next {m : SmyV} {b : Int} {k : Nat} (h0 : wtTo m b k = none) (h : wtP m b k = false) : wtTo m b (k + 1) = none := by unfold wtTo; rw [h0, h]; rfl
theorem wt_hit {m : SmyV} {b : Int} {k n : Nat} (h0 : wtTo m b k = none) (h : wtP m b k = true) (hn : k < n) : wtTo m b n = some k := by
  obtain ⟨d, rfl⟩ : ∃ d, n = k + 1 + d := ⟨n - (k + 1), by omega⟩
  clear hn
  induction d with
  | zero => show wtTo m b (k + 1) = _; unfold wtTo; rw [h0, h]; rfl
  | succ d ih =>
    show wtTo m b (k + 1 + d + 1) = _
    unfold wtTo
    rw [ih]
theorem some_no {l : List Int} {f : Int → Option (Nat × Int)} {j : Nat} (hj : j < l.length) (h0 : (l.take j).findSome? f = none) (h : f (recAt l j) = none) : (l.take (j + 1)).findSome? f = none := by
  rw [take_snocR hj, List.findSome?_append, h0]
  simp [h]
theorem some_yes {l : List Int} {f : Int → Option (Nat × Int)} {j : Nat} {r : Nat × Int} (hj : j < l.length) (h0 : (l.take j).findSome? f = none) (h : f (recAt l j) = some r) : l.findSome? f = some r := by
  have e : l.findSome? f = (l.take (j + 1) ++ l.drop (j + 1)).findSome? f := by rw [List.take_append_drop]
  rw [e, List.findSome?_append, take_snocR hj, List.findSome?_append, h0]
  simp [h]
/-- What a may-set asks, where it is right. -/
def MayOk (m : SmyV) : Prop := ∀ w : Nat, w < m.smiths.length → (recAt m.smiths w).1 ≠ 0 → ∀ b : Nat, b < m.desks.length → memB (recAt m.smiths w).2.2.2.1 (b : Int) = bitB (recAt m.smiths w).2.2.2.1 (b : Int)
theorem may_ok {m : SmyV} (h : Loose m) : MayOk m := fun w hw hs b hb => by
  have y := may_bd h hw hs
  have h8 := h.sane.eight
  unfold memB
  rw [inB_t y.1 y.2, inB_t (show (0 : Int) ≤ (b : Int) by omega) (show (b : Int) ≤ 7 by omega)]
  rfl
theorem wt_eq {m : SmyV} (hm : MayOk m) {b : Nat} (hb : b < m.desks.length) (hi : idleB m b = true) : ∀ k, k ≤ m.smiths.length → wtTo m (b : Int) k = waitTo m b k
  | 0, _ => rfl
  | k + 1, hk => by
    unfold wtTo waitTo
    rw [wt_eq hm hb hi k (by omega)]
    have e : wtP m (b : Int) k = waitB m k b := by
      unfold wtP waitB mayAt
      rw [Int.toNat_natCast, idle_open hi]
      by_cases h2 : (recAt m.smiths k).1 = 2
      · rw [hm k (by omega) (by omega) b hb]; rfl
      · have : ((recAt m.smiths k).1 == 2) = false := beq_eq_false_iff_ne.mpr h2
        rw [this]; rfl
    rw [e]
    rfl
theorem wts_eq {m : SmyV} (hm : MayOk m) : ∀ n, n ≤ m.desks.length → (idleTo m n).findSome? (wtOf m) = (waitsTo m n).map castP
  | 0, _ => rfl
  | n + 1, hn => by
    have ih := wts_eq hm n (by omega)
    unfold idleTo waitsTo
    cases hi : idleB m n
    · rw [if_neg (by simp), ih]
      cases hg : waitsTo m n with
      | some b => rfl
      | none => simp [waitAt, hi]
    · rw [if_pos rfl, List.findSome?_append, ih]
      cases hg : waitsTo m n with
      | some b => rfl
      | none =>
        unfold waitAt
        rw [if_pos hi]
        simp only [Option.map_none, Option.none_or, List.findSome?_cons, List.findSome?_nil]
        unfold wtOf
        rw [wt_eq hm (by omega) hi _ (Nat.le_refl _)]
        cases waitTo m n m.smiths.length <;> rfl

/-! ### who was moved -/
theorem mis_skip {m : SmyV} {k : Nat} (h0 : misTo m k = none) (h : misB m k = false) : misTo m (k + 1) = none := by unfold misTo misAt; rw [h0, h]; rfl
theorem mis_none {m : SmyV} {k : Nat} (h0 : misTo m k = none) (h : misAt m k = none) : misTo m (k + 1) = none := by unfold misTo; rw [h0, h]; rfl
theorem mis_some {m : SmyV} {k b n : Nat} (h0 : misTo m k = none) (h : misAt m k = some b) (hn : k < n) : misTo m n = some (k, b) := mis_stay (k := k + 1) (by unfold misTo; rw [h0, h]; rfl) hn
theorem mis_of {m : SmyV} (hr : smyB m = true) {n : Nat} (hn : n = m.smiths.length) {q : Option (Nat × Nat)} (h : misTo m n = q) : misfitV m = q := by unfold misfitV; rw [if_pos hr, ← hn, h]
theorem move_mis {m : SmyV} {r : Nat × Nat} (h : misfitV m = some r) : moveV m = some r := by unfold moveV; rw [h]
theorem move_wait {m : SmyV} (h : misfitV m = none) : moveV m = waitingV m := by unfold moveV; rw [h]
/-- Whom the program passes over: who suits its bench. -/
def Suits (m : SmyV) (i : Nat) : Prop := i < m.smiths.length ∧ misB m i = false
def Seen (m : SmyV) (K : Nat → Prop) (i : Nat) : Prop := ∃ r, misfitV m = some r ∧ (i = r.1 ∨ K i)
theorem moveX_len (m : SmyV) (w b : Nat) : (moveX m w b).smiths.length = m.smiths.length := by
  unfold moveX
  rw [show (turnV (putX m w b)).smiths.length = (putX m w b).smiths.length from (turnK_same _ _).2.2.2.2.1, putX_len]
theorem seen_suits {m : SmyV} {w b : Nat} (h : moveV m = some (w, b)) {K : Nat → Prop} (hK : ∀ i, K i → Suits m i) : ∀ i, Seen m K i → Suits (moveX m w b) i := by
  rintro i ⟨r, hr, hi⟩
  rw [move_mis hr] at h
  cases h
  have mv := moves_mis hr
  have hwl := mv.who
  unfold Suits
  rw [moveX_len]
  rcases hi with hi | hk
  · have hi : i = w := hi
    rw [hi]
    refine ⟨hwl, ?_⟩
    unfold moveX
    rw [turn_mis _ (by rw [putX_len]; exact hwl)]
    rcases mv.why with ⟨_, hf⟩ | h2
    · exact put_fits hwl hf
    · obtain ⟨_, h5, h6, h7⟩ := misTo_of (show misTo m m.smiths.length = some (w, b) from by unfold misfitV at hr; rw [if_pos mv.right] at hr; exact hr)
      unfold goodB at h7
      simp only [Bool.and_eq_true] at h7
      exact put_fits hwl h7.2.2
  · obtain ⟨hl, hs⟩ := hK i hk
    refine ⟨hl, ?_⟩
    by_cases e : i = w
    · subst e
      obtain ⟨_, h5, _⟩ := misTo_of (show misTo m m.smiths.length = some (i, b) from by unfold misfitV at hr; rw [if_pos mv.right] at hr; exact hr)
      rw [hs] at h5
      cases h5
    · unfold moveX
      rw [turn_mis _ (by rw [putX_len]; exact hl), put_mis hwl e]
      exact hs

end Go.Proofs.YtifolooecfebfaaGreat

