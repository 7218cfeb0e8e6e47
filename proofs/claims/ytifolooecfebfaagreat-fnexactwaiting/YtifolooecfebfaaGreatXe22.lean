/- What the proof rests on, part 22: lists and numbers, how they lie in memory, and contracts of the calls. No condition but those that a theorem names. -/
import Derived.Test.YtifolooecfebfaaGreatXe01
import Derived.Test.YtifolooecfebfaaGreatXe02
import Derived.Test.YtifolooecfebfaaGreatXe03
import Derived.Test.YtifolooecfebfaaGreatXe05
import Derived.Test.YtifolooecfebfaaGreatXe06
import Derived.Test.YtifolooecfebfaaGreatXe07
import Derived.Test.YtifolooecfebfaaGreatXe08
import Derived.Test.YtifolooecfebfaaGreatXe10
import Derived.Test.YtifolooecfebfaaGreatXe12
import Derived.Test.YtifolooecfebfaaGreatXe13
import Derived.Test.YtifolooecfebfaaGreatXe16
import Derived.WalkMore
import Derived.Below
import GoSem.Claim
import GoSem.ClaimJoined
import GoSem.ClaimMapViews
import Derived.JoinedTies
import Derived.KernelRfl
import Derived.RowKit
import Derived.WalkKit
import Derived.ProofKit
import Derived.OpenShut
import Derived.Outline
import Derived.Lib.QuietBelow
import Derived.Deep.RegionWith
import Derived.Deep.QuietTactic
import Derived.BigQuiet
import Derived.Deep.DrawnRows
import Derived.BigRegion
import Derived.Deep.RegionLawGrows
import Derived.Laws.OwnMore
import Derived.OwnWalk
import Derived.Maps.AppendAt
import Derived.Lib.SmallJoins
import Derived.Deep.Fields
import Derived.Deep.Slices
import Derived.OrdersHeld
import Derived.Deep.RegionHeldLaw
import Derived.Deep.DeepCutAuto
/- Turned as the program does it: on the way it is right but for who works; the first one works, and those behind it wait. Idle benches, and who works. Lists and numbers alone; no condition but those that a theorem names. -/
namespace Go.Proofs.YtifolooecfebfaaGreat
open Go.ChangeShapes Go.WideShapes Go.ChangeAt Go.RowKit Go.Sort
set_option linter.unusedVariables false

theorem turnK_loose {m : SmyV} (h : Loose m) (k : Nat) (hk : k ≤ m.desks.length) : Loose (turnK m k) := by
  obtain ⟨e1, e2, e3, e4, e5, e6⟩ := turnK_same m k
  have hd := fun j => turnK_desk m j k hk
  have hopen : ∀ j, (recAt (turnK m k).desks j).1 = (recAt m.desks j).1 := by
    intro j
    rw [hd j]
    split
    · unfold turnedD; split <;> rfl
    · rfl
  have hmark : ∀ j, j < m.desks.length → (-900000000000 ≤ (recAt (turnK m k).desks j).2.2 ∧ (recAt (turnK m k).desks j).2.2 ≤ 900000000000) ∧ (recAt m.desks j).2.2 ≤ (recAt (turnK m k).desks j).2.2 ∧ ((recAt (turnK m k).desks j).2.2 ≤ (recAt m.desks j).2.2 ∨ ∀ i, i < m.smiths.length → (recAt m.smiths i).2.1 = (j : Int) → presS (recAt m.smiths i) = true → (recAt (turnK m k).desks j).2.2 ≤ hadS (recAt m.smiths i)) := by
    intro j hj
    obtain ⟨k0, k1⟩ := deskB_of (h.desk j hj)
    rw [hd j]
    split
    · unfold turnedD
      split
      · exact ⟨⟨k0, k1⟩, Int.le_refl _, .inl (Int.le_refl _)⟩
      · rename_i e t hq
        obtain ⟨_, i, hi, hib, hip, rfl⟩ := firstAt_some hq
        obtain ⟨_, _, _, _, hband⟩ := h.at hi hip
        obtain ⟨a0, a1, _⟩ := bandB_of hband
        have hm := marked_in (m := (recAt m.desks j).2.2) (f := hadS (recAt m.smiths i)) (by omega) (by omega) a0 a1
        show (-900000000000 ≤ markedV _ _ ∧ markedV _ _ ≤ 900000000000) ∧ _ ≤ markedV _ _ ∧ (markedV _ _ ≤ _ ∨ _)
        rw [hm]
        refine ⟨by omega, by omega, ?_⟩
        by_cases hc : hadS (recAt m.smiths i) ≤ (recAt m.desks j).2.2
        · left; omega
        · right
          intro i' hi' hb' hp'
          have := first_least hq hi' hb' hp'
          simp only at this
          show min (max (recAt m.desks j).2.2 (hadS (recAt m.smiths i))) 900000000000 ≤ _
          omega
    · exact ⟨⟨k0, k1⟩, Int.le_refl _, .inl (Int.le_refl _)⟩
  refine ⟨?_, ?_, ?_, ?_, ?_, ?_⟩
  · have := h.head
    unfold headB at this ⊢
    rw [e1, e2, e3, e4, e5, e6]
    exact this
  · intro j hj
    have hj' : j < m.desks.length := by omega
    exact inB_t (hmark j hj').1.1 (hmark j hj').1.2
  · intro j hj
    have hj' : j < m.paces.length := by rw [e3] at hj; exact hj
    have := h.pace j hj'
    unfold paceInB at this ⊢
    rw [e1, e3]
    exact this
  · intro i hi
    have hi' : i < m.smiths.length := by omega
    rw [hereB_same (m := m) (by rw [e2]) (by rw [e6])]
    rw [turnK_smith m hi']
    split
    · rename_i hp
      exact hereB_st (h.here i hi') hp.2 (by split <;> omega) (by split <;> omega)
    · exact h.here i hi'
  · intro i hi
    have hi' : i < m.smiths.length := by omega
    have ha := turnK_alike m k i hi'
    unfold seatB
    show (!presS (recAt (turnK m k).smiths i) || _) = true
    rw [ha.2.1]
    cases hp : presS (recAt m.smiths i)
    · rfl
    · obtain ⟨b0, b1, ho, hm, hband⟩ := h.at hi' hp
      obtain ⟨a0, a1, a2, a3, a4, a5⟩ := bandB_of hband
      obtain ⟨⟨q0, q1⟩, q2, q3⟩ := hmark (recAt m.smiths i).2.1.toNat (by omega)
      have hmay : (recAt (turnK m k).smiths i).2.2.2.1 = (recAt m.smiths i).2.2.2.1 := by
        rw [turnK_smith m hi']; split <;> rfl
      show (!true || ((recAt (turnK m k).desks (recAt (turnK m k).smiths i).2.1.toNat).1 && (bitB (recAt (turnK m k).smiths i).2.2.2.1 (recAt (turnK m k).smiths i).2.1 && bandB (hadS (recAt (turnK m k).smiths i)) (recAt (turnK m k).desks (recAt (turnK m k).smiths i).2.1.toNat).2.2))) = true
      rw [ha.1, ha.2.2, hmay, hopen, ho, hm]
      rw [bandB_t a0 a1 (by omega) (by omega) ?_ (by omega)]
      · rfl
      · rcases q3 with q3 | q3
        · omega
        · have := q3 i hi' (by omega) hp
          omega
  · obtain ⟨j, hj, ho⟩ := h.openD
    exact ⟨j, by omega, by rw [hopen]; exact ho⟩

/-- Two lists that read alike are alike. -/
theorem recs_ext {α : Type} [Inhabited α] {xs ys : List α} (hl : xs.length = ys.length) (h : ∀ i, i < xs.length → recAt xs i = recAt ys i) : xs = ys := by
  apply List.ext_getElem hl
  intro i h1 h2
  have := h i h1
  unfold recAt at this
  rwa [List.getD_eq_getElem?_getD, List.getD_eq_getElem?_getD, List.getElem?_eq_getElem h1, List.getElem?_eq_getElem h2] at this
/-- The program's way to turn a bench. -/
theorem turn_way {ss : List SmithV} {b : Int} {e : PaceV} {t : List PaceV} (h : atV ss b ss.length = e :: t) : (waitAll ss (e :: t)).set e.2.toNat (stS (recAt (waitAll ss (e :: t)) e.2.toNat) 3) = waitAll (ss.set e.2.toNat (stS (recAt ss e.2.toNat) 3)) t := by
  have hmem : ∀ x ∈ e :: t, 0 ≤ x.2 ∧ x.2 < ss.length := fun x hx => by
    rw [← h] at hx
    obtain ⟨i, hi, _, _, rfl⟩ := (atV_mem ss b x ss.length).1 hx
    exact ⟨by show (0 : Int) ≤ (i : Int); omega, by show (i : Int) < _; omega⟩
  have hw := atV_whos ss b ss.length
  rw [h, List.pairwise_cons] at hw
  obtain ⟨he0, he1⟩ := hmem e (List.mem_cons_self ..)
  have hel : e.2.toNat < ss.length := by omega
  have hse : ∀ x ∈ t, 0 ≤ x.2 ∧ x.2 < (ss.set e.2.toNat (stS (recAt ss e.2.toNat) 3)).length := fun x hx => by rw [List.length_set]; exact hmem x (List.mem_cons_of_mem _ hx)
  refine recs_ext (by rw [List.length_set, waitAll_len, waitAll_len, List.length_set]) fun i hi => ?_
  rw [List.length_set, waitAll_len] at hi
  rw [recAt_set (by rw [waitAll_len]; exact hel)]
  obtain ⟨p1, p2⟩ := waitAll_at (e :: t) ss i hmem
  obtain ⟨r1, r2⟩ := waitAll_at t (ss.set e.2.toNat (stS (recAt ss e.2.toNat) 3)) i hse
  by_cases hie : i = e.2.toNat
  · subst hie
    have hn : ∀ x ∈ t, x.2 ≠ ((e.2.toNat : Nat) : Int) := fun x hx e9 => hw.1 x hx (by omega)
    rw [if_pos rfl, r2 hn, recAt_set hel, if_pos rfl, p1 ⟨e, List.mem_cons_self .., by omega⟩]
    rfl
  · rw [if_neg hie]
    by_cases hx : ∃ x ∈ t, x.2 = (i : Int)
    · obtain ⟨x, hx, hxi⟩ := hx
      rw [p1 ⟨x, List.mem_cons_of_mem _ hx, hxi⟩, r1 ⟨x, hx, hxi⟩, recAt_set hel, if_neg hie]
    · have hn : ∀ x ∈ t, x.2 ≠ (i : Int) := fun x hx' e9 => hx ⟨x, hx', e9⟩
      rw [p2 (fun x hx' => by
        rcases List.mem_cons.1 hx' with rfl | hx'
        · omega
        · exact hn x hx'), r2 hn, recAt_set hel, if_neg hie]

def turnedV (m : SmyV) : SmyV := if looseB m then turnV m else zeroM
def isIdleV (m : SmyV) (b : Int) : Bool := smyB m && (isBenchB m b && ((recAt m.desks b.toNat).1 && decide ((atV m.smiths b m.smiths.length).length = 0)))
end Go.Proofs.YtifolooecfebfaaGreat

/- One field of one smith is written, and another one behind it: the row reads as the list with that smith. Conditions: those that each theorem names. -/
namespace Go.Proofs.YtifolooecfebfaaGreat
open Go.ChangeShapes Go.WideShapes Go.ChangeAt Go.RowKit Go.Sort
set_option linter.unusedVariables false

/-- A smithy's box is written whole. -/
theorem Blk.put6 {w : World} {R : Nat} {t : TypeId} {u0 u1 u2 u3 u4 u5 : Value} (v0 v1 v2 v3 v4 v5 : Value) (h : Blk w R t #[u0, u1, u2, u3, u4, u5]) : Blk ((((((w.setCell ⟨R, 0, none⟩ v0).setCell ⟨R, 1, none⟩ v1).setCell ⟨R, 2, none⟩ v2).setCell ⟨R, 3, none⟩ v3).setCell ⟨R, 4, none⟩ v4).setCell ⟨R, 5, none⟩ v5) R t #[v0, v1, v2, v3, v4, v5] := by
  have h0 : Blk _ R t #[v0, u1, u2, u3, u4, u5] := h.set 0 v0
  have h1 : Blk _ R t #[v0, v1, u2, u3, u4, u5] := h0.set 1 v1
  have h2 : Blk _ R t #[v0, v1, v2, u3, u4, u5] := h1.set 2 v2
  have h3 : Blk _ R t #[v0, v1, v2, v3, u4, u5] := h2.set 3 v3
  have h4 : Blk _ R t #[v0, v1, v2, v3, v4, u5] := h3.set 4 v4
  exact h4.set 5 v5
theorem Below.put6 {n : Nat} {w W : World} {R : Nat} (v0 v1 v2 v3 v4 v5 : Value) (h : Below n w W) (hR : n ≤ R) : Below n w ((((((W.setCell ⟨R, 0, none⟩ v0).setCell ⟨R, 1, none⟩ v1).setCell ⟨R, 2, none⟩ v2).setCell ⟨R, 3, none⟩ v3).setCell ⟨R, 4, none⟩ v4).setCell ⟨R, 5, none⟩ v5) := by
  iterate 6 (refine Below.setCell ?_ hR _)
  exact h
end Go.Proofs.YtifolooecfebfaaGreat

/- Two smithies that differ in nothing but in who of those there waits or works are one when they are turned. No condition but those that the theorem names. -/
namespace Go.Proofs.YtifolooecfebfaaGreat
open Go.ChangeShapes Go.WideShapes Go.ChangeAt Go.RowKit Go.Sort
set_option linter.unusedVariables false

theorem turn_like {A B : SmyV} (h1 : B.rooms = A.rooms) (h2 : B.guilds = A.guilds) (h3 : B.desks = A.desks) (h4 : B.paces = A.paces) (h5 : B.now = A.now) (hl : B.smiths.length = A.smiths.length)
    (ha : ∀ i, i < A.smiths.length → recAt B.smiths i = recAt A.smiths i ∨ ((recAt B.smiths i).2 = (recAt A.smiths i).2 ∧ presS (recAt B.smiths i) = true ∧ presS (recAt A.smiths i) = true ∧ 0 ≤ (recAt A.smiths i).2.1 ∧ (recAt A.smiths i).2.1 < (A.desks.length : Int))) : turnV B = turnV A := by
  have hal : Alike A.smiths B.smiths A.smiths.length := fun i hi => by
    rcases ha i hi with e | ⟨e, p, p', _⟩
    · rw [e]; exact ⟨rfl, rfl, rfl⟩
    · unfold hadS; rw [e, p, p']; exact ⟨rfl, rfl, rfl⟩
  have hat : ∀ b : Int, atV B.smiths b B.smiths.length = atV A.smiths b A.smiths.length := fun b => by rw [hl]; exact atV_alike b _ hal
  have hf : ∀ b : Int, firstAt B.smiths b = firstAt A.smiths b := fun b => by unfold firstAt; rw [hat]
  obtain ⟨a1, a2, a3, a4, a5, a6⟩ := turnK_same A A.desks.length
  obtain ⟨b1, b2, b3, b4, b5, b6⟩ := turnK_same B B.desks.length
  have hsm : (turnV B).smiths = (turnV A).smiths := by
    refine recs_ext ((b5.trans hl).trans a5.symm) fun i hi => ?_
    have hi' : i < (turnK B B.desks.length).smiths.length := hi
    have hiB : i < B.smiths.length := by omega
    have hiA : i < A.smiths.length := by omega
    show recAt (turnK B B.desks.length).smiths i = recAt (turnK A A.desks.length).smiths i
    rw [turnK_smith B hiB, turnK_smith A hiA, hf, h3]
    rcases ha i hiA with e | ⟨e, p, p', q0, q1⟩
    · rw [e]
    · rw [p, p', e]
      have hc : (0 ≤ (recAt A.smiths i).2.1 ∧ (recAt A.smiths i).2.1 < (A.desks.length : Int)) ∧ true = true := ⟨⟨q0, q1⟩, rfl⟩
      rw [if_pos hc, if_pos hc]
      unfold stS
      rw [e]
  have hds : (turnV B).desks = (turnV A).desks := by
    refine recs_ext ((b6.trans (by rw [h3])).trans a6.symm) fun j hj => ?_
    have hj' : j < (turnK B B.desks.length).desks.length := hj
    show recAt (turnK B B.desks.length).desks j = recAt (turnK A A.desks.length).desks j
    rw [turnK_desk B j _ (Nat.le_refl _), turnK_desk A j _ (Nat.le_refl _), h3]
    unfold turnedD
    rw [hat]
  have key : ∀ x y : SmyV, x.rooms = y.rooms → x.guilds = y.guilds → x.smiths = y.smiths → x.desks = y.desks → x.paces = y.paces → x.now = y.now → x = y := by
    rintro ⟨_, _, _, _, _, _⟩ ⟨_, _, _, _, _, _⟩ rfl rfl rfl rfl rfl rfl
    rfl
  exact key _ _ ((b1.trans h1).trans a1.symm) ((b2.trans h2).trans a2.symm) hsm hds ((b3.trans h4).trans a3.symm) ((b4.trans h5).trans a4.symm)

end Go.Proofs.YtifolooecfebfaaGreat

