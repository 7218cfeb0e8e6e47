/- Part 24 of what the proof rests on. No condition but those that a theorem names. -/
import Derived.Test.YtgdpaigcmoifbaaGreatXe17
import Derived.Test.YtgdpaigcmoifbaaGreatXe18
namespace Go.Proofs.YtgdpaigcmoifbaaGreat
open Go.ChangeShapes Go.WideShapes Go.ChangeAt Go.RowKit Go.Sort
set_option linter.unusedVariables false
def whoB (m : SmyV) (who : Int) : Bool := inB who 0 ((m.smiths.length : Int) - 1) && !((recAt m.smiths who.toNat).1 == 0)
theorem whoB_of {m : SmyV} {who : Int} (h : whoB m who = true) : ∃ k : Nat, who = (k : Int) ∧ k < m.smiths.length ∧ (recAt m.smiths k).1 ≠ 0 := by
 unfold whoB at h
 simp only [alBae, Bool.not_eq_true', beq_eq_false_iff_ne] at h
 have h1 := inB_of h.1
 exact ⟨who.toNat, by omega, by omega, h.2⟩
theorem few_of {m : SmyV} (h : Loose m) : Few m := by
 have hd := h.head
 unfold headB at hd
 simp only [alBae, alDte] at hd
 obtain ⟨h1, h2, h3, h4, h5, _⟩ := hd
 obtain ⟨r1, r2, r3, r4⟩ := hallB_of h1
 have hg := (guildsB_of h2).2
 refine ⟨by omega, fun r hr => ?_, by omega, by omega, by omega, by omega⟩
 have hrb := List.all_eq_true.1 r3 r hr
 unfold roomB at hrb
 simp only [alBae] at hrb
 have := inB_of hrb.2.1
 omega
def wantOfV (m : SmyV) (who : Int) : Int := if smyB m && whoB m who then wantV m who else -1
theorem recs_ext {α : Type} [Inhabited α] {xs ys : List α} (hl : xs.length = ys.length) (h : ∀ i, i < xs.length → recAt xs i = recAt ys i) : xs = ys := by
 apply List.ext_getElem hl
 intro i h1 h2
 have := h i h1
 unfold recAt at this
 rwa [List.getD_eq_getElem?_getD, List.getD_eq_getElem?_getD, List.getElem?_eq_getElem h1, List.getElem?_eq_getElem h2] at this
theorem set_same {ss : List SmithV} {k : Nat} (hk : k < ss.length) : ss.set k (recAt ss k) = ss := by
 refine recs_ext (by simp) fun i hi => ?_
 rw [recAt_set hk]
 split
 ·rename_i e; rw [e]
 ·rfl
theorem SmithsAt.put {B n c g k i : Nat} {W : World} {ss : List SmithV} {x : SmithV} (h : SmithsAt B W (.slice (some ⟨g, 0, none⟩) n c) (ss.set k x)) (hn : n = ss.length) (hk : k < ss.length) (hi : i < 11) (u : Value) (y : SmithV) (hy : encSmith y = (encSmith x).set i u) : SmithsAt B (W.setCell ⟨g, k * 11 + i, none⟩ u) (.slice (some ⟨g, 0, none⟩) n c) (ss.set k y) := by
 have h1 := (RecAt.put1 encSmith_len (by omega) h (by simpa using hn) (j := k) (i := i) (by simpa using hk) hi u y (by rw [recAt_set hk, if_pos rfl]; exact hy)).1
 rwa [List.set_set] at h1
theorem Smy.other {w W : World} {v0 v1 v2 v3 v4 u : Value} {m : SmyV} {B : Nat} {ss : List SmithV} (h : Smy w v0 v1 v2 v3 v4 m) (hb : Below w.heap.size w W) (hs : SmithsAt B W u ss) : Smy W v0 v1 u v3 v4 { m with smiths := ss } := ⟨h.rooms.below hb, h.guilds.below hb, hs.list, h.desks.below hb, h.paces.below hb⟩
theorem Below.put6 {n : Nat} {w W : World} {R : Nat} (v0 v1 v2 v3 v4 v5 : Value) (h : Below n w W) (hR : n ≤ R) : Below n w ((((((W.setCell ⟨R, 0, none⟩ v0).setCell ⟨R, 1, none⟩ v1).setCell ⟨R, 2, none⟩ v2).setCell ⟨R, 3, none⟩ v3).setCell ⟨R, 4, none⟩ v4).setCell ⟨R, 5, none⟩ v5) := by
 iterate 6 (refine alBsc ?_ hR _)
 exact h
theorem RecAt.off6 {α : Type} [Inhabited α] {t k B : Nat} {enc : α → List Value} {W : World} {R : Nat} {v : Value} {xs : List α} (v0 v1 v2 v3 v4 v5 : Value) (h : RecAt t k enc B W v xs) (hR : ∀ i, v.ownBlock = some i → i ≠ R) : RecAt t k enc B ((((((W.setCell ⟨R, 0, none⟩ v0).setCell ⟨R, 1, none⟩ v1).setCell ⟨R, 2, none⟩ v2).setCell ⟨R, 3, none⟩ v3).setCell ⟨R, 4, none⟩ v4).setCell ⟨R, 5, none⟩ v5) v xs :=
 RecAt.same h fun i hi => by rw [heap_setCell_other _ _ _ _ (hR i hi), heap_setCell_other _ _ _ _ (hR i hi), heap_setCell_other _ _ _ _ (hR i hi), heap_setCell_other _ _ _ _ (hR i hi), heap_setCell_other _ _ _ _ (hR i hi), heap_setCell_other _ _ _ _ (hR i hi)]
end Go.Proofs.YtgdpaigcmoifbaaGreat
