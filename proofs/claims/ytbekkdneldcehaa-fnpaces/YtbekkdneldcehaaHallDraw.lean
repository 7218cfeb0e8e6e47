/- Contracts of the draws of halls: a hall of six texts, read by the model. Condition: the bytes of the draw can be read and are at most 4096. -/
import Derived.Test.YtbekkdneldcehaaHallRd3
import Derived.Test.YtbekkdneldcehaaDrawKit
import Derived.Deep.RegionWith
namespace Go.Proofs.Ytbekkdneldcehaa
open Go.ChangeShapes Go.WideShapes Go.ChangeAt Go.RowKit Go.Sort
open Draw (St Off Row Cur)
set_option linter.unusedVariables false

/-- A text that is a hall's. -/
def good (l : Txt) : Bool := decide (l.length ≤ 1048576) && (readHall l).isSome
def isGood : Value → Bool
  | .string s => good s.data.toList
  | _ => false
theorem pick_good (cs : Array Value) (j : Nat) (hj : j < cs.size) (h : cs.toList.all isGood = true) : ∃ l, cs[j]? = some (.string (bs l)) ∧ good l = true := by
  rw [Array.all_toList, Array.all_eq_true] at h
  have := h j hj
  rw [Array.getElem?_eq_getElem hj]
  generalize cs[j] = c at *
  unfold isGood at this
  split at this
  · rename_i s; exact ⟨s.data.toList, by rw [bs_back], this⟩
  · cases this

set_option maxRecDepth 100000 in
set_option maxHeartbeats 1000000 in
theorem l4Texts_any (w : World) : Calls Try.prog 62 #[] w fun e w' => e = .returned (.slice (some ⟨w.heap.size, 0, none⟩) 6 6) ∧ (∀ j, j < 6 → ∃ l, w'.cell? ⟨w.heap.size, j, none⟩ = some (.string (bs l)) ∧ good l = true) ∧ Below w.heap.size w w' ∧ w.heap.size < w'.heap.size := by
  go_enter Try.func62, Try.ntmps62
  go_wp2_with fail
  go_ret
  refine ⟨rfl, fun j hj => ?_, (Below.refl _ _).alloc (Nat.le_refl _) _, by simp⟩
  rw [World.cell?_alloc_new]
  exact pick_good _ j hj (by decide +kernel)

theorem good_of {l : Txt} (h : good l = true) : l.length ≤ 1048576 ∧ (readHall l).isSome = true := by
  unfold good at h; simpa using h

set_option maxRecDepth 100000 in
set_option maxHeartbeats 2000000 in
theorem l4Draw_any (a : Option Addr) (len cap bc : Nat) (w : World) (hs : St a len cap bc w) :
    Calls Try.prog 58 #[.pointer (some ⟨bc, 0, none⟩)] w fun e w' => ∃ v qs, e = .returned (.agg #[v]) ∧ hallB (qs.map (·.1)) = true ∧ OwnHall w.heap.size w' v qs ∧ St a len cap bc w' ∧ Off bc w w' := by
  have Hs := hide hs
  have hbc := st_lt hs
  clear hs
  go_enter Try.func58, Try.ntmps58
  go_wp2_with fail
  refine (l4Texts_any _).mono ?_
  rintro e w1 ⟨rfl, htx, hb1, hz1⟩
  have hz1' : w.heap.size + 2 ≤ w1.heap.size := by simp at hz1; omega
  have B1 : Hid (Below w.heap.size w w1) := hide (((Below.refl _ _).alloc (Nat.le_refl _) _).trans (hb1.mono (by simp)))
  have x0 : w1.cell? ⟨w.heap.size, 0, none⟩ = some (.slice none 0 0) := (hb1.cell (p := ⟨w.heap.size, 0, none⟩) (by simp)).trans (by simp)
  have x1 : w1.frozen? ⟨w.heap.size, 0, none⟩ = false := (hb1.frozen (p := ⟨w.heap.size, 0, none⟩) (by simp)).trans (by rw [frozen?_alloc_cells]; exact frozen_far (Nat.le_refl _))
  have Htx := hide htx
  clear htx hb1
  go_wp2_with fail
  refine (Draw.below_any a len cap bc 6 (by omega) (by omega) _ (st_below (unhide Hs) ((unhide B1).mono (by omega)))).mono ?_
  rintro e w2 ⟨x, rfl, hx0, hx1, hs2, ho2⟩
  obtain ⟨j, rfl⟩ := Int.eq_ofNat_of_zero_le hx0
  obtain ⟨l, hcl, hgd⟩ := unhide Htx j (by omega)
  simp only [World.size_alloc] at hcl
  have hcl2 := (ho2.cell (p := ⟨w.heap.size + 1, j, none⟩) (by show w.heap.size + 1 < _; omega) (by show w.heap.size + 1 ≠ _; omega)).trans hcl
  have y0 := (ho2.cell (p := ⟨w.heap.size, 0, none⟩) (by show w.heap.size < _; omega) (by show w.heap.size ≠ _; omega)).trans x0
  have y1 : w2.frozen? ⟨w.heap.size, 0, none⟩ = false := (World.frozen?_of_block (w := w1) (w' := w2) (ho2.block w.heap.size (by omega) (by omega))).trans x1
  have Hs2 := hide hs2
  have Ho2 := hide ho2
  have hz2 := ho2.size
  have hll := (good_of hgd).1
  have Hgd := hide (good_of hgd).2
  clear hcl hs2 ho2 x0 x1 hgd
  go_wp2_with fail
  refine (specReadHall_any l _ hll).mono ?_
  rintro e w3 ⟨hgot, hb3⟩
  rcases hgot with ⟨v, qs, rfl, hrd, hown⟩ | ⟨rfl, hrd⟩
  · obtain ⟨va, vcap, rfl⟩ := hown.shape
    have hz3 := hb3.size
    have z0 := (hb3.cell (p := ⟨w.heap.size, 0, none⟩) (by show w.heap.size < _; omega)).trans y0
    have z1 := (hb3.frozen (p := ⟨w.heap.size, 0, none⟩) (by show w.heap.size < _; omega)).trans y1
    have Hown := hide hown
    have Hb3 := hide hb3
    have Hrd := hide (readHall_back hrd).1
    have hlt3 : w.heap.size < w3.heap.size := by omega
    clear hown hb3 hrd y0 y1
    go_wp2_with fail
    have HB : Below w.heap.size w2 ((w3.setCell ⟨w.heap.size, 0, none⟩ (.slice va qs.length vcap)).alloc (.cells #[.slice va qs.length vcap] 67)) := (((unhide Hb3).mono (by omega)).setCell (Nat.le_refl w.heap.size) _).alloc (by simp; omega) _
    refine bodyPost_ret (v := .agg #[.slice va qs.length vcap]) (by simp [results, Try.results58, go_sem, *]) rfl ⟨_, qs, rfl, unhide Hrd, ?_, st_below (unhide Hs2) (HB.mono (by omega)), off_below ((off_below (Off.refl bc w) (unhide B1)).trans (unhide Ho2)) HB⟩
    exact ((((unhide Hown).but ((But.refl w.heap.size w3).setCell 0 _) (.inl (by omega))).later ((Below.refl _ _).alloc (Nat.le_refl _) _)).mono (by omega))
  · exfalso; rw [hrd] at Hgd; exact absurd (unhide Hgd) (by simp)

end Go.Proofs.Ytbekkdneldcehaa
