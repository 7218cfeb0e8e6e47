/- The law's draw of a text: some text that is at most 1002 bytes long; it writes into no memory that was there. No other condition. -/
import Derived.Test.YtnofnjddbflpmaaDoorBend
namespace Go.Proofs.YtnofnjddbflpmaaDoor
open Go.ChangeShapes Go.WideShapes Go.ChangeAt Go.RowKit Go.Sort
open Draw (St Off Row)
set_option linter.unusedVariables false

def isShort : Value → Bool
  | .string s => decide (s.size ≤ 1000)
  | _ => false
theorem pick_short (cs : Array Value) (j : Nat) (hj : j < cs.size) (h : cs.toList.all isShort = true) : ∃ l, cs[j]? = some (.string (bs l)) ∧ l.length ≤ 1000 := by
  rw [Array.all_toList, Array.all_eq_true] at h
  have := h j hj
  rw [Array.getElem?_eq_getElem hj]
  generalize cs[j] = c at *
  unfold isShort at this
  split at this
  · rename_i s
    refine ⟨s.data.toList, by rw [bs_back], ?_⟩
    have h2 := of_decide_eq_true this
    rw [← bs_size, bs_back]; exact h2
  · cases this

set_option maxRecDepth 100000 in
set_option maxHeartbeats 1000000 in
theorem l4Texts_short (w : World) : Calls Tryd.prog 24 #[] w fun e w' => e = .returned (.slice (some ⟨w.heap.size, 0, none⟩) 6 6) ∧ (∀ j, j < 6 → ∃ l, w'.cell? ⟨w.heap.size, j, none⟩ = some (.string (bs l)) ∧ l.length ≤ 1000) ∧ Below w.heap.size w w' ∧ w.heap.size < w'.heap.size := by
  go_enter Tryd.func24, Tryd.ntmps24
  go_wp2_with fail
  go_ret
  refine ⟨rfl, fun j hj => ?_, (Below.refl _ _).alloc (Nat.le_refl _) _, by simp⟩
  rw [World.cell?_alloc_new]
  exact pick_short _ j hj (by decide +kernel)

set_option maxRecDepth 100000 in
set_option maxHeartbeats 4000000 in
theorem drawReadHall_any (a : Option Addr) (len cap : Nat) (w : World) (hr : Row w.heap.size w a len) :
    Calls Tryd.prog 9 #[.slice a len cap] w fun e w' => ∃ l, e = .returned (.string (bs l)) ∧ l.length ≤ 1002 ∧ Below w.heap.size w w' := by
  have Hr := hide hr
  clear hr
  go_enter Tryd.func9, Tryd.ntmps9
  go_wp2_with fail
  refine (Draw.new_any a len cap _ (unhide Hr)).mono ?_
  rintro e w1 ⟨rfl, hs1, ho1⟩
  have hz1 := st_lt hs1
  have Hs1 := hide hs1
  have B1 : Hid (Below w.heap.size w w1) := hide (ho1.below (Nat.le_refl _) (Nat.le_refl _))
  clear hs1 ho1
  go_wp2_with fail
  refine (l4Texts_short _).mono ?_
  rintro e w2 ⟨rfl, htx, hb2, hz2⟩
  have Hs2 := hide (st_below (unhide Hs1) (hb2.mono (by omega)))
  have B2 := hide ((unhide B1).trans (hb2.mono (by omega)))
  have Htx := hide htx
  clear htx hb2
  go_wp2_with fail
  refine (Draw.below_any a len cap w.heap.size 6 (by omega) (by omega) _ (unhide Hs2)).mono ?_
  rintro e w3 ⟨x, rfl, hx0, hx1, hs3, ho3⟩
  obtain ⟨j, rfl⟩ := Int.eq_ofNat_of_zero_le hx0
  obtain ⟨l, hcl, hll⟩ := unhide Htx j (by omega)
  have hcl3 := (ho3.cell (p := ⟨w1.heap.size, j, none⟩) (by show w1.heap.size < _; omega) (by show w1.heap.size ≠ _; omega)).trans hcl
  have Hs3 := hide hs3
  have B3 := hide ((unhide B2).trans (ho3.below (Nat.le_refl _) (by omega)))
  have hz3 := ho3.size
  clear hs3 ho3 Htx hcl
  go_wp2_with fail
  refine (Draw.once_any a len cap w.heap.size 2 (by omega) (by omega) _ (unhide Hs3)).mono ?_
  rintro e w4 ⟨b, rfl, hs4, ho4⟩
  have Hs4 := hide hs4
  have B4 := hide ((unhide B3).trans (ho4.below (Nat.le_refl _) (by omega)))
  have hz4 := ho4.size
  clear hs4 ho4
  cases b
  · go_wp2_with fail
    go_ret
    exact ⟨l, rfl, by omega, unhide B4⟩
  · go_wp2_with fail
    refine (bend_any a len cap w.heap.size l _ rfl hll _ (unhide Hs4)).mono ?_
    rintro e w5 ⟨l', rfl, hl', _, ho5⟩
    have B5 := hide ((unhide B4).trans (ho5.below (Nat.le_refl _) (by omega)))
    clear ho5
    go_wp2_with fail
    go_ret
    exact ⟨l', rfl, by omega, unhide B5⟩

end Go.Proofs.YtnofnjddbflpmaaDoor
