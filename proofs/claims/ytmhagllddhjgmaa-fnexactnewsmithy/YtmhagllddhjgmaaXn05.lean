/- What the proof rests on, part 5: lists and numbers, how they lie in memory, and contracts of the calls. No condition but those that a theorem names. -/
import Derived.Test.YtmhagllddhjgmaaXn01
import Derived.Test.YtmhagllddhjgmaaXn02
import Derived.Test.YtmhagllddhjgmaaXn03
import Derived.Test.YtmhagllddhjgmaaXn04
import Derived.Lib.SmallJoins
import Derived.WalkKit
import Derived.ProofKit
import Derived.OpenShut
import Derived.Outline
import Derived.Deep.RegionWith
import Derived.Deep.QuietTactic
import Derived.BigQuiet
import Derived.Laws.OwnMore
import Derived.OwnWalk
import Derived.Maps.AppendAt
import Derived.Lib.QuietBelow
/- The copies of paces, rooms and halls once more: no two rows of such a copy lie in one block. Conditions: the slices can be read; nothing in them is longer than 2^20. -/
namespace Go.Proofs.Ytmhagllddhjgmaa
open Go.ChangeShapes Go.WideShapes Go.ChangeAt Go.RowKit Go.Sort
set_option linter.unusedVariables false

/-- Two lists of pairs that hold the same at every place are one. -/
theorem pairs_ext {α : Type} {f g : α → Value} {xs : List Value} {l : List α} (hl : xs.length = l.length * 2) (h : ∀ k (hk : k < l.length), xs[k * 2]? = some (f l[k]) ∧ xs[k * 2 + 1]? = some (g l[k])) : xs = l.flatMap fun p => [f p, g p] := by
  apply List.ext_getElem?
  intro m
  by_cases hm : m < l.length * 2
  · obtain ⟨h1, h2⟩ := h (m / 2) (by omega)
    obtain ⟨g1, g2⟩ := pairs_get (f := f) (g := g) l (m / 2) (by omega)
    rcases Nat.mod_two_eq_zero_or_one m with e | e
    · rw [show m = m / 2 * 2 by omega, h1, g1]
    · rw [show m = m / 2 * 2 + 1 by omega, h2, g2]
  · rw [List.getElem?_eq_none (by omega), List.getElem?_eq_none (by rw [pairs_len]; omega)]
theorem pairs_paces {xs : List Value} {ps : List PaceV} (hl : xs.length = ps.length * 2) (h : Pairs xs (isPaceOf ps) ps.length) : xs = pcells ps := by
  refine pairs_ext hl fun k hk => ?_
  obtain ⟨u, u', h1, h2, h3, h4⟩ := h k hk
  have hat : paceAt ps k = ps[k] := by unfold paceAt; simp [List.getD, hk]
  rw [h1, h2, h3, h4, hat]
  exact ⟨rfl, rfl⟩

set_option maxHeartbeats 2000000 in
theorem toPaceS_own {w : World} {v : Value} {ps : List PaceV} (h : IsPaces w v ps) (hs : ps.length ≤ 1048576) :
    Calls Try.prog 51 #[v] w fun e w' => ∃ v', e = .returned v' ∧ PacesAt w.heap.size w' v' ps ∧ Below w.heap.size w w' := by
  obtain ⟨a, cap, rfl, hc, hm, hr⟩ := h
  have Hr := hide hr
  clear hr
  obtain ⟨i0, hi, hz0, hz1, hz2⟩ := info_parts infoPace
  go_enter Try.func51, Try.ntmps51
  go_wp2_with (at_make; refine wpList_make_full _ rfl _ _ 65 rfl w.heap.size 75 i0 (.agg #[.int .i64 0, .int .i64 0]) 2 Try.underlying65 hi hz0 hz1 _ _ _ _ ps.length rfl rfl rfl rfl (by rw [hz2]; omega) (by unfold maxLen; omega) (Nat.le_refl _) ?_; intro w0 hown hgrow)
  have Hown := hide hown
  have Hgr := hide hgrow
  clear hown hgrow
  go_loopw [4] (fun i wr => ∃ k : Nat, k ≤ ps.length ∧ i = .int .i64 k ∧ ∃ xs, wr.ownsRow w.heap.size 75 2 (.slice (some ⟨w.heap.size, 0, none⟩) ps.length ps.length) ps.length xs ∧ Pairs xs (isPaceOf ps) k ∧ Below w.heap.size w wr) (fun i _ => ps.length - (intOf i).toNat)
  case atStart => exact ⟨0, Nat.zero_le _, rfl, _, unhide Hown, fun j hj => by omega, (Below.refl _ _).grown (unhide Hgr) (Nat.le_refl _) (fun k e => by cases e)⟩
  case round =>
    obtain ⟨k, hk, rfl, xs, hown, hpr, hb⟩ := hrel
    have Hb := hide hb
    by_cases hlt : k < ps.length
    · rcases unhide Hr with h0 | ⟨b, off, rfl, hbw, hcl⟩
      · rw [h0] at hlt; simp at hlt
      obtain ⟨c0, c1⟩ := hcl k hlt
      rw [← hb.cell (p := ⟨b, off + k * 2, none⟩) hbw] at c0
      rw [← hb.cell (p := ⟨b, off + k * 2 + 1, none⟩) hbw] at c1
      have hxs : xs.length = ps.length * 2 := hown.1
      have Ho := hide hown
      have Hpr := hide hpr
      generalize hp : paceAt ps k = p at c0 c1
      obtain ⟨f, c⟩ := p
      simp only at c0 c1
      have Hp := hide hp
      clear hcl hb hown hpr hp
      go_wp2_with fail
      refine (toPace_any _ _ _).mono ?_
      rintro e w1 ⟨rfl, hb1⟩
      have ho1 := own_later (unhide Ho) hb1
      obtain ⟨⟨x0, y0⟩, z0⟩ := own_cell ho1 (j := k * 2) (by omega)
      obtain ⟨⟨x1, y1⟩, z1⟩ := own_cell ho1 (j := k * 2 + 1) (by omega)
      have Hp2 := hide (own_pair ho1 (k * 2) (.int .i64 f) (.int .i64 c))
      have Hb1 := hide hb1
      have hsz := hb1.size
      have hsz0 := (unhide Hb).size
      clear ho1 hb1
      go_wp2_with fail
      go_roundw
      case rel => exact ⟨k + 1, by omega, by go_num, _, (unhide Hp2).1, (unhide Hpr).next (by omega) ⟨by rw [unhide Hp], by rw [unhide Hp]⟩, ((unhide Hb).trans ((unhide Hb1).mono hsz0)).trans (below_grown (unhide Hp2).2 (Nat.le_refl _) (by omega))⟩
      case measure => simp [intOf]; omega
    · obtain rfl : k = ps.length := by omega
      go_wp2_with fail
      go_ret
      exact ⟨_, rfl, by have e9 := pairs_paces hown.1 hpr; rw [e9] at hown; exact hown, hb⟩

theorem PacesAt.set {n₀ : Nat} {w : World} {v : Value} {ps : List PaceV} (h : PacesAt n₀ w v ps) (g o : Nat) (u : Value) (hg : ∀ k, v.ownBlock = some k → k ≠ g) : PacesAt n₀ (w.setCell ⟨g, o, none⟩ u) v ps :=
  own_same h fun k e => heap_setCell_other w _ k u (hg k e)
theorem PacesAt.mono {n₀ n₁ : Nat} {w : World} {v : Value} {ps : List PaceV} (h : PacesAt n₀ w v ps) (hn : n₁ ≤ n₀) : PacesAt n₁ w v ps := own_mono h hn
theorem PacesAt.later {n₀ : Nat} {w w' : World} {v : Value} {ps : List PaceV} (h : PacesAt n₀ w v ps) (hb : Below w.heap.size w w') : PacesAt n₀ w' v ps := own_same h fun k e => hb.block k (h.lt e).2

set_option maxHeartbeats 2000000 in
theorem toRoom_own {w : World} {v : Value} {ps : List PaceV} (rb : Int) (h : IsPaces w v ps) (hs : ps.length ≤ 1048576) :
    Calls Try.prog 39 #[.agg #[.int .i64 rb, v]] w fun e w' => ∃ v', e = .returned (.agg #[.int .i64 rb, v']) ∧ PacesAt w.heap.size w' v' ps ∧ Below w.heap.size w w' := by
  have Hv := hide h
  obtain ⟨a, cap, rfl, hc, hm, hr⟩ := h
  clear hr
  have Hb0 : Hid (∀ o1 o2 o3 : Obj, Below w.heap.size w (((w.alloc o1).alloc o2).alloc o3)) := hide (fun o1 o2 o3 => (((Below.refl _ _).alloc (Nat.le_refl _) _).alloc (by simp) _).alloc (by simp; omega) _)
  go_enter Try.func39, Try.ntmps39
  go_wp2_with fail
  refine (toPaceS_own ((unhide Hv).below (unhide Hb0 _ _ _)) hs).mono ?_
  rintro e w1 ⟨v', rfl, hp, hb1⟩
  have hk : ∀ k, v'.ownBlock = some k → (((w.alloc _).alloc _).alloc _).heap.size ≤ k := fun k e => (hp.lt e).1
  have hsz : w.heap.size + 3 ≤ w1.heap.size := by have := hb1.size; simp at this; omega
  have hk' : ∀ k, v'.ownBlock = some k → w.heap.size + 3 ≤ k := fun k e => by have := hk k e; simp at this; omega
  obtain ⟨cc, ff⟩ := bcell hb1
  have x0 := cc (w.heap.size + 2) 0 (by simp)
  have x1 := cc (w.heap.size + 2) 1 (by simp)
  have y0 := cc (w.heap.size + 1) 0 (by simp)
  have y1 := cc (w.heap.size + 1) 1 (by simp)
  have fx0 := ff (w.heap.size + 2) 0 (by simp)
  have fx1 := ff (w.heap.size + 2) 1 (by simp)
  have fy0 := ff (w.heap.size + 1) 0 (by simp)
  have fy1 := ff (w.heap.size + 1) 1 (by simp)
  have Hp := hide hp
  have Hk := hide hk'
  have Hb1 := hide hb1
  obtain ⟨a', cap', rfl⟩ := hp.shape
  clear cc ff hk hk' hb1 hp
  go_wp2_with fail
  have B1 : Below w.heap.size w w1 := (unhide Hb0 _ _ _).trans ((unhide Hb1).mono (by simp; omega))
  refine bodyPost_ret (v := .agg #[.int .i64 rb, .slice a' ps.length cap']) (by simp [results, Try.results39, go_sem, *]) rfl ⟨_, rfl, ?_, ?_⟩
  · refine PacesAt.mono (n₀ := w.heap.size + 1 + 1 + 1) ?_ (by omega)
    have Hp' : PacesAt (w.heap.size + 1 + 1 + 1) w1 (.slice a' ps.length cap') ps := by have := unhide Hp; simpa using this
    exact ((Hp'.set _ _ _ (fun k e => by have := unhide Hk k e; omega)).set _ _ _ (fun k e => by have := unhide Hk k e; omega)).set _ _ _ (fun k e => by have := unhide Hk k e; omega)
  · exact ((B1.setCell (by show _ ≤ w.heap.size + 1 + 1; omega) _).setCell (by show _ ≤ w.heap.size + 1; omega) _).setCell (by show _ ≤ w.heap.size + 1; omega) _

end Go.Proofs.Ytmhagllddhjgmaa

/- Rows of records of k cells each, whatever the record: what a slice of them reads as, rows that the call itself made, how one is written into. No condition but those that a theorem names. -/
namespace Go.Proofs.Ytmhagllddhjgmaa
open Go.ChangeShapes Go.WideShapes Go.ChangeAt Go.RowKit Go.Sort
set_option linter.unusedVariables false

section
variable {α : Type} {t k : Nat} {enc : α → List Value}
def flat (enc : α → List Value) (xs : List α) : List Value := xs.flatMap enc
theorem flat_len (hk : ∀ x, (enc x).length = k) : ∀ xs : List α, (flat enc xs).length = xs.length * k
  | [] => by simp [flat]
  | x :: xs => by
    have ih := flat_len hk xs
    unfold flat at ih ⊢
    rw [List.flatMap_cons, List.length_append, ih, hk, List.length_cons, Nat.add_mul]; omega
theorem flat_append (xs ys : List α) : flat enc (xs ++ ys) = flat enc xs ++ flat enc ys := by unfold flat; rw [List.flatMap_append]
/-- The cells us, from o on, in the place of what was there. -/
def setL (L : List Value) (o : Nat) : List Value → List Value
  | [] => L
  | u :: us => setL (L.set o u) (o + 1) us
def setW (w : World) (g o : Nat) : List Value → World
  | [] => w
  | u :: us => setW (w.setCell ⟨g, o, none⟩ u) g (o + 1) us
theorem setL_len : ∀ (us L : List Value) (o : Nat), (setL L o us).length = L.length
  | [], L, o => rfl
  | u :: us, L, o => by unfold setL; rw [setL_len us]; simp
theorem setL_get : ∀ (us L : List Value) (o m : Nat), o + us.length ≤ L.length → (setL L o us)[m]? = if o ≤ m ∧ m < o + us.length then us[m - o]? else L[m]?
  | [], L, o, m, h => by unfold setL; rw [if_neg (by simp)]
  | u :: us, L, o, m, h => by
    unfold setL
    have ih := setL_get us (L.set o u) (o + 1) m (by simp at h ⊢; omega)
    rw [ih]
    simp only [List.length_cons] at h ⊢
    by_cases h1 : o + 1 ≤ m ∧ m < o + 1 + us.length
    · rw [if_pos h1, if_pos (by omega), show m - o = (m - (o + 1)) + 1 by omega]; rfl
    · rw [if_neg h1]
      by_cases h2 : m = o
      · subst h2; rw [if_pos (by omega), List.getElem?_set_self (by omega)]; simp
      · rw [if_neg (by omega), List.getElem?_set_ne (by omega)]
theorem own_setW {B t n cap g sz : Nat} : ∀ (us : List Value) {w : World} {xs : List Value} (o : Nat), w.ownsRow B t sz (.slice (some ⟨g, 0, none⟩) n cap) n xs →
    (setW w g o us).ownsRow B t sz (.slice (some ⟨g, 0, none⟩) n cap) n (setL xs o us) ∧ w.grownBy (setW w g o us) (some g)
  | [], w, xs, o, h => ⟨h, grown_refl _ _⟩
  | u :: us, w, xs, o, h => by
    obtain ⟨h1, h2⟩ := World.ownsRow.stored h o u
    obtain ⟨h3, h4⟩ := own_setW us (o + 1) h1
    exact ⟨h3, grown_trans h2 h4⟩
/-- The slice v, in a block from n₀ on, holds the records xs. -/
def RecAt (t k : Nat) (enc : α → List Value) (n₀ : Nat) (w : World) (v : Value) (xs : List α) : Prop := w.ownsRow n₀ t k v xs.length (flat enc xs)
theorem RecAt.lt {n₀ : Nat} {w : World} {v : Value} {xs : List α} (h : RecAt t k enc n₀ w v xs) {i : Nat} (hi : v.ownBlock = some i) : n₀ ≤ i ∧ i < w.heap.size := World.ownsRow.lt h i hi
theorem RecAt.mono {n₀ n₁ : Nat} {w : World} {v : Value} {xs : List α} (h : RecAt t k enc n₀ w v xs) (hn : n₁ ≤ n₀) : RecAt t k enc n₁ w v xs := own_mono h hn
theorem RecAt.same {n₀ : Nat} {w w' : World} {v : Value} {xs : List α} (h : RecAt t k enc n₀ w v xs) (hs : ∀ i, v.ownBlock = some i → w'.heap[i]? = w.heap[i]?) : RecAt t k enc n₀ w' v xs := own_same h hs
theorem RecAt.later {n₀ : Nat} {w w' : World} {v : Value} {xs : List α} (h : RecAt t k enc n₀ w v xs) (hb : Below w.heap.size w w') : RecAt t k enc n₀ w' v xs := h.same fun i hi => hb.block i (h.lt hi).2
theorem RecAt.grown {n₀ : Nat} {w w' : World} {v : Value} {xs : List α} {r : Option Nat} (h : RecAt t k enc n₀ w v xs) (hg : w.grownBy w' r) (hr : ∀ i, v.ownBlock = some i → r ≠ some i) : RecAt t k enc n₀ w' v xs := h.same fun i hi => hg.block i (h.lt hi).2 (fun e => hr i hi e.symm)
theorem RecAt.shape {n₀ : Nat} {w : World} {v : Value} {xs : List α} (h : RecAt t k enc n₀ w v xs) : ∃ a cap, v = .slice a xs.length cap := by
  rcases h.2 with ⟨rfl, hz⟩ | ⟨g, cap, cur, rfl, _⟩
  · exact ⟨none, 0, by rw [hz]⟩
  · exact ⟨_, cap, rfl⟩
end

section
variable {α : Type} [Inhabited α] {t k : Nat} {enc : α → List Value}
def recAt (xs : List α) (j : Nat) : α := xs.getD j default
theorem recAt_set {xs : List α} {i : Nat} {x : α} (h : i < xs.length) (j : Nat) : recAt (xs.set i x) j = if j = i then x else recAt xs j := by
  unfold recAt
  by_cases e : j = i
  · subst e; simp [List.getD, h]
  · rw [if_neg e]; simp [List.getD, Ne.symm e]
theorem flat_get (hk : ∀ x, (enc x).length = k) : ∀ (xs : List α) (j : Nat), j < xs.length → ∀ i, i < k → (flat enc xs)[j * k + i]? = (enc (recAt xs j))[i]?
  | x :: xs, 0, _, i, hi => by
    unfold flat recAt
    rw [List.flatMap_cons, Nat.zero_mul, Nat.zero_add, List.getElem?_append_left (by rw [hk]; exact hi)]; rfl
  | x :: xs, j + 1, h, i, hi => by
    have ih := flat_get hk xs j (by simpa using h) i hi
    unfold flat recAt at ih ⊢
    rw [List.flatMap_cons, List.getElem?_append_right (by rw [hk, Nat.add_mul]; omega), hk, show (j + 1) * k + i - k = j * k + i by rw [Nat.add_mul]; omega, ih]
    rfl
/-- A record is written into its place. -/
theorem flat_set (hk : ∀ x, (enc x).length = k) (h0 : 0 < k) (xs : List α) (j : Nat) (hj : j < xs.length) (x : α) : setL (flat enc xs) (j * k) (enc x) = flat enc (xs.set j x) := by
  have hl := flat_len hk xs
  have hjk : j * k + k ≤ xs.length * k := by rw [← Nat.succ_mul]; exact Nat.mul_le_mul_right k hj
  apply List.ext_getElem?
  intro m
  by_cases hm : m < xs.length * k
  · have hd : m / k < xs.length := (Nat.div_lt_iff_lt_mul h0).2 hm
    have hr : m % k < k := Nat.mod_lt _ h0
    have he : m = m / k * k + m % k := by rw [Nat.mul_comm]; exact (Nat.div_add_mod m k).symm
    have hg := flat_get hk (xs.set j x) (m / k) (by simpa using hd) (m % k) hr
    have hg0 := flat_get hk xs (m / k) hd (m % k) hr
    rw [← he] at hg hg0
    rw [setL_get _ _ _ _ (by rw [hl, hk]; exact hjk), hg, hk, recAt_set hj, hg0]
    by_cases e : m / k = j
    · rw [if_pos e, if_pos (by rw [← e]; omega), show m - j * k = m % k by rw [← e]; omega]
    · rw [if_neg e, if_neg]
      intro ⟨h1, h2⟩
      apply e
      exact Nat.div_eq_of_lt_le h1 (by rw [Nat.succ_mul]; exact h2)
  · rw [List.getElem?_eq_none (by rw [setL_len, hl]; omega), List.getElem?_eq_none (by rw [flat_len hk]; simp; omega)]
/-- The slice v reads as the records xs. -/
def IsRec (k : Nat) (enc : α → List Value) (w : World) (v : Value) (xs : List α) : Prop :=
  ∃ (a : Option Addr) (cap : Nat), v = .slice a xs.length cap ∧ xs.length ≤ cap ∧ cap ≤ 9223372036854775807 ∧ (xs = [] ∨ ∃ b off, a = some ⟨b, off, none⟩ ∧ b < w.heap.size ∧
    ∀ j, j < xs.length → ∀ i u, (enc (recAt xs j))[i]? = some u → w.cell? ⟨b, off + j * k + i, none⟩ = some u)
theorem IsRec.below {w w' : World} {v : Value} {xs : List α} (h : IsRec k enc w v xs) (hb : Below w.heap.size w w') : IsRec k enc w' v xs := by
  obtain ⟨a, cap, rfl, hc, hm, hr⟩ := h
  refine ⟨a, cap, rfl, hc, hm, ?_⟩
  rcases hr with hr | ⟨b, off, rfl, hlt, hcl⟩
  · exact .inl hr
  · exact .inr ⟨b, off, rfl, Nat.lt_of_lt_of_le hlt hb.size, fun j hj i u hu => (hb.cell (p := ⟨b, off + j * k + i, none⟩) hlt).trans (hcl j hj i u hu)⟩
theorem IsRec.shape {w : World} {v : Value} {xs : List α} (h : IsRec k enc w v xs) : ∃ a cap, v = .slice a xs.length cap ∧ xs.length ≤ cap ∧ cap ≤ 9223372036854775807 := by
  obtain ⟨a, cap, rfl, hc, hm, _⟩ := h; exact ⟨a, cap, rfl, hc, hm⟩
theorem RecAt.recs (hk : ∀ x, (enc x).length = k) (h0 : 0 < k) {n₀ : Nat} {w : World} {v : Value} {xs : List α} (h : RecAt t k enc n₀ w v xs) : IsRec k enc w v xs := by
  have h' := h
  rcases h.2 with ⟨rfl, hz⟩ | ⟨g, cap, cur, rfl, hb, hg, hnc, hcm, r⟩
  · exact ⟨none, 0, by rw [hz], by omega, by omega, .inl (List.eq_nil_of_length_eq_zero hz)⟩
  · refine ⟨_, cap, rfl, hnc, by unfold maxLen at hcm; omega, .inr ⟨g, 0, rfl, (Array.getElem?_eq_some_iff.1 hg).1, fun j hj i u hu => ?_⟩⟩
    have hi : i < k := by
      rcases Nat.lt_or_ge i k with h | h
      · exact h
      · rw [List.getElem?_eq_none (by rw [hk]; exact h)] at hu; cases hu
    have hjk : j * k + k ≤ xs.length * k := by rw [← Nat.succ_mul]; exact Nat.mul_le_mul_right k hj
    rw [Nat.zero_add, World.ownsRow.cellAt h' (j * k + i) (by omega), flat_get hk xs j hj i hi]
    exact hu
/-- What a walk that writes into it asks. -/
theorem RecAt.view (hk : ∀ x, (enc x).length = k) (h0 : 0 < k) {n₀ n cap : Nat} {w : World} {a : Option Addr} {xs : List α} (h : RecAt t k enc n₀ w (.slice a n cap) xs) (hn : n = xs.length) (hl : 0 < xs.length) : ∃ g, a = some ⟨g, 0, none⟩ ∧ n₀ ≤ g ∧ g < w.heap.size ∧
    (∀ j, j < xs.length → ∀ i u, (enc (recAt xs j))[i]? = some u → w.cell? ⟨g, j * k + i, none⟩ = some u) ∧ (∀ o, w.frozen? ⟨g, o, none⟩ = false) := by
  subst hn
  have h' := h
  rcases h.2 with ⟨hv, hz⟩ | ⟨g, cap', cur, hv, hb, hg, hnc, hcm, r⟩
  · omega
  · cases hv
    refine ⟨g, rfl, hb, (Array.getElem?_eq_some_iff.1 hg).1, fun j hj i u hu => ?_, fun o => World.ownsRow.frozenAt h' o⟩
    have hi : i < k := by
      rcases Nat.lt_or_ge i k with h | h
      · exact h
      · rw [List.getElem?_eq_none (by rw [hk]; exact h)] at hu; cases hu
    have hjk : j * k + k ≤ xs.length * k := by rw [← Nat.succ_mul]; exact Nat.mul_le_mul_right k hj
    rw [World.ownsRow.cellAt h' (j * k + i) (by omega), flat_get hk xs j hj i hi]
    exact hu
/-- A record is written into it. -/
theorem RecAt.put (hk : ∀ x, (enc x).length = k) (h0 : 0 < k) {n₀ n cap g : Nat} {w : World} {xs : List α} (h : RecAt t k enc n₀ w (.slice (some ⟨g, 0, none⟩) n cap) xs) (hn : n = xs.length) {j : Nat} (hj : j < xs.length) (x : α) :
    RecAt t k enc n₀ (setW w g (j * k) (enc x)) (.slice (some ⟨g, 0, none⟩) n cap) (xs.set j x) ∧ w.grownBy (setW w g (j * k) (enc x)) (some g) := by
  subst hn
  obtain ⟨h1, h2⟩ := own_setW (enc x) (j * k) h
  rw [flat_set hk h0 xs j hj x] at h1
  refine ⟨?_, h2⟩
  unfold RecAt
  rw [List.length_set]
  exact h1
end

end Go.Proofs.Ytmhagllddhjgmaa

/- Rows of records that are filled, or marked, one after the other: lists alone, and the row that make lays. No condition but those that a theorem names. -/
namespace Go.Proofs.Ytmhagllddhjgmaa
open Go.ChangeShapes Go.WideShapes Go.ChangeAt Go.RowKit Go.Sort
set_option linter.unusedVariables false

section
variable {α : Type} {t k : Nat} {enc : α → List Value}
/-- n marks from c on, each d greater than the one ahead. -/
def markL (mk : Int → α) (d : Nat) (c : Int) (n : Nat) : List α := (List.range n).map fun i : Nat => mk (c + (d : Int) * (i : Int))
theorem markL_len (mk : Int → α) (d : Nat) (c : Int) (n : Nat) : (markL mk d c n).length = n := by simp [markL]
theorem markL_at [Inhabited α] (mk : Int → α) (d : Nat) (c : Int) {n i : Nat} (h : i < n) : recAt (markL mk d c n) i = mk (c + (d : Int) * (i : Int)) := by unfold recAt markL; simp [List.getD, h]
/-- The first j of them are marked. -/
def markedL (mk : Int → α) (d : Nat) (c : Int) (xs : List α) (j : Nat) : List α := markL mk d c j ++ xs.drop j
theorem markedL_len {mk : Int → α} {d : Nat} {c : Int} {xs : List α} {j : Nat} (h : j ≤ xs.length) : (markedL mk d c xs j).length = xs.length := by unfold markedL; simp [markL_len]; omega
theorem markedL_zero (mk : Int → α) (d : Nat) (c : Int) (xs : List α) : markedL mk d c xs 0 = xs := by unfold markedL markL; simp
theorem markedL_all (mk : Int → α) (d : Nat) (c : Int) (xs : List α) : markedL mk d c xs xs.length = markL mk d c xs.length := by unfold markedL; simp
theorem markedL_set {mk : Int → α} {d : Nat} {c : Int} {xs : List α} {j : Nat} (h : j < xs.length) : (markedL mk d c xs j).set j (mk (c + (d : Int) * (j : Int))) = markedL mk d c xs (j + 1) := by
  unfold markedL
  rw [List.set_append_right _ _ (by rw [markL_len]; exact Nat.le_refl _), markL_len, Nat.sub_self, List.drop_eq_getElem_cons h, List.set_cons_zero]
  simp [markL, List.range_succ]
/-- The row that make lays. -/
theorem made_flat [Inhabited α] (hk : ∀ x, (enc x).length = k) (h0 : 0 < k) (z : α) (zs : Array Value) (hz : zs.toList = enc z) (n : Nat) : (madeCells zs (n * k)).toList = flat enc (List.replicate n z) := by
  have hs : zs.size = k := by rw [← Array.length_toList, hz, hk]
  apply List.ext_getElem?
  intro m
  by_cases hm : m < n * k
  · have hd : m / k < n := (Nat.div_lt_iff_lt_mul h0).2 hm
    have hr : m % k < k := Nat.mod_lt _ h0
    have he : m = m / k * k + m % k := by rw [Nat.mul_comm]; exact (Nat.div_add_mod m k).symm
    have hg := flat_get hk (List.replicate n z) (m / k) (by simpa using hd) (m % k) hr
    rw [← he] at hg
    have hrec : recAt (List.replicate n z) (m / k) = z := by unfold recAt; simp [List.getD, hd]
    rw [hg, hrec, ← hz]
    simp [madeCells, hm, hs, hr]
  · rw [List.getElem?_eq_none (by simp [madeCells]; omega), List.getElem?_eq_none (by rw [flat_len hk]; simp; omega)]
end

end Go.Proofs.Ytmhagllddhjgmaa

