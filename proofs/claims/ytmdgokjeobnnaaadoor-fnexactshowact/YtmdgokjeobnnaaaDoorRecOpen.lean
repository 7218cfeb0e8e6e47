/- A list of records, or a record, of one-cell fields that is handed in, opened: what it reads as. No condition but those that a theorem names. -/
import Derived.Test.YtmdgokjeobnnaaaDoorRecKit
import Derived.Lib.SmallJoins
import Derived.Deep.Fields
import Derived.Deep.Slices
namespace Go.Proofs.YtmdgokjeobnnaaaDoor
open Go.ChangeShapes Go.WideShapes Go.ChangeAt Go.RowKit Go.Deep
set_option linter.unusedVariables false

section
variable {α : Type} {k : Nat} {enc : α → List Value} {H : Type} {en : TypeId × Value → H} {P : Program} {w : World} {base : Nat} {spare : Nat → Bool} {held : Bool}

/-- The cells of a struct of one-cell fields, each read by its field's type. -/
theorem struct_cells {t : TypeId} {fs : Array Field} {fuel : Nat} {cs : List Value} {x : DataW H × List MemPlace} (hs : P.underlying t = some (.struct fs)) (hone : oneCellFields P fs = true) (hC : P.cellsOf t = k) (hfs : fs.size = k)
    (h : DataW.trod en P w base spare held fuel t cs = some x) : cs.length = k ∧ ∀ (i : Nat) (f : Field), fs[i]? = some f → ∃ u n y, cs[i]? = some u ∧ DataW.trod en P w base spare held n f.type [u] = some y := by
  obtain ⟨xs, n, _, _, hl, hxl, hf⟩ := DataW.trod_struct hs h
  rw [hC] at hl
  refine ⟨hl, fun i f hi => ?_⟩
  have hlt : i < fs.size := (Array.getElem?_eq_some_iff.1 hi).1
  obtain ⟨ho, hc⟩ := hone_of hone i f hi
  have g := hf i f hi
  rw [ho, hc] at g
  have hd : (cs.drop i).take 1 = [cs[i]'(by omega)] := by rw [List.drop_eq_getElem_cons (by omega)]; rfl
  rw [hd, List.getElem?_eq_getElem (by omega)] at g
  exact ⟨cs[i]'(by omega), n, _, List.getElem?_eq_getElem _, g⟩

theorem open_recs [Inhabited α] {t e : TypeId} {fs : Array Field} {fuel : Nat} {v : Value} {x : DataW H × List MemPlace}
    (ht : P.underlying t = some (.slice e)) (he : P.underlying e = some (.struct fs)) (ce : P.cellsOf e = k) (hfs : fs.size = k) (hone : oneCellFields P fs = true) (h0 : 0 < k)
    (cl : ∀ cs : List Value, cs.length = k → (∀ (i : Nat) (f : Field), fs[i]? = some f → ∃ u n y, cs[i]? = some u ∧ DataW.trod en P w base spare held n f.type [u] = some y) → ∃ x : α, enc x = cs)
    (h : DataW.trod en P w base spare held fuel t [v] = some x) : ∃ ps : List α, IsRec k enc w v ps := by
  rcases open_slice ht h with ⟨hv, _⟩ | ⟨a, len, cap, m, n, D, Pl, hv, _, hl, hm, hmm, _, hx⟩
  · cases hv
    exact ⟨[], none, 0, rfl, Nat.le_refl _, by omega, .inl rfl⟩
  · cases hv
    have hlm : len ≤ m := by rw [hmm]; split <;> omega
    have each : ∀ i, i < len → ∃ q : α, (enc q).length = k ∧ ∀ j, j < k → w.cell? (a.add (i * k + j)) = (enc q)[j]? := by
      intro i hi
      obtain ⟨cs, h1, h2⟩ := hx i (by omega)
      rw [ce] at h1
      obtain ⟨_, hlen, hcell⟩ := World.cells?_some h1
      obtain ⟨h3, h4⟩ := struct_cells he hone ce hfs h2
      obtain ⟨q, hq⟩ := cl cs h3 h4
      refine ⟨q, by rw [hq]; exact h3, fun j hj => ?_⟩
      have := hcell j hj
      rw [add_add] at this
      rw [hq]; exact this
    obtain ⟨F, hF⟩ := choose_lt each
    have hlen : ((List.range len).map F).length = len := by simp
    refine ⟨(List.range len).map F, some a, cap, by rw [hlen], by rw [hlen]; exact hl, by unfold maxLen at hm; omega, ?_⟩
    by_cases hz : len = 0
    · exact .inl (by simp [hz])
    · obtain ⟨hk0, hc0⟩ := hF 0 (by omega)
      have h00 := hc0 0 h0
      rw [List.getElem?_eq_getElem (by omega)] at h00
      have sp := World.cell?_spot h00
      have hlt := World.block_lt_of_cell? _ _ h00
      obtain ⟨b, off, spot⟩ := a
      have hspot : spot = none := by simpa [Addr.add] using sp
      subst hspot
      refine .inr ⟨b, off, rfl, by simpa [Addr.add] using hlt, fun j hj i u hu => ?_⟩
      rw [hlen] at hj
      have hat : recAt ((List.range len).map F) j = F j := by unfold recAt; simp [List.getD, hj]
      rw [hat] at hu
      obtain ⟨hk1, hc1⟩ := hF j hj
      have hi : i < k := by
        rcases Nat.lt_or_ge i k with h | h
        · exact h
        · rw [List.getElem?_eq_none (by omega)] at hu; cases hu
      have := hc1 i hi
      rw [hu, add_plain, ← Nat.add_assoc] at this
      exact this

/-- A record that is handed in. -/
theorem open_rec {r : Reach} {b0 : Nat} {t : TypeId} {fs : Array Field} {v : Value} {d : DataW H} {p : List MemPlace} (hs : P.underlying t = some (.struct fs)) (hone : oneCellFields P fs = true) (hC : P.cellsOf t = k) (hfs : fs.size = k)
    (cl : ∀ cs : List Value, cs.length = k → (∀ (i : Nat) (f : Field), fs[i]? = some f → ∃ u n y, cs[i]? = some u ∧ DataW.trod en P w base spare held n f.type [u] = some y) → ∃ x : α, enc x = cs)
    (hv : Value.okWide P w r b0 t v) (h : DataW.Trod en P w base spare held t v d p) : ∃ x : α, v = .agg (enc x).toArray := by
  obtain ⟨cs, rfl, hsz⟩ := okWide_struct hs hv
  obtain ⟨fuel, hf⟩ := h
  obtain ⟨h3, h4⟩ := struct_cells hs hone hC hfs (by simpa [Value.cells] using hf)
  obtain ⟨q, hq⟩ := cl cs.toList h3 h4
  exact ⟨q, by rw [hq]⟩
end

end Go.Proofs.YtmdgokjeobnnaaaDoor
