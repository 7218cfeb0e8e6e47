/- Part 9 of what the proof rests on. No condition but those that a theorem names. -/
import Derived.Test.YtgdpaigcmoifbaaGreatXe03
import Derived.Test.YtgdpaigcmoifbaaGreatXe05
import Derived.Test.YtgdpaigcmoifbaaGreatXe06
import Derived.Deep.Fields
import Derived.Deep.Slices
import Derived.ChangeKeysEq
import Derived.Laws.StructEq
set_option maxHeartbeats 8000000
set_option maxRecDepth 100000
namespace Go.Proofs.YtgdpaigcmoifbaaGreat
open Go.ChangeShapes Go.WideShapes Go.ChangeAt Go.RowKit Go.Deep
set_option linter.unusedVariables false
section
variable {α : Type} {k : Nat} {enc : α → List Value} {H : Type} {en : TypeId × Value → H} {P : Program} {w : World} {base : Nat} {spare : Nat → Bool} {held : Bool}
theorem struct_cells {t : TypeId} {fs : Array Field} {fuel : Nat} {cs : List Value} {x : DataW H × List MemPlace} (hs : P.underlying t = some (.struct fs)) (hone : oneCellFields P fs = true) (hC : P.cellsOf t = k) (hfs : fs.size = k)
  (h : DataW.trod en P w base spare held fuel t cs = some x) : cs.length = k ∧ ∀ (i : Nat) (f : Field), fs[i]? = some f → ∃ u n y, cs[i]? = some u ∧ DataW.trod en P w base spare held n f.type [u] = some y := by
 obtain ⟨xs, n, _, _, hl, hxl, hf⟩ := DataW.trod_struct hs h
 rw [hC] at hl
 refine ⟨hl, fun i f hi => ?_⟩
 have hlt : i < fs.size := (Array.getElem?_eq_some_iff.1 hi).1
 obtain ⟨ho, hc⟩ := hone_of hone i f hi
 have g := hf i f hi
 rw [ho, hc] at g
 have hd : (cs.drop i).take 1 = [cs[i]'(by omega)] := by rw [List.drop_eq_getElem_cons (by omega)]; rfl
 rw [hd, List.getElem?_eq_getElem (by omega)] at g
 exact ⟨cs[i]'(by omega), n, _, List.getElem?_eq_getElem _, g⟩
theorem open_recs [Inhabited α] {t e : TypeId} {fs : Array Field} {fuel : Nat} {v : Value} {x : DataW H × List MemPlace}
  (ht : P.underlying t = some (.slice e)) (he : P.underlying e = some (.struct fs)) (ce : P.cellsOf e = k) (hfs : fs.size = k) (hone : oneCellFields P fs = true) (h0 : 0 < k)
  (cl : ∀ cs : List Value, cs.length = k → (∀ (i : Nat) (f : Field), fs[i]? = some f → ∃ u n y, cs[i]? = some u ∧ DataW.trod en P w base spare held n f.type [u] = some y) → ∃ x : α, enc x = cs)
  (h : DataW.trod en P w base spare held fuel t [v] = some x) : ∃ ps : List α, IsRec k enc w v ps := by
 rcases open_slice ht h with ⟨hv, _⟩ | ⟨a, len, cap, m, n, D, Pl, hv, _, hl, hm, hmm, _, hx⟩
 ·cases hv
  exact ⟨[], none, 0, rfl, alNlr _, by omega, .inl rfl⟩
 ·cases hv
  have hlm : len ≤ m := by rw [hmm]; split <;> omega
  have each : ∀ i, i < len → ∃ q : α, (enc q).length = k ∧ ∀ j, j < k → w.cell? (a.add (i * k + j)) = (enc q)[j]? := by
   intro i hi
   obtain ⟨cs, h1, h2⟩ := hx i (by omega)
   rw [ce] at h1
   obtain ⟨_, hlen, hcell⟩ := World.cells?_some h1
   obtain ⟨h3, h4⟩ := struct_cells he hone ce hfs h2
   obtain ⟨q, hq⟩ := cl cs h3 h4
   refine ⟨q, by rw [hq]; exact h3, fun j hj => ?_⟩
   have := hcell j hj
   rw [add_add] at this
   rw [hq]; exact this
  obtain ⟨F, hF⟩ := choose_lt each
  have hlen : ((List.range len).map F).length = len := by simp
  refine ⟨(List.range len).map F, some a, cap, by rw [hlen], by rw [hlen]; exact hl, by unfold maxLen at hm; omega, ?_⟩
  by_cases hz : len = 0
  ·exact .inl (by simp [hz])
  ·obtain ⟨hk0, hc0⟩ := hF 0 (by omega)
   have h00 := hc0 0 h0
   rw [List.getElem?_eq_getElem (by omega)] at h00
   have sp := World.cell?_spot h00
   have hlt := World.block_lt_of_cell? _ _ h00
   obtain ⟨b, off, spot⟩ := a
   have hspot : spot = none := by simpa [Addr.add] using sp
   subst hspot
   refine .inr ⟨b, off, rfl, by simpa [Addr.add] using hlt, fun j hj i u hu => ?_⟩
   rw [hlen] at hj
   have hat : recAt ((List.range len).map F) j = F j := by unfold recAt; simp [List.getD, hj]
   rw [hat] at hu
   obtain ⟨hk1, hc1⟩ := hF j hj
   have hi : i < k := by
    rcases Nat.lt_or_ge i k with h | h
    ·exact h
    ·rw [List.getElem?_eq_none (by omega)] at hu; cases hu
   have := hc1 i hi
   rw [hu, add_plain, ← Nat.add_assoc] at this
   exact this
end
end Go.Proofs.YtgdpaigcmoifbaaGreat
namespace Go.Proofs.YtgdpaigcmoifbaaGreat
open Go.ChangeShapes Go.WideShapes Go.ChangeAt Go.RowKit Go.Sort Go.Deep Go.Proofs.Tryz
set_option linter.unusedVariables false
def encNum (z : Int) : List Value := [.int .i64 z]
theorem encNum_len (z : Int) : (encNum z).length = 1 := rfl
abbrev IsNums (w : World) (v : Value) (zs : List Int) : Prop := IsRec 1 encNum w v zs
abbrev NumsAt (n₀ : Nat) (w : World) (v : Value) (zs : List Int) : Prop := RecAt 2 1 encNum n₀ w v zs
theorem infoNum : (prog.info? 2).map (fun i => (i.zero, i.size, i.bytes)) = some (some (.int .i64 0), 1, 8) := by kernel_rfl
theorem NumsAt.list {n₀ : Nat} {w : World} {v : Value} {zs : List Int} (h : NumsAt n₀ w v zs) : IsNums w v zs := RecAt.recs encNum_len (by omega) h
theorem num_cell {w : World} {b off : Nat} {zs : List Int} (h : ∀ j, j < zs.length → ∀ i u, (encNum (recAt zs j))[i]? = some u → w.cell? ⟨b, off + j * 1 + i, none⟩ = some u) {j : Nat} (hj : j < zs.length) :
  w.cell? ⟨b, off + j, none⟩ = some (.int .i64 (recAt zs j)) := by
 have := h j hj 0 _ rfl
 simpa using this
theorem szInt64S_any (a : Option Addr) (n cap : Nat) (left : Int) (hn : n ≤ 9223372036854775807) (h0 : 0 ≤ left) (h1 : left ≤ 1048576) (w : World) :
  cE 93 #[.slice a n cap, .int .i64 left] w (.int .i64 (szV n left)) := by
 by_cases h : left - n < 0
 all_goals
  go_enter func93, ntmps93
  go_wp2
  go_ret
  exact ⟨ret_int (by first | exact (szV_f (by omega)).symm | exact (szV_t (by omega)).symm), rfl⟩
theorem toInt64S_any {w : World} {v : Value} {zs : List Int} (h : IsNums w v zs) (hs : zs.length ≤ 1048576) :
  Calls prog 98 #[v] w fun e w' => ∃ v', e = .returned v' ∧ NumsAt w.heap.size w' v' zs ∧ Below w.heap.size w w' := by
 obtain ⟨a, cap, rfl, hc, hm, hr⟩ := h
 have Hr := hide hr
 clear hr
 obtain ⟨i0, hi, hz0, hz1, hz2⟩ := info_parts infoNum
 go_enter func98, ntmps98
 go_wp2_with (at_make; refine wpList_make_full _ rfl _ _ 30 rfl w.heap.size 2 i0 (.int .i64 0) 1 underlying30 hi hz0 hz1 _ _ _ _ zs.length rfl rfl rfl rfl (by rw [hz2]; omega) (by unfold maxLen; omega) (alNlr _) ?_; intro w0 hown hgrow)
 have Hown : Hid (NumsAt w.heap.size w0 (.slice (some ⟨w.heap.size, 0, none⟩) zs.length zs.length) (fillL zs 0 0)) := hide (by
  rw [made_flat encNum_len (by omega) (0 : Int) (Value.int .i64 0).cells rfl zs.length] at hown
  rw [fillL_zero]
  show w0.ownsRow _ _ _ _ (List.replicate zs.length _).length _
  rw [List.length_replicate]
  exact hown)
 have Hgr := hide hgrow
 clear hown hgrow
 go_loopw [4] (fun i wr => ∃ k : Nat, k ≤ zs.length ∧ i = .int .i64 k ∧ NumsAt w.heap.size wr (.slice (some ⟨w.heap.size, 0, none⟩) zs.length zs.length) (fillL zs 0 k) ∧ Below w.heap.size w wr) (fun i _ => zs.length - (intOf i).toNat)
 case atStart => exact ⟨0, alNzl _, rfl, uh Hown, (alBrf _ _).grown (uh Hgr) (alNlr _) (fun k e => by cases e)⟩
 case round =>
  obtain ⟨k, hk, rfl, hown, hb⟩ := hrel
  have Hb := hide hb
  by_cases hlt : k < zs.length
  ·rcases uh Hr with h0 | ⟨b, off, rfl, hbw, hcl⟩
   ·rw [h0] at hlt; simp at hlt
   have c0 := num_cell hcl hlt
   rw [← hb.cell (p := ⟨b, off + k, none⟩) hbw] at c0
   have HS := hide (fillL_set (z := (0 : Int)) hlt)
   have hfl := fillL_len (z := (0 : Int)) hk
   obtain ⟨g, hg, _, _, hcells, hfz⟩ := RecAt.view encNum_len (by omega) hown hfl.symm (by omega)
   cases hg
   have o0 := hcells k (by omega) 0 _ rfl
   have f0 := hfz (k * 1)
   simp only [Nat.mul_one, Nat.add_zero] at o0 f0
   have Hp2 := hide (RecAt.put encNum_len (by omega) hown hfl.symm (j := k) (by omega) (recAt zs k))
   generalize recAt zs k = z at *
   clear hcl hb hown hcells hfz hfl
   go_wp2_with fail
   go_roundw
   case rel => exact ⟨k + 1, by omega, by go_num, by have h9 := (uh Hp2).1; rw [uh HS] at h9; simpa [setW, encNum] using h9, (uh Hb).trans (below_grown (by have h9 := (uh Hp2).2; simpa [setW, encNum] using h9) (alNlr _) (by have := (uh Hb).size; omega))⟩
   case measure => exact ms
  ·obtain rfl : k = zs.length := by omega
   rw [fillL_all] at hown
   go_wp2_with fail
   go_ret
   exact ⟨_, rfl, hown, hb⟩
theorem eqNums_yes {w : World} {v u : Value} {zs : List Int} (hv : IsNums w v zs) (hu : IsNums w u zs) :
  cB 44 #[v, u] w (.bool true) := by
 obtain ⟨a, cap, rfl, hc, hm, hr⟩ := hv
 obtain ⟨a', cap', rfl, hc', hm', hr'⟩ := hu
 have Hr := hide hr
 have Hr' := hide hr'
 clear hr hr'
 go_enter func44, ntmps44
 go_wp2_with fail
 go_loopw [5] (fun i wr => ∃ k : Nat, k ≤ zs.length ∧ i = .int .i64 k ∧ Below w.heap.size w wr) (fun i _ => zs.length - (intOf i).toNat)
 case atStart => exact ⟨0, alNzl _, rfl, alBrf _ _⟩
 case round =>
  obtain ⟨k, hk, rfl, hb⟩ := hrel
  have Hb := hide hb
  by_cases hlt : k < zs.length
  ·rcases uh Hr with h0 | ⟨b, off, rfl, hbw, hcl⟩
   ·rw [h0] at hlt; simp at hlt
   rcases uh Hr' with h0 | ⟨b', off', rfl, hbw', hcl'⟩
   ·rw [h0] at hlt; simp at hlt
   have c0 := num_cell hcl hlt
   have d0 := num_cell hcl' hlt
   rw [← hb.cell (p := ⟨b, off + k, none⟩) hbw] at c0
   rw [← hb.cell (p := ⟨b', off' + k, none⟩) hbw'] at d0
   generalize recAt zs k = z at *
   clear hcl hcl' hb
   go_wp2_with fail
   go_quiet (fail)
   go_wp2_with fail
   go_roundw
   case rel => exact ⟨k + 1, by omega, by go_num, ⟨(uh Hb).os, (uh Hb).tape, (uh Hb).output, (uh Hb).size, (uh Hb).block⟩⟩
   case measure => exact ms
  ·go_wp2_with fail
   go_ret
   exact ⟨rfl, hb⟩
def w1cell (W : World) (a : Addr) (i : Nat) (q : Int) : Prop := W.cell? (a.add i) = some (.int .i64 q)
theorem open_nums {H : Type} {enc : TypeId × Value → H} {W : World} {spare : Nat → Bool} {held : Bool} {n : Nat} {v : Value} {y : DataW H × List MemPlace}
  (h : DataW.trod enc prog W 0 spare held n 30 [v] = some y) : ∃ zs, IsNums W v zs := by
 rcases open_slice underlying30 h with ⟨hv, _⟩ | ⟨a, len, cap, m, n', D, Pl, hv, _, hl, hm, hmm, _, hx⟩
 ·cases hv
  exact ⟨[], none, 0, rfl, alNlr _, by omega, .inl rfl⟩
 ·cases hv
  have hlm : len ≤ m := by rw [hmm]; split <;> omega
  have ce : prog.cellsOf 2 = 1 := by kernel_rfl
  have each : ∀ i, i < len → ∃ q : Int, w1cell W a i q := by
   intro i hi
   obtain ⟨cs, h1, h2⟩ := hx i (by omega)
   rw [ce] at h1
   obtain ⟨_, hlen, hcell⟩ := World.cells?_some h1
   obtain ⟨c, rfl⟩ : ∃ c, cs = [c] := by
    match cs, hlen with
    | [c], _ => exact ⟨c, rfl⟩
   obtain ⟨z, hz, _⟩ := DataW.trod_int underlying2 h2
   cases hz
   have := hcell 0 (by omega)
   exact ⟨z, by simpa [w1cell, Addr.add] using this⟩
  obtain ⟨F, hF⟩ := choose_lt each
  have hlen : ((List.range len).map F).length = len := by simp
  refine ⟨(List.range len).map F, some a, cap, by rw [hlen], by rw [hlen]; exact hl, by unfold maxLen at hm; omega, ?_⟩
  by_cases hz : len = 0
  ·exact .inl (by simp [hz])
  ·have h0 : W.cell? (a.add 0) = some (.int .i64 (F 0)) := by simpa [w1cell] using hF 0 (by omega)
   have sp := World.cell?_spot h0
   have hlt := World.block_lt_of_cell? _ _ h0
   obtain ⟨b, off, spot⟩ := a
   have hspot : spot = none := by simpa [Addr.add] using sp
   subst hspot
   refine .inr ⟨b, off, rfl, by simpa [Addr.add] using hlt, fun j hj i u hu => ?_⟩
   rw [hlen] at hj
   have hat : recAt ((List.range len).map F) j = F j := by unfold recAt; simp [List.getD, hj]
   rw [hat] at hu
   have hi : i = 0 := by
    rcases Nat.eq_zero_or_pos i with h | h
    ·exact h
    ·rw [List.getElem?_eq_none (by unfold encNum; simp; omega)] at hu; cases hu
   subst hi
   have hj2 := hF j hj
   unfold w1cell at hj2
   rw [add_plain] at hj2
   simp only [encNum, List.getElem?_cons_zero, Option.some.injEq] at hu
   subst hu
   simpa using hj2
open Go.ChangeShapes Go.WideShapes Go.ChangeAt Go.RowKit Go.Sort Go.Proofs.Tryz
def PacesAt (n₀ : Nat) (w : World) (v : Value) (ps : List PaceV) : Prop := w.ownsRow n₀ 139 2 v ps.length (pcells ps)
theorem PacesAt.lt {n₀ : Nat} {w : World} {v : Value} {ps : List PaceV} (h : PacesAt n₀ w v ps) {k : Nat} (hk : v.ownBlock = some k) : n₀ ≤ k ∧ k < w.heap.size := World.ownsRow.lt h k hk
theorem PacesAt.paces {n₀ : Nat} {w : World} {v : Value} {ps : List PaceV} (h : PacesAt n₀ w v ps) : IsPaces w v ps := by
 have h' := h
 rcases h.2 with ⟨rfl, hz⟩ | ⟨g, cap, cur, rfl, hb, hg, hnc, hcm, r⟩
 ·exact ⟨none, 0, by rw [hz], by omega, by omega, .inl (List.eq_nil_of_length_eq_zero hz)⟩
 ·refine ⟨_, cap, rfl, hnc, by unfold maxLen at hcm; omega, .inr ⟨g, 0, rfl, (Array.getElem?_eq_some_iff.1 hg).1, fun k hk => ?_⟩⟩
  have hp := pairs_get (f := fun p : PaceV => Value.int .i64 p.1) (g := fun p : PaceV => Value.int .i64 p.2) ps k hk
  have hat : paceAt ps k = ps[k] := by unfold paceAt; simp [List.getD, hk]
  rw [Nat.zero_add, hat]
  exact ⟨(World.ownsRow.cellAt h' (k * 2) (by omega)).trans hp.1, (World.ownsRow.cellAt h' (k * 2 + 1) (by omega)).trans hp.2⟩
structure OwnHall (n₀ : Nat) (w : World) (v : Value) (qs : List (RoomV × Value)) : Prop where
 row : w.ownsRow n₀ 130 2 v qs.length (rcells qs)
 paces : ∀ q ∈ qs, PacesAt n₀ w q.2 q.1.2
 off : ∀ q ∈ qs, ∀ b, q.2.ownBlock = some b → v.ownBlock ≠ some b
 apart : (qs.map (·.2)).Pairwise fun x y => ∀ b, x.ownBlock = some b → y.ownBlock ≠ some b
theorem OwnHall.nil (n₀ : Nat) (w : World) : OwnHall n₀ w (.slice none 0 0) [] :=
 ⟨World.ownsRow_nil w n₀ _ _, fun _ h => (by cases h), fun _ h => (by cases h), List.Pairwise.nil⟩
theorem OwnHall.lt {n₀ : Nat} {w : World} {v : Value} {qs : List (RoomV × Value)} (h : OwnHall n₀ w v qs) {k : Nat} (hk : v.ownBlock = some k ∨ ∃ q ∈ qs, q.2.ownBlock = some k) : n₀ ≤ k ∧ k < w.heap.size := by
 rcases hk with hk | ⟨q, hq, hk⟩
 ·exact World.ownsRow.lt h.row k hk
 ·exact (h.paces q hq).lt hk
theorem OwnHall.same {n₀ : Nat} {w w' : World} {v : Value} {qs : List (RoomV × Value)} (h : OwnHall n₀ w v qs) (hs : ∀ k, n₀ ≤ k → k < w.heap.size → w'.heap[k]? = w.heap[k]?) : OwnHall n₀ w' v qs :=
 ⟨own_same h.row (fun k e => hs k (h.lt (.inl e)).1 (h.lt (.inl e)).2), fun q hq => own_same (h.paces q hq) (fun k e => hs k (h.lt (.inr ⟨q, hq, e⟩)).1 (h.lt (.inr ⟨q, hq, e⟩)).2), h.off, h.apart⟩
theorem OwnHall.later {n₀ : Nat} {w w' : World} {v : Value} {qs : List (RoomV × Value)} (h : OwnHall n₀ w v qs) (hb : Below w.heap.size w w') : OwnHall n₀ w' v qs := h.same (fun k _ hk => hb.block k hk)
theorem OwnHall.mono {n₀ n₁ : Nat} {w : World} {v : Value} {qs : List (RoomV × Value)} (h : OwnHall n₀ w v qs) (hn : n₁ ≤ n₀) : OwnHall n₁ w v qs :=
 ⟨own_mono h.row hn, fun q hq => own_mono (h.paces q hq) hn, h.off, h.apart⟩
theorem OwnHall.rooms {n₀ : Nat} {w : World} {v : Value} {qs : List (RoomV × Value)} (h : OwnHall n₀ w v qs) : IsRooms w v (qs.map (·.1)) := by
 have h' := h.row
 have hlen : (qs.map (·.1)).length = qs.length := by simp
 rcases h.row.2 with ⟨rfl, hz⟩ | ⟨g, cap, cur, rfl, hb, hg, hnc, hcm, r⟩
 ·exact ⟨none, 0, by rw [hlen, hz], by omega, by omega, .inl (by rw [List.eq_nil_of_length_eq_zero hz]; rfl)⟩
 ·refine ⟨_, cap, by rw [hlen], by rw [hlen]; exact hnc, by unfold maxLen at hcm; omega, .inr ⟨g, 0, rfl, (Array.getElem?_eq_some_iff.1 hg).1, fun k hk => ?_⟩⟩
  rw [hlen] at hk
  have hp := pairs_get (f := fun q : RoomV × Value => Value.int .i64 q.1.1) (g := fun q : RoomV × Value => q.2) qs k hk
  have hat : roomAt (qs.map (·.1)) k = qs[k].1 := by unfold roomAt; simp [List.getD, hk]
  rw [Nat.zero_add, hat]
  exact ⟨(World.ownsRow.cellAt h' (k * 2) (by omega)).trans hp.1, qs[k].2, (World.ownsRow.cellAt h' (k * 2 + 1) (by omega)).trans hp.2, (h.paces _ (List.getElem_mem hk)).paces⟩
theorem OwnHall.push {n₀ : Nat} {w w1 : World} {v v' pv : Value} {qs : List (RoomV × Value)} {rb : Int} {ps : List PaceV} {o : Obj} (h : OwnHall n₀ w v qs) (hp : PacesAt n₀ w pv ps)
  (hoff : ∀ b, pv.ownBlock = some b → v.ownBlock ≠ some b) (hap : ∀ q ∈ qs, ∀ b, q.2.ownBlock = some b → pv.ownBlock ≠ some b)
  (hown : w1.ownsRow n₀ 130 2 v' (qs.length + 1) (rcells qs ++ [.int .i64 rb, pv])) (hg : (w.alloc o).grownBy w1 v.ownBlock) (hat : v'.ownBlock = v.ownBlock ∨ v'.ownBlock = some (w.alloc o).heap.size) :
  OwnHall n₀ w1 v' (qs ++ [((rb, ps), pv)]) := by
 have hk : ∀ k, k < w.heap.size → v.ownBlock ≠ some k → w1.heap[k]? = w.heap[k]? := fun k hk hn => (hg.block k (by simp; omega) (fun e => hn e.symm)).trans (Below.heap_alloc w o k hk)
 have hv' : ∀ k, k < w.heap.size → v'.ownBlock = some k → v.ownBlock = some k := fun k hk e => by
  rcases hat with e' | e'
  ·rw [← e']; exact e
  ·rw [e'] at e; simp at e; omega
 refine ⟨?_, fun q hq => ?_, fun q hq b e => ?_, ?_⟩
 ·simpa [rcells] using hown
 ·rcases List.mem_append.1 hq with hq | hq
  ·exact own_same (h.paces q hq) (fun k e => hk k (h.lt (.inr ⟨q, hq, e⟩)).2 (h.off q hq k e))
  ·obtain rfl : q = ((rb, ps), pv) := by simpa using hq
   exact own_same hp (fun k e => hk k (hp.lt e).2 (hoff k e))
 ·rcases List.mem_append.1 hq with hq | hq
  ·exact fun e' => h.off q hq b e (hv' b (h.lt (.inr ⟨q, hq, e⟩)).2 e')
  ·obtain rfl : q = ((rb, ps), pv) := by simpa using hq
   exact fun e' => hoff b e (hv' b (hp.lt e).2 e')
 ·rw [List.map_append, List.pairwise_append]
  refine ⟨h.apart, by simp, fun x hx y hy b e => ?_⟩
  obtain ⟨q, hq, rfl⟩ := List.mem_map.1 hx
  obtain rfl : y = pv := by simpa using hy
  exact hap q hq b e
theorem infoRoom2 : (prog.info? 130).map (fun i => (i.zero, i.size, i.bytes)) = some (some (.agg #[.int .i64 0, .slice none 0 0]), 2, 32) := by kernel_rfl
theorem OwnHall.shape {n₀ : Nat} {w : World} {v : Value} {qs : List (RoomV × Value)} (h : OwnHall n₀ w v qs) : ∃ a cap, v = .slice a qs.length cap := by
 rcases h.row.2 with ⟨rfl, hz⟩ | ⟨g, cap, cur, rfl, _⟩
 ·exact ⟨none, 0, by rw [hz]⟩
 ·exact ⟨_, cap, rfl⟩
theorem PacesAt.shape {n₀ : Nat} {w : World} {v : Value} {ps : List PaceV} (h : PacesAt n₀ w v ps) : ∃ a cap, v = .slice a ps.length cap := by
 rcases h.2 with ⟨rfl, hz⟩ | ⟨g, cap, cur, rfl, _⟩
 ·exact ⟨none, 0, by rw [hz]⟩
 ·exact ⟨_, cap, rfl⟩
set_option maxRecDepth 100000
theorem band_equal (a b c d : Int) (w : World) : (Op.equalIn 10000 236 (.agg #[.int .i64 a, .int .i64 b]) (.agg #[.int .i64 c, .int .i64 d])).run prog w = .ok (a == c && b == d) w := by
 have u := underlying2
 have ag := Tryz.isAgg2
 have z := Tryz.sizeOf2
 have hc : prog.cellsOf 2 = 1 := by kernel_rfl
 obtain ⟨i, hi⟩ := Option.isSome_iff_exists.1 (show (prog.info? 2).isSome = true by kernel_rfl)
 rw [show (10000 : Nat) = 9999 + 1 from rfl, run_equalIn_array w 9999 _ _ underlying236 hi, hc]
 simp only [show List.range 2 = [0, 1] from rfl, Op.eqItems]
 go_simp
 by_cases h : a = c
 ·subst h
  by_cases h2 : b = d
  ·subst h2; simp
  ·simp [h2]
 ·simp [h]
theorem band_eql (a b c d : Int) (w : World) : (binOp .eql 236 (.agg #[.int .i64 a, .int .i64 b]) (.agg #[.int .i64 c, .int .i64 d])).run prog w = .ok (.bool (a == c && b == d)) w := by
 rw [run_eql_struct, band_equal]; rfl
theorem bandStretched_any (lo hi n : Int) (w : World) : cB 297 #[.agg #[.int .i64 lo, .int .i64 hi], .int .i64 n] w (.agg #[.int .i64 (min lo n), .int .i64 (max hi n)]) := by
 by_cases h1 : lo ≤ n
 all_goals
  by_cases h2 : hi < n
  all_goals
   go_enter func297, ntmps297
   go_wp2_with fail
   exact alBpr (v := .agg #[.int .i64 (min lo n), .int .i64 (max hi n)]) (by simp [results, results297, go_sem]; omega) rfl ⟨rfl, ((ba _ _)).alloc (by simp) _⟩
theorem bandOf_any (m : Int) (w : World) (m0 : -1000000000000 ≤ m) (m1 : m ≤ 1000000000000) : cB 255 #[.int .i64 m] w (.agg #[.int .i64 (m - 20000), .int .i64 (m + 63000)]) := by
 go_enter func255, ntmps255
 go_wp2_with fail
 exact alBpr (v := .agg #[.int .i64 (m - 20000), .int .i64 (m + 63000)]) (by simp [results, results255, go_sem]) rfl ⟨rfl, (ba _ _)⟩
def loL (lo : Int) (zs : List Int) : Int := zs.foldl min lo
def hiL (hi : Int) (zs : List Int) : Int := zs.foldl max hi
theorem loL_le (zs : List Int) : ∀ lo, loL lo zs ≤ lo := by
 induction zs with
 | nil => intro lo; exact Int.le_refl _
 | cons z zs ih => intro lo; exact Int.le_trans (ih (min lo z)) (Int.min_le_left _ _)
theorem hiL_ge (zs : List Int) : ∀ hi, hi ≤ hiL hi zs := by
 induction zs with
 | nil => intro hi; exact Int.le_refl _
 | cons z zs ih => intro hi; exact Int.le_trans (Int.le_max_left _ _) (ih (max hi z))
theorem stretched_is (zs : List Int) : ∀ lo hi, (loL lo zs == lo && hiL hi zs == hi) = zs.all fun z => inB z lo hi := by
 induction zs with
 | nil => intro lo hi; simp [loL, hiL]
 | cons z zs ih =>
  intro lo hi
  show (loL (min lo z) zs == lo && hiL (max hi z) zs == hi) = (inB z lo hi && zs.all fun z => inB z lo hi)
  cases hz : inB z lo hi
  ·have hn : ¬ (lo ≤ z ∧ z ≤ hi) := of_decide_eq_false hz
   have h1 := loL_le zs (min lo z)
   have h2 := hiL_ge zs (max hi z)
   simp only [Bool.false_and, Bool.and_eq_false_iff, beq_eq_false_iff_ne]
   omega
  ·obtain ⟨h1, h2⟩ := inB_of hz
   rw [show min lo z = lo by omega, show max hi z = hi by omega, ih]; rfl
theorem loL_snoc {lo : Int} {zs : List Int} {k : Nat} (hk : k < zs.length) : loL lo (zs.take (k + 1)) = min (loL lo (zs.take k)) (zs.getD k 0) := by
 unfold loL; rw [List.take_succ_eq_append_getElem hk, List.foldl_append]; simp [List.getD, List.getElem?_eq_getElem hk]
theorem hiL_snoc {hi : Int} {zs : List Int} {k : Nat} (hk : k < zs.length) : hiL hi (zs.take (k + 1)) = max (hiL hi (zs.take k)) (zs.getD k 0) := by
 unfold hiL; rw [List.take_succ_eq_append_getElem hk, List.foldl_append]; simp [List.getD, List.getElem?_eq_getElem hk]
attribute [local go_sem ↓] band_eql
theorem bandHolds_any (lo hi : Int) (b cap : Nat) (zs : List Int) (w : World) (hl : zs.length ≤ 1000) (hb : b < w.heap.size) (hc : ∀ k, k < zs.length → w.cell? ⟨b, k, none⟩ = some (.int .i64 (zs.getD k 0))) :
  cB 256 #[.agg #[.int .i64 lo, .int .i64 hi], .slice (some ⟨b, 0, none⟩) zs.length cap] w (.bool (zs.all fun z => inB z lo hi)) := by
 have Hc := hide hc
 clear hc
 go_enter func256, ntmps256
 go_wp2_with fail
 go_loopw [11] (fun i wr => ∃ k : Nat, k ≤ zs.length ∧ i = .int .i64 k ∧ Blk wr (w.heap.size + 1) 236 #[.int .i64 (loL lo (zs.take k)), .int .i64 (hiL hi (zs.take k))] ∧ Blk wr w.heap.size 236 #[.int .i64 lo, .int .i64 hi] ∧ Below w.heap.size w wr) (fun i _ => zs.length - (intOf i).toNat)
 case atStart =>
  refine ⟨0, alNzl _, rfl, ?_, (Blk.new w _ _).alloc _, ((ba _ _)).alloc (by simp) _⟩
  have := Blk.new (w.alloc (.cells #[.int .i64 lo, .int .i64 hi] 236)) 236 #[.int .i64 lo, .int .i64 hi]
  simpa [loL, hiL] using this
 case round =>
  obtain ⟨k, hk, rfl, hs, ho, hbl⟩ := hrel
  have Hs := hide hs
  have Ho := hide ho
  have Hb := hide hbl
  by_cases hlt : k < zs.length
  ·have c0 := uh Hc k hlt
   rw [← hbl.cell (p := ⟨b, k, none⟩) hb] at c0
   have e1 := loL_snoc (lo := lo) hlt
   have e2 := hiL_snoc (hi := hi) hlt
   have s0 := hs.cell (i := 0) rfl
   have s1 := hs.cell (i := 1) rfl
   have g0 := hs.free 0
   have g1 := hs.free 1
   generalize zs.getD k 0 = z at *
   generalize loL lo (zs.take k) = x at *
   generalize hiL hi (zs.take k) = y at *
   have E1 := hide e1
   have E2 := hide e2
   clear e1 e2 hs ho hbl
   go_wp2_with fail
   refine ck (bandStretched_any x y z _) fun w1 hb1 => ?_
   have hs1 := (uh Hs).below hb1 (uh Hs).lt
   have Hs1 := hide hs1
   have Ho1 : Hid (Blk w1 w.heap.size 236 #[.int .i64 lo, .int .i64 hi]) := hide ((uh Ho).below hb1 (uh Ho).lt)
   have B1 : Hid (Below w.heap.size w w1) := hide ((uh Hb).trans (hb1.mono (uh Hb).size))
   have s0 := hs1.cell (i := 0) rfl
   have s1 := hs1.cell (i := 1) rfl
   have g0 := hs1.free 0
   have g1 := hs1.free 1
   clear hs1 hb1
   go_wp2_with fail
   go_roundw
   case rel =>
    refine ⟨k + 1, by omega, by go_num, ?_, ?_, ?_⟩
    ·rw [uh E1, uh E2]
     simpa using ((uh Hs1).set 0 (.int .i64 (min x z))).set 1 (.int .i64 (max y z))
    ·exact ((uh Ho1).other (by simp) _).other (by simp) _
    ·exact ((uh B1).setCell (by simp) _).setCell (by simp) _
   case measure => exact ms
  ·obtain rfl : k = zs.length := by omega
   rw [List.take_length] at hs
   have e3 := stretched_is zs lo hi
   have s0 := hs.cell (i := 0) rfl
   have s1 := hs.cell (i := 1) rfl
   have o0 := ho.cell (i := 0) rfl
   have o1 := ho.cell (i := 1) rfl
   generalize loL lo zs = x at *
   generalize hiL hi zs = y at *
   have E3 := hide e3
   clear e3 hs ho hbl Hs
   go_wp2_with fail
   go_ret
   exact ⟨ret_bool (uh E3), uh Hb⟩
theorem areHads_any (b cap : Nat) (zs : List Int) (w : World) (hl : zs.length ≤ 1000) (hb : b < w.heap.size) (hc : ∀ k, k < zs.length → w.cell? ⟨b, k, none⟩ = some (.int .i64 (zs.getD k 0))) :
  cB 225 #[.slice (some ⟨b, 0, none⟩) zs.length cap] w (.bool (zs.all fun z => inB z (-1000000000000) 1000000000000)) := by
 have Hc := hide hc
 clear hc
 go_enter func225, ntmps225
 go_wp2_with fail
 refine ck (bandHolds_any _ _ b cap zs _ hl hb (uh Hc)) fun w1 hb1 => ?_
 have B1 := hide hb1
 clear hb1
 go_wp2_with fail
 go_ret
 exact ⟨rfl, uh B1⟩
theorem implInBand_any (h m : Int) (w : World) : cB 221 #[.int .i64 h, .int .i64 m] w (.bool (inBandB h m)) := by
 cases hh : hadB h && hadB m
 ·have hs : inBandB h m = false := by unfold inBandB; rw [hh]; rfl
  have Hs := hide hs
  clear hs
  go_enter func221, ntmps221
  go_wp2_with fail
  refine (areHads_any _ _ [h, m] _ (by simp) (by simp) ?_).mono ?_
  ·intro k hk
   simp at hk
   match k, hk with
   | 0, _ => simp
   | 1, _ => simp
  rintro e w1 ⟨rfl, hb⟩
  rw [hads2, hh]
  have B1 : Hid (Below w.heap.size w w1) := hide (((ba _ _)).trans (hb.mono (by simp)))
  clear hb
  go_wp2_with fail
  go_ret
  exact ⟨ret_bool (uh Hs).symm, uh B1⟩
 ·have hs : inBandB h m = inB (h - m) (-20000) 63000 := by unfold inBandB; rw [hh]; rfl
  have Hs := hide hs
  have h' := hh
  simp only [alBae] at h'
  obtain ⟨m0, m1⟩ := had_of h'.2
  clear hs h'
  go_enter func221, ntmps221
  go_wp2_with fail
  refine (areHads_any _ _ [h, m] _ (by simp) (by simp) ?_).mono ?_
  ·intro k hk
   simp at hk
   match k, hk with
   | 0, _ => simp
   | 1, _ => simp
  rintro e w1 ⟨rfl, hb⟩
  rw [hads2, hh]
  have B1 : Hid (Below w.heap.size w w1) := hide (((ba _ _)).trans (hb.mono (by simp)))
  clear hb
  go_wp2_with fail
  refine ck (bandOf_any m _ m0 m1) fun w2 hb => ?_
  have B2 : Hid (Below w.heap.size w w2) := hide ((uh B1).trans (hb.mono (uh B1).size))
  clear hb B1
  go_wp2_with fail
  refine (bandHolds_any _ _ _ _ [h] _ (by simp) (by simp) ?_).mono ?_
  ·intro k hk
   simp at hk
   subst hk
   simp
  rintro e w3 ⟨rfl, hb⟩
  rw [band_at]
  have B3 : Hid (Below w.heap.size w w3) := hide (((uh B2).alloc (uh B2).size _).trans (hb.mono (by have := (uh B2).size; simp; omega)))
  clear hb B2
  go_wp2_with fail
  go_ret
  exact ⟨ret_bool (uh Hs).symm, uh B3⟩
end Go.Proofs.YtgdpaigcmoifbaaGreat
namespace Go.Proofs.YtgdpaigcmoifbaaGreat
open Go.ChangeShapes Go.WideShapes Go.ChangeAt Go.RowKit Go.Sort Go.Proofs.Tryz
set_option linter.unusedVariables false
theorem rput (b : Int) (x : List PaceV) : ∀ (qs : List (RoomV × Value)) (j : Nat) (h : j < qs.length), (rcells qs).set (j * 2) (.int .i64 b) = rcells (qs.set j ((b, x), qs[j].2))
 | q :: qs, 0, _ => by simp [rcells]
 | q :: qs, j + 1, h => by
  have ih := rput b x qs j (by simpa using h)
  unfold rcells at ih ⊢
  rw [List.flatMap_cons, show (j + 1) * 2 = j * 2 + 2 by omega]
  simpa using ih
theorem markPaceS_any {n₀ : Nat} {w : World} {v : Value} {ps : List PaceV} (k : Int) (h : PacesAt n₀ w v ps) (hk0 : 0 ≤ k) (hk1 : k ≤ 1000000000000000) (hl : ps.length ≤ 1000000000) :
  Calls prog 207 #[v, .int .i64 k] w fun e w' => e = .returned (.int .i64 (k + 2 * (ps.length : Int))) ∧ PacesAt n₀ w' v (mps k ps.length) ∧ w.grownBy w' v.ownBlock := by
 have Hv := hide h
 obtain ⟨a, cap, rfl⟩ := h.shape
 clear h
 go_enter func207, ntmps207
 go_wp2_with fail
 go_loopw [5, 1] (fun i q wr => ∃ j : Nat, j ≤ ps.length ∧ i = .int .i64 j ∧ q = .int .i64 (k + 2 * (j : Int)) ∧ PacesAt n₀ wr (.slice a ps.length cap) (mpd ps k j) ∧ w.grownBy wr (Value.ownBlock (.slice a ps.length cap))) (fun i _ _ => ps.length - (intOf i).toNat)
 case atStart => exact ⟨0, alNzl _, rfl, by simp, by simpa [mpd, mps] using uh Hv, grown_refl _ _⟩
 case round =>
  obtain ⟨j, hj, rfl, rfl, hin, hgr⟩ := hrel
  by_cases hlt : j < ps.length
  ·unfold PacesAt at hin
   rw [mpd_len hj] at hin
   obtain ⟨g, rfl⟩ : ∃ g, a = some ⟨g, 0, none⟩ := by
    rcases hin.2 with ⟨h9, h8⟩ | ⟨g, c', cur, h9, _⟩
    ·omega
    ·cases h9; exact ⟨g, rfl⟩
   have hcell := fun (o : Nat) (ho : o < ps.length * 2) => World.ownsRow.cellAt hin o (by omega)
   have hpl : (pcells (mpd ps k j)).length = ps.length * 2 := by unfold pcells; rw [pairs_len, mpd_len hj]
   obtain ⟨c0, hc0⟩ : ∃ c, wr.cell? ⟨g, j * 2, none⟩ = some c := ⟨_, (hcell (j * 2) (by omega)).trans (List.getElem?_eq_getElem (by omega))⟩
   obtain ⟨c1, hc1⟩ : ∃ c, wr.cell? ⟨g, j * 2 + 1, none⟩ = some c := ⟨_, (hcell (j * 2 + 1) (by omega)).trans (List.getElem?_eq_getElem (by omega))⟩
   have f0 := World.ownsRow.frozenAt hin (j * 2)
   have f1 := World.ownsRow.frozenAt hin (j * 2 + 1)
   obtain ⟨s1, s2⟩ := World.ownsRow.stored hin (j * 2) (.int .i64 (k + 2 * (j : Int)))
   obtain ⟨t1, t2⟩ := World.ownsRow.stored s1 (j * 2 + 1) (.int .i64 (k + 2 * (j : Int) + 1))
   rw [pput _ _ _ _ (by rw [mpd_len hj]; exact hlt), mpd_succ hlt] at t1
   have H1 : Hid (PacesAt n₀ ((wr.setCell ⟨g, j * 2, none⟩ (.int .i64 (k + 2 * (j : Int)))).setCell ⟨g, j * 2 + 1, none⟩ (.int .i64 (k + 2 * (j : Int) + 1))) (.slice (some ⟨g, 0, none⟩) ps.length cap) (mpd ps k (j + 1))) := hide (by unfold PacesAt; rw [mpd_len hlt]; exact t1)
   have H2 := hide (grown_trans hgr (grown_trans s2 t2))
   have hc1' : (wr.setCell ⟨g, j * 2, none⟩ (.int .i64 (k + 2 * (j : Int)))).cell? ⟨g, j * 2 + 1, none⟩ = some c1 := by rw [World.cell?_setCell_other _ _ _ _ (by simp)]; exact hc1
   have f1' : (wr.setCell ⟨g, j * 2, none⟩ (.int .i64 (k + 2 * (j : Int)))).frozen? ⟨g, j * 2 + 1, none⟩ = false := by rw [World.frozen?_setCell]; exact f1
   clear hin hgr s1 s2 t1 t2 hcell hpl
   go_wp2_with fail
   go_roundw
   case rel => exact ⟨j + 1, by omega, by go_num, by go_num, uh H1, uh H2⟩
   case measure => exact ms
  ·obtain rfl : j = ps.length := by omega
   rw [mpd_all] at hin
   go_wp2_with fail
   go_ret
   exact ⟨rfl, hin, hgr⟩
theorem rsame (x : List PaceV) : ∀ (qs : List (RoomV × Value)) (j : Nat) (h : j < qs.length), rcells (qs.set j ((qs[j].1.1, x), qs[j].2)) = rcells qs
 | q :: qs, 0, _ => by simp [rcells]
 | q :: qs, j + 1, h => by
  have ih := rsame x qs j (by simpa using h)
  unfold rcells at ih ⊢
  simpa using ih
theorem map_keep {qs : List (RoomV × Value)} {j : Nat} (hj : j < qs.length) (r : RoomV) : (qs.set j (r, qs[j].2)).map (·.2) = qs.map (·.2) := by
 rw [List.map_set]
 simp only
 have : (qs.map (·.2))[j]'(by simpa using hj) = qs[j].2 := by simp
 rw [← this, List.set_getElem_self]
theorem mem_put {qs : List (RoomV × Value)} {j : Nat} (hj : j < qs.length) {r : RoomV} {q : RoomV × Value} (h : q ∈ qs.set j (r, qs[j].2)) : (q ∈ qs) ∨ q = (r, qs[j].2) := List.mem_or_eq_of_mem_set h
theorem OwnHall.bench {n₀ g cap : Nat} {w : World} {qs : List (RoomV × Value)} (h : OwnHall n₀ w (.slice (some ⟨g, 0, none⟩) qs.length cap) qs) {j : Nat} (hj : j < qs.length) (b : Int) :
  OwnHall n₀ (w.setCell ⟨g, j * 2, none⟩ (.int .i64 b)) (.slice (some ⟨g, 0, none⟩) qs.length cap) (qs.set j ((b, qs[j].1.2), qs[j].2)) := by
 have hst := (World.ownsRow.stored h.row (j * 2) (.int .i64 b)).1
 rw [rput b qs[j].1.2 qs j hj] at hst
 have hold : ∀ q ∈ qs, PacesAt n₀ (w.setCell ⟨g, j * 2, none⟩ (.int .i64 b)) q.2 q.1.2 := fun q hq => own_same (h.paces q hq) (fun k e => Below.heap_setCell w ⟨g, j * 2, none⟩ _ k (fun e' => h.off q hq k e (by show some g = some k; rw [e'])))
 refine ⟨by simpa using hst, fun q hq => ?_, fun q hq b' e => ?_, by rw [map_keep hj]; exact h.apart⟩
 ·rcases mem_put hj hq with hq | rfl
  ·exact hold q hq
  ·exact hold qs[j] (List.getElem_mem hj)
 ·rcases mem_put hj hq with hq | rfl
  ·exact h.off q hq b' e
  ·exact h.off qs[j] (List.getElem_mem hj) b' e
theorem apart_ne {qs : List (RoomV × Value)} (h : (qs.map (·.2)).Pairwise fun x y => ∀ b, x.ownBlock = some b → y.ownBlock ≠ some b) {i j : Nat} (hi : i < qs.length) (hj : j < qs.length) (hne : i ≠ j) {b : Nat} (e : qs[i].2.ownBlock = some b) : qs[j].2.ownBlock ≠ some b := by
 rw [List.pairwise_iff_getElem] at h
 rcases Nat.lt_or_gt_of_ne hne with hlt | hgt
 ·have := h i j (by simpa using hi) (by simpa using hj) hlt b (by simpa using e)
  simpa using this
 ·intro e'
  have := h j i (by simpa using hj) (by simpa using hi) hgt b (by simpa using e')
  simp at this
  exact this e
theorem OwnHall.repace {n₀ : Nat} {w w' : World} {v : Value} {qs : List (RoomV × Value)} (h : OwnHall n₀ w v qs) {j : Nat} (hj : j < qs.length) {ps : List PaceV} (hp : PacesAt n₀ w' qs[j].2 ps) (hg : w.grownBy w' qs[j].2.ownBlock) :
  OwnHall n₀ w' v (qs.set j ((qs[j].1.1, ps), qs[j].2)) := by
 have hs : ∀ k, k < w.heap.size → qs[j].2.ownBlock ≠ some k → w'.heap[k]? = w.heap[k]? := fun k hk hn => hg.block k hk (fun e => hn e.symm)
 refine ⟨?_, fun q hq => ?_, fun q hq b' e => ?_, by rw [map_keep hj]; exact h.apart⟩
 ·have := own_same h.row (fun k e => hs k (h.lt (.inl e)).2 (fun e' => h.off qs[j] (List.getElem_mem hj) k e' e))
  rw [alLls, rsame ps qs j hj]; exact this
 ·obtain ⟨i, hi, rfl⟩ := List.getElem_of_mem hq
  have hi' : i < qs.length := by simpa using hi
  by_cases hij : i = j
  ·subst hij; simpa using hp
  ·rw [List.getElem_set_ne (fun e => hij e.symm)]
   exact own_same (h.paces qs[i] (List.getElem_mem hi')) (fun k e => hs k (h.lt (.inr ⟨qs[i], List.getElem_mem hi', e⟩)).2 (apart_ne h.apart hi' hj hij e))
 ·rcases mem_put hj hq with hq | rfl
  ·exact h.off q hq b' e
  ·exact h.off qs[j] (List.getElem_mem hj) b' e
structure OwnOnly (v : Value) (qs : List (RoomV × Value)) (w w' : World) : Prop where
 os : w'.os = w.os
 tape : w'.tape = w.tape
 output : w'.output = w.output
 size : w.heap.size ≤ w'.heap.size
 block : ∀ k, k < w.heap.size → v.ownBlock ≠ some k → (∀ q ∈ qs, q.2.ownBlock ≠ some k) → w'.heap[k]? = w.heap[k]?
theorem OwnOnly.refl (v : Value) (qs : List (RoomV × Value)) (w : World) : OwnOnly v qs w w := ⟨rfl, rfl, rfl, alNlr _, fun _ _ _ _ => rfl⟩
theorem OwnOnly.trans {v : Value} {qs : List (RoomV × Value)} {a b c : World} (h : OwnOnly v qs a b) (k : OwnOnly v qs b c) : OwnOnly v qs a c :=
 ⟨k.os.trans h.os, k.tape.trans h.tape, k.output.trans h.output, alNlt h.size k.size, fun i hi h1 h2 => (k.block i (alNll hi h.size) h1 h2).trans (h.block i hi h1 h2)⟩
theorem OwnOnly.set {g n cap o : Nat} {qs : List (RoomV × Value)} {w : World} (x : Value) : OwnOnly (.slice (some ⟨g, 0, none⟩) n cap) qs w (w.setCell ⟨g, o, none⟩ x) :=
 ⟨rfl, rfl, rfl, by simp, fun k hk h1 _ => Below.heap_setCell w ⟨g, o, none⟩ x k (fun e => h1 (by show some g = some k; rw [e]))⟩
theorem OwnOnly.grown {v : Value} {qs : List (RoomV × Value)} {w w' : World} {q : RoomV × Value} (hq : q ∈ qs) (hg : w.grownBy w' q.2.ownBlock) : OwnOnly v qs w w' :=
 ⟨hg.os, hg.tape, hg.output, hg.size, fun k hk _ h2 => hg.block k hk (fun e => h2 q hq e.symm)⟩
theorem OwnOnly.alloc (v : Value) (qs : List (RoomV × Value)) (w : World) (o : Obj) : OwnOnly v qs w (w.alloc o) := ⟨rfl, rfl, rfl, by simp, fun k hk _ _ => Below.heap_alloc w o k hk⟩
def kEnd : Int → List (RoomV × Value) → Int
 | k, [] => k
 | k, q :: qs => kEnd (k + 1 + 2 * (q.1.2.length : Int)) qs
def markQ : Int → List (RoomV × Value) → List (RoomV × Value)
 | _, [] => []
 | k, q :: qs => ((k, mps (k + 1) q.1.2.length), q.2) :: markQ (k + 1 + 2 * (q.1.2.length : Int)) qs
theorem kEnd_app : ∀ (a : List (RoomV × Value)) (k : Int) (b : List (RoomV × Value)), kEnd k (a ++ b) = kEnd (kEnd k a) b
 | [], _, _ => rfl
 | q :: a, k, b => kEnd_app a _ b
theorem markQ_app : ∀ (a : List (RoomV × Value)) (k : Int) (b : List (RoomV × Value)), markQ k (a ++ b) = markQ k a ++ markQ (kEnd k a) b
 | [], _, _ => rfl
 | q :: a, k, b => by simp only [List.cons_append, markQ, kEnd]; rw [markQ_app a _ b]
theorem markQ_len : ∀ (a : List (RoomV × Value)) (k : Int), (markQ k a).length = a.length
 | [], _ => rfl
 | q :: a, k => by simp [markQ, markQ_len a]
theorem take_s {α : Type} {l : List α} {j : Nat} (h : j < l.length) : l.take (j + 1) = l.take j ++ [l[j]] := List.take_succ_eq_append_getElem h
theorem kEnd_s {qs : List (RoomV × Value)} {k : Int} {j : Nat} (h : j < qs.length) : kEnd k (qs.take (j + 1)) = kEnd k (qs.take j) + 1 + 2 * (qs[j].1.2.length : Int) := by rw [take_s h, kEnd_app]; rfl
theorem kEnd_bd {qs : List (RoomV × Value)} (hp : ∀ q ∈ qs, q.1.2.length ≤ 1048576) (k : Int) : ∀ j, j ≤ qs.length → k ≤ kEnd k (qs.take j) ∧ kEnd k (qs.take j) ≤ k + 2097153 * j
 | 0, _ => by simp [kEnd]
 | j + 1, hj => by
  have ih := kEnd_bd hp k j (by omega)
  have hq := hp qs[j] (List.getElem_mem (by omega))
  rw [kEnd_s (by omega)]; omega
def markedTo (k : Int) (qs : List (RoomV × Value)) (j : Nat) : List (RoomV × Value) := markQ k (qs.take j) ++ qs.drop j
theorem markedTo_len {k : Int} {qs : List (RoomV × Value)} {j : Nat} (h : j ≤ qs.length) : (markedTo k qs j).length = qs.length := by unfold markedTo; rw [List.length_append, markQ_len]; simp; omega
theorem markedTo_at? {k : Int} {qs : List (RoomV × Value)} {j : Nat} (h : j < qs.length) : (markedTo k qs j)[j]? = some qs[j] := by
 have hl : (markQ k (qs.take j)).length = j := by rw [markQ_len]; simp; omega
 unfold markedTo
 rw [List.getElem?_append_right (by omega), hl, Nat.sub_self, List.drop_eq_getElem_cons h]; rfl
theorem markedTo_at {k : Int} {qs : List (RoomV × Value)} {j : Nat} (h : j < qs.length) (h' : j < (markedTo k qs j).length) : (markedTo k qs j)[j] = qs[j] := by
 have h1 := markedTo_at? (k := k) h
 rw [List.getElem?_eq_getElem h'] at h1
 exact Option.some.inj h1
theorem markedTo_s {k : Int} {qs : List (RoomV × Value)} {j : Nat} (h : j < qs.length) : (markedTo k qs j).set j ((kEnd k (qs.take j), mps (kEnd k (qs.take j) + 1) qs[j].1.2.length), qs[j].2) = markedTo k qs (j + 1) := by
 unfold markedTo
 have hl : (markQ k (qs.take j)).length = j := by rw [markQ_len]; simp; omega
 rw [List.set_append_right _ _ (by omega), hl, Nat.sub_self, List.drop_eq_getElem_cons h, List.set_cons_zero, take_s h, markQ_app]
 simp [markQ]
theorem markedTo_all (k : Int) (qs : List (RoomV × Value)) : markedTo k qs qs.length = markQ k qs := by simp [markedTo]
theorem markRoomS_any {n₀ : Nat} {w : World} {v : Value} {qs : List (RoomV × Value)} (k : Int) (h : OwnHall n₀ w v qs) (hn : n₀ ≤ w.heap.size) (hk0 : 0 ≤ k) (hk1 : k ≤ 1000000000) (hl : qs.length ≤ 1048576) (hp : ∀ q ∈ qs, q.1.2.length ≤ 1048576) :
  Calls prog 158 #[v, .int .i64 k] w fun e w' => e = .returned (.int .i64 (kEnd k qs)) ∧ OwnHall n₀ w' v (markQ k qs) ∧ OwnOnly v qs w w' := by
 have Hv := hide h
 obtain ⟨a, cap, rfl⟩ := h.shape
 have Hp := hide hp
 clear h hp
 go_enter func158, ntmps158
 go_wp2_with fail
 go_loopw [5, 1] (fun i q wr => ∃ j : Nat, j ≤ qs.length ∧ i = .int .i64 j ∧ q = .int .i64 (kEnd k (qs.take j)) ∧ OwnHall n₀ wr (.slice a qs.length cap) (markedTo k qs j) ∧ OwnOnly (.slice a qs.length cap) qs w wr) (fun i _ _ => qs.length - (intOf i).toNat)
 case atStart => exact ⟨0, alNzl _, rfl, rfl, by simpa [markedTo, markQ] using uh Hv, OwnOnly.refl _ _ _⟩
 case round =>
  obtain ⟨j, hj, rfl, rfl, hin, hbl⟩ := hrel
  by_cases hlt : j < qs.length
  ·have hml := markedTo_len (k := k) (Nat.le_of_lt hlt)
   have hjm : j < (markedTo k qs j).length := by rw [hml]; exact hlt
   have hat := markedTo_at (k := k) hlt hjm
   have hkb := kEnd_bd (uh Hp) k j hj
   have hks := kEnd_s (k := k) hlt
   have Hms := hide (markedTo_s (k := k) hlt)
   have hpl := uh Hp qs[j] (List.getElem_mem hlt)
   obtain ⟨g, rfl⟩ : ∃ g, a = some ⟨g, 0, none⟩ := by
    rcases hin.row.2 with ⟨h9, h8⟩ | ⟨g, c', cur, h9, _⟩
    ·omega
    ·simp only [Value.slice.injEq] at h9; exact ⟨g, h9.1⟩
   have hin0 := hin
   rw [← hml] at hin
   have hb1 := hin.bench hjm (kEnd k (qs.take j))
   rw [hml] at hb1
   have hrow := hin0.row
   rw [hml] at hrow
   have hc0 := World.ownsRow.cellAt hrow (j * 2) (by omega)
   have hc1 := World.ownsRow.cellAt hrow (j * 2 + 1) (by omega)
   have hpg := pairs_get (f := fun q : RoomV × Value => Value.int .i64 q.1.1) (g := fun q : RoomV × Value => q.2) (markedTo k qs j) j hjm
   have hc0' := hc0.trans hpg.1
   have hc1' := hc1.trans hpg.2
   have f0 := World.ownsRow.frozenAt hrow (j * 2)
   rw [hat] at hc0' hc1' hb1
   have HW1 : Hid (OwnOnly (.slice (some ⟨g, 0, none⟩) qs.length cap) qs w (wr.setCell ⟨g, j * 2, none⟩ (.int .i64 (kEnd k (qs.take j))))) := hide (hbl.trans (OwnOnly.set _))
   have hjs : j < ((markedTo k qs j).set j ((kEnd k (qs.take j), qs[j].1.2), qs[j].2)).length := by rw [alLls]; exact hjm
   have hpa := hb1.paces _ (List.getElem_mem hjs)
   rw [List.getElem_set_self] at hpa
   simp only at hpa
   have Hb1 := hide hb1
   have Hpa := hide hpa
   have hd1 : (wr.setCell ⟨g, j * 2, none⟩ (.int .i64 (kEnd k (qs.take j)))).cell? ⟨g, j * 2 + 1, none⟩ = some qs[j].2 := by rw [World.cell?_setCell_other _ _ _ _ (by simp)]; exact hc1'
   obtain ⟨pa, pcap, hps⟩ := hpa.shape
   rw [hps] at hd1
   have Hps := hide hps
   generalize kEnd k (qs.take j) = kj at *
   generalize hk' : kEnd k (qs.take (j + 1)) = kj' at *
   have Hk' := hide hk'
   clear hin hin0 hb1 hrow hc0 hc1 hpg hc1' hpa hps hat hk'
   generalize hbb : qs[j].1.1 = bb at *
   clear hbb
   generalize hll : qs[j].1.2.length = ll at *
   have Hll := hide hll
   clear hll
   go_wp2_with fail
   refine (markPaceS_any (n₀ := n₀) (ps := qs[j].1.2) (kj + 1) (by have h2 := uh Hpa; rw [uh Hps] at h2; exact h2) (by omega) (by omega) (by rw [uh Hll]; omega)).mono ?_
   rw [uh Hll]
   rintro e w2 ⟨rfl, hpa2, hgr⟩
   have Hrep : Hid (OwnHall n₀ w2 (.slice (some ⟨g, 0, none⟩) qs.length cap) (markedTo k qs (j + 1)) ∧ OwnOnly (.slice (some ⟨g, 0, none⟩) qs.length cap) qs w w2) := hide (by
    have hj2 : j < ((markedTo k qs j).set j ((kj, qs[j].1.2), qs[j].2)).length := hjs
    have e2 : (((markedTo k qs j).set j ((kj, qs[j].1.2), qs[j].2))[j]'hj2) = ((kj, qs[j].1.2), qs[j].2) := List.getElem_set_self _
    have h3 := OwnHall.repace (uh Hb1) hj2 (ps := mps (kj + 1) ll) (w' := w2) (by rw [e2]; simp only; rw [uh Hps]; exact hpa2) (by rw [e2]; simp only; rw [uh Hps]; exact hgr)
    rw [e2, List.set_set] at h3
    simp only at h3
    have h4 := uh Hms
    rw [h4] at h3
    exact ⟨h3, (uh HW1).trans (OwnOnly.grown (List.getElem_mem hlt) (by rw [uh Hps]; exact hgr))⟩)
   clear hpa2 hgr
   go_wp2_with fail
   go_roundw
   case rel => exact ⟨j + 1, by omega, by go_num, by rw [uh Hk', hks], (uh Hrep).1, (uh Hrep).2⟩
   case measure => exact ms
  ·obtain rfl : j = qs.length := by omega
   rw [markedTo_all] at hin
   rw [List.take_length]
   go_wp2_with fail
   go_ret
   exact ⟨rfl, hin, hbl⟩
theorem markHall_any {n₀ : Nat} {w : World} {v : Value} {qs : List (RoomV × Value)} (k : Int) (h : OwnHall n₀ w v qs) (hn : n₀ ≤ w.heap.size) (hk0 : 0 ≤ k) (hk1 : k ≤ 1000000000) (hl : qs.length ≤ 1048576) (hp : ∀ q ∈ qs, q.1.2.length ≤ 1048576) :
  Calls prog 103 #[.agg #[v], .int .i64 k] w fun e w' => e = .returned (.int .i64 (kEnd k qs)) ∧ OwnHall n₀ w' v (markQ k qs) ∧ OwnOnly v qs w w' := by
 have Hv := hide h
 obtain ⟨a, cap, rfl⟩ := h.shape
 have Hp := hide hp
 clear h hp
 go_enter func103, ntmps103
 go_wp2_with fail
 refine (markRoomS_any k ((uh Hv).later ((ba _ _))) (by simp; omega) hk0 hk1 hl (uh Hp)).mono ?_
 rintro e w1 ⟨rfl, ho, hb⟩
 have Ho := hide ho
 have Hb := hide hb
 clear ho hb
 go_wp2_with fail
 go_ret
 exact ⟨rfl, uh Ho, (OwnOnly.alloc _ _ _ _).trans (uh Hb)⟩
theorem flat_num : ∀ zs : List Int, flat encNum zs = zs.map (Value.int .i64)
 | [] => rfl
 | z :: zs => by
  have := flat_num zs
  unfold flat at this ⊢
  rw [List.flatMap_cons, this]
  rfl
theorem nums_ints {n₀ : Nat} {w : World} {v : Value} {zs : List Int} : NumsAt n₀ w v zs ↔ IntsAt n₀ w v zs := by
 unfold NumsAt RecAt IntsAt
 rw [flat_num]
theorem markNums_any {n₀ : Nat} {w : World} {v : Value} {zs : List Int} (k : Int) (h : NumsAt n₀ w v zs) (hk0 : 0 ≤ k) (hk1 : k ≤ 1000000000000000) (hl : zs.length ≤ 1000000000) :
  Calls prog 46 #[v, .int .i64 k] w fun e w' => e = .returned (.int .i64 (k + zs.length)) ∧ NumsAt n₀ w' v (marks k zs.length) ∧ w.grownBy w' v.ownBlock :=
 (markInts_any k (nums_ints.1 h) hk0 hk1 hl).mono fun e w' ⟨h1, h2, h3⟩ => ⟨h1, nums_ints.2 h2, h3⟩
theorem heldNums_yes {n₀ : Nat} {w : World} {v : Value} (k : Int) (n : Nat) (h : NumsAt n₀ w v (marks k n)) (hk0 : 0 ≤ k) (hk1 : k ≤ 1000000000000000) (hl : n ≤ 1000000000) :
  cE 47 #[v, .int .i64 k] w (.int .i64 (k + n)) :=
 heldInts_yes k n (nums_ints.1 h) hk0 hk1 hl
open Go.ChangeShapes Go.WideShapes Go.ChangeAt Go.RowKit Go.Deep Go.Proofs.Tryz
theorem trod_guilds {H : Type} {enc : TypeId × Value → H} {W : World} {spare : Nat → Bool} {held : Bool} {n : Nat} {v : Value} {y : DataW H × List MemPlace}
  (h : DataW.trod enc prog W 0 spare held n 60 [v] = some y) : ∃ ps, IsGuilds W v ps := by
 refine open_recs (k := 3) (enc := encGuild) underlying60 underlying147 (by kernel_rfl) rfl (by kernel_rfl) (by omega) ?_ h
 intro cs hl hc
 match cs, hl with
 | [c0, c1, c2], _ =>
  obtain ⟨u0, n0, y0, e0, t0⟩ := hc 0 _ rfl
  obtain ⟨u1, n1, y1, e1, t1⟩ := hc 1 _ rfl
  obtain ⟨u2, n2, y2, e2, t2⟩ := hc 2 _ rfl
  obtain ⟨z0, q0, _⟩ := DataW.trod_int underlying2 t0
  obtain ⟨z1, q1, _⟩ := DataW.trod_int underlying2 t1
  obtain ⟨z2, q2, _⟩ := DataW.trod_int underlying2 t2
  cases e0; cases e1; cases e2; cases q0; cases q1; cases q2
  exact ⟨(z0, z1, z2), rfl⟩
theorem trod_smiths {H : Type} {enc : TypeId × Value → H} {W : World} {spare : Nat → Bool} {held : Bool} {n : Nat} {v : Value} {y : DataW H × List MemPlace}
  (h : DataW.trod enc prog W 0 spare held n 61 [v] = some y) : ∃ ps, IsSmiths W v ps := by
 refine open_recs (k := 11) (enc := encSmith) underlying61 underlying149 (by kernel_rfl) rfl (by kernel_rfl) (by omega) ?_ h
 intro cs hl hc
 match cs, hl with
 | [c0, c1, c2, c3, c4, c5, c6, c7, c8, c9, c10], _ =>
  obtain ⟨u0, n0, y0, e0, t0⟩ := hc 0 _ rfl
  obtain ⟨u1, n1, y1, e1, t1⟩ := hc 1 _ rfl
  obtain ⟨u2, n2, y2, e2, t2⟩ := hc 2 _ rfl
  obtain ⟨u3, n3, y3, e3, t3⟩ := hc 3 _ rfl
  obtain ⟨u4, n4, y4, e4, t4⟩ := hc 4 _ rfl
  obtain ⟨u5, n5, y5, e5, t5⟩ := hc 5 _ rfl
  obtain ⟨u6, n6, y6, e6, t6⟩ := hc 6 _ rfl
  obtain ⟨u7, n7, y7, e7, t7⟩ := hc 7 _ rfl
  obtain ⟨u8, n8, y8, e8, t8⟩ := hc 8 _ rfl
  obtain ⟨u9, n9, y9, e9, t9⟩ := hc 9 _ rfl
  obtain ⟨u10, n10, y10, e10, t10⟩ := hc 10 _ rfl
  obtain ⟨z0, q0, _⟩ := DataW.trod_int underlying2 t0
  obtain ⟨z1, q1, _⟩ := DataW.trod_int underlying2 t1
  obtain ⟨z2, q2, _⟩ := DataW.trod_int underlying2 t2
  obtain ⟨z3, q3, _⟩ := DataW.trod_int underlying2 t3
  obtain ⟨z4, q4, _⟩ := DataW.trod_int underlying2 t4
  obtain ⟨z5, q5, _⟩ := DataW.trod_int underlying2 t5
  obtain ⟨z6, q6, _⟩ := DataW.trod_int underlying2 t6
  obtain ⟨z7, q7, _⟩ := DataW.trod_int underlying2 t7
  obtain ⟨z8, q8, _⟩ := DataW.trod_int underlying2 t8
  obtain ⟨z9, q9, _⟩ := DataW.trod_int underlying2 t9
  obtain ⟨z10, q10, _⟩ := DataW.trod_int underlying2 t10
  cases e0; cases e1; cases e2; cases e3; cases e4; cases e5; cases e6; cases e7; cases e8; cases e9; cases e10; cases q0; cases q1; cases q2; cases q3; cases q4; cases q5; cases q6; cases q7; cases q8; cases q9; cases q10
  exact ⟨(z0, z1, z2, z3, z4, z5, z6, z7, z8, z9, z10), rfl⟩
end Go.Proofs.YtgdpaigcmoifbaaGreat
