/- Part 3 of what the proof rests on. No condition but those that a theorem names. -/
import Derived.Test.YtffcgajndmhpkaaGreatDoorXe02
import Derived.Deep.Fields
import Derived.Deep.Slices
import Derived.Deep.RegionWith
set_option maxHeartbeats 8000000
set_option maxRecDepth 100000
namespace Go.Proofs.YtffcgajndmhpkaaGreatDoor
open Go.ChangeShapes Go.WideShapes Go.ChangeAt Go.RowKit Go.Sort
set_option linter.unusedVariables false
abbrev DeskV := Bool × Int × Int
def encDesk (p : DeskV) : List Value := [.bool p.1, .int .i64 p.2.1, .int .i64 p.2.2]
theorem encDesk_len (p : DeskV) : (encDesk p).length = 3 := rfl
abbrev IsDesks (w : World) (v : Value) (ps : List DeskV) : Prop := IsRec 3 encDesk w v ps
abbrev DesksAt (n₀ : Nat) (w : World) (v : Value) (ps : List DeskV) : Prop := RecAt 53 3 encDesk n₀ w v ps
theorem infoDesk : (Tryz.prog.info? 53).map (fun i => (i.zero, i.size, i.bytes)) = some (some (.agg #[.bool false, .int .i64 0, .int .i64 0]), 3, 24) := by kernel_rfl
theorem DesksAt.list {n₀ : Nat} {w : World} {v : Value} {ps : List DeskV} (h : DesksAt n₀ w v ps) : IsDesks w v ps := RecAt.recs encDesk_len (by omega) h
theorem desk_cells {w : World} {b off : Nat} {ps : List DeskV} (h : ∀ j, j < ps.length → ∀ i u, (encDesk (recAt ps j))[i]? = some u → w.cell? ⟨b, off + j * 3 + i, none⟩ = some u) {j : Nat} (hj : j < ps.length) :
  w.cell? ⟨b, off + j * 3, none⟩ = some (.bool (recAt ps j).1) ∧ w.cell? ⟨b, off + j * 3 + 1, none⟩ = some (.int .i64 (recAt ps j).2.1) ∧ w.cell? ⟨b, off + j * 3 + 2, none⟩ = some (.int .i64 (recAt ps j).2.2) :=
 ⟨h j hj 0 _ rfl, h j hj 1 _ rfl, h j hj 2 _ rfl⟩
theorem szDeskS_any (a : Option Addr) (n cap : Nat) (left : Int) (hn : n ≤ 9223372036854775807) (h0 : 0 ≤ left) (h1 : left ≤ 1048576) (w : World) :
  Calls Tryz.prog 67 #[.slice a n cap, .int .i64 left] w fun e w' => e = .returned (.int .i64 (szV n left)) ∧ w' = w := by
 by_cases h : left - n < 0
 all_goals
  go_enter Tryz.func67, Tryz.ntmps67
  go_wp2
  go_ret
  exact ⟨ret_int (by first | exact (szV_f (by omega)).symm | exact (szV_t (by omega)).symm), rfl⟩
theorem eqDesk_yes (x0 : Bool) (x1 : Int) (x2 : Int) (w : World) :
  Calls Tryz.prog 133 #[.agg #[.bool x0, .int .i64 x1, .int .i64 x2], .agg #[.bool x0, .int .i64 x1, .int .i64 x2]] w fun e w' => e = .returned (.bool true) ∧ Below w.heap.size w w' := by
 go_enter Tryz.func133, Tryz.ntmps133
 go_wp2_with fail
 go_ret
 exact ⟨rfl, ((ba _ _)).alloc (by simp) _⟩
theorem eqDeskS_yes {w : World} {v u : Value} {ps : List DeskV} (hv : IsDesks w v ps) (hu : IsDesks w u ps) :
  Calls Tryz.prog 77 #[v, u] w fun e w' => e = .returned (.bool true) ∧ Below w.heap.size w w' := by
 obtain ⟨a, cap, rfl, hc, hm, hr⟩ := hv
 obtain ⟨a', cap', rfl, hc', hm', hr'⟩ := hu
 have Hr := hide hr
 have Hr' := hide hr'
 clear hr hr'
 go_enter Tryz.func77, Tryz.ntmps77
 go_wp2_with fail
 go_loopw [5] (fun i wr => ∃ k : Nat, k ≤ ps.length ∧ i = .int .i64 k ∧ Below w.heap.size w wr) (fun i _ => ps.length - (intOf i).toNat)
 case atStart => exact ⟨0, Nat.zero_le _, rfl, Below.refl _ _⟩
 case round =>
  obtain ⟨k, hk, rfl, hb⟩ := hrel
  have Hb := hide hb
  by_cases hlt : k < ps.length
  ·rcases uh Hr with h0 | ⟨b, off, rfl, hbw, hcl⟩
   ·rw [h0] at hlt; simp at hlt
   rcases uh Hr' with h0 | ⟨b', off', rfl, hbw', hcl'⟩
   ·rw [h0] at hlt; simp at hlt
   obtain ⟨c0, c1, c2⟩ := desk_cells hcl hlt
   obtain ⟨d0, d1, d2⟩ := desk_cells hcl' hlt
   generalize recAt ps k = p at *
   obtain ⟨x0, x1, x2⟩ := p
   simp only at c0 c1 c2 d0 d1 d2
   have k0 := cell_regrown ((hb.cell (p := ⟨b, off + k * 3, none⟩) hbw).trans c0)
   have m0 := cell_regrown ((hb.cell (p := ⟨b', off' + k * 3, none⟩) hbw').trans d0)
   have k1 := cell_regrown ((hb.cell (p := ⟨b, off + k * 3 + 1, none⟩) hbw).trans c1)
   have m1 := cell_regrown ((hb.cell (p := ⟨b', off' + k * 3 + 1, none⟩) hbw').trans d1)
   have k2 := cell_regrown ((hb.cell (p := ⟨b, off + k * 3 + 2, none⟩) hbw).trans c2)
   have m2 := cell_regrown ((hb.cell (p := ⟨b', off' + k * 3 + 2, none⟩) hbw').trans d2)
   clear hcl hcl' hb c0 c1 c2 d0 d1 d2
   go_wp2_with fail
   refine wq ?_
   repeat (go_big_quiet_step (exact Calls.regrown_of (eqDesk_yes _ _ _ _)))
   refine wpQuiet_nil ?_
   intro _ hw'
   obtain ⟨⟨dq, osq⟩, hw''⟩ := hw'
   subst hw''
   go_wp2_with fail
   go_roundw
   case rel => exact ⟨k + 1, by omega, by go_num, (uh Hb).trans ((below_regrown _ _ _).mono (uh Hb).size)⟩
   case measure => exact ms
  ·go_wp2_with fail
   go_ret
   exact ⟨rfl, hb⟩
theorem toDesk_any (x0 : Bool) (x1 : Int) (x2 : Int) (w : World) :
  Calls Tryz.prog 129 #[.agg #[.bool x0, .int .i64 x1, .int .i64 x2]] w fun e w' => e = .returned (.agg #[.bool x0, .int .i64 x1, .int .i64 x2]) ∧ Below w.heap.size w w' := by
 go_enter Tryz.func129, Tryz.ntmps129
 go_wp2_with fail
 exact bodyPost_ret (v := .agg #[.bool x0, .int .i64 x1, .int .i64 x2]) (by simp [results, Tryz.results129, go_sem]) rfl ⟨rfl, (((ba _ _)).alloc (by simp) _).alloc (by simp; omega) _⟩
theorem toDeskS_any {w : World} {v : Value} {ps : List DeskV} (h : IsDesks w v ps) (hs : ps.length ≤ 1048576) :
  Calls Tryz.prog 72 #[v] w fun e w' => ∃ v', e = .returned v' ∧ DesksAt w.heap.size w' v' ps ∧ Below w.heap.size w w' := by
 obtain ⟨a, cap, rfl, hc, hm, hr⟩ := h
 have Hr := hide hr
 clear hr
 obtain ⟨i0, hi, hz0, hz1, hz2⟩ := info_parts infoDesk
 go_enter Tryz.func72, Tryz.ntmps72
 go_wp2_with (at_make; refine wpList_make_full _ rfl _ _ 29 rfl w.heap.size 53 i0 (.agg #[.bool false, .int .i64 0, .int .i64 0]) 3 Tryz.underlying29 hi hz0 hz1 _ _ _ _ ps.length rfl rfl rfl rfl (by rw [hz2]; omega) (by unfold maxLen; omega) (Nat.le_refl _) ?_; intro w0 hown hgrow)
 have Hown : Hid (DesksAt w.heap.size w0 (.slice (some ⟨w.heap.size, 0, none⟩) ps.length ps.length) (fillL ps (false, 0, 0) 0)) := hide (by
  rw [made_flat encDesk_len (by omega) (false, 0, 0) (Value.agg #[.bool false, .int .i64 0, .int .i64 0]).cells rfl ps.length] at hown
  rw [fillL_zero]
  show w0.ownsRow _ _ _ _ (List.replicate ps.length _).length _
  rw [List.length_replicate]
  exact hown)
 have Hgr := hide hgrow
 clear hown hgrow
 go_loopw [4] (fun i wr => ∃ k : Nat, k ≤ ps.length ∧ i = .int .i64 k ∧ DesksAt w.heap.size wr (.slice (some ⟨w.heap.size, 0, none⟩) ps.length ps.length) (fillL ps (false, 0, 0) k) ∧ Below w.heap.size w wr) (fun i _ => ps.length - (intOf i).toNat)
 case atStart => exact ⟨0, Nat.zero_le _, rfl, uh Hown, (Below.refl _ _).grown (uh Hgr) (Nat.le_refl _) (fun k e => by cases e)⟩
 case round =>
  obtain ⟨k, hk, rfl, hown, hb⟩ := hrel
  have Hb := hide hb
  by_cases hlt : k < ps.length
  ·rcases uh Hr with h0 | ⟨b, off, rfl, hbw, hcl⟩
   ·rw [h0] at hlt; simp at hlt
   obtain ⟨c0, c1, c2⟩ := desk_cells hcl hlt
   rw [← hb.cell (p := ⟨b, off + k * 3, none⟩) hbw] at c0
   rw [← hb.cell (p := ⟨b, off + k * 3 + 1, none⟩) hbw] at c1
   rw [← hb.cell (p := ⟨b, off + k * 3 + 2, none⟩) hbw] at c2
   have Ho := hide hown
   have HS := hide (fillL_set (z := ((false, 0, 0) : DeskV)) hlt)
   generalize hp : recAt ps k = p at *
   obtain ⟨x0, x1, x2⟩ := p
   simp only at c0 c1 c2
   clear hcl hb hown hp
   go_wp2_with fail
   refine ck (toDesk_any _ _ _ _) fun w1 hb1 => ?_
   have ho1 := RecAt.later (uh Ho) hb1
   have hfl := fillL_len (z := ((false, 0, 0) : DeskV)) hk
   obtain ⟨g, hg, _, _, hcells, hfz⟩ := RecAt.view encDesk_len (by omega) ho1 hfl.symm (by omega)
   cases hg
   have hq := fun i u hu => hcells k (by omega) i u hu
   generalize recAt (fillL ps (false, 0, 0) k) k = old at hq
   have o0 := hq 0 _ rfl
   have f0 := hfz (k * 3)
   have o1 := hq 1 _ rfl
   have f1 := hfz (k * 3 + 1)
   have o2 := hq 2 _ rfl
   have f2 := hfz (k * 3 + 2)
   simp only [Nat.add_zero] at o0
   have Hp2 := hide (RecAt.put encDesk_len (by omega) ho1 hfl.symm (j := k) (by omega) (x0, x1, x2))
   have Hb1 := hide hb1
   have hsz := hb1.size
   have hsz0 := (uh Hb).size
   clear ho1 hb1 hcells hq hfz hfl
   go_wp2_with fail
   go_roundw
   case rel => exact ⟨k + 1, by omega, by go_num, by have h9 := (uh Hp2).1; rw [uh HS] at h9; exact h9, ((uh Hb).trans ((uh Hb1).mono hsz0)).trans (below_grown (uh Hp2).2 (Nat.le_refl _) (by omega))⟩
   case measure => exact ms
  ·obtain rfl : k = ps.length := by omega
   rw [fillL_all] at hown
   go_wp2_with fail
   go_ret
   exact ⟨_, rfl, hown, hb⟩
open Go.ChangeShapes Go.WideShapes Go.ChangeAt Go.RowKit Go.Deep
section
variable {α : Type} {k : Nat} {enc : α → List Value} {H : Type} {en : TypeId × Value → H} {P : Program} {w : World} {base : Nat} {spare : Nat → Bool} {held : Bool}
theorem struct_cells {t : TypeId} {fs : Array Field} {fuel : Nat} {cs : List Value} {x : DataW H × List MemPlace} (hs : P.underlying t = some (.struct fs)) (hone : oneCellFields P fs = true) (hC : P.cellsOf t = k) (hfs : fs.size = k)
  (h : DataW.trod en P w base spare held fuel t cs = some x) : cs.length = k ∧ ∀ (i : Nat) (f : Field), fs[i]? = some f → ∃ u n y, cs[i]? = some u ∧ DataW.trod en P w base spare held n f.type [u] = some y := by
 obtain ⟨xs, n, _, _, hl, hxl, hf⟩ := DataW.trod_struct hs h
 rw [hC] at hl
 refine ⟨hl, fun i f hi => ?_⟩
 have hlt : i < fs.size := (Array.getElem?_eq_some_iff.1 hi).1
 obtain ⟨ho, hc⟩ := hone_of hone i f hi
 have g := hf i f hi
 rw [ho, hc] at g
 have hd : (cs.drop i).take 1 = [cs[i]'(by omega)] := by rw [List.drop_eq_getElem_cons (by omega)]; rfl
 rw [hd, List.getElem?_eq_getElem (by omega)] at g
 exact ⟨cs[i]'(by omega), n, _, List.getElem?_eq_getElem _, g⟩
theorem open_recs [Inhabited α] {t e : TypeId} {fs : Array Field} {fuel : Nat} {v : Value} {x : DataW H × List MemPlace}
  (ht : P.underlying t = some (.slice e)) (he : P.underlying e = some (.struct fs)) (ce : P.cellsOf e = k) (hfs : fs.size = k) (hone : oneCellFields P fs = true) (h0 : 0 < k)
  (cl : ∀ cs : List Value, cs.length = k → (∀ (i : Nat) (f : Field), fs[i]? = some f → ∃ u n y, cs[i]? = some u ∧ DataW.trod en P w base spare held n f.type [u] = some y) → ∃ x : α, enc x = cs)
  (h : DataW.trod en P w base spare held fuel t [v] = some x) : ∃ ps : List α, IsRec k enc w v ps := by
 rcases open_slice ht h with ⟨hv, _⟩ | ⟨a, len, cap, m, n, D, Pl, hv, _, hl, hm, hmm, _, hx⟩
 ·cases hv
  exact ⟨[], none, 0, rfl, Nat.le_refl _, by omega, .inl rfl⟩
 ·cases hv
  have hlm : len ≤ m := by rw [hmm]; split <;> omega
  have each : ∀ i, i < len → ∃ q : α, (enc q).length = k ∧ ∀ j, j < k → w.cell? (a.add (i * k + j)) = (enc q)[j]? := by
   intro i hi
   obtain ⟨cs, h1, h2⟩ := hx i (by omega)
   rw [ce] at h1
   obtain ⟨_, hlen, hcell⟩ := World.cells?_some h1
   obtain ⟨h3, h4⟩ := struct_cells he hone ce hfs h2
   obtain ⟨q, hq⟩ := cl cs h3 h4
   refine ⟨q, by rw [hq]; exact h3, fun j hj => ?_⟩
   have := hcell j hj
   rw [add_add] at this
   rw [hq]; exact this
  obtain ⟨F, hF⟩ := choose_lt each
  have hlen : ((List.range len).map F).length = len := by simp
  refine ⟨(List.range len).map F, some a, cap, by rw [hlen], by rw [hlen]; exact hl, by unfold maxLen at hm; omega, ?_⟩
  by_cases hz : len = 0
  ·exact .inl (by simp [hz])
  ·obtain ⟨hk0, hc0⟩ := hF 0 (by omega)
   have h00 := hc0 0 h0
   rw [List.getElem?_eq_getElem (by omega)] at h00
   have sp := World.cell?_spot h00
   have hlt := World.block_lt_of_cell? _ _ h00
   obtain ⟨b, off, spot⟩ := a
   have hspot : spot = none := by simpa [Addr.add] using sp
   subst hspot
   refine .inr ⟨b, off, rfl, by simpa [Addr.add] using hlt, fun j hj i u hu => ?_⟩
   rw [hlen] at hj
   have hat : recAt ((List.range len).map F) j = F j := by unfold recAt; simp [List.getD, hj]
   rw [hat] at hu
   obtain ⟨hk1, hc1⟩ := hF j hj
   have hi : i < k := by
    rcases Nat.lt_or_ge i k with h | h
    ·exact h
    ·rw [List.getElem?_eq_none (by omega)] at hu; cases hu
   have := hc1 i hi
   rw [hu, add_plain, ← Nat.add_assoc] at this
   exact this
end
end Go.Proofs.YtffcgajndmhpkaaGreatDoor
namespace Go.Proofs.YtffcgajndmhpkaaGreatDoor
open Go.ChangeShapes Go.WideShapes Go.ChangeAt Go.RowKit Go.Sort Go.Deep
set_option linter.unusedVariables false
def encNum (z : Int) : List Value := [.int .i64 z]
theorem encNum_len (z : Int) : (encNum z).length = 1 := rfl
abbrev IsNums (w : World) (v : Value) (zs : List Int) : Prop := IsRec 1 encNum w v zs
abbrev NumsAt (n₀ : Nat) (w : World) (v : Value) (zs : List Int) : Prop := RecAt 2 1 encNum n₀ w v zs
theorem infoNum : (Tryz.prog.info? 2).map (fun i => (i.zero, i.size, i.bytes)) = some (some (.int .i64 0), 1, 8) := by kernel_rfl
theorem NumsAt.list {n₀ : Nat} {w : World} {v : Value} {zs : List Int} (h : NumsAt n₀ w v zs) : IsNums w v zs := RecAt.recs encNum_len (by omega) h
theorem num_cell {w : World} {b off : Nat} {zs : List Int} (h : ∀ j, j < zs.length → ∀ i u, (encNum (recAt zs j))[i]? = some u → w.cell? ⟨b, off + j * 1 + i, none⟩ = some u) {j : Nat} (hj : j < zs.length) :
  w.cell? ⟨b, off + j, none⟩ = some (.int .i64 (recAt zs j)) := by
 have := h j hj 0 _ rfl
 simpa using this
theorem szInt64S_any (a : Option Addr) (n cap : Nat) (left : Int) (hn : n ≤ 9223372036854775807) (h0 : 0 ≤ left) (h1 : left ≤ 1048576) (w : World) :
  Calls Tryz.prog 68 #[.slice a n cap, .int .i64 left] w fun e w' => e = .returned (.int .i64 (szV n left)) ∧ w' = w := by
 by_cases h : left - n < 0
 all_goals
  go_enter Tryz.func68, Tryz.ntmps68
  go_wp2
  go_ret
  exact ⟨ret_int (by first | exact (szV_f (by omega)).symm | exact (szV_t (by omega)).symm), rfl⟩
theorem toInt64S_any {w : World} {v : Value} {zs : List Int} (h : IsNums w v zs) (hs : zs.length ≤ 1048576) :
  Calls Tryz.prog 73 #[v] w fun e w' => ∃ v', e = .returned v' ∧ NumsAt w.heap.size w' v' zs ∧ Below w.heap.size w w' := by
 obtain ⟨a, cap, rfl, hc, hm, hr⟩ := h
 have Hr := hide hr
 clear hr
 obtain ⟨i0, hi, hz0, hz1, hz2⟩ := info_parts infoNum
 go_enter Tryz.func73, Tryz.ntmps73
 go_wp2_with (at_make; refine wpList_make_full _ rfl _ _ 30 rfl w.heap.size 2 i0 (.int .i64 0) 1 Tryz.underlying30 hi hz0 hz1 _ _ _ _ zs.length rfl rfl rfl rfl (by rw [hz2]; omega) (by unfold maxLen; omega) (Nat.le_refl _) ?_; intro w0 hown hgrow)
 have Hown : Hid (NumsAt w.heap.size w0 (.slice (some ⟨w.heap.size, 0, none⟩) zs.length zs.length) (fillL zs 0 0)) := hide (by
  rw [made_flat encNum_len (by omega) (0 : Int) (Value.int .i64 0).cells rfl zs.length] at hown
  rw [fillL_zero]
  show w0.ownsRow _ _ _ _ (List.replicate zs.length _).length _
  rw [List.length_replicate]
  exact hown)
 have Hgr := hide hgrow
 clear hown hgrow
 go_loopw [4] (fun i wr => ∃ k : Nat, k ≤ zs.length ∧ i = .int .i64 k ∧ NumsAt w.heap.size wr (.slice (some ⟨w.heap.size, 0, none⟩) zs.length zs.length) (fillL zs 0 k) ∧ Below w.heap.size w wr) (fun i _ => zs.length - (intOf i).toNat)
 case atStart => exact ⟨0, Nat.zero_le _, rfl, uh Hown, (Below.refl _ _).grown (uh Hgr) (Nat.le_refl _) (fun k e => by cases e)⟩
 case round =>
  obtain ⟨k, hk, rfl, hown, hb⟩ := hrel
  have Hb := hide hb
  by_cases hlt : k < zs.length
  ·rcases uh Hr with h0 | ⟨b, off, rfl, hbw, hcl⟩
   ·rw [h0] at hlt; simp at hlt
   have c0 := num_cell hcl hlt
   rw [← hb.cell (p := ⟨b, off + k, none⟩) hbw] at c0
   have HS := hide (fillL_set (z := (0 : Int)) hlt)
   have hfl := fillL_len (z := (0 : Int)) hk
   obtain ⟨g, hg, _, _, hcells, hfz⟩ := RecAt.view encNum_len (by omega) hown hfl.symm (by omega)
   cases hg
   have o0 := hcells k (by omega) 0 _ rfl
   have f0 := hfz (k * 1)
   simp only [Nat.mul_one, Nat.add_zero] at o0 f0
   have Hp2 := hide (RecAt.put encNum_len (by omega) hown hfl.symm (j := k) (by omega) (recAt zs k))
   generalize recAt zs k = z at *
   clear hcl hb hown hcells hfz hfl
   go_wp2_with fail
   go_roundw
   case rel => exact ⟨k + 1, by omega, by go_num, by have h9 := (uh Hp2).1; rw [uh HS] at h9; simpa [setW, encNum] using h9, (uh Hb).trans (below_grown (by have h9 := (uh Hp2).2; simpa [setW, encNum] using h9) (Nat.le_refl _) (by have := (uh Hb).size; omega))⟩
   case measure => exact ms
  ·obtain rfl : k = zs.length := by omega
   rw [fillL_all] at hown
   go_wp2_with fail
   go_ret
   exact ⟨_, rfl, hown, hb⟩
theorem eqNums_yes {w : World} {v u : Value} {zs : List Int} (hv : IsNums w v zs) (hu : IsNums w u zs) :
  Calls Tryz.prog 78 #[v, u] w fun e w' => e = .returned (.bool true) ∧ Below w.heap.size w w' := by
 obtain ⟨a, cap, rfl, hc, hm, hr⟩ := hv
 obtain ⟨a', cap', rfl, hc', hm', hr'⟩ := hu
 have Hr := hide hr
 have Hr' := hide hr'
 clear hr hr'
 go_enter Tryz.func78, Tryz.ntmps78
 go_wp2_with fail
 go_loopw [5] (fun i wr => ∃ k : Nat, k ≤ zs.length ∧ i = .int .i64 k ∧ Below w.heap.size w wr) (fun i _ => zs.length - (intOf i).toNat)
 case atStart => exact ⟨0, Nat.zero_le _, rfl, Below.refl _ _⟩
 case round =>
  obtain ⟨k, hk, rfl, hb⟩ := hrel
  have Hb := hide hb
  by_cases hlt : k < zs.length
  ·rcases uh Hr with h0 | ⟨b, off, rfl, hbw, hcl⟩
   ·rw [h0] at hlt; simp at hlt
   rcases uh Hr' with h0 | ⟨b', off', rfl, hbw', hcl'⟩
   ·rw [h0] at hlt; simp at hlt
   have c0 := num_cell hcl hlt
   have d0 := num_cell hcl' hlt
   rw [← hb.cell (p := ⟨b, off + k, none⟩) hbw] at c0
   rw [← hb.cell (p := ⟨b', off' + k, none⟩) hbw'] at d0
   generalize recAt zs k = z at *
   clear hcl hcl' hb
   go_wp2_with fail
   go_quiet (fail)
   go_wp2_with fail
   go_roundw
   case rel => exact ⟨k + 1, by omega, by go_num, ⟨(uh Hb).os, (uh Hb).tape, (uh Hb).output, (uh Hb).size, (uh Hb).block⟩⟩
   case measure => exact ms
  ·go_wp2_with fail
   go_ret
   exact ⟨rfl, hb⟩
def w1cell (W : World) (a : Addr) (i : Nat) (q : Int) : Prop := W.cell? (a.add i) = some (.int .i64 q)
theorem open_nums {H : Type} {enc : TypeId × Value → H} {W : World} {spare : Nat → Bool} {held : Bool} {n : Nat} {v : Value} {y : DataW H × List MemPlace}
  (h : DataW.trod enc Tryz.prog W 0 spare held n 30 [v] = some y) : ∃ zs, IsNums W v zs := by
 rcases open_slice Tryz.underlying30 h with ⟨hv, _⟩ | ⟨a, len, cap, m, n', D, Pl, hv, _, hl, hm, hmm, _, hx⟩
 ·cases hv
  exact ⟨[], none, 0, rfl, Nat.le_refl _, by omega, .inl rfl⟩
 ·cases hv
  have hlm : len ≤ m := by rw [hmm]; split <;> omega
  have ce : Tryz.prog.cellsOf 2 = 1 := by kernel_rfl
  have each : ∀ i, i < len → ∃ q : Int, w1cell W a i q := by
   intro i hi
   obtain ⟨cs, h1, h2⟩ := hx i (by omega)
   rw [ce] at h1
   obtain ⟨_, hlen, hcell⟩ := World.cells?_some h1
   obtain ⟨c, rfl⟩ : ∃ c, cs = [c] := by
    match cs, hlen with
    | [c], _ => exact ⟨c, rfl⟩
   obtain ⟨z, hz, _⟩ := DataW.trod_int Tryz.underlying2 h2
   cases hz
   have := hcell 0 (by omega)
   exact ⟨z, by simpa [w1cell, Addr.add] using this⟩
  obtain ⟨F, hF⟩ := choose_lt each
  have hlen : ((List.range len).map F).length = len := by simp
  refine ⟨(List.range len).map F, some a, cap, by rw [hlen], by rw [hlen]; exact hl, by unfold maxLen at hm; omega, ?_⟩
  by_cases hz : len = 0
  ·exact .inl (by simp [hz])
  ·have h0 : W.cell? (a.add 0) = some (.int .i64 (F 0)) := by simpa [w1cell] using hF 0 (by omega)
   have sp := World.cell?_spot h0
   have hlt := World.block_lt_of_cell? _ _ h0
   obtain ⟨b, off, spot⟩ := a
   have hspot : spot = none := by simpa [Addr.add] using sp
   subst hspot
   refine .inr ⟨b, off, rfl, by simpa [Addr.add] using hlt, fun j hj i u hu => ?_⟩
   rw [hlen] at hj
   have hat : recAt ((List.range len).map F) j = F j := by unfold recAt; simp [List.getD, hj]
   rw [hat] at hu
   have hi : i = 0 := by
    rcases Nat.eq_zero_or_pos i with h | h
    ·exact h
    ·rw [List.getElem?_eq_none (by unfold encNum; simp; omega)] at hu; cases hu
   subst hi
   have hj2 := hF j hj
   unfold w1cell at hj2
   rw [add_plain] at hj2
   simp only [encNum, List.getElem?_cons_zero, Option.some.injEq] at hu
   subst hu
   simpa using hj2
open Go.ChangeShapes Go.WideShapes Go.ChangeAt Go.RowKit Go.Sort
abbrev E11 : Array Value := #[.int .i64 0, .int .i64 0, .int .i64 0, .int .i64 0, .int .i64 0, .int .i64 0, .int .i64 0, .int .i64 0, .int .i64 0, .int .i64 0, .int .i64 0]
abbrev I11 (a b c d e f g h i j k : Int) : Array Value := #[.int .i64 a, .int .i64 b, .int .i64 c, .int .i64 d, .int .i64 e, .int .i64 f, .int .i64 g, .int .i64 h, .int .i64 i, .int .i64 j, .int .i64 k]
def Blk (w : World) (R : Nat) (t : TypeId) (cs : Array Value) : Prop := w.heap[R]? = some (.cells cs t (0, 0))
section
variable {w w' : World} {R B : Nat} {t : TypeId} {cs : Array Value}
theorem Blk.lt (h : Blk w R t cs) : R < w.heap.size := (Array.getElem?_eq_some_iff.1 h).1
theorem Blk.cell (h : Blk w R t cs) {i : Nat} {v : Value} (hi : cs[i]? = some v) : w.cell? ⟨R, i, none⟩ = some v := by simp [World.cell?, show w.heap[R]? = _ from h, hi]
theorem Blk.free (h : Blk w R t cs) (i : Nat) : w.frozen? ⟨R, i, none⟩ = false := frozen_of_row w R i cs t h
theorem Blk.new (w : World) (t : TypeId) (cs : Array Value) : Blk (w.alloc (.cells cs t)) w.heap.size t cs := by show (w.heap.push _)[w.heap.size]? = _; simp
theorem Blk.same (h : Blk w R t cs) (hs : w'.heap[R]? = w.heap[R]?) : Blk w' R t cs := hs.trans h
theorem Blk.below (h : Blk w R t cs) (hb : Below B w w') (hR : R < B) : Blk w' R t cs := h.same (hb.block R hR)
theorem Blk.alloc (h : Blk w R t cs) (o : Obj) : Blk (w.alloc o) R t cs := h.below ((Below.refl w.heap.size w).alloc (Nat.le_refl _) o) h.lt
theorem Blk.set (h : Blk w R t cs) (i : Nat) (v : Value) : Blk (w.setCell ⟨R, i, none⟩ v) R t (cs.setIfInBounds i v) := heap_setCell_same w R i cs t v h
theorem Blk.other (h : Blk w R t cs) {a : Addr} (ha : R ≠ a.block) (v : Value) : Blk (w.setCell a v) R t cs := h.same (heap_setCell_other w a R v ha)
theorem Blk.drewN (h : Blk w R t cs) (n : Nat) : Blk (w.drewN n) R t cs := h
end
theorem cell_new (w : World) {t : TypeId} {cs : Array Value} {i : Nat} {v : Value} (hi : cs[i]? = some v) : (w.alloc (.cells cs t)).cell? ⟨w.heap.size, i, none⟩ = some v := (Blk.new w t cs).cell hi
theorem Blk.c2 {w : World} {R : Nat} {t : TypeId} {v0 v1 : Value} (h : Blk w R t #[v0, v1]) : w.cell? ⟨R, 0, none⟩ = some v0 ∧ w.cell? ⟨R, 1, none⟩ = some v1 := ⟨h.cell rfl, h.cell rfl⟩
theorem Blk.c3 {w : World} {R : Nat} {t : TypeId} {v0 v1 v2 : Value} (h : Blk w R t #[v0, v1, v2]) : w.cell? ⟨R, 0, none⟩ = some v0 ∧ w.cell? ⟨R, 1, none⟩ = some v1 ∧ w.cell? ⟨R, 2, none⟩ = some v2 := ⟨h.cell rfl, h.cell rfl, h.cell rfl⟩
theorem Blk.c4 {w : World} {R : Nat} {t : TypeId} {v0 v1 v2 v3 : Value} (h : Blk w R t #[v0, v1, v2, v3]) : w.cell? ⟨R, 0, none⟩ = some v0 ∧ w.cell? ⟨R, 1, none⟩ = some v1 ∧ w.cell? ⟨R, 2, none⟩ = some v2 ∧ w.cell? ⟨R, 3, none⟩ = some v3 := ⟨h.cell rfl, h.cell rfl, h.cell rfl, h.cell rfl⟩
theorem Blk.c6 {w : World} {R : Nat} {t : TypeId} {v0 v1 v2 v3 v4 v5 : Value} (h : Blk w R t #[v0, v1, v2, v3, v4, v5]) : w.cell? ⟨R, 0, none⟩ = some v0 ∧ w.cell? ⟨R, 1, none⟩ = some v1 ∧ w.cell? ⟨R, 2, none⟩ = some v2 ∧ w.cell? ⟨R, 3, none⟩ = some v3 ∧ w.cell? ⟨R, 4, none⟩ = some v4 ∧ w.cell? ⟨R, 5, none⟩ = some v5 := ⟨h.cell rfl, h.cell rfl, h.cell rfl, h.cell rfl, h.cell rfl, h.cell rfl⟩
theorem Blk.c11 {w : World} {R : Nat} {t : TypeId} {v0 v1 v2 v3 v4 v5 v6 v7 v8 v9 v10 : Value} (h : Blk w R t #[v0, v1, v2, v3, v4, v5, v6, v7, v8, v9, v10]) : w.cell? ⟨R, 0, none⟩ = some v0 ∧ w.cell? ⟨R, 1, none⟩ = some v1 ∧ w.cell? ⟨R, 2, none⟩ = some v2 ∧ w.cell? ⟨R, 3, none⟩ = some v3 ∧ w.cell? ⟨R, 4, none⟩ = some v4 ∧ w.cell? ⟨R, 5, none⟩ = some v5 ∧ w.cell? ⟨R, 6, none⟩ = some v6 ∧ w.cell? ⟨R, 7, none⟩ = some v7 ∧ w.cell? ⟨R, 8, none⟩ = some v8 ∧ w.cell? ⟨R, 9, none⟩ = some v9 ∧ w.cell? ⟨R, 10, none⟩ = some v10 := ⟨h.cell rfl, h.cell rfl, h.cell rfl, h.cell rfl, h.cell rfl, h.cell rfl, h.cell rfl, h.cell rfl, h.cell rfl, h.cell rfl, h.cell rfl⟩
theorem bl {w w' : World} {R : Nat} {t : TypeId} {cs : Array Value} (h : Hid (Blk w R t cs)) (hb : Below w.heap.size w w') : Hid (Blk w' R t cs) := hide ((uh h).below hb (uh h).lt)
theorem bt {w a b : World} (h : Hid (Below w.heap.size w a)) (hb : Below a.heap.size a b) : Hid (Below w.heap.size w b) := hide ((uh h).trans (hb.mono (uh h).size))
theorem Blk.f3 {w : World} {R : Nat} {t : TypeId} {cs : Array Value} (h : Blk w R t cs) : w.frozen? ⟨R, 0, none⟩ = false ∧ w.frozen? ⟨R, 1, none⟩ = false ∧ w.frozen? ⟨R, 2, none⟩ = false := ⟨h.free 0, h.free 1, h.free 2⟩
theorem Blk.f4 {w : World} {R : Nat} {t : TypeId} {cs : Array Value} (h : Blk w R t cs) : w.frozen? ⟨R, 0, none⟩ = false ∧ w.frozen? ⟨R, 1, none⟩ = false ∧ w.frozen? ⟨R, 2, none⟩ = false ∧ w.frozen? ⟨R, 3, none⟩ = false := ⟨h.free 0, h.free 1, h.free 2, h.free 3⟩
theorem Blk.f6 {w : World} {R : Nat} {t : TypeId} {cs : Array Value} (h : Blk w R t cs) : w.frozen? ⟨R, 0, none⟩ = false ∧ w.frozen? ⟨R, 1, none⟩ = false ∧ w.frozen? ⟨R, 2, none⟩ = false ∧ w.frozen? ⟨R, 3, none⟩ = false ∧ w.frozen? ⟨R, 4, none⟩ = false ∧ w.frozen? ⟨R, 5, none⟩ = false := ⟨h.free 0, h.free 1, h.free 2, h.free 3, h.free 4, h.free 5⟩
theorem Blk.f11 {w : World} {R : Nat} {t : TypeId} {cs : Array Value} (h : Blk w R t cs) : w.frozen? ⟨R, 0, none⟩ = false ∧ w.frozen? ⟨R, 1, none⟩ = false ∧ w.frozen? ⟨R, 2, none⟩ = false ∧ w.frozen? ⟨R, 3, none⟩ = false ∧ w.frozen? ⟨R, 4, none⟩ = false ∧ w.frozen? ⟨R, 5, none⟩ = false ∧ w.frozen? ⟨R, 6, none⟩ = false ∧ w.frozen? ⟨R, 7, none⟩ = false ∧ w.frozen? ⟨R, 8, none⟩ = false ∧ w.frozen? ⟨R, 9, none⟩ = false ∧ w.frozen? ⟨R, 10, none⟩ = false := ⟨h.free 0, h.free 1, h.free 2, h.free 3, h.free 4, h.free 5, h.free 6, h.free 7, h.free 8, h.free 9, h.free 10⟩
theorem two_boxes (w : World) (t : TypeId) (cs : Array Value) (u : TypeId) (ds : Array Value) : ∃ W, (w.alloc (.cells cs t)).alloc (.cells ds u) = W ∧ Hid (Blk W w.heap.size t cs) ∧ Hid (Blk W (w.heap.size + 1) u ds) ∧ Hid (Below w.heap.size w W) := by
 refine ⟨_, rfl, hide ((Blk.new w _ _).alloc _), hide ?_, hide (((ba _ _)).alloc (by simp) _)⟩
 have k := Blk.new (w.alloc (.cells cs t)) u ds
 rw [World.size_alloc] at k
 exact k
theorem three_boxes (w : World) (t : TypeId) (cs : Array Value) (u : TypeId) (ds : Array Value) (v : TypeId) (es : Array Value) : ∃ W, ((w.alloc (.cells cs t)).alloc (.cells ds u)).alloc (.cells es v) = W ∧ Hid (Blk W w.heap.size t cs) ∧ Hid (Blk W (w.heap.size + 1) u ds) ∧ Hid (Blk W (w.heap.size + 1 + 1) v es) ∧ Hid (Below w.heap.size w W) := by
 refine ⟨_, rfl, hide (((Blk.new w _ _).alloc _).alloc _), hide ?_, hide ?_, hide ((((ba _ _)).alloc (by simp) _).alloc (by simp; omega) _)⟩
 ·have k := (Blk.new (w.alloc (.cells cs t)) u ds).alloc (.cells es v)
  rw [World.size_alloc] at k
  exact k
 ·have k := Blk.new ((w.alloc (.cells cs t)).alloc (.cells ds u)) v es
  rw [World.size_alloc, World.size_alloc] at k
  exact k
theorem one_boxH (w : World) (t : TypeId) (cs : Array Value) : ∃ W, w.alloc (.cells cs t) = W ∧ Hid (Below w.heap.size w W) ∧ Hid (Blk W w.heap.size t cs) := ⟨_, rfl, hide ((ba _ _)), hide (Blk.new _ _ _)⟩
theorem one_box0 (w : World) (t : TypeId) (cs : Array Value) : Hid (Below w.heap.size w (w.alloc (.cells cs t))) ∧ Hid (Blk (w.alloc (.cells cs t)) w.heap.size t cs) := ⟨hide ((ba _ _)), hide (Blk.new _ _ _)⟩
theorem one_box (w : World) (t : TypeId) (cs : Array Value) : ∃ W, w.alloc (.cells cs t) = W ∧ Below w.heap.size w W ∧ Hid (Blk W w.heap.size t cs) := ⟨_, rfl, (ba _ _), hide (Blk.new _ _ _)⟩
end Go.Proofs.YtffcgajndmhpkaaGreatDoor
namespace Go.Proofs.YtffcgajndmhpkaaGreatDoor
open Go.ChangeShapes Go.WideShapes Go.ChangeAt Go.RowKit Go.Sort
set_option linter.unusedVariables false
structure SmyV where
 rooms : List RoomV
 guilds : List GuildV
 smiths : List SmithV
 desks : List DeskV
 paces : List Int
 now : Int
structure Smy (w : World) (v0 v1 v2 v3 v4 : Value) (m : SmyV) : Prop where
 rooms : IsRooms w v0 m.rooms
 guilds : IsGuilds w v1 m.guilds
 smiths : IsSmiths w v2 m.smiths
 desks : IsDesks w v3 m.desks
 paces : IsNums w v4 m.paces
theorem Smy.below {w w' : World} {v0 v1 v2 v3 v4 : Value} {m : SmyV} (h : Smy w v0 v1 v2 v3 v4 m) (hb : Below w.heap.size w w') : Smy w' v0 v1 v2 v3 v4 m :=
 ⟨h.rooms.below hb, h.guilds.below hb, h.smiths.below hb, h.desks.below hb, h.paces.below hb⟩
theorem Smy.alloc {w : World} {v0 v1 v2 v3 v4 : Value} {m : SmyV} (h : Smy w v0 v1 v2 v3 v4 m) (o : Obj) : Smy (w.alloc o) v0 v1 v2 v3 v4 m := h.below ((ba _ _))
structure SmySmall (m : SmyV) : Prop where
 rooms : Small m.rooms
 guilds : m.guilds.length ≤ 1048576
 smiths : m.smiths.length ≤ 1048576
 desks : m.desks.length ≤ 1048576
 paces : m.paces.length ≤ 1048576
theorem RoomsFrom.below {n₀ : Nat} {w w' : World} {v : Value} {rs : List RoomV} (h : RoomsFrom n₀ w v rs) (hb : Below w.heap.size w w') : RoomsFrom n₀ w' v rs := by
 obtain ⟨a, cap, hv, hc, hm, hr⟩ := h
 refine ⟨a, cap, hv, hc, hm, ?_⟩
 rcases hr with hr | ⟨b, off, ha, h0, hlt, hcl⟩
 ·exact .inl hr
 ·have hs := hb.size
  refine .inr ⟨b, off, ha, h0, by omega, fun k hk => ?_⟩
  obtain ⟨c0, pv, c1, hp, hj⟩ := hcl k hk
  exact ⟨(hb.cell (p := ⟨b, off + k * 2, none⟩) hlt).trans c0, pv, (hb.cell (p := ⟨b, off + k * 2 + 1, none⟩) hlt).trans c1, hp.below hb, hj⟩
theorem RoomsFrom.mono {n₀ n₁ : Nat} {w : World} {v : Value} {rs : List RoomV} (h : RoomsFrom n₀ w v rs) (hn : n₁ ≤ n₀) : RoomsFrom n₁ w v rs := by
 obtain ⟨a, cap, hv, hc, hm, hr⟩ := h
 refine ⟨a, cap, hv, hc, hm, ?_⟩
 rcases hr with hr | ⟨b, off, ha, h0, hlt, hcl⟩
 ·exact .inl hr
 ·refine .inr ⟨b, off, ha, by omega, hlt, fun k hk => ?_⟩
  obtain ⟨c0, pv, c1, hp, hj⟩ := hcl k hk
  exact ⟨c0, pv, c1, hp, fun j e => by have := hj j e; omega⟩
theorem RecAt.set_old {α : Type} {t k : Nat} {enc : α → List Value} {n₀ : Nat} {w : World} {v : Value} {xs : List α} (h : RecAt t k enc n₀ w v xs) (g o : Nat) (u : Value) (hg : g < n₀) : RecAt t k enc n₀ (w.setCell ⟨g, o, none⟩ u) v xs :=
 h.same fun i hi => heap_setCell_other w _ i u (by have := (h.lt hi).1; show i ≠ g; omega)
structure OwnSmy (n₀ : Nat) (w : World) (v0 v1 v2 v3 v4 : Value) (m : SmyV) : Prop where
 rooms : RoomsFrom n₀ w v0 m.rooms
 guilds : GuildsAt n₀ w v1 m.guilds
 smiths : SmithsAt n₀ w v2 m.smiths
 desks : DesksAt n₀ w v3 m.desks
 paces : NumsAt n₀ w v4 m.paces
theorem OwnSmy.smy {n₀ : Nat} {w : World} {v0 v1 v2 v3 v4 : Value} {m : SmyV} (h : OwnSmy n₀ w v0 v1 v2 v3 v4 m) : Smy w v0 v1 v2 v3 v4 m := ⟨h.rooms.rooms, h.guilds.list, h.smiths.list, h.desks.list, h.paces.list⟩
theorem OwnSmy.mono {n₀ n₁ : Nat} {w : World} {v0 v1 v2 v3 v4 : Value} {m : SmyV} (h : OwnSmy n₀ w v0 v1 v2 v3 v4 m) (hn : n₁ ≤ n₀) : OwnSmy n₁ w v0 v1 v2 v3 v4 m :=
 ⟨h.rooms.mono hn, RecAt.mono h.guilds hn, RecAt.mono h.smiths hn, RecAt.mono h.desks hn, RecAt.mono h.paces hn⟩
theorem OwnSmy.set {n₀ : Nat} {w : World} {v0 v1 v2 v3 v4 : Value} {m : SmyV} (h : OwnSmy n₀ w v0 v1 v2 v3 v4 m) (g o : Nat) (u : Value) (hg : g < n₀) : OwnSmy n₀ (w.setCell ⟨g, o, none⟩ u) v0 v1 v2 v3 v4 m :=
 ⟨h.rooms.set g o u hg, RecAt.set_old h.guilds g o u hg, RecAt.set_old h.smiths g o u hg, RecAt.set_old h.desks g o u hg, RecAt.set_old h.paces g o u hg⟩
abbrev E6 : Array Value := #[.slice none 0 0, .slice none 0 0, .slice none 0 0, .slice none 0 0, .slice none 0 0, .int .i64 0]
abbrev S6 (a0 : Option Addr) (p0 : Nat) (a1 : Option Addr) (p1 : Nat) (a2 : Option Addr) (p2 : Nat) (a3 : Option Addr) (p3 : Nat) (a4 : Option Addr) (p4 : Nat) (m : SmyV) : Array Value := #[.slice a0 m.rooms.length p0, .slice a1 m.guilds.length p1, .slice a2 m.smiths.length p2, .slice a3 m.desks.length p3, .slice a4 m.paces.length p4, .int .i64 m.now]
theorem Smy.five {w : World} {v0 v1 v2 v3 v4 : Value} {m : SmyV} (h : Smy w v0 v1 v2 v3 v4 m) : ∃ a0 p0 a1 p1 a2 p2 a3 p3 a4 p4, v0 = .slice a0 m.rooms.length p0 ∧ v1 = .slice a1 m.guilds.length p1 ∧ v2 = .slice a2 m.smiths.length p2 ∧ v3 = .slice a3 m.desks.length p3 ∧ v4 = .slice a4 m.paces.length p4 ∧ m.rooms.length ≤ p0 ∧ p0 ≤ 9223372036854775807 ∧ m.guilds.length ≤ p1 ∧ p1 ≤ 9223372036854775807 ∧ m.smiths.length ≤ p2 ∧ p2 ≤ 9223372036854775807 ∧ m.desks.length ≤ p3 ∧ p3 ≤ 9223372036854775807 ∧ m.paces.length ≤ p4 ∧ p4 ≤ 9223372036854775807 := by
 obtain ⟨a0, p0, e0, x0, y0, _⟩ := h.rooms
 obtain ⟨a1, p1, e1, x1, y1, _⟩ := h.guilds
 obtain ⟨a2, p2, e2, x2, y2, _⟩ := h.smiths
 obtain ⟨a3, p3, e3, x3, y3, _⟩ := h.desks
 obtain ⟨a4, p4, e4, x4, y4, _⟩ := h.paces
 exact ⟨a0, p0, a1, p1, a2, p2, a3, p3, a4, p4, e0, e1, e2, e3, e4, x0, y0, x1, y1, x2, y2, x3, y3, x4, y4⟩
theorem szHall_le {w : World} {v : Value} {rs : List RoomV} (h : IsRooms w v rs) (left : Int) (h0 : 0 ≤ left) (h1 : left ≤ 1048576) :
  Calls Tryz.prog 64 #[.agg #[v], .int .i64 left] w fun e w' => ∃ x : Int, e = .returned (.int .i64 x) ∧ x ≤ 1048576 ∧ (0 ≤ x → Small rs) ∧ Below w.heap.size w w' := by
 have Hv := hide h
 obtain ⟨a, cap, rfl, hc, hm, hr⟩ := h
 clear hr
 go_enter Tryz.func64, Tryz.ntmps64
 go_wp2_with fail
 refine (szRoomS_any ((uh Hv).alloc _) left h0 h1).mono ?_
 rintro e w1 ⟨x, rfl, x1, hx, hb⟩
 have Hx := hide hx
 have Hb := hide hb
 clear hx hb
 by_cases hx0 : x < 0
 ·go_wp2_with fail
  go_ret
  exact ⟨-1, rfl, by omega, fun h => by omega, ((ba _ _)).trans ((uh Hb).mono (by simp))⟩
 ·go_wp2_with fail
  go_ret
  exact ⟨x, rfl, x1, uh Hx, ((ba _ _)).trans ((uh Hb).mono (by simp))⟩
theorem szSmithy_any {w : World} {v0 v1 v2 v3 v4 : Value} {m : SmyV} (h : Smy w v0 v1 v2 v3 v4 m) :
  Calls Tryz.prog 25 #[.agg #[v0, v1, v2, v3, v4, .int .i64 m.now], .int .i64 1048576] w fun e w' => ∃ x : Int, e = .returned (.int .i64 x) ∧ (0 ≤ x → SmySmall m) ∧ Below w.heap.size w w' := by
 have Hv := hide h
 obtain ⟨a0, p0, rfl, _, _⟩ := IsRooms.shape h.rooms
 obtain ⟨a1, p1, rfl, hc1, hm1⟩ := IsRec.shape h.guilds
 obtain ⟨a2, p2, rfl, hc2, hm2⟩ := IsRec.shape h.smiths
 obtain ⟨a3, p3, rfl, hc3, hm3⟩ := IsRec.shape h.desks
 obtain ⟨a4, p4, rfl, hc4, hm4⟩ := IsRec.shape h.paces
 clear h
 go_enter Tryz.func25, Tryz.ntmps25
 go_wp2_with fail
 refine (szHall_le ((uh Hv).alloc _).rooms _ (by omega) (by omega)).mono ?_
 rintro e w1 ⟨x, rfl, x1, hx, hb⟩
 have kb : Hid (Blk w1 w.heap.size 61 (S6 a0 p0 a1 p1 a2 p2 a3 p3 a4 p4 m)) := hide ((Blk.new w _ _).below hb (by simp))
 have BB : Hid (Below w.heap.size w w1) := hide (((ba _ _)).trans (hb.mono (by simp)))
 have Hx := hide hx
 clear hx hb
 have c1 := (uh kb).cell (i := 1) (v := .slice a1 m.guilds.length p1) rfl
 have c2 := (uh kb).cell (i := 2) (v := .slice a2 m.smiths.length p2) rfl
 have c3 := (uh kb).cell (i := 3) (v := .slice a3 m.desks.length p3) rfl
 have c4 := (uh kb).cell (i := 4) (v := .slice a4 m.paces.length p4) rfl
 by_cases hx0 : x < 0
 ·go_wp2_with fail
  go_ret
  exact ⟨-1, rfl, fun h => by omega, uh BB⟩
 go_wp2_with fail
 refine (szGuildS_any _ _ _ _ (by omega) (by omega) (by omega) _).mono ?_
 by_cases g0 : x - (m.guilds.length : Int) < 0
 ·rw [szV_f g0]
  rintro e w' ⟨rfl, h9⟩
  subst w'
  go_wp2_with fail
  go_ret
  exact ⟨-1, rfl, fun h => by omega, uh BB⟩
 rw [szV_t g0]
 rintro e w' ⟨rfl, h9⟩
 subst w'
 go_wp2_with fail
 refine (szSmithS_any _ _ _ _ (by omega) (by omega) (by omega) _).mono ?_
 by_cases g1 : x - (m.guilds.length : Int) - (m.smiths.length : Int) < 0
 ·rw [szV_f g1]
  rintro e w' ⟨rfl, h9⟩
  subst w'
  go_wp2_with fail
  go_ret
  exact ⟨-1, rfl, fun h => by omega, uh BB⟩
 rw [szV_t g1]
 rintro e w' ⟨rfl, h9⟩
 subst w'
 go_wp2_with fail
 refine (szDeskS_any _ _ _ _ (by omega) (by omega) (by omega) _).mono ?_
 by_cases g2 : x - (m.guilds.length : Int) - (m.smiths.length : Int) - (m.desks.length : Int) < 0
 ·rw [szV_f g2]
  rintro e w' ⟨rfl, h9⟩
  subst w'
  go_wp2_with fail
  go_ret
  exact ⟨-1, rfl, fun h => by omega, uh BB⟩
 rw [szV_t g2]
 rintro e w' ⟨rfl, h9⟩
 subst w'
 go_wp2_with fail
 refine (szInt64S_any _ _ _ _ (by omega) (by omega) (by omega) _).mono ?_
 by_cases g3 : x - (m.guilds.length : Int) - (m.smiths.length : Int) - (m.desks.length : Int) - (m.paces.length : Int) < 0
 ·rw [szV_f g3]
  rintro e w' ⟨rfl, h9⟩
  subst w'
  go_wp2_with fail
  go_ret
  exact ⟨-1, rfl, fun h => by omega, uh BB⟩
 rw [szV_t g3]
 rintro e w' ⟨rfl, h9⟩
 subst w'
 go_wp2_with fail
 go_ret
 exact ⟨_, rfl, fun _ => ⟨uh Hx (by omega), by omega, by omega, by omega, by omega⟩, uh BB⟩
theorem toHall_own {w : World} {v : Value} {rs : List RoomV} (h : IsRooms w v rs) (hs : Small rs) :
  Calls Tryz.prog 69 #[.agg #[v]] w fun e w' => ∃ v', e = .returned (.agg #[v']) ∧ RoomsFrom w.heap.size w' v' rs ∧ Below w.heap.size w w' := by
 have Hv := hide h
 obtain ⟨a, cap, rfl, hc, hm, hr⟩ := h
 clear hr
 have Hb0 : Hid (∀ o1 o2 o3 : Obj, Below w.heap.size w (((w.alloc o1).alloc o2).alloc o3)) := hide (fun o1 o2 o3 => (((ba _ _)).alloc (by simp) _).alloc (by simp; omega) _)
 go_enter Tryz.func69, Tryz.ntmps69
 go_wp2_with fail
 refine (toRoomS_any ((uh Hv).below (uh Hb0 _ _ _)) hs).mono ?_
 rintro e w1 ⟨v', rfl, hp, hb1⟩
 simp only [World.size_alloc] at hp
 have hsz : w.heap.size + 3 ≤ w1.heap.size := by have := hb1.size; simp at this; omega
 obtain ⟨cc, ff⟩ := bcell hb1
 have x0 := cc (w.heap.size + 2) 0 (by simp)
 have y0 := cc (w.heap.size + 1) 0 (by simp)
 have fx0 := ff (w.heap.size + 2) 0 (by simp)
 have fy0 := ff (w.heap.size + 1) 0 (by simp)
 have Hp := hide hp
 have Hb1 := hide hb1
 obtain ⟨a', cap', rfl, _⟩ := hp
 clear cc ff hb1
 go_wp2_with fail
 have B1 : Below w.heap.size w w1 := (uh Hb0 _ _ _).trans ((uh Hb1).mono (by simp; omega))
 refine bodyPost_ret (v := .agg #[.slice a' rs.length cap']) (by simp [results, Tryz.results69, go_sem, *]) rfl ⟨_, rfl, ?_, ?_⟩
 ·exact (((uh Hp).set _ _ _ (by omega)).set _ _ _ (by omega)).mono (by omega)
 ·exact (B1.setCell (by show _ ≤ w.heap.size + 1 + 1; omega) _).setCell (by show _ ≤ w.heap.size + 1; omega) _
theorem toSmithy_any {w : World} {v0 v1 v2 v3 v4 : Value} {m : SmyV} (h : Smy w v0 v1 v2 v3 v4 m) (hs : SmySmall m) :
  Calls Tryz.prog 26 #[.agg #[v0, v1, v2, v3, v4, .int .i64 m.now]] w fun e w' => ∃ u0 u1 u2 u3 u4, e = .returned (.agg #[u0, u1, u2, u3, u4, .int .i64 m.now]) ∧ OwnSmy w.heap.size w' u0 u1 u2 u3 u4 m ∧ Below w.heap.size w w' := by
 have Hv := hide h
 have Hs := hide hs
 obtain ⟨a0, p0, rfl, _, _⟩ := IsRooms.shape h.rooms
 obtain ⟨a1, p1, rfl, hc1, hm1⟩ := IsRec.shape h.guilds
 obtain ⟨a2, p2, rfl, hc2, hm2⟩ := IsRec.shape h.smiths
 obtain ⟨a3, p3, rfl, hc3, hm3⟩ := IsRec.shape h.desks
 obtain ⟨a4, p4, rfl, hc4, hm4⟩ := IsRec.shape h.paces
 clear h hs
 go_enter Tryz.func26, Tryz.ntmps26
 go_wp2_with fail
 have BB : Hid (Below w.heap.size w (((w.alloc (.cells (S6 a0 p0 a1 p1 a2 p2 a3 p3 a4 p4 m) 61)).alloc (.cells E6 32)).alloc (.cells E6 32))) := hide ((((ba _ _)).alloc (by simp) _).alloc (by simp; omega) _)
 have ka : Hid (Blk (((w.alloc (.cells (S6 a0 p0 a1 p1 a2 p2 a3 p3 a4 p4 m) 61)).alloc (.cells E6 32)).alloc (.cells E6 32)) w.heap.size 61 (S6 a0 p0 a1 p1 a2 p2 a3 p3 a4 p4 m)) := hide (((Blk.new w _ _).alloc _).alloc _)
 have kr : Hid (Blk (((w.alloc (.cells (S6 a0 p0 a1 p1 a2 p2 a3 p3 a4 p4 m) 61)).alloc (.cells E6 32)).alloc (.cells E6 32)) (w.heap.size + 1) 32 E6) := hide (by
  have k := Blk.new (w.alloc (.cells (S6 a0 p0 a1 p1 a2 p2 a3 p3 a4 p4 m) 61)) 32 E6
  rw [World.size_alloc] at k
  exact k.alloc _)
 have ko : Hid (Blk (((w.alloc (.cells (S6 a0 p0 a1 p1 a2 p2 a3 p3 a4 p4 m) 61)).alloc (.cells E6 32)).alloc (.cells E6 32)) (w.heap.size + 1 + 1) 32 E6) := hide (by
  have k := Blk.new ((w.alloc (.cells (S6 a0 p0 a1 p1 a2 p2 a3 p3 a4 p4 m) 61)).alloc (.cells E6 32)) 32 E6
  rw [World.size_alloc, World.size_alloc] at k
  exact k)
 generalize ((w.alloc (.cells (S6 a0 p0 a1 p1 a2 p2 a3 p3 a4 p4 m) 61)).alloc (.cells E6 32)).alloc (.cells E6 32) = W at *
 have hW : w.heap.size + 3 ≤ W.heap.size := by have := (uh ko).lt; omega
 refine (toHall_own ((uh Hv).below (uh BB)).rooms (uh Hs).rooms).mono ?_
 rintro e w1 ⟨u0, rfl, hp, hb⟩
 have n0 : Hid (RoomsFrom (w.heap.size + 3) w1 u0 m.rooms) := hide (hp.mono hW)
 replace ka := bl ka hb
 replace kr := bl kr hb
 replace ko := bl ko hb
 replace BB := bt BB hb
 have hW2 : w.heap.size + 3 ≤ w1.heap.size := by have := hb.size; omega
 obtain ⟨b0, q0, rfl, _⟩ := hp
 clear hb
 have o0 := (uh ko).cell (i := 0) (v := .slice none 0 0) rfl
 have f0 := (uh ko).free 0
 have c1 := (uh ka).cell (i := 1) (v := .slice a1 m.guilds.length p1) rfl
 go_wp2_with fail
 replace ka : Hid (Blk (w1.setCell ⟨w.heap.size + 1 + 1, 0, none⟩ (.slice b0 m.rooms.length q0)) w.heap.size 61 (S6 a0 p0 a1 p1 a2 p2 a3 p3 a4 p4 m)) := hide ((uh ka).other (a := ⟨w.heap.size + 1 + 1, 0, none⟩) (by show w.heap.size ≠ w.heap.size + 1 + 1; omega) _)
 replace kr : Hid (Blk (w1.setCell ⟨w.heap.size + 1 + 1, 0, none⟩ (.slice b0 m.rooms.length q0)) (w.heap.size + 1) 32 E6) := hide ((uh kr).other (a := ⟨w.heap.size + 1 + 1, 0, none⟩) (by show w.heap.size + 1 ≠ w.heap.size + 1 + 1; omega) _)
 replace ko : Hid (Blk (w1.setCell ⟨w.heap.size + 1 + 1, 0, none⟩ (.slice b0 m.rooms.length q0)) (w.heap.size + 1 + 1) 32 #[.slice b0 m.rooms.length q0, .slice none 0 0, .slice none 0 0, .slice none 0 0, .slice none 0 0, .int .i64 0]) := hide ((uh ko).set 0 _)
 replace n0 := hide ((uh n0).set (w.heap.size + 1 + 1) 0 (.slice b0 m.rooms.length q0) (by omega))
 replace BB : Hid (Below w.heap.size w (w1.setCell ⟨w.heap.size + 1 + 1, 0, none⟩ (.slice b0 m.rooms.length q0))) := hide ((uh BB).setCell (p := ⟨w.heap.size + 1 + 1, 0, none⟩) (by show w.heap.size ≤ w.heap.size + 1 + 1; omega) _)
 have hW3 : w.heap.size + 3 ≤ (w1.setCell ⟨w.heap.size + 1 + 1, 0, none⟩ (.slice b0 m.rooms.length q0)).heap.size := by have := (uh ko).lt; omega
 clear o0 f0 c1 hW hW2
 generalize (w1.setCell ⟨w.heap.size + 1 + 1, 0, none⟩ (.slice b0 m.rooms.length q0)) = W at *
 have hW := hW3
 clear hW3
 refine (toGuildS_any ((uh Hv).below (uh BB)).guilds (uh Hs).guilds).mono ?_
 rintro e w2 ⟨u1, rfl, hp, hb⟩
 have n1 : Hid (GuildsAt (w.heap.size + 3) w2 u1 m.guilds) := hide (RecAt.mono hp hW)
 replace n0 := hide ((uh n0).below hb)
 replace ka := bl ka hb
 replace kr := bl kr hb
 replace ko := bl ko hb
 replace BB := bt BB hb
 have hW2 : w.heap.size + 3 ≤ w2.heap.size := by have := hb.size; omega
 obtain ⟨b1, q1, rfl⟩ := RecAt.shape hp
 clear hp hb
 have o1 := (uh ko).cell (i := 1) (v := .slice none 0 0) rfl
 have f1 := (uh ko).free 1
 have c2 := (uh ka).cell (i := 2) (v := .slice a2 m.smiths.length p2) rfl
 go_wp2_with fail
 replace ka : Hid (Blk (w2.setCell ⟨w.heap.size + 1 + 1, 1, none⟩ (.slice b1 m.guilds.length q1)) w.heap.size 61 (S6 a0 p0 a1 p1 a2 p2 a3 p3 a4 p4 m)) := hide ((uh ka).other (a := ⟨w.heap.size + 1 + 1, 1, none⟩) (by show w.heap.size ≠ w.heap.size + 1 + 1; omega) _)
 replace kr : Hid (Blk (w2.setCell ⟨w.heap.size + 1 + 1, 1, none⟩ (.slice b1 m.guilds.length q1)) (w.heap.size + 1) 32 E6) := hide ((uh kr).other (a := ⟨w.heap.size + 1 + 1, 1, none⟩) (by show w.heap.size + 1 ≠ w.heap.size + 1 + 1; omega) _)
 replace ko : Hid (Blk (w2.setCell ⟨w.heap.size + 1 + 1, 1, none⟩ (.slice b1 m.guilds.length q1)) (w.heap.size + 1 + 1) 32 #[.slice b0 m.rooms.length q0, .slice b1 m.guilds.length q1, .slice none 0 0, .slice none 0 0, .slice none 0 0, .int .i64 0]) := hide ((uh ko).set 1 _)
 replace n0 := hide ((uh n0).set (w.heap.size + 1 + 1) 1 (.slice b1 m.guilds.length q1) (by omega))
 replace n1 := hide (RecAt.set_old (uh n1) (w.heap.size + 1 + 1) 1 (.slice b1 m.guilds.length q1) (by omega))
 replace BB : Hid (Below w.heap.size w (w2.setCell ⟨w.heap.size + 1 + 1, 1, none⟩ (.slice b1 m.guilds.length q1))) := hide ((uh BB).setCell (p := ⟨w.heap.size + 1 + 1, 1, none⟩) (by show w.heap.size ≤ w.heap.size + 1 + 1; omega) _)
 have hW3 : w.heap.size + 3 ≤ (w2.setCell ⟨w.heap.size + 1 + 1, 1, none⟩ (.slice b1 m.guilds.length q1)).heap.size := by have := (uh ko).lt; omega
 clear o1 f1 c2 hW hW2
 generalize (w2.setCell ⟨w.heap.size + 1 + 1, 1, none⟩ (.slice b1 m.guilds.length q1)) = W at *
 have hW := hW3
 clear hW3
 refine (toSmithS_any ((uh Hv).below (uh BB)).smiths (uh Hs).smiths).mono ?_
 rintro e w3 ⟨u2, rfl, hp, hb⟩
 have n2 : Hid (SmithsAt (w.heap.size + 3) w3 u2 m.smiths) := hide (RecAt.mono hp hW)
 replace n0 := hide ((uh n0).below hb)
 replace n1 := hide (RecAt.later (uh n1) hb)
 replace ka := bl ka hb
 replace kr := bl kr hb
 replace ko := bl ko hb
 replace BB := bt BB hb
 have hW2 : w.heap.size + 3 ≤ w3.heap.size := by have := hb.size; omega
 obtain ⟨b2, q2, rfl⟩ := RecAt.shape hp
 clear hp hb
 have o2 := (uh ko).cell (i := 2) (v := .slice none 0 0) rfl
 have f2 := (uh ko).free 2
 have c3 := (uh ka).cell (i := 3) (v := .slice a3 m.desks.length p3) rfl
 go_wp2_with fail
 replace ka : Hid (Blk (w3.setCell ⟨w.heap.size + 1 + 1, 2, none⟩ (.slice b2 m.smiths.length q2)) w.heap.size 61 (S6 a0 p0 a1 p1 a2 p2 a3 p3 a4 p4 m)) := hide ((uh ka).other (a := ⟨w.heap.size + 1 + 1, 2, none⟩) (by show w.heap.size ≠ w.heap.size + 1 + 1; omega) _)
 replace kr : Hid (Blk (w3.setCell ⟨w.heap.size + 1 + 1, 2, none⟩ (.slice b2 m.smiths.length q2)) (w.heap.size + 1) 32 E6) := hide ((uh kr).other (a := ⟨w.heap.size + 1 + 1, 2, none⟩) (by show w.heap.size + 1 ≠ w.heap.size + 1 + 1; omega) _)
 replace ko : Hid (Blk (w3.setCell ⟨w.heap.size + 1 + 1, 2, none⟩ (.slice b2 m.smiths.length q2)) (w.heap.size + 1 + 1) 32 #[.slice b0 m.rooms.length q0, .slice b1 m.guilds.length q1, .slice b2 m.smiths.length q2, .slice none 0 0, .slice none 0 0, .int .i64 0]) := hide ((uh ko).set 2 _)
 replace n0 := hide ((uh n0).set (w.heap.size + 1 + 1) 2 (.slice b2 m.smiths.length q2) (by omega))
 replace n1 := hide (RecAt.set_old (uh n1) (w.heap.size + 1 + 1) 2 (.slice b2 m.smiths.length q2) (by omega))
 replace n2 := hide (RecAt.set_old (uh n2) (w.heap.size + 1 + 1) 2 (.slice b2 m.smiths.length q2) (by omega))
 replace BB : Hid (Below w.heap.size w (w3.setCell ⟨w.heap.size + 1 + 1, 2, none⟩ (.slice b2 m.smiths.length q2))) := hide ((uh BB).setCell (p := ⟨w.heap.size + 1 + 1, 2, none⟩) (by show w.heap.size ≤ w.heap.size + 1 + 1; omega) _)
 have hW3 : w.heap.size + 3 ≤ (w3.setCell ⟨w.heap.size + 1 + 1, 2, none⟩ (.slice b2 m.smiths.length q2)).heap.size := by have := (uh ko).lt; omega
 clear o2 f2 c3 hW hW2
 generalize (w3.setCell ⟨w.heap.size + 1 + 1, 2, none⟩ (.slice b2 m.smiths.length q2)) = W at *
 have hW := hW3
 clear hW3
 refine (toDeskS_any ((uh Hv).below (uh BB)).desks (uh Hs).desks).mono ?_
 rintro e w4 ⟨u3, rfl, hp, hb⟩
 have n3 : Hid (DesksAt (w.heap.size + 3) w4 u3 m.desks) := hide (RecAt.mono hp hW)
 replace n0 := hide ((uh n0).below hb)
 replace n1 := hide (RecAt.later (uh n1) hb)
 replace n2 := hide (RecAt.later (uh n2) hb)
 replace ka := bl ka hb
 replace kr := bl kr hb
 replace ko := bl ko hb
 replace BB := bt BB hb
 have hW2 : w.heap.size + 3 ≤ w4.heap.size := by have := hb.size; omega
 obtain ⟨b3, q3, rfl⟩ := RecAt.shape hp
 clear hp hb
 have o3 := (uh ko).cell (i := 3) (v := .slice none 0 0) rfl
 have f3 := (uh ko).free 3
 have c4 := (uh ka).cell (i := 4) (v := .slice a4 m.paces.length p4) rfl
 go_wp2_with fail
 replace ka : Hid (Blk (w4.setCell ⟨w.heap.size + 1 + 1, 3, none⟩ (.slice b3 m.desks.length q3)) w.heap.size 61 (S6 a0 p0 a1 p1 a2 p2 a3 p3 a4 p4 m)) := hide ((uh ka).other (a := ⟨w.heap.size + 1 + 1, 3, none⟩) (by show w.heap.size ≠ w.heap.size + 1 + 1; omega) _)
 replace kr : Hid (Blk (w4.setCell ⟨w.heap.size + 1 + 1, 3, none⟩ (.slice b3 m.desks.length q3)) (w.heap.size + 1) 32 E6) := hide ((uh kr).other (a := ⟨w.heap.size + 1 + 1, 3, none⟩) (by show w.heap.size + 1 ≠ w.heap.size + 1 + 1; omega) _)
 replace ko : Hid (Blk (w4.setCell ⟨w.heap.size + 1 + 1, 3, none⟩ (.slice b3 m.desks.length q3)) (w.heap.size + 1 + 1) 32 #[.slice b0 m.rooms.length q0, .slice b1 m.guilds.length q1, .slice b2 m.smiths.length q2, .slice b3 m.desks.length q3, .slice none 0 0, .int .i64 0]) := hide ((uh ko).set 3 _)
 replace n0 := hide ((uh n0).set (w.heap.size + 1 + 1) 3 (.slice b3 m.desks.length q3) (by omega))
 replace n1 := hide (RecAt.set_old (uh n1) (w.heap.size + 1 + 1) 3 (.slice b3 m.desks.length q3) (by omega))
 replace n2 := hide (RecAt.set_old (uh n2) (w.heap.size + 1 + 1) 3 (.slice b3 m.desks.length q3) (by omega))
 replace n3 := hide (RecAt.set_old (uh n3) (w.heap.size + 1 + 1) 3 (.slice b3 m.desks.length q3) (by omega))
 replace BB : Hid (Below w.heap.size w (w4.setCell ⟨w.heap.size + 1 + 1, 3, none⟩ (.slice b3 m.desks.length q3))) := hide ((uh BB).setCell (p := ⟨w.heap.size + 1 + 1, 3, none⟩) (by show w.heap.size ≤ w.heap.size + 1 + 1; omega) _)
 have hW3 : w.heap.size + 3 ≤ (w4.setCell ⟨w.heap.size + 1 + 1, 3, none⟩ (.slice b3 m.desks.length q3)).heap.size := by have := (uh ko).lt; omega
 clear o3 f3 c4 hW hW2
 generalize (w4.setCell ⟨w.heap.size + 1 + 1, 3, none⟩ (.slice b3 m.desks.length q3)) = W at *
 have hW := hW3
 clear hW3
 refine (toInt64S_any ((uh Hv).below (uh BB)).paces (uh Hs).paces).mono ?_
 rintro e w5 ⟨u4, rfl, hp, hb⟩
 have n4 : Hid (NumsAt (w.heap.size + 3) w5 u4 m.paces) := hide (RecAt.mono hp hW)
 replace n0 := hide ((uh n0).below hb)
 replace n1 := hide (RecAt.later (uh n1) hb)
 replace n2 := hide (RecAt.later (uh n2) hb)
 replace n3 := hide (RecAt.later (uh n3) hb)
 replace ka := bl ka hb
 replace kr := bl kr hb
 replace ko := bl ko hb
 replace BB := bt BB hb
 have hW2 : w.heap.size + 3 ≤ w5.heap.size := by have := hb.size; omega
 obtain ⟨b4, q4, rfl⟩ := RecAt.shape hp
 clear hp hb
 have o4 := (uh ko).cell (i := 4) (v := .slice none 0 0) rfl
 have f4 := (uh ko).free 4
 have o0 := (uh ko).cell (i := 0) (v := .slice b0 m.rooms.length q0) rfl
 have r0 := (uh kr).cell (i := 0) (v := .slice none 0 0) rfl
 have rf0 := (uh kr).free 0
 have o1 := (uh ko).cell (i := 1) (v := .slice b1 m.guilds.length q1) rfl
 have r1 := (uh kr).cell (i := 1) (v := .slice none 0 0) rfl
 have rf1 := (uh kr).free 1
 have o2 := (uh ko).cell (i := 2) (v := .slice b2 m.smiths.length q2) rfl
 have r2 := (uh kr).cell (i := 2) (v := .slice none 0 0) rfl
 have rf2 := (uh kr).free 2
 have o3 := (uh ko).cell (i := 3) (v := .slice b3 m.desks.length q3) rfl
 have r3 := (uh kr).cell (i := 3) (v := .slice none 0 0) rfl
 have rf3 := (uh kr).free 3
 have r4 := (uh kr).cell (i := 4) (v := .slice none 0 0) rfl
 have rf4 := (uh kr).free 4
 have o5 := (uh ko).cell (i := 5) (v := .int .i64 0) rfl
 have r5 := (uh kr).cell (i := 5) (v := .int .i64 0) rfl
 have rf5 := (uh kr).free 5
 have f5 := (uh ko).free 5
 have c5 := (uh ka).cell (i := 5) (v := .int .i64 m.now) rfl
 go_wp2_with fail
 refine bodyPost_ret (v := .agg (S6 b0 q0 b1 q1 b2 q2 b3 q3 b4 q4 m)) (by simp [results, Tryz.results26, go_sem, r0, r1, r2, r3, r4, r5]) rfl ⟨_, _, _, _, _, rfl, ?_, ?_⟩
 ·refine OwnSmy.mono ?_ (show w.heap.size ≤ w.heap.size + 3 by omega)
  iterate 8 (refine OwnSmy.set ?_ _ _ _ (by omega))
  exact ⟨uh n0, uh n1, uh n2, uh n3, uh n4⟩
 ·iterate 8 (refine Below.setCell ?_ (by first | (show _ ≤ w.heap.size + 1 + 1; omega) | (show _ ≤ w.heap.size + 1; omega)) _)
  exact uh BB
theorem eqSmithy_yes {w : World} {v0 v1 v2 v3 v4 u0 u1 u2 u3 u4 : Value} {m : SmyV} (h : Smy w v0 v1 v2 v3 v4 m) (k : Smy w u0 u1 u2 u3 u4 m) :
  Calls Tryz.prog 27 #[.agg #[v0, v1, v2, v3, v4, .int .i64 m.now], .agg #[u0, u1, u2, u3, u4, .int .i64 m.now]] w fun e w' => e = .returned (.bool true) ∧ Below w.heap.size w w' := by
 have Hv := hide h
 have Hu := hide k
 obtain ⟨a0, p0, rfl, _, _⟩ := IsRooms.shape h.rooms
 obtain ⟨a1, p1, rfl, hc1, hm1⟩ := IsRec.shape h.guilds
 obtain ⟨a2, p2, rfl, hc2, hm2⟩ := IsRec.shape h.smiths
 obtain ⟨a3, p3, rfl, hc3, hm3⟩ := IsRec.shape h.desks
 obtain ⟨a4, p4, rfl, hc4, hm4⟩ := IsRec.shape h.paces
 obtain ⟨b0, q0, b1, q1, b2, q2, b3, q3, b4, q4, rfl, rfl, rfl, rfl, rfl, _, _, _, _, _, _, _, _, _, _⟩ := k.five
 clear h k
 go_enter Tryz.func27, Tryz.ntmps27
 go_wp2_with fail
 have BB : Hid (Below w.heap.size w ((w.alloc (.cells (S6 a0 p0 a1 p1 a2 p2 a3 p3 a4 p4 m) 32)).alloc (.cells (S6 b0 q0 b1 q1 b2 q2 b3 q3 b4 q4 m) 32))) := hide (((ba _ _)).alloc (by simp) _)
 have ka : Hid (Blk ((w.alloc (.cells (S6 a0 p0 a1 p1 a2 p2 a3 p3 a4 p4 m) 32)).alloc (.cells (S6 b0 q0 b1 q1 b2 q2 b3 q3 b4 q4 m) 32)) w.heap.size 32 (S6 a0 p0 a1 p1 a2 p2 a3 p3 a4 p4 m)) := hide ((Blk.new w _ _).alloc _)
 have kb : Hid (Blk ((w.alloc (.cells (S6 a0 p0 a1 p1 a2 p2 a3 p3 a4 p4 m) 32)).alloc (.cells (S6 b0 q0 b1 q1 b2 q2 b3 q3 b4 q4 m) 32)) (w.heap.size + 1) 32 (S6 b0 q0 b1 q1 b2 q2 b3 q3 b4 q4 m)) := hide (by
  have k := Blk.new (w.alloc (.cells (S6 a0 p0 a1 p1 a2 p2 a3 p3 a4 p4 m) 32)) 32 (S6 b0 q0 b1 q1 b2 q2 b3 q3 b4 q4 m)
  rw [World.size_alloc] at k
  exact k)
 generalize (w.alloc (.cells (S6 a0 p0 a1 p1 a2 p2 a3 p3 a4 p4 m) 32)).alloc (.cells (S6 b0 q0 b1 q1 b2 q2 b3 q3 b4 q4 m) 32) = W at *
 refine ck (eqHall_yes ((uh Hv).below (uh BB)).rooms ((uh Hu).below (uh BB)).rooms) fun w1 hb => ?_
 replace ka := bl ka hb
 replace kb := bl kb hb
 replace BB := bt BB hb
 clear hb
 have c1 := (uh ka).cell (i := 1) (v := .slice a1 m.guilds.length p1) rfl
 have d1 := (uh kb).cell (i := 1) (v := .slice b1 m.guilds.length q1) rfl
 go_wp2_with fail
 clear c1 d1
 refine ck (eqGuildS_yes ((uh Hv).below (uh BB)).guilds ((uh Hu).below (uh BB)).guilds) fun w2 hb => ?_
 replace ka := bl ka hb
 replace kb := bl kb hb
 replace BB := bt BB hb
 clear hb
 have c2 := (uh ka).cell (i := 2) (v := .slice a2 m.smiths.length p2) rfl
 have d2 := (uh kb).cell (i := 2) (v := .slice b2 m.smiths.length q2) rfl
 go_wp2_with fail
 clear c2 d2
 refine ck (eqSmithS_yes ((uh Hv).below (uh BB)).smiths ((uh Hu).below (uh BB)).smiths) fun w3 hb => ?_
 replace ka := bl ka hb
 replace kb := bl kb hb
 replace BB := bt BB hb
 clear hb
 have c3 := (uh ka).cell (i := 3) (v := .slice a3 m.desks.length p3) rfl
 have d3 := (uh kb).cell (i := 3) (v := .slice b3 m.desks.length q3) rfl
 go_wp2_with fail
 clear c3 d3
 refine ck (eqDeskS_yes ((uh Hv).below (uh BB)).desks ((uh Hu).below (uh BB)).desks) fun w4 hb => ?_
 replace ka := bl ka hb
 replace kb := bl kb hb
 replace BB := bt BB hb
 clear hb
 have c4 := (uh ka).cell (i := 4) (v := .slice a4 m.paces.length p4) rfl
 have d4 := (uh kb).cell (i := 4) (v := .slice b4 m.paces.length q4) rfl
 go_wp2_with fail
 clear c4 d4
 refine ck (eqNums_yes ((uh Hv).below (uh BB)).paces ((uh Hu).below (uh BB)).paces) fun w5 hb => ?_
 replace ka := bl ka hb
 replace kb := bl kb hb
 replace BB := bt BB hb
 clear hb
 have c5 := (uh ka).cell (i := 5) (v := .int .i64 m.now) rfl
 have d5 := (uh kb).cell (i := 5) (v := .int .i64 m.now) rfl
 go_wp2_with fail
 go_ret
 exact ⟨rfl, uh BB⟩
end Go.Proofs.YtffcgajndmhpkaaGreatDoor
