/- Part 16 of what the proof rests on. No condition but those that a theorem names. -/
import Derived.Test.YthbbahagpmdooaaGreatDoorXw15
import Derived.Deep.RegionHeld3
set_option maxHeartbeats 8000000
set_option maxRecDepth 100000
namespace Go.Proofs.YthbbahagpmdooaaGreatDoor
open Go.ChangeShapes Go.WideShapes Go.ChangeAt Go.RowKit Go.Sort
set_option linter.unusedVariables false
theorem ltB_had {a b c d : Int} (h : a ≠ c) : ltB (a, b) (c, d) = decide (a < c) := by unfold ltB; simp; omega
theorem ltB_who {a b d : Int} : ltB (a, b) (a, d) = decide (b < d) := by unfold ltB; simp
theorem specLess_any (a b c d : Int) (w : World) : Calls Tryz.prog 278 #[.agg #[.int .i64 a, .int .i64 b], .agg #[.int .i64 c, .int .i64 d]] w fun e w' => e = .returned (.bool (ltB (a, b) (c, d))) ∧ Below w.heap.size w w' := by
 by_cases h : a = c
 ·subst h
  rw [ltB_who]
  go_enter Tryz.func278, Tryz.ntmps278
  go_wp2_with fail
  go_ret
  exact ⟨rfl, ((Below.refl _ _).alloc (Nat.le_refl _) _).alloc (by simp) _⟩
 ·rw [ltB_had h]
  have h' : (a == c) = false := by simpa using h
  have h2 : (a != c) = true := by simpa using h
  clear h
  go_enter Tryz.func278, Tryz.ntmps278
  go_wp2_with fail
  go_ret
  exact ⟨rfl, ((Below.refl _ _).alloc (Nat.le_refl _) _).alloc (by simp) _⟩
theorem implLess_any (a b c d : Int) (w : World) : Calls Tryz.prog 297 #[.agg #[.int .i64 a, .int .i64 b], .agg #[.int .i64 c, .int .i64 d]] w fun e w' => e = .returned (.bool (ltB (a, b) (c, d))) ∧ Below w.heap.size w w' := by
 by_cases h : a = c
 ·subst h
  rw [ltB_who]
  go_enter Tryz.func297, Tryz.ntmps297
  go_wp2_with fail
  go_ret
  exact ⟨rfl, ((Below.refl _ _).alloc (Nat.le_refl _) _).alloc (by simp) _⟩
 ·rw [ltB_had h]
  have h' : (a == c) = false := by simpa using h
  have h2 : (a != c) = true := by simpa using h
  clear h
  go_enter Tryz.func297, Tryz.ntmps297
  go_wp2_with fail
  go_ret
  exact ⟨rfl, ((Below.refl _ _).alloc (Nat.le_refl _) _).alloc (by simp) _⟩
theorem isHad_any (n : Int) (w : World) : Calls Tryz.prog 266 #[.int .i64 n] w fun e w' => e = .returned (.bool (inB n (-1000000000000) 1000000000000)) ∧ w' = w := by
 go_enter Tryz.func266, Tryz.ntmps266
 go_wp2_with (go_at_call 189; refine (liesFrom_any _ _ _ _).mono ?_; rintro e w' ⟨rfl, rfl⟩)
 go_ret
 exact ⟨rfl, rfl⟩
theorem isEntry_any (f c : Int) (w : World) : Calls Tryz.prog 296 #[.agg #[.int .i64 f, .int .i64 c]] w fun e w' => e = .returned (.bool (entB (f, c))) ∧ Below w.heap.size w w' := by
 cases h1 : inB f (-1000000000000) 1000000000000
 ·go_enter Tryz.func296, Tryz.ntmps296
  go_wp2_with fail
  refine (isHad_any _ _).mono ?_
  rintro e w' ⟨rfl, rfl⟩
  go_wp2_with fail
  go_ret
  exact ⟨ret_bool (by unfold entB; simp [h1]), (Below.refl _ _).alloc (Nat.le_refl _) _⟩
 ·go_enter Tryz.func296, Tryz.ntmps296
  go_wp2_with fail
  refine (isHad_any _ _).mono ?_
  rintro e w' ⟨rfl, rfl⟩
  go_wp2_with fail
  refine (liesFrom_any _ _ _ _).mono ?_
  rintro e w' ⟨rfl, rfl⟩
  go_wp2_with fail
  go_ret
  exact ⟨ret_bool (by unfold entB; simp [h1]), (Below.refl _ _).alloc (Nat.le_refl _) _⟩
theorem isWho_any (f c who : Int) (B : Nat) (w : World) (hc : w.cell? ⟨B, 0, none⟩ = some (.int .i64 who)) (hB : B < w.heap.size) :
  Calls Tryz.prog 318 #[.agg #[.int .i64 f, .int .i64 c], .pointer (some ⟨B, 0, none⟩)] w fun e w' => e = .returned (.bool (c == who)) ∧ Below w.heap.size w w' := by
 have hne : B ≠ w.heap.size := Nat.ne_of_lt hB
 go_enter Tryz.func318, Tryz.ntmps318
 go_wp2_with fail
 go_ret
 exact ⟨rfl, (Below.refl _ _).alloc (Nat.le_refl _) _⟩
theorem idxFunc_any {w : World} {v : Value} {ps : List PaceV} (who : Int) (B : Nat) (h : IsPaces w v ps) (hc : w.cell? ⟨B, 0, none⟩ = some (.int .i64 who)) (hB : B < w.heap.size) :
  Calls Tryz.prog 317 #[v, .func (Fn.func 318) #[] #[.pointer (some ⟨B, 0, none⟩)]] w fun e w' => e = .returned (.int .i64 (findV ps who)) ∧ Below w.heap.size w w' := by
 obtain ⟨a, cap, rfl, hcc, hm, hr⟩ := h
 have Hr := hide hr
 have Hc := hide hc
 clear hr hc
 go_enter Tryz.func317, Tryz.ntmps317
 go_wp2_with fail
 go_loopw [5, 8] (fun _ i wr => ∃ k : Nat, k ≤ ps.length ∧ i = .int .i64 k ∧ Hid (∀ j, j < k → (paceAt ps j).2 ≠ who) ∧ Below w.heap.size w wr) (fun _ i _ => ps.length - (intOf i).toNat)
 case atStart => exact ⟨0, Nat.zero_le _, rfl, hide (fun j hj => by omega), Below.refl _ _⟩
 case round =>
  obtain ⟨k, hk, rfl, hno, hb⟩ := hrel
  have Hb := hide hb
  by_cases hlt : k < ps.length
  ·rcases uh Hr with h0 | ⟨b, off, rfl, hbw, hcl⟩
   ·rw [h0] at hlt; simp at hlt
   obtain ⟨c0, c1⟩ := hcl k hlt
   rw [← hb.cell (p := ⟨b, off + k * 2, none⟩) hbw] at c0
   rw [← hb.cell (p := ⟨b, off + k * 2 + 1, none⟩) hbw] at c1
   generalize hz : paceAt ps k = p at *
   obtain ⟨f, z⟩ := p
   simp only at c0 c1
   have hcb := (hb.cell (p := ⟨B, 0, none⟩) hB).trans (uh Hc)
   have hBr : B < wr.heap.size := Nat.lt_of_lt_of_le hB hb.size
   have Hz := hide hz
   have Hcb := hide hcb
   clear hz hcl hb hcb
   by_cases hx : z = who
   ·subst hx
    go_wp2_with fail
    refine (isWho_any _ _ _ _ _ (uh Hcb) hBr).mono ?_
    rintro e w1 ⟨rfl, hb1⟩
    have Hb1 := hide hb1
    clear hb1
    go_wp2_with fail
    go_ret
    exact ⟨ret_int (findV_some hlt (by rw [uh Hz]) (uh hno)).symm, (uh Hb).trans ((uh Hb1).mono (uh Hb).size)⟩
   ·have hx' : (z == who) = false := by simpa using hx
    have Hx := hide hx
    clear hx
    go_wp2_with fail
    refine (isWho_any _ _ _ _ _ (uh Hcb) hBr).mono ?_
    rw [hx']
    rintro e w1 ⟨rfl, hb1⟩
    have Hb1 := hide hb1
    clear hb1
    go_wp2_with fail
    go_roundw
    case rel => exact ⟨k + 1, by omega, by go_num, hide (next_all (uh hno) (by rw [uh Hz]; exact uh Hx)), (uh Hb).trans ((uh Hb1).mono (uh Hb).size)⟩
    case measure => simp [intOf]; omega
  ·obtain rfl : k = ps.length := by omega
   go_wp2_with fail
   go_ret
   exact ⟨ret_int (findV_none (uh hno)).symm, hb⟩
theorem placeOf_any {w : World} {v : Value} {ps : List PaceV} (who : Int) (h : IsPaces w v ps) :
  Calls Tryz.prog 298 #[v, .int .i64 who] w fun e w' => e = .returned (.int .i64 (findV ps who)) ∧ Below w.heap.size w w' := by
 have Hv := hide h
 obtain ⟨a, cap, rfl, hcc, hm, hr⟩ := h
 clear hr
 go_enter Tryz.func298, Tryz.ntmps298
 go_wp2_with fail
 refine (idxFunc_any who w.heap.size ((uh Hv).below ((Below.refl _ _).alloc (Nat.le_refl _) _)) (by simp) (by simp)).mono ?_
 rintro e w1 ⟨rfl, hb⟩
 have Hb := hide hb
 clear hb
 go_wp2_with fail
 go_ret
 exact ⟨rfl, ((Below.refl _ _).alloc (Nat.le_refl _) _).trans ((uh Hb).mono (by simp))⟩
structure Fr (bx : Nat) (r : Option Nat) (w w' : World) : Prop where
 os : w'.os = w.os
 tape : w'.tape = w.tape
 output : w'.output = w.output
 size : w.heap.size ≤ w'.heap.size
 block : ∀ k, k < w.heap.size → k ≠ bx → r ≠ some k → w'.heap[k]? = w.heap[k]?
theorem Fr.refl (bx : Nat) (r : Option Nat) (w : World) : Fr bx r w w := ⟨rfl, rfl, rfl, Nat.le_refl _, fun _ _ _ _ => rfl⟩
theorem Fr.trans {bx : Nat} {r : Option Nat} {a b c : World} (h : Fr bx r a b) (k : Fr bx r b c) : Fr bx r a c :=
 ⟨k.os.trans h.os, k.tape.trans h.tape, k.output.trans h.output, Nat.le_trans h.size k.size, fun i hi hn hr => (k.block i (Nat.lt_of_lt_of_le hi h.size) hn hr).trans (h.block i hi hn hr)⟩
theorem Fr.of_below {bx : Nat} {r : Option Nat} {w w' : World} (h : Below w.heap.size w w') : Fr bx r w w' := ⟨h.os, h.tape, h.output, h.size, fun k hk _ _ => h.block k hk⟩
theorem Fr.of_grown {bx : Nat} {r : Option Nat} {w w' : World} (h : w.grownBy w' r) : Fr bx r w w' := ⟨h.os, h.tape, h.output, h.size, fun k hk _ hr => h.block k hk (fun e => hr e.symm)⟩
theorem Fr.box {bx : Nat} {r : Option Nat} (w : World) (v : Value) : Fr bx r w (w.setCell ⟨bx, 0, none⟩ v) := ⟨rfl, rfl, rfl, by simp, fun k hk hn _ => Below.heap_setCell w ⟨bx, 0, none⟩ v k hn⟩
theorem Fr.below {bx B : Nat} {r : Option Nat} {w w' : World} (h : Fr bx r w w') (hx : B ≤ bx) (hr : ∀ k, r = some k → B ≤ k) (hs : B ≤ w.heap.size) : Below B w w' :=
 ⟨h.os, h.tape, h.output, h.size, fun k hk => h.block k (by omega) (by omega) (fun e => by have := hr k e; omega)⟩
theorem EntsAt.fr {n₀ bx : Nat} {r : Option Nat} {w w' : World} {v : Value} {ps : List PaceV} (h : EntsAt n₀ w v ps) (hf : Fr bx r w w') (h1 : v.ownBlock ≠ some bx) (h2 : ∀ k, v.ownBlock = some k → r ≠ some k) : EntsAt n₀ w' v ps :=
 h.same fun k hk => hf.block k (h.lt hk).2 (fun e => h1 (by rw [hk, e])) (h2 k hk)
structure HeapIs (n₀ bx : Nat) (v : Value) (w : World) (ps : List PaceV) : Prop where
 cell : w.cell? ⟨bx, 0, none⟩ = some v
 free : w.frozen? ⟨bx, 0, none⟩ = false
 lt : bx < w.heap.size
 row : EntsAt n₀ w v ps
 off : v.ownBlock ≠ some bx
theorem HeapIs.later {n₀ bx : Nat} {v : Value} {w w' : World} {ps : List PaceV} (h : HeapIs n₀ bx v w ps) (hb : Below w.heap.size w w') : HeapIs n₀ bx v w' ps :=
 ⟨(hb.cell (p := ⟨bx, 0, none⟩) h.lt).trans h.cell, (hb.frozen (p := ⟨bx, 0, none⟩) h.lt).trans h.free, Nat.lt_of_lt_of_le h.lt hb.size, h.row.later hb, h.off⟩
theorem HeapIs.view {n₀ bx : Nat} {v : Value} {w : World} {ps : List PaceV} (h : HeapIs n₀ bx v w ps) (hl : 0 < ps.length) : ∃ g cap, v = .slice (some ⟨g, 0, none⟩) ps.length cap ∧ g ≠ bx ∧ g < w.heap.size ∧ n₀ ≤ g ∧ ps.length ≤ cap ∧ cap ≤ 9223372036854775807 ∧
  (∀ k, k < ps.length → w.cell? ⟨g, k * 2, none⟩ = some (.int .i64 (paceAt ps k).1) ∧ w.cell? ⟨g, k * 2 + 1, none⟩ = some (.int .i64 (paceAt ps k).2)) ∧ (∀ k, w.frozen? ⟨g, k, none⟩ = false) := by
 have hr := h.row
 rcases h.row.2 with ⟨hv, hz⟩ | ⟨g, cap, cur, rfl, hb, hg, hnc, hcm, r⟩
 ·omega
 ·obtain ⟨a, cap', he, _, _, hrr⟩ := hr.paces
  cases he
  refine ⟨g, cap, rfl, fun e => h.off (by rw [e]; rfl), (Array.getElem?_eq_some_iff.1 hg).1, hb, hnc, by unfold maxLen at hcm; omega, ?_, fun k => World.ownsRow.frozenAt hr k⟩
  rcases hrr with h0 | ⟨b, off, he, _, hcl⟩
  ·rw [h0] at hl; simp at hl
  ·cases he
   intro k hk
   have := hcl k hk
   simpa using this
theorem len_any {n₀ bx : Nat} {v : Value} {w : World} {ps : List PaceV} (h : HeapIs n₀ bx v w ps) : Calls Tryz.prog 315 #[.pointer (some ⟨bx, 0, none⟩)] w fun e w' => e = .returned (.int .i64 ps.length) ∧ w' = w := by
 have hc := h.cell
 obtain ⟨a, cap, rfl⟩ := h.row.shape
 go_enter Tryz.func315, Tryz.ntmps315
 go_wp2_with fail
 go_ret
 exact ⟨rfl, rfl⟩
theorem less_any {n₀ bx : Nat} {v : Value} {w : World} {ps : List PaceV} (h : HeapIs n₀ bx v w ps) {i j : Nat} (hi : i < ps.length) (hj : j < ps.length) :
  Calls Tryz.prog 387 #[.pointer (some ⟨bx, 0, none⟩), .int .i64 i, .int .i64 j] w fun e w' => e = .returned (.bool (ltB (paceAt ps i) (paceAt ps j))) ∧ Below w.heap.size w w' := by
 obtain ⟨g, cap, rfl, hne, hlt, _, hnc, hcm, hcl, _⟩ := h.view (by omega)
 have hc := h.cell
 obtain ⟨a0, a1⟩ := hcl i hi
 obtain ⟨b0, b1⟩ := hcl j hj
 generalize paceAt ps i = p at *
 generalize paceAt ps j = q at *
 obtain ⟨f, z⟩ := p
 obtain ⟨f', z'⟩ := q
 simp only at a0 a1 b0 b1
 have hi0 : (0 : Int) ≤ (i : Int) := by omega
 have hj0 : (0 : Int) ≤ (j : Int) := by omega
 have hi1 : (i : Int) < (ps.length : Int) := by omega
 have hj1 : (j : Int) < (ps.length : Int) := by omega
 have k0 := cell_regrown a0
 have k1 := cell_regrown a1
 have k2 := cell_regrown b0
 have k3 := cell_regrown b1
 have k4 := cell_regrown hc
 clear hcl h hc a0 a1 b0 b1
 go_enter Tryz.func387, Tryz.ntmps387
 go_wp2_with fail
 refine wp_region_quiet_below (by kernel_rfl) (by kernel_rfl) ?_
 repeat (go_big_quiet_step (exact Calls.regrown_of (implLess_any _ _ _ _ _)))
 refine wpQuiet_nil ?_
 intro _ hw'
 obtain ⟨⟨dq, osq⟩, hw''⟩ := hw'
 subst hw''
 go_wp2_with fail
 go_ret
 exact ⟨rfl, below_regrown _ _ _⟩
theorem set_some {w : World} {a p : Addr} {u v : Value} (h : w.cell? p = some v) : ∃ c, (w.setCell a u).cell? p = some c := by
 by_cases e : p = a
 ·subst e; exact ⟨_, World.cell?_setCell_same _ _ _ h⟩
 ·exact ⟨v, by rw [World.cell?_setCell_other _ _ _ _ (fun e2 => e e2.symm)]; exact h⟩
theorem HeapIs.swapped {n₀ bx g cap n : Nat} {w : World} {ps : List PaceV} (h : HeapIs n₀ bx (.slice (some ⟨g, 0, none⟩) n cap) w ps) (hn : n = ps.length) (hne : g ≠ bx) {i j : Nat} (hi : i < ps.length) (hj : j < ps.length) (f z f' z' : Int) (W : World) (hW : W = ((((w.setCell ⟨g, i * 2, none⟩ (.int .i64 f')).setCell ⟨g, i * 2 + 1, none⟩ (.int .i64 z')).setCell ⟨g, j * 2, none⟩ (.int .i64 f)).setCell ⟨g, j * 2 + 1, none⟩ (.int .i64 z))) :
  HeapIs n₀ bx (.slice (some ⟨g, 0, none⟩) n cap) W ((ps.set i (f', z')).set j (f, z)) ∧ Fr bx (some g) w W := by
 subst hn
 have r1 := own_pair h.row (i * 2) (.int .i64 f') (.int .i64 z')
 rw [pput _ _ _ _ hi] at r1
 have r2 := own_pair r1.1 (j * 2) (.int .i64 f) (.int .i64 z)
 rw [pput _ _ _ _ (by simpa using hj), ← hW] at r2
 have hg := grown_trans r1.2 r2.2
 clear r1 hW
 have hlt := h.lt
 have hb := hg.block bx hlt (by simpa using Ne.symm hne)
 refine ⟨⟨?_, ?_, Nat.lt_of_lt_of_le hlt hg.size, ?_, h.off⟩, Fr.of_grown hg⟩
 ·exact (World.cell?_of_block (w := w) (a := ⟨bx, 0, none⟩) hb).trans h.cell
 ·exact (World.frozen?_of_block (w := w) (a := ⟨bx, 0, none⟩) hb).trans h.free
 ·unfold EntsAt
  rw [List.length_set, List.length_set]
  exact r2.1
theorem swap_any {n₀ bx : Nat} {v : Value} {w : World} {ps : List PaceV} (h : HeapIs n₀ bx v w ps) {i j : Nat} (hi : i < ps.length) (hj : j < ps.length) :
  Calls Tryz.prog 390 #[.pointer (some ⟨bx, 0, none⟩), .int .i64 i, .int .i64 j] w fun e w' => e = .returned (.tuple #[]) ∧ HeapIs n₀ bx v w' (swp ps i j) ∧ Fr bx v.ownBlock w w' := by
 have H := hide h
 obtain ⟨g, cap, rfl, hne, hlt, hn0, hnc, hcm, hcl, hfz⟩ := h.view (by omega)
 have hc := h.cell
 obtain ⟨a0, a1⟩ := hcl i hi
 obtain ⟨b0, b1⟩ := hcl j hj
 have z0 := hfz (i * 2)
 have z1 := hfz (i * 2 + 1)
 have z2 := hfz (j * 2)
 have z3 := hfz (j * 2 + 1)
 have HX : Hid (swp ps i j = (ps.set i (paceAt ps j)).set j (paceAt ps i)) := hide rfl
 generalize paceAt ps i = p at *
 generalize paceAt ps j = q at *
 obtain ⟨f, z⟩ := p
 obtain ⟨f', z'⟩ := q
 simp only at a0 a1 b0 b1
 have hi0 : (0 : Int) ≤ (i : Int) := by omega
 have hj0 : (0 : Int) ≤ (j : Int) := by omega
 have hi1 : (i : Int) < (ps.length : Int) := by omega
 have hj1 : (j : Int) < (ps.length : Int) := by omega
 obtain ⟨c1, y1⟩ : ∃ c, (w.setCell ⟨g, i * 2, none⟩ (.int .i64 f')).cell? ⟨g, j * 2, none⟩ = some c := set_some b0
 obtain ⟨c2, y2⟩ : ∃ c, ((w.setCell ⟨g, i * 2, none⟩ (.int .i64 f')).setCell ⟨g, i * 2 + 1, none⟩ (.int .i64 z')).cell? ⟨g, j * 2 + 1, none⟩ = some c := by
  obtain ⟨c, hc9⟩ := set_some (a := ⟨g, i * 2, none⟩) (u := .int .i64 f') b1
  exact set_some hc9
 obtain ⟨c3, y3⟩ : ∃ c, ((w.setCell ⟨g, i * 2, none⟩ (.int .i64 f')).setCell ⟨g, i * 2 + 1, none⟩ (.int .i64 z')).cell? ⟨g, j * 2, none⟩ = some c := by
  obtain ⟨c, hc9⟩ := set_some (a := ⟨g, i * 2, none⟩) (u := .int .i64 f') b0
  exact set_some hc9
 clear hcl h hfz
 go_enter Tryz.func390, Tryz.ntmps390
 go_wp2_with fail
 go_region
 go_end0
 generalize hW : ((((w.setCell ⟨g, i * 2, none⟩ (.int .i64 f')).setCell ⟨g, i * 2 + 1, none⟩ (.int .i64 z')).setCell ⟨g, j * 2, none⟩ (.int .i64 f)).setCell ⟨g, j * 2 + 1, none⟩ (.int .i64 z)) = W
 obtain ⟨h1, h2⟩ := (uh H).swapped rfl hne hi hj f z f' z' W hW.symm
 exact ⟨rfl, by rw [uh HX]; exact h1.later ((Below.refl _ _).drew), h2.trans (Fr.of_below ((Below.refl _ _).drew))⟩
theorem setBox {n₀ bx : Nat} {v v' : Value} {w W : World} {ps qs : List PaceV} (h : HeapIs n₀ bx v w ps) (hb : Fr bx v.ownBlock w W) (hc : W.cell? ⟨bx, 0, none⟩ = some v) (hf : W.frozen? ⟨bx, 0, none⟩ = false) (hr : EntsAt n₀ W v' qs) (ho : v'.ownBlock ≠ some bx) :
  HeapIs n₀ bx v' (W.setCell ⟨bx, 0, none⟩ v') qs ∧ Fr bx v.ownBlock w (W.setCell ⟨bx, 0, none⟩ v') := by
 refine ⟨⟨World.cell?_setCell_same _ _ _ hc, by rw [World.frozen?_setCell]; exact hf, by simpa using Nat.lt_of_lt_of_le h.lt hb.size, hr.same fun k hk => Below.heap_setCell W ⟨bx, 0, none⟩ v' k (fun e => ho (by rw [hk]; exact congrArg some e)), ho⟩, hb.trans (Fr.box W v')⟩
theorem popM_any {n₀ bx : Nat} {v : Value} {w : World} {ps : List PaceV} {m : Nat} (h : HeapIs n₀ bx v w ps) (hm : ps.length = m + 1) :
  Calls Tryz.prog 388 #[.pointer (some ⟨bx, 0, none⟩)] w fun e w' => e = .returned (.iface 194 (.agg #[.int .i64 (paceAt ps m).1, .int .i64 (paceAt ps m).2])) ∧ ∃ v', HeapIs n₀ bx v' w' (ps.take m) ∧ v'.ownBlock = v.ownBlock ∧ Fr bx v.ownBlock w w' := by
 have H := hide h
 obtain ⟨g, cap, rfl, hne, hlt, hn0, hnc, hcm, hcl, hfz⟩ := h.view (by omega)
 have hc := h.cell
 have hbf := h.free
 have hbx := h.lt
 obtain ⟨a0, a1⟩ := hcl m (by omega)
 have HL := hide (len_any h)
 clear hcl h hfz
 rw [hm] at hnc hc
 generalize paceAt ps m = p at *
 obtain ⟨f, z⟩ := p
 simp only at a0 a1
 have hn1 : g ≠ w.heap.size := Nat.ne_of_lt hlt
 have hn2 : bx ≠ w.heap.size := Nat.ne_of_lt hbx
 go_enter Tryz.func388, Tryz.ntmps388
 go_wp2_with fail
 refine (uh HL).mono ?_
 rw [hm]
 rintro e w' ⟨rfl, h1⟩
 subst w'
 go_wp2_with fail
 go_ret
 have hcut := (uh H).row.cut (n := m) (by omega) (by simp)
 obtain ⟨r1, r2⟩ := setBox (uh H) (Fr.refl _ _ _) (uh H).cell (uh H).free hcut (by simpa [Value.ownBlock] using hne)
 exact ⟨rfl, .slice (some ⟨g, 0, none⟩) m cap, r1.later ((Below.refl _ _).alloc (Nat.le_refl _) _), rfl, r2.trans (Fr.of_below ((Below.refl _ _).alloc (Nat.le_refl _) _))⟩
theorem step_append_ent {ops : Array Oper} {o : Oper} {a : Act} {w : World} {K : Act → World → Prop} {Q : Exit → Act → World → Prop} {E : Prop} (hgd : o.guard = none) (s x : Operand) (t : TypeId) (ht : Tryz.prog.underlying t = some (.slice 194))
  (ho : o.op = .call { callee := .builtin .append, args := #[s, x], argTypes := #[t, t] }) (base : Nat)
  (v : Value) (ps : List PaceV) (hs : a.eval s = v) (hown : EntsAt base w v ps)
  (ad : Addr) (c : Nat) (f z : Int) (hx : a.eval x = .slice (some ad) 1 c) (hnews : ∀ (j : Nat) (u : Value), ([.int .i64 f, .int .i64 z] : List Value)[j]? = some u → w.cell? (ad.add j) = some u)
  (hb : ps.length ≤ 4000) (hbase : base ≤ w.heap.size)
  (h : ∀ v' w', EntsAt base w' v' (ps ++ [(f, z)]) → w.grownBy w' v.ownBlock → (v'.ownBlock = v.ownBlock ∨ v'.ownBlock = some w.heap.size) → K (a.put o.dst v') w') :
  if Region.wanted o (yielded ops a.tmps) = true then Oper.wp Tryz.prog o a w K Q else E := by
 have hw : Region.wanted o (yielded ops a.tmps) = true := by simp [Region.wanted, hgd]
 rw [if_pos hw]
 obtain ⟨i0, hi, hz0, hz1, hz2⟩ := info_parts infoEntry
 obtain ⟨v', w', hr, h2, h3, _, h5⟩ := run_append_own_at (P := Tryz.prog) w base t o.type 194 i0 (.agg #[.int .i64 0, .int .i64 0]) 2 16 ht hi hz0 hz1 hz2 rfl (by decide) v ps.length _ hown ad 1 c [.int .i64 f, .int .i64 z] rfl
  hnews (by simp [Value.oneCell']) (by simp only [maxLen]; omega) (by omega) hbase
 unfold Oper.wp execOp
 simp only [ho, resolve, invoke, builtin, Sem.run_bind, Sem.run_pure, Result.andThen_ok, List.map_toArray, List.map_cons, List.map_nil, hs, hx, hr]
 refine h v' w' ?_ h3 h5
 unfold EntsAt
 rw [pcells_append, List.length_append]
 exact h2
theorem two_new (w : World) (u u' : Value) (t : TypeId) (b : Nat) (hb : b = w.heap.size) : ∀ (j : Nat) (x : Value), ([u, u'] : List Value)[j]? = some x → (w.alloc (.cells #[u, u'] t)).cell? ((⟨b, 0, none⟩ : Addr).add j) = some x := by
 subst hb
 intro j x hj
 match j, hj with
 | 0, hj => simp at hj; subst hj; simp [Addr.add]
 | 1, hj => simp at hj; subst hj; simp [Addr.add]
theorem assert_ent (f z : Int) (w : World) : (Instr.typeAssert (.iface 194 (.agg #[.int .i64 f, .int .i64 z])) 20 194 false).run Tryz.prog w = .ok (.agg #[.int .i64 f, .int .i64 z]) w := by kernel_rfl
theorem HeapIs.after {n₀ bx : Nat} {v : Value} {w W W1 : World} {ps : List PaceV} (h : HeapIs n₀ bx v w ps) (hb : Below w.heap.size w W) (hg : W.grownBy W1 v.ownBlock) :
  W1.cell? ⟨bx, 0, none⟩ = some v ∧ W1.frozen? ⟨bx, 0, none⟩ = false ∧ Fr bx v.ownBlock w W1 := by
 have hk := hg.block bx (Nat.lt_of_lt_of_le h.lt hb.size) (fun e => h.off e.symm)
 exact ⟨(World.cell?_of_block (w := W) (a := ⟨bx, 0, none⟩) hk).trans ((hb.cell (p := ⟨bx, 0, none⟩) h.lt).trans h.cell), (World.frozen?_of_block (w := W) (a := ⟨bx, 0, none⟩) hk).trans ((hb.frozen (p := ⟨bx, 0, none⟩) h.lt).trans h.free), (Fr.of_below hb).trans (Fr.of_grown hg)⟩
theorem pushM_any {n₀ bx : Nat} {v : Value} {w : World} {ps : List PaceV} (f z : Int) (h : HeapIs n₀ bx v w ps) (hl : ps.length ≤ 1000) (hn : n₀ ≤ w.heap.size) :
  Calls Tryz.prog 389 #[.pointer (some ⟨bx, 0, none⟩), .iface 194 (.agg #[.int .i64 f, .int .i64 z])] w fun e w' => e = .returned (.tuple #[]) ∧ ∃ v', HeapIs n₀ bx v' w' (ps ++ [(f, z)]) ∧ (v'.ownBlock = v.ownBlock ∨ ∃ k, v'.ownBlock = some k ∧ w.heap.size ≤ k) ∧ Fr bx v.ownBlock w w' := by
 have H := hide h
 obtain ⟨a, cap, rfl⟩ := h.row.shape
 have hc := h.cell
 have hbf := h.free
 have hbx := h.lt
 clear h
 have hn2 : bx ≠ w.heap.size := Nat.ne_of_lt hbx
 have hta := assert_ent f z
 go_enter Tryz.func389, Tryz.ntmps389
 go_wp2_with fail
 go_region_law (refine step_append_ent rfl (.tmp 7) (.tmp 10) 307 Tryz.underlying307 rfl n₀ _ ps rfl ((uh H).row.later (((Below.refl _ _).alloc (Nat.le_refl _) _).drew)) ⟨w.heap.size, 0, none⟩ _ f z rfl (two_new _ _ _ _ _ rfl) (by omega) (by simp; omega) ?_; intro v' w1 hown hgrow hat; obtain ⟨hc1, hf1, hfr⟩ := (uh H).after (((Below.refl _ _).alloc (Nat.le_refl _) _).drew) hgrow; obtain ⟨a1, cap1, rfl⟩ := hown.shape)
 all_goals
  go_end0
  have hoff : (Value.slice a1 (ps ++ [(f, z)]).length cap1).ownBlock ≠ some bx := by
   rcases hat with e | e
   ·rw [e]; exact (uh H).off
   ·rw [e]; simp; omega
  obtain ⟨r1, r2⟩ := setBox (uh H) hfr hc1 hf1 hown hoff
  have hle : (ps ++ [(f, z)]).length = ps.length + 1 := by simp
  rw [hle] at r1 r2 hat
  refine ⟨rfl, _, r1, ?_, r2⟩
  rcases hat with e | e
  ·exact .inl e
  ·exact .inr ⟨_, e, by simp⟩
theorem m_len (a : Addr) (w : World) : (method 471 293 (.pointer (some a)) "Len").run Tryz.prog w = .ok (315, .pointer (some a)) w := by kernel_rfl
theorem m_less (a : Addr) (w : World) : (method 471 293 (.pointer (some a)) "Less").run Tryz.prog w = .ok (387, .pointer (some a)) w := by kernel_rfl
theorem m_swap (a : Addr) (w : World) : (method 471 293 (.pointer (some a)) "Swap").run Tryz.prog w = .ok (390, .pointer (some a)) w := by kernel_rfl
theorem m_push (a : Addr) (w : World) : (method 471 293 (.pointer (some a)) "Push").run Tryz.prog w = .ok (389, .pointer (some a)) w := by kernel_rfl
theorem m_pop (a : Addr) (w : World) : (method 471 293 (.pointer (some a)) "Pop").run Tryz.prog w = .ok (388, .pointer (some a)) w := by kernel_rfl
theorem up_any {n₀ bx : Nat} {v : Value} {w : World} {ps : List PaceV} {n j0 : Nat} (h : HeapIs n₀ bx v w ps) (hu : UpTo ps n j0) (hj0 : j0 < n) (hn : n ≤ ps.length) (hl : ps.length ≤ 1000) :
  Calls Tryz.prog 314 #[.iface 293 (.pointer (some ⟨bx, 0, none⟩)), .int .i64 j0] w fun e w' => e = .returned (.tuple #[]) ∧ ∃ qs, HeapIs n₀ bx v w' qs ∧ HeapTo qs n ∧ qs.Perm ps ∧ (∀ k, n ≤ k → paceAt qs k = paceAt ps k) ∧ Fr bx v.ownBlock w w' := by
 have H := hide h
 have HU := hide hu
 clear h hu
 go_enter Tryz.func314, Tryz.ntmps314
 go_wp2_with fail
 go_loopw [1, 4] (fun q _ wr => ∃ (j : Nat) (qs : List PaceV), j < n ∧ q = .int .i64 j ∧ HeapIs n₀ bx v wr qs ∧ UpTo qs n j ∧ qs.Perm ps ∧ (∀ k, n ≤ k → paceAt qs k = paceAt ps k) ∧ Fr bx v.ownBlock w wr) (fun q _ _ => (intOf q).toNat)
 case atStart => exact ⟨j0, ps, hj0, rfl, uh H, uh HU, List.Perm.refl _, fun _ _ => rfl, Fr.refl _ _ _⟩
 case round =>
  obtain ⟨j, qs, hj, rfl, hh, hup, hperm, hsame, hfr⟩ := hrel
  have hql : qs.length = ps.length := hperm.length_eq
  have Hh := hide hh
  have Hup := hide hup
  have Hpe := hide hperm
  have Hsa := hide hsame
  have Hfr := hide hfr
  clear hh hup hperm hsame hfr
  by_cases hz : j = 0
  ·subst hz
   go_wp2_with fail
   go_end0
   exact ⟨rfl, qs, uh Hh, (uh Hup).done (.inl rfl), uh Hpe, uh Hsa, uh Hfr⟩
  ·obtain ⟨i, hi⟩ : ∃ i, i = (j - 1) / 2 := ⟨_, rfl⟩
   have hj1 : (0 : Int) ≤ (j : Int) - 1 := by omega
   have hpar : ((j : Int) - 1) / 2 = (i : Int) := by omega
   have hij : ((i : Int) == (j : Int)) = false := beq_eq_false_iff_ne.2 (by omega)
   have hm1 := m_less ⟨bx, 0, none⟩
   have hm2 := m_swap ⟨bx, 0, none⟩
   have hjl : j < qs.length := by omega
   have hil : i < qs.length := by omega
   have Hless := hide (less_any (uh Hh) hjl hil)
   have Hi := hide hi
   clear hi
   cases hlt : ltB (paceAt qs j) (paceAt qs i)
   ·go_wp2_with fail
    refine (uh Hless).mono ?_
    rw [hlt]
    rintro e w1 ⟨rfl, hb1⟩
    have H1 := hide ((uh Hh).later hb1)
    have F1 := hide ((uh Hfr).trans (Fr.of_below hb1))
    clear hb1
    go_wp2_with fail
    go_end0
    exact ⟨rfl, qs, uh H1, (uh Hup).done (.inr (by rw [← uh Hi]; exact hlt)), uh Hpe, uh Hsa, uh F1⟩
   ·go_wp2_with fail
    refine (uh Hless).mono ?_
    rw [hlt]
    rintro e w1 ⟨rfl, hb1⟩
    have H1 := hide ((uh Hh).later hb1)
    have F1 := hide ((uh Hfr).trans (Fr.of_below hb1))
    clear hb1
    go_wp2_with fail
    refine (swap_any (uh H1) hil hjl).mono ?_
    rintro e w2 ⟨rfl, hh2, hf2⟩
    have H2 := hide hh2
    have F2 := hide ((uh F1).trans hf2)
    clear hh2 hf2
    have HS : Hid (UpTo (swp qs i j) n i) := hide (by rw [uh Hi]; exact (uh Hup).step (by omega) hj (by omega) (by rw [← uh Hi]; exact hlt))
    have HA : Hid (∀ k, n ≤ k → paceAt (swp qs i j) k = paceAt ps k) := hide (fun k hk => by rw [swp_at hil hjl, if_neg (by omega), if_neg (by omega)]; exact uh Hsa k hk)
    go_wp2_with fail
    go_roundw
    case rel => exact ⟨i, swp qs i j, by omega, rfl, uh H2, uh HS, (swp_perm hil hjl).trans (uh Hpe), uh HA, uh F2⟩
    case measure => simp [intOf]; omega
def DownPost (n₀ bx : Nat) (v : Value) (w : World) (ps : List PaceV) (n i0 : Nat) (e : Ending) (w' : World) : Prop :=
 ∃ (b : Bool) (qs : List PaceV), e = .returned (.bool b) ∧ HeapIs n₀ bx v w' qs ∧ qs.Perm ps ∧ (∀ k, n ≤ k → paceAt qs k = paceAt ps k) ∧ Fr bx v.ownBlock w w' ∧ (b = true → HeapTo qs n) ∧ (b = false → UpTo qs n i0)
theorem down_end {n₀ bx : Nat} {v : Value} {w wr : World} {ps qs : List PaceV} {n i0 i : Nat} (hi : i0 ≤ i) (hh : HeapIs n₀ bx v wr qs) (hdn : DnTo qs n i0 i) (hp : qs.Perm ps) (hs : ∀ k, n ≤ k → paceAt qs k = paceAt ps k) (hf : Fr bx v.ownBlock w wr)
  (hd : ∀ k, 0 < k → k < n → (k - 1) / 2 = i → ltB (paceAt qs k) (paceAt qs i) = false) : DownPost n₀ bx v w ps n i0 (.returned (.bool (decide (i0 < i)))) wr := by
 refine ⟨_, qs, rfl, hh, hp, hs, hf, fun h => ?_, fun h => ?_⟩
 ·have := of_decide_eq_true h
  exact hdn.moved (by omega) hd
 ·have := of_decide_eq_false h
  obtain rfl : i = i0 := by omega
  exact hdn.still hd
theorem kid {k i : Nat} (h0 : 0 < k) (h : (k - 1) / 2 = i) : k = 2 * i + 1 ∨ k = 2 * i + 2 := by omega
theorem down_any {n₀ bx : Nat} {v : Value} {w : World} {ps : List PaceV} {n i0 : Nat} (h : HeapIs n₀ bx v w ps) (hu : DnTo ps n i0 i0) (hi0 : i0 ≤ n) (hn : n ≤ ps.length) (hl : ps.length ≤ 1000) :
  Calls Tryz.prog 332 #[.iface 293 (.pointer (some ⟨bx, 0, none⟩)), .int .i64 i0, .int .i64 n] w (DownPost n₀ bx v w ps n i0) := by
 have H := hide h
 have HU := hide hu
 have hm1 := m_less ⟨bx, 0, none⟩
 have hm2 := m_swap ⟨bx, 0, none⟩
 clear h hu
 go_enter Tryz.func332, Tryz.ntmps332
 go_wp2_with fail
 go_loopw [7] (fun q wr => ∃ (i : Nat) (qs : List PaceV), i0 ≤ i ∧ i ≤ n ∧ q = .int .i64 i ∧ HeapIs n₀ bx v wr qs ∧ DnTo qs n i0 i ∧ qs.Perm ps ∧ (∀ k, n ≤ k → paceAt qs k = paceAt ps k) ∧ Fr bx v.ownBlock w wr) (fun q _ => n - (intOf q).toNat)
 case atStart => exact ⟨i0, ps, Nat.le_refl _, hi0, rfl, uh H, uh HU, List.Perm.refl _, fun _ _ => rfl, Fr.refl _ _ _⟩
 case round =>
  obtain ⟨i, qs, hii, hin, rfl, hh, hdn, hperm, hsame, hfr⟩ := hrel
  have hql : qs.length = ps.length := hperm.length_eq
  have Hh := hide hh
  have Hdn := hide hdn
  have Hpe := hide hperm
  have Hsa := hide hsame
  have Hfr := hide hfr
  clear hh hdn hperm hsame hfr
  obtain ⟨j1, hj1⟩ : ∃ j1, j1 = 2 * i + 1 := ⟨_, rfl⟩
  obtain ⟨j2, hj2⟩ : ∃ j2, j2 = 2 * i + 2 := ⟨_, rfl⟩
  have e1 : 2 * (i : Int) + 1 = (j1 : Int) := by omega
  have e2 : (j1 : Int) + 1 = (j2 : Int) := by omega
  have Hj1 := hide hj1
  have Hj2 := hide hj2
  by_cases hn1 : n ≤ j1
  ·have hg1 : (n : Int) ≤ (j1 : Int) := by omega
   clear hj1 hj2
   go_wp2_with fail
   go_ret
   exact down_end hii (uh Hh) (uh Hdn) (uh Hpe) (uh Hsa) (uh Hfr) (fun k k0 kn kp => by have := kid k0 kp; have := uh Hj1; omega)
  ·have hg1 : ¬ (n : Int) ≤ (j1 : Int) := by omega
   have hg2 : ¬ (j1 : Int) < 0 := by omega
   have hil : i < qs.length := by omega
   have hjl : j1 < qs.length := by omega
   have hij1 : i < j1 := by omega
   by_cases hn2 : j2 < n
   ·have hg3 : (j2 : Int) < (n : Int) := by omega
    have hkl : j2 < qs.length := by omega
    have hij2 : i < j2 := by omega
    clear hj1 hj2
    have HL := hide (less_any (uh Hh) hkl hjl)
    cases hlt : ltB (paceAt qs j2) (paceAt qs j1)
    ·have HM : Hid (∀ k, 0 < k → k < n → (k - 1) / 2 = i → ltB (paceAt qs k) (paceAt qs j1) = false) := hide (fun k k0 kn kp => by
      have e3 := uh Hj1; have e4 := uh Hj2
      rcases kid k0 kp with e | e
      ·rw [show k = j1 by omega]; exact ltB_self _
      ·rw [show k = j2 by omega]; exact hlt)
     have HP : Hid ((j1 - 1) / 2 = i) := hide (by have := uh Hj1; omega)
     go_wp2_with fail
     refine (uh HL).mono ?_
     rw [hlt]
     rintro e w1 ⟨rfl, hb1⟩
     have H1 := hide ((uh Hh).later hb1)
     have F1 := hide ((uh Hfr).trans (Fr.of_below hb1))
     clear hb1 hlt HL Hh Hfr
     have HL2 := hide (less_any (uh H1) hjl hil)
     cases hlt2 : ltB (paceAt qs j1) (paceAt qs i)
     ·go_wp2_with fail
      refine (uh HL2).mono ?_
      rw [hlt2]
      rintro e w2 ⟨rfl, hb2⟩
      have H2 := hide ((uh H1).later hb2)
      have F2 := hide ((uh F1).trans (Fr.of_below hb2))
      clear hb2 HL2
      go_wp2_with fail
      go_ret
      exact down_end hii (uh H2) (uh Hdn) (uh Hpe) (uh Hsa) (uh F2) (fun k k0 kn kp => ltB_le hlt2 (uh HM k k0 kn kp))
     ·go_wp2_with fail
      refine (uh HL2).mono ?_
      rw [hlt2]
      rintro e w2 ⟨rfl, hb2⟩
      have H2 := hide ((uh H1).later hb2)
      have F2 := hide ((uh F1).trans (Fr.of_below hb2))
      clear hb2 HL2
      go_wp2_with fail
      refine (swap_any (uh H2) hil hjl).mono ?_
      rintro e w3 ⟨rfl, hh3, hf3⟩
      have H3 := hide hh3
      have F3 := hide ((uh F2).trans hf3)
      clear hh3 hf3
      have HS : Hid (DnTo (swp qs i j1) n i0 j1) := hide ((uh Hdn).step hii (by omega) (uh HP) (by omega) (by omega) hlt2 (uh HM))
      have HA : Hid (∀ k, n ≤ k → paceAt (swp qs i j1) k = paceAt ps k) := hide (fun k hk => by rw [swp_at hil hjl, if_neg (by omega), if_neg (by omega)]; exact uh Hsa k hk)
      go_wp2_with fail
      go_roundw
      case rel => exact ⟨j1, swp qs i j1, by omega, by omega, rfl, uh H3, uh HS, (swp_perm hil hjl).trans (uh Hpe), uh HA, uh F3⟩
      case measure => simp [intOf]; omega
    ·have HM : Hid (∀ k, 0 < k → k < n → (k - 1) / 2 = i → ltB (paceAt qs k) (paceAt qs j2) = false) := hide (fun k k0 kn kp => by
      have e3 := uh Hj1; have e4 := uh Hj2
      rcases kid k0 kp with e | e
      ·rw [show k = j1 by omega]; exact ltB_not hlt
      ·rw [show k = j2 by omega]; exact ltB_self _)
     have HP : Hid ((j2 - 1) / 2 = i) := hide (by have := uh Hj2; omega)
     go_wp2_with fail
     refine (uh HL).mono ?_
     rw [hlt]
     rintro e w1 ⟨rfl, hb1⟩
     have H1 := hide ((uh Hh).later hb1)
     have F1 := hide ((uh Hfr).trans (Fr.of_below hb1))
     clear hb1 hlt HL Hh Hfr
     have HL2 := hide (less_any (uh H1) hkl hil)
     cases hlt2 : ltB (paceAt qs j2) (paceAt qs i)
     ·go_wp2_with fail
      refine (uh HL2).mono ?_
      rw [hlt2]
      rintro e w2 ⟨rfl, hb2⟩
      have H2 := hide ((uh H1).later hb2)
      have F2 := hide ((uh F1).trans (Fr.of_below hb2))
      clear hb2 HL2
      go_wp2_with fail
      go_ret
      exact down_end hii (uh H2) (uh Hdn) (uh Hpe) (uh Hsa) (uh F2) (fun k k0 kn kp => ltB_le hlt2 (uh HM k k0 kn kp))
     ·go_wp2_with fail
      refine (uh HL2).mono ?_
      rw [hlt2]
      rintro e w2 ⟨rfl, hb2⟩
      have H2 := hide ((uh H1).later hb2)
      have F2 := hide ((uh F1).trans (Fr.of_below hb2))
      clear hb2 HL2
      go_wp2_with fail
      refine (swap_any (uh H2) hil hkl).mono ?_
      rintro e w3 ⟨rfl, hh3, hf3⟩
      have H3 := hide hh3
      have F3 := hide ((uh F2).trans hf3)
      clear hh3 hf3
      have HS : Hid (DnTo (swp qs i j2) n i0 j2) := hide ((uh Hdn).step hii (by omega) (uh HP) (by omega) (by omega) hlt2 (uh HM))
      have HA : Hid (∀ k, n ≤ k → paceAt (swp qs i j2) k = paceAt ps k) := hide (fun k hk => by rw [swp_at hil hkl, if_neg (by omega), if_neg (by omega)]; exact uh Hsa k hk)
      go_wp2_with fail
      go_roundw
      case rel => exact ⟨j2, swp qs i j2, by omega, by omega, rfl, uh H3, uh HS, (swp_perm hil hkl).trans (uh Hpe), uh HA, uh F3⟩
      case measure => simp [intOf]; omega
   ·have hg3 : ¬ (j2 : Int) < (n : Int) := by omega
    have HM : Hid (∀ k, 0 < k → k < n → (k - 1) / 2 = i → ltB (paceAt qs k) (paceAt qs j1) = false) := hide (fun k k0 kn kp => by
      have e3 := uh Hj1; have e4 := uh Hj2
      rcases kid k0 kp with e | e
      ·rw [show k = j1 by omega]; exact ltB_self _
      ·omega)
    have HP : Hid ((j1 - 1) / 2 = i) := hide (by have := uh Hj1; omega)
    clear hj1 hj2
    have HL2 := hide (less_any (uh Hh) hjl hil)
    cases hlt2 : ltB (paceAt qs j1) (paceAt qs i)
    ·go_wp2_with fail
     refine (uh HL2).mono ?_
     rw [hlt2]
     rintro e w2 ⟨rfl, hb2⟩
     have H2 := hide ((uh Hh).later hb2)
     have F2 := hide ((uh Hfr).trans (Fr.of_below hb2))
     clear hb2 HL2
     go_wp2_with fail
     go_ret
     exact down_end hii (uh H2) (uh Hdn) (uh Hpe) (uh Hsa) (uh F2) (fun k k0 kn kp => ltB_le hlt2 (uh HM k k0 kn kp))
    ·go_wp2_with fail
     refine (uh HL2).mono ?_
     rw [hlt2]
     rintro e w2 ⟨rfl, hb2⟩
     have H2 := hide ((uh Hh).later hb2)
     have F2 := hide ((uh Hfr).trans (Fr.of_below hb2))
     clear hb2 HL2
     go_wp2_with fail
     refine (swap_any (uh H2) hil hjl).mono ?_
     rintro e w3 ⟨rfl, hh3, hf3⟩
     have H3 := hide hh3
     have F3 := hide ((uh F2).trans hf3)
     clear hh3 hf3
     have HS : Hid (DnTo (swp qs i j1) n i0 j1) := hide ((uh Hdn).step hii (by omega) (uh HP) (by omega) (by omega) hlt2 (uh HM))
     have HA : Hid (∀ k, n ≤ k → paceAt (swp qs i j1) k = paceAt ps k) := hide (fun k hk => by rw [swp_at hil hjl, if_neg (by omega), if_neg (by omega)]; exact uh Hsa k hk)
     go_wp2_with fail
     go_roundw
     case rel => exact ⟨j1, swp qs i j1, by omega, by omega, rfl, uh H3, uh HS, (swp_perm hil hjl).trans (uh Hpe), uh HA, uh F3⟩
     case measure => simp [intOf]; omega
theorem HeapTo.take {ps : List PaceV} {n m : Nat} (h : HeapTo ps n) (hm : n ≤ m) : HeapTo (ps.take m) n := fun k k0 kn => by
 rw [paceAt_take (by omega), paceAt_take (by omega)]; exact h k k0 kn
theorem HeapIs.below {n₀ bx : Nat} {v v' : Value} {w w' : World} {ps qs : List PaceV} (h : HeapIs n₀ bx v w ps) (hf : Fr bx v.ownBlock w w') (hx : n₀ ≤ bx) (hn : n₀ ≤ w.heap.size) : Below n₀ w w' :=
 hf.below hx (fun k e => (h.row.lt e).1) hn
theorem heapPush_any {n₀ bx : Nat} {v : Value} {w : World} {ps : List PaceV} (f z : Int) (h : HeapIs n₀ bx v w ps) (hp : HeapTo ps ps.length) (hl : ps.length ≤ 900) (hx : n₀ ≤ bx) (hn : n₀ ≤ w.heap.size) :
  Calls Tryz.prog 293 #[.iface 293 (.pointer (some ⟨bx, 0, none⟩)), .iface 194 (.agg #[.int .i64 f, .int .i64 z])] w fun e w' => e = .returned (.tuple #[]) ∧ ∃ v' qs, HeapIs n₀ bx v' w' qs ∧ HeapTo qs qs.length ∧ qs.Perm (ps ++ [(f, z)]) ∧ Below n₀ w w' := by
 have H := hide h
 have HP := hide hp
 have hm1 := m_push ⟨bx, 0, none⟩
 have hm2 := m_len ⟨bx, 0, none⟩
 clear h hp
 go_enter Tryz.func293, Tryz.ntmps293
 go_wp2_with fail
 refine (pushM_any f z (uh H) (by omega) hn).mono ?_
 rintro e w1 ⟨rfl, v1, hh1, hat, hf1⟩
 have H1 := hide hh1
 have B1 := hide ((uh H).below (v' := v1) (qs := ps) hf1 hx hn)
 have hz1 := hf1.size
 clear hh1 hat hf1
 go_wp2_with fail
 refine (len_any (uh H1)).mono ?_
 rintro e w' ⟨rfl, h2⟩
 subst w'
 have hlen : (ps ++ [(f, z)]).length = ps.length + 1 := by simp
 rw [hlen]
 go_wp2_with fail
 refine (up_any (j0 := ps.length) (n := ps.length + 1) (uh H1) ((uh HP).push (f, z)) (by omega) (by rw [hlen]; exact Nat.le_refl _) (by rw [hlen]; omega)).mono ?_
 rintro e w2 ⟨rfl, qs, hh2, hq, hpe, _, hf2⟩
 have hql : qs.length = ps.length + 1 := by rw [hpe.length_eq, hlen]
 have H2 := hide hh2
 have HQ := hide hq
 have HE := hide hpe
 have B2 := hide ((uh B1).trans ((uh H1).below (v' := v1) (qs := ps) hf2 hx (by omega)))
 clear hh2 hq hpe hf2
 go_wp2_with fail
 go_end0
 exact ⟨rfl, v1, qs, uh H2, by rw [hql]; exact uh HQ, uh HE, uh B2⟩
theorem DnTo.none {ps : List PaceV} {i0 i : Nat} : DnTo ps 0 i0 i := ⟨fun k k0 kn => by omega, fun k k0 kn => by omega⟩
theorem DownPost.zero {n₀ bx : Nat} {v : Value} {w : World} {ps : List PaceV} {n : Nat} {e : Ending} {w' : World} (h : DownPost n₀ bx v w ps n 0 e w') :
  ∃ (b : Bool) (qs : List PaceV), e = .returned (.bool b) ∧ HeapIs n₀ bx v w' qs ∧ qs.Perm ps ∧ (∀ k, n ≤ k → paceAt qs k = paceAt ps k) ∧ Fr bx v.ownBlock w w' ∧ HeapTo qs n := by
 obtain ⟨b, qs, he, hh, hp, hs, hf, h1, h2⟩ := h
 refine ⟨b, qs, he, hh, hp, hs, hf, ?_⟩
 cases b
 ·exact (h2 rfl).done (.inl rfl)
 ·exact h1 rfl
theorem heapPop_any {n₀ bx : Nat} {v : Value} {w : World} {ps : List PaceV} {m : Nat} (h : HeapIs n₀ bx v w ps) (hp : HeapTo ps ps.length) (hm : ps.length = m + 1) (hl : ps.length ≤ 900) :
  Calls Tryz.prog 316 #[.iface 293 (.pointer (some ⟨bx, 0, none⟩))] w fun e w' => e = .returned (.iface 194 (.agg #[.int .i64 (paceAt ps 0).1, .int .i64 (paceAt ps 0).2])) ∧ ∃ v' qs, HeapIs n₀ bx v' w' qs ∧ HeapTo qs qs.length ∧ (qs ++ [paceAt ps 0]).Perm ps ∧ v'.ownBlock = v.ownBlock ∧ Fr bx v.ownBlock w w' := by
 have H := hide h
 rw [hm] at hp
 have HP := hide hp
 have hm1 := m_pop ⟨bx, 0, none⟩
 have hm2 := m_len ⟨bx, 0, none⟩
 have hm3 := m_swap ⟨bx, 0, none⟩
 clear h hp
 go_enter Tryz.func316, Tryz.ntmps316
 go_wp2_with fail
 refine (len_any (uh H)).mono ?_
 rw [hm]
 rintro e w' ⟨rfl, h2⟩
 subst w'
 go_wp2_with fail
 refine (swap_any (i := 0) (j := m) (uh H) (by omega) (by omega)).mono ?_
 rintro e w1 ⟨rfl, hh1, hf1⟩
 have H1 := hide hh1
 have F1 := hide hf1
 have hl1 : (swp ps 0 m).length = m + 1 := by rw [swp_len]; exact hm
 have HD : Hid (DnTo (swp ps 0 m) m 0 0) := hide (by
  by_cases e : m = 0
  ·subst e; exact DnTo.none
  ·exact (uh HP).swap hm (by omega))
 have HA : Hid (paceAt (swp ps 0 m) m = paceAt ps 0) := hide (by rw [swp_at (by omega) (by omega), if_pos rfl])
 have HPm : Hid ((swp ps 0 m).Perm ps) := hide (swp_perm (by omega) (by omega))
 clear hh1 hf1
 go_wp2_with fail
 refine (down_any (n := m) (i0 := 0) (uh H1) (uh HD) (by omega) (by omega) (by omega)).mono ?_
 intro e w2 hpost
 obtain ⟨b, qs, rfl, hh2, hp2, hs2, hf2, hq2⟩ := hpost.zero
 have hql : qs.length = m + 1 := by rw [hp2.length_eq, hl1]
 have H2 := hide hh2
 have HE : Hid ((qs.take m ++ [paceAt ps 0]).Perm ps) := hide (by rw [← uh HA, ← hs2 m (Nat.le_refl _), take_snoc_last hql]; exact hp2.trans (uh HPm))
 have HV : Hid (paceAt qs m = paceAt ps 0) := hide ((hs2 m (Nat.le_refl _)).trans (uh HA))
 have HQ : Hid (HeapTo (qs.take m) (qs.take m).length) := hide (by rw [List.length_take, Nat.min_eq_left (by omega)]; exact hq2.take (Nat.le_refl _))
 have F2 := hide ((uh F1).trans hf2)
 clear hpost hh2 hp2 hs2 hf2 hq2
 go_wp2_with fail
 refine (popM_any (uh H2) hql).mono ?_
 rw [uh HV]
 rintro e w3 ⟨rfl, v3, hh3, ho3, hf3⟩
 have H3 := hide hh3
 have F3 := hide ((uh F2).trans hf3)
 clear hh3 hf3
 go_wp2_with fail
 go_ret
 exact ⟨rfl, v3, qs.take m, uh H3, uh HQ, uh HE, ho3, uh F3⟩
end Go.Proofs.YthbbahagpmdooaaGreatDoor
