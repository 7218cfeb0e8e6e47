/- Part 29 of what the proof rests on. No condition but those that a theorem names. -/
import Derived.Test.YtgdpaigcmoifbaaGreatXe25
import Derived.Test.YtgdpaigcmoifbaaGreatXe27
set_option maxHeartbeats 8000000
set_option maxRecDepth 100000
namespace Go.Proofs.YtgdpaigcmoifbaaGreat
open Go.ChangeShapes Go.WideShapes Go.ChangeAt Go.RowKit Go.Sort Go.Proofs.Tryz
set_option linter.unusedVariables false
structure Askable (m : SmyV) (k : Nat) : Prop where
 lt : k < m.smiths.length
 st : (recAt m.smiths k).1 ≠ 0
 y0 : 0 ≤ (recAt m.smiths k).2.2.2.1
 y1 : (recAt m.smiths k).2.2.2.1 ≤ 255
theorem fitTo_no {m : SmyV} {who : Int} {k : Nat} (h : fitAt m who k = false) : fitTo m who (k + 1) = fitTo m who k := by show (if _ then _ else _) = _; rw [h]; rfl
theorem fitTo_yes {m : SmyV} {who : Int} {k : Nat} (h : fitAt m who k = true) : fitTo m who (k + 1) = fitTo m who k ++ [(k : Int)] := by show (if _ then _ else _) = _; rw [h]; rfl
theorem l14Fitting_any {w : World} {v0 v1 v2 v3 v4 : Value} {m : SmyV} {who : Nat} (h : Smy w v0 v1 v2 v3 v4 m) (hS : Sane m) (hA : Askable m who) :
  Calls prog 73 #[.agg #[v0, v1, v2, v3, v4, .int .i64 m.now], .int .i64 (who : Int)] w fun e w' => ∃ v', e = .returned v' ∧ NumsAt w.heap.size w' v' (fittingL m (who : Int)) ∧ Below w.heap.size w w' := by
 have Hv := hide (h.alloc (.cells #[v0, v1, v2, v3, v4, .int .i64 m.now] 32))
 obtain ⟨a0, p0, a1, p1, a2, p2, a3, p3, a4, p4, rfl, rfl, rfl, rfl, rfl, _, _, _, _, _, _, _, _, _, _⟩ := h.five
 have HW := hide h
 clear h
 obtain ⟨BB0, kb0⟩ := one_box0 w 32 (S6 a0 p0 a1 p1 a2 p2 a3 p3 a4 p4 m)
 have HS := hide hS
 have HA := hide hA
 have h8 := hS.eight
 clear hS hA
 have kb1 : Hid (Blk ((w.alloc (.cells (S6 a0 p0 a1 p1 a2 p2 a3 p3 a4 p4 m) 32)).alloc (.cells #[] 2)) w.heap.size 32 (S6 a0 p0 a1 p1 a2 p2 a3 p3 a4 p4 m)) := hide ((uh kb0).alloc _)
 have BB1 : Hid (Below w.heap.size w ((w.alloc (.cells (S6 a0 p0 a1 p1 a2 p2 a3 p3 a4 p4 m) 32)).alloc (.cells #[] 2))) := hide ((uh BB0).alloc (uh BB0).size _)
 have Hv0 := hide ((uh Hv).alloc (.cells #[] 2))
 have E0 : Hid (NumsAt (w.heap.size + 1) ((w.alloc (.cells (S6 a0 p0 a1 p1 a2 p2 a3 p3 a4 p4 m) 32)).alloc (.cells #[] 2)) (.slice (some ⟨w.heap.size + 1, 0, none⟩) 0 0) []) := hide (recs_empty (by simp) (by simp))
 clear kb0 BB0 Hv
 go_enter func73, ntmps73
 go_wp2_with fail
 go_loopw [5, 6] (fun l i wr => ∃ k : Nat, k ≤ m.desks.length ∧ i = .int .i64 k ∧ NumsAt (w.heap.size + 1) wr l (fitTo m (who : Int) k) ∧ Blk wr w.heap.size 32 (S6 a0 p0 a1 p1 a2 p2 a3 p3 a4 p4 m) ∧ Smy wr (.slice a0 m.rooms.length p0) (.slice a1 m.guilds.length p1) (.slice a2 m.smiths.length p2) (.slice a3 m.desks.length p3) (.slice a4 m.paces.length p4) m ∧ Below w.heap.size w wr) (fun _ i _ => m.desks.length - (intOf i).toNat)
 case atStart => exact ⟨0, alNzl _, rfl, uh E0, uh kb1, uh Hv0, uh BB1⟩
 case round =>
  obtain ⟨k, hk, rfl, hl, hkb, hv, hb0⟩ := hrel
  obtain ⟨la, lc, rfl⟩ := RecAt.shape hl
  have HL := hide hl
  have kb := hide hkb
  have Hv1 := hide hv
  have BB := hide hb0
  have hbl := (uh kb).lt
  have hfl := fitTo_len m (who : Int) k
  clear hkb hv hb0 kb1 BB1 Hv0 E0 hl
  obtain ⟨c0, c1, c2, c3, c4, c5⟩ := (uh kb).c6
  by_cases hlt : k < m.desks.length
  ·have hlt1 : (k : Int) < (m.desks.length : Int) := by omega
   have Hc : Hid (fitAt m (who : Int) k = (mayAt m (who : Int) k && fitsB (wantV m (who : Int)) (usedV m (k : Int) (who : Int)) (forceV m.rooms (k : Int)))) := hide rfl
   have Hno := hide (fun hh => fitTo_no (m := m) (who := (who : Int)) (k := k) hh)
   have Hyes := hide (fun hh => fitTo_yes (m := m) (who := (who : Int)) (k := k) hh)
   have hfo := forceV_t ((uh HS).bench hlt)
   have Hma := hide (fun (W : World) (hW : Below wr.heap.size wr W) => l14May_any ((uh Hv1).below hW) (uh HA).lt hlt (by omega) (uh HA).y0 (uh HA).y1)
   have Hwa := hide (fun (W : World) (hW : Below wr.heap.size wr W) => l11Want_any ((uh Hv1).below hW) (uh HS).guilded.guilds (uh HA).lt ((uh HS).guilded.lo who (uh HA).lt (uh HA).st) ((uh HS).guilded.hi who (uh HA).lt (uh HA).st))
   have Hu := hide (fun (W : World) (hW : Below wr.heap.size wr W) => l11Used_any (k : Int) (who : Int) ((uh Hv1).below hW) (uh HS).guilded (by have := (uh HS).few; omega))
   have Hf := hide (fun (W : World) (hW : Below wr.heap.size wr W) => l4Force_any (k : Int) ((uh Hv1).below hW).rooms ((uh HS).bench hlt))
   rw [← hfo] at Hf
   clear hfo
   have Ht := hide (fun (W : World) => Calls.same_below (specFitsIn_any (wantV m (who : Int)) (usedV m (k : Int) (who : Int)) (forceV m.rooms (k : Int)) W))
   generalize mayAt m (who : Int) k = ma at *
   generalize wantV m (who : Int) = wa at *
   generalize usedV m (k : Int) (who : Int) = us at *
   generalize forceV m.rooms (k : Int) = fo at *
   generalize fitsB wa us fo = fi at *
   have y0 := alCrg c0
   have y1 := alCrg c1
   have y2 := alCrg c2
   have y3 := alCrg c3
   have y4 := alCrg c4
   have y5 := alCrg c5
   cases ma
   ·go_wp2_with fail
    refine wq ?_
    repeat (go_big_quiet_step (first | exact alCro (uh Hma _ (alBrg _ _ _)) | exact alCro (uh Hwa _ (alBrg _ _ _)) | exact alCro (uh Hu _ (alBrg _ _ _)) | exact alCro (uh Hf _ (alBrg _ _ _)) | exact alCro (uh Ht _)))
    refine wpQuiet_nil ?_
    intro _ hw'
    obtain ⟨⟨dq, osq⟩, hw''⟩ := hw'
    subst hw''
    go_wp2_with fail
    go_roundw
    case rel => exact ⟨k + 1, by omega, by go_num, by rw [uh Hno (uh Hc)]; exact RecAt.later (uh HL) (alBrg _ _ _), (uh kb).below (alBrg _ _ _) (uh kb).lt, (uh Hv1).below (alBrg _ _ _), (uh BB).trans ((alBrg _ _ _).mono (uh BB).size)⟩
    case measure => exact ms
   cases fi
   ·go_wp2_with fail
    refine wq ?_
    repeat (go_big_quiet_step (first | exact alCro (uh Hma _ (alBrg _ _ _)) | exact alCro (uh Hwa _ (alBrg _ _ _)) | exact alCro (uh Hu _ (alBrg _ _ _)) | exact alCro (uh Hf _ (alBrg _ _ _)) | exact alCro (uh Ht _)))
    refine wpQuiet_nil ?_
    intro _ hw'
    obtain ⟨⟨dq, osq⟩, hw''⟩ := hw'
    subst hw''
    go_wp2_with fail
    go_roundw
    case rel => exact ⟨k + 1, by omega, by go_num, by rw [uh Hno (uh Hc)]; exact RecAt.later (uh HL) (alBrg _ _ _), (uh kb).below (alBrg _ _ _) (uh kb).lt, (uh Hv1).below (alBrg _ _ _), (uh BB).trans ((alBrg _ _ _).mono (uh BB).size)⟩
    case measure => exact ms
   ·go_wp2_with fail
    refine wq ?_
    repeat (go_big_quiet_step (first | exact alCro (uh Hma _ (alBrg _ _ _)) | exact alCro (uh Hwa _ (alBrg _ _ _)) | exact alCro (uh Hu _ (alBrg _ _ _)) | exact alCro (uh Hf _ (alBrg _ _ _)) | exact alCro (uh Ht _)))
    refine wpQuiet_nil ?_
    intro _ hw'
    obtain ⟨⟨dq, osq⟩, hw''⟩ := hw'
    subst hw''
    clear c0 c1 c2 c3 c4 c5 y0 y1 y2 y3 y4 y5 Hma Hwa Hu Hf Ht
    have hb9 := alBrg wr dq osq
    replace HL := hide (RecAt.later (uh HL) hb9)
    replace kb := hide ((uh kb).below hb9 (uh kb).lt)
    replace Hv1 := hide ((uh Hv1).below hb9)
    replace BB := hide ((uh BB).trans (hb9.mono (uh BB).size))
    clear hb9
    generalize grow (redrawn wr dq) osq = X at *
    have hsx := (uh BB).size
    go_wp2_with (at_builtin; refine wpList_append_recs tyN rfl (.tmp 33) (.tmp 35) 30 underlying30 rfl (w.heap.size + 1) _ _ (fitTo m (who : Int) k) [(k : Int)] rfl rfl (RecAt.later (uh HL) ((ba _ _))) (recs_one (k : Int) rfl (alNlr _) (by omega)) (by simp; omega) (by simp; omega) ?_; intro u9 w9 hp9 hg9 hat9; have HP9 := hide hp9; have HG9 := hide hg9; clear hp9 hg9 hat9)
    have hlx := (uh kb).lt
    have hgo : ∀ i, (Value.slice la (fitTo m (who : Int) k).length lc).ownBlock = some i → w.heap.size + 1 ≤ i := fun i e => (RecAt.lt (uh HL) e).1
    have hb9 : Below (w.heap.size + 1) X w9 := ((alBrf _ _).alloc hlx _).trans ((alBrf _ _).grown (uh HG9) (by simp; omega) hgo)
    have hb8 := (uh BB).trans (hb9.mono (Nat.le_succ _))
    go_wp2_with fail
    go_roundw
    case rel => exact ⟨k + 1, by omega, by go_num, by rw [uh Hyes (uh Hc)]; exact uh HP9, (uh kb).below hb9 (Nat.lt_succ_self _), (uh HW).below hb8, hb8⟩
    case measure => exact ms
  ·obtain rfl : k = m.desks.length := by omega
   go_wp2_with fail
   go_ret
   exact ⟨_, rfl, RecAt.mono (uh HL) (Nat.le_succ _), uh BB⟩
theorem nums_at {w : World} {g : Nat} {zs : List Int} (h : ∀ j, j < zs.length → ∀ i u, (encNum (recAt zs j))[i]? = some u → w.cell? ⟨g, j * 1 + i, none⟩ = some u) {j : Nat} (hj : j < zs.length) : w.cell? ⟨g, j, none⟩ = some (.int .i64 (recAt zs j)) := by
 have := h j hj 0 _ rfl
 simpa using this
theorem chosen_most {m : SmyV} {who : Int} (h : crowdB m = true ∨ (crowdB m = false ∧ (fittingL m who).length = 0)) : chosenV m who = (mostTo m who m.desks.length).1 := by
 unfold chosenV
 rcases h with e | ⟨e, e'⟩
 ·rw [e]; rfl
 ·rw [e, e']; rfl
theorem chosen_best {m : SmyV} {who : Int} (h : crowdB m = false) (h' : 0 < (fittingL m who).length) : chosenV m who = (bestTo m who (fittingL m who) (fittingL m who).length).1 := by
 unfold chosenV
 rw [h, decide_eq_true h']; rfl
theorem mostTo_yes {m : SmyV} {who : Int} {k : Nat} (hm : mayAt m who k = true) (h : (mostTo m who k).1 < 0 ∨ (mostTo m who k).2 < spareV (usedV m k who) (forceV m.rooms k)) : mostTo m who (k + 1) = ((k : Int), spareV (usedV m k who) (forceV m.rooms k)) := by
 show (if _ then _ else _) = _
 rw [hm]
 rcases h with h | h
 ·rw [decide_eq_true h]; rfl
 ·rw [decide_eq_true h, Bool.or_true]; rfl
theorem mostTo_no {m : SmyV} {who : Int} {k : Nat} (h : mayAt m who k = false ∨ (¬ (mostTo m who k).1 < 0 ∧ ¬ (mostTo m who k).2 < spareV (usedV m k who) (forceV m.rooms k))) : mostTo m who (k + 1) = mostTo m who k := by
 show (if _ then _ else _) = _
 rcases h with h | ⟨h, h'⟩
 ·rw [h]; rfl
 ·rw [decide_eq_false h, decide_eq_false h', Bool.or_false, Bool.and_false]; rfl
theorem bestTo_one {m : SmyV} {who : Int} {f : List Int} : bestTo m who f 1 = (recAt f 0, coalWithV m who (recAt f 0)) := by
 cases f <;> rfl
theorem bestTo_next {m : SmyV} {who : Int} {f : List Int} {k : Nat} (h1 : 1 ≤ k) (hk : k < f.length) : bestTo m who f (k + 1) = stepBest m who (bestTo m who f k) (recAt f k) := by
 unfold bestTo
 have e : f.take (k + 1) = f.take k ++ [recAt f k] := by
  rw [List.take_add_one, List.getElem?_eq_getElem hk, recAt_get hk]; rfl
 rw [e, List.drop_append_of_le_length (by simp; omega), List.foldl_append]
 rfl
theorem bestTo_yes {m : SmyV} {who : Nat} {f : List Int} {k : Nat} (h1 : 1 ≤ k) (hk : k < f.length) (h : coalWithV m (who : Int) (recAt f k) < (bestTo m (who : Int) f k).2 ∨ (coalWithV m (who : Int) (recAt f k) = (bestTo m (who : Int) f k).2 ∧ recAt f k = (recAt m.smiths who).2.1)) : bestTo m (who : Int) f (k + 1) = (recAt f k, coalWithV m (who : Int) (recAt f k)) := by
 rw [bestTo_next h1 hk]
 unfold stepBest
 exact if_pos h
theorem bestTo_no {m : SmyV} {who : Nat} {f : List Int} {k : Nat} (h1 : 1 ≤ k) (hk : k < f.length) (h : ¬ (coalWithV m (who : Int) (recAt f k) < (bestTo m (who : Int) f k).2 ∨ (coalWithV m (who : Int) (recAt f k) = (bestTo m (who : Int) f k).2 ∧ recAt f k = (recAt m.smiths who).2.1))) : bestTo m (who : Int) f (k + 1) = bestTo m (who : Int) f k := by
 rw [bestTo_next h1 hk]
 unfold stepBest
 exact if_neg h
theorem l14Chosen_any {w : World} {v0 v1 v2 v3 v4 : Value} {m : SmyV} {who : Nat} (h : Smy w v0 v1 v2 v3 v4 m) (hS : Sane m) (hp : m.paces.length ≤ 1000) (hA : Askable m who) :
  cB 85 #[.agg #[v0, v1, v2, v3, v4, .int .i64 m.now], .int .i64 (who : Int)] w (.int .i64 (chosenV m (who : Int))) := by
 have Hv := hide (h.alloc (.cells #[v0, v1, v2, v3, v4, .int .i64 m.now] 32))
 obtain ⟨a0, p0, a1, p1, a2, p2, a3, p3, a4, p4, rfl, rfl, rfl, rfl, rfl, _, _, _, _, _, _, _, _, _, _⟩ := h.five
 clear h
 obtain ⟨BB0, kb0⟩ := one_box0 w 32 (S6 a0 p0 a1 p1 a2 p2 a3 p3 a4 p4 m)
 have HS := hide hS
 have HA := hide hA
 have HP := hide hp
 have h8 := hS.eight
 clear hS hA hp
 obtain ⟨c0, c1, c2, c3, c4, c5⟩ := (uh kb0).c6
 have hX : (crowdB m = true ∨ (crowdB m = false ∧ (fittingL m (who : Int)).length = 0)) ∨ (crowdB m = false ∧ 0 < (fittingL m (who : Int)).length) := by
  cases crowdB m
  ·by_cases h0 : (fittingL m (who : Int)).length = 0
   ·exact .inl (.inr ⟨rfl, h0⟩)
   ·exact .inr ⟨rfl, by omega⟩
  ·exact .inl (.inl rfl)
 rcases hX with hX | ⟨hcr, hle⟩
 ·rw [chosen_most hX]
  rcases hX with hcr | ⟨hcr, hle⟩
  all_goals
   go_enter func85, ntmps85
   go_wp2_with (first | (go_at_call 73; refine (l14Fitting_any (uh Hv) (uh HS) (uh HA)).mono ?_; rintro e w1 ⟨fv, rfl, hf1, hb1⟩; obtain ⟨la, lc, rfl⟩ := RecAt.shape hf1; have HF := hide hf1; have B1 := hide hb1; have kb1 := hide ((uh kb0).below hb1 (uh kb0).lt); have Hv1 := hide ((uh Hv).below hb1); have BB1 := hide ((uh BB0).trans (hb1.mono (uh BB0).size)); clear hf1 hb1 kb0 Hv BB0 B1 c0 c1 c2 c3 c4 c5; have d0 := (uh kb1).cell (i := 0) (v := .slice a0 m.rooms.length p0) rfl; have d1 := (uh kb1).cell (i := 1) (v := .slice a1 m.guilds.length p1) rfl; have d2 := (uh kb1).cell (i := 2) (v := .slice a2 m.smiths.length p2) rfl; have d3 := (uh kb1).cell (i := 3) (v := .slice a3 m.desks.length p3) rfl; have d4 := (uh kb1).cell (i := 4) (v := .slice a4 m.paces.length p4) rfl; have d5 := (uh kb1).cell (i := 5) (v := .int .i64 m.now) rfl) | (go_at_call 86; refine (l14Crowded_any (uh Hv1) (uh HS)).mono ?_; rintro e w2 ⟨he, hb2⟩; rw [hcr] at he; subst he; have B2 := hide hb2; clear hb2) | fail)
   have kb2 := hide ((uh kb1).below (uh B2) (uh kb1).lt)
   have Hv2 := hide ((uh Hv1).below (uh B2))
   have BB2 := hide ((uh BB1).trans ((uh B2).mono (uh BB1).size))
   clear kb1 Hv1 BB1 B2 d0 d1 d2 d3 d4 d5 HF
   go_loopw [10, 11, 12] (fun bv mv i wr => ∃ k : Nat, k ≤ m.desks.length ∧ bv = .int .i64 (mostTo m (who : Int) k).1 ∧ mv = .int .i64 (mostTo m (who : Int) k).2 ∧ i = .int .i64 k ∧ Blk wr w.heap.size 32 (S6 a0 p0 a1 p1 a2 p2 a3 p3 a4 p4 m) ∧ Smy wr (.slice a0 m.rooms.length p0) (.slice a1 m.guilds.length p1) (.slice a2 m.smiths.length p2) (.slice a3 m.desks.length p3) (.slice a4 m.paces.length p4) m ∧ Below w.heap.size w wr) (fun _ _ i _ => m.desks.length - (intOf i).toNat)
   case atStart => exact ⟨0, alNzl _, rfl, rfl, rfl, uh kb2, uh Hv2, uh BB2⟩
   case round =>
    obtain ⟨k, hk, rfl, rfl, rfl, hkb, hv, hb0⟩ := hrel
    have kb := hide hkb
    have Hv3 := hide hv
    have BB := hide hb0
    clear hkb hv hb0 kb2 BB2 Hv2
    obtain ⟨e0, e1, e2, e3, e4, e5⟩ := (uh kb).c6
    by_cases hlt : k < m.desks.length
    ·have hlt1 : (k : Int) < (m.desks.length : Int) := by omega
     have Hno := hide (fun hh => mostTo_no (m := m) (who := (who : Int)) (k := k) hh)
     have Hyes := hide (fun ha hh => mostTo_yes (m := m) (who := (who : Int)) (k := k) ha hh)
     have hfo := forceV_t ((uh HS).bench hlt)
     have Hma := hide (fun (W : World) (hW : Below wr.heap.size wr W) => l14May_any ((uh Hv3).below hW) (uh HA).lt hlt (by omega) (uh HA).y0 (uh HA).y1)
     have Hu := hide (fun (W : World) (hW : Below wr.heap.size wr W) => l11Used_any (k : Int) (who : Int) ((uh Hv3).below hW) (uh HS).guilded (by have := (uh HS).few; omega))
     have Hf := hide (fun (W : World) (hW : Below wr.heap.size wr W) => l4Force_any (k : Int) ((uh Hv3).below hW).rooms ((uh HS).bench hlt))
     rw [← hfo] at Hf
     clear hfo
     have Ht := hide (fun (W : World) => Calls.same_below (specSpareOf_any (usedV m (k : Int) (who : Int)) (forceV m.rooms (k : Int)) W))
     generalize mayAt m (who : Int) k = ma at *
     generalize usedV m (k : Int) (who : Int) = us at *
     generalize forceV m.rooms (k : Int) = fo at *
     generalize spareV us fo = sp at *
     obtain ⟨bt, hbt⟩ := alAx ((mostTo m (who : Int) k).1)
     obtain ⟨mt, hmt⟩ := alAx ((mostTo m (who : Int) k).2)
     rw [hbt, hmt] at Hno Hyes
     rw [hbt, hmt]
     have Hbt := hide hbt
     have Hmt := hide hmt
     clear hbt hmt
     have y0 := alCrg e0
     have y1 := alCrg e1
     have y2 := alCrg e2
     have y3 := alCrg e3
     have y4 := alCrg e4
     have y5 := alCrg e5
     cases ma
     ·go_wp2_with fail
      refine wq ?_
      repeat (go_big_quiet_step (first | exact alCro (uh Hu _ (alBrg _ _ _)) | exact alCro (uh Hf _ (alBrg _ _ _)) | exact alCro (uh Ht _)))
      refine wpQuiet_nil ?_
      intro _ hw'
      obtain ⟨⟨dq, osq⟩, hw''⟩ := hw'
      subst hw''
      go_wp2_with (go_at_call 75; refine (uh Hma _ (alBrg _ _ _)).mono ?_; rintro e w5 ⟨rfl, hb5⟩; have HX := hide ((alBrg wr dq osq).trans (hb5.mono (alBrg _ _ _).size)); clear hb5)
      go_roundw
      case rel => exact ⟨k + 1, by omega, by rw [uh Hno (.inl (by simp)), uh Hbt], by rw [uh Hno (.inl (by simp)), uh Hmt], by go_num, (uh kb).below (uh HX) (uh kb).lt, (uh Hv3).below (uh HX), (uh BB).trans ((uh HX).mono (uh BB).size)⟩
      case measure => exact ms
     by_cases hb1 : bt < 0
     ·go_wp2_with fail
      refine wq ?_
      repeat (go_big_quiet_step (first | exact alCro (uh Hu _ (alBrg _ _ _)) | exact alCro (uh Hf _ (alBrg _ _ _)) | exact alCro (uh Ht _)))
      refine wpQuiet_nil ?_
      intro _ hw'
      obtain ⟨⟨dq, osq⟩, hw''⟩ := hw'
      subst hw''
      go_wp2_with (go_at_call 75; refine (uh Hma _ (alBrg _ _ _)).mono ?_; rintro e w5 ⟨rfl, hb5⟩; have HX := hide ((alBrg wr dq osq).trans (hb5.mono (alBrg _ _ _).size)); clear hb5)
      go_roundw
      case rel => exact ⟨k + 1, by omega, by rw [uh Hyes (by simp) (.inl hb1)], by rw [uh Hyes (by simp) (.inl hb1)], by go_num, (uh kb).below (uh HX) (uh kb).lt, (uh Hv3).below (uh HX), (uh BB).trans ((uh HX).mono (uh BB).size)⟩
      case measure => exact ms
     by_cases hb2 : mt < sp
     ·go_wp2_with fail
      refine wq ?_
      repeat (go_big_quiet_step (first | exact alCro (uh Hu _ (alBrg _ _ _)) | exact alCro (uh Hf _ (alBrg _ _ _)) | exact alCro (uh Ht _)))
      refine wpQuiet_nil ?_
      intro _ hw'
      obtain ⟨⟨dq, osq⟩, hw''⟩ := hw'
      subst hw''
      go_wp2_with (go_at_call 75; refine (uh Hma _ (alBrg _ _ _)).mono ?_; rintro e w5 ⟨rfl, hb5⟩; have HX := hide ((alBrg wr dq osq).trans (hb5.mono (alBrg _ _ _).size)); clear hb5)
      go_roundw
      case rel => exact ⟨k + 1, by omega, by rw [uh Hyes (by simp) (.inr hb2)], by rw [uh Hyes (by simp) (.inr hb2)], by go_num, (uh kb).below (uh HX) (uh kb).lt, (uh Hv3).below (uh HX), (uh BB).trans ((uh HX).mono (uh BB).size)⟩
      case measure => exact ms
     ·go_wp2_with fail
      refine wq ?_
      repeat (go_big_quiet_step (first | exact alCro (uh Hu _ (alBrg _ _ _)) | exact alCro (uh Hf _ (alBrg _ _ _)) | exact alCro (uh Ht _)))
      refine wpQuiet_nil ?_
      intro _ hw'
      obtain ⟨⟨dq, osq⟩, hw''⟩ := hw'
      subst hw''
      go_wp2_with (go_at_call 75; refine (uh Hma _ (alBrg _ _ _)).mono ?_; rintro e w5 ⟨rfl, hb5⟩; have HX := hide ((alBrg wr dq osq).trans (hb5.mono (alBrg _ _ _).size)); clear hb5)
      go_roundw
      case rel => exact ⟨k + 1, by omega, by rw [uh Hno (.inr ⟨by omega, by omega⟩), uh Hbt], by rw [uh Hno (.inr ⟨by omega, by omega⟩), uh Hmt], by go_num, (uh kb).below (uh HX) (uh kb).lt, (uh Hv3).below (uh HX), (uh BB).trans ((uh HX).mono (uh BB).size)⟩
      case measure => exact ms
    ·obtain rfl : k = m.desks.length := by omega
     go_wp2_with fail
     go_ret
     exact ⟨rfl, uh BB⟩
 ·rw [chosen_best hcr hle]
  have hlb : (fittingL m (who : Int)).length ≤ m.desks.length := fitTo_len m (who : Int) m.desks.length
  generalize hL : fittingL m (who : Int) = L at *
  go_enter func85, ntmps85
  go_wp2_with (first | (go_at_call 73; refine (l14Fitting_any (uh Hv) (uh HS) (uh HA)).mono ?_; rintro e w1 ⟨fv, rfl, hf1, hb1⟩; rw [hL] at hf1; obtain ⟨la, lc, rfl⟩ := RecAt.shape hf1; obtain ⟨g, rfl, _, g1, hgc, _⟩ := RecAt.view encNum_len (by omega) hf1 rfl hle; have C1 := hide (fun j hj => nums_at hgc (j := j) hj); have kb1 := hide ((uh kb0).below hb1 (uh kb0).lt); have Hv1 := hide ((uh Hv).below hb1); have BB1 := hide ((uh BB0).trans (hb1.mono (uh BB0).size)); clear hf1 hb1 hgc kb0 Hv BB0 c0 c1 c2 c3 c4 c5; have d0 := (uh kb1).cell (i := 0) (v := .slice a0 m.rooms.length p0) rfl; have d1 := (uh kb1).cell (i := 1) (v := .slice a1 m.guilds.length p1) rfl; have d2 := (uh kb1).cell (i := 2) (v := .slice a2 m.smiths.length p2) rfl; have d3 := (uh kb1).cell (i := 3) (v := .slice a3 m.desks.length p3) rfl; have d4 := (uh kb1).cell (i := 4) (v := .slice a4 m.paces.length p4) rfl; have d5 := (uh kb1).cell (i := 5) (v := .int .i64 m.now) rfl) | (go_at_call 86; refine (l14Crowded_any (uh Hv1) (uh HS)).mono ?_; rintro e w2 ⟨he, hb2⟩; rw [hcr] at he; subst he; have kb2 := hide ((uh kb1).below hb2 (uh kb1).lt); have Hv2 := hide ((uh Hv1).below hb2); have BB2 := hide ((uh BB1).trans (hb2.mono (uh BB1).size)); have C2 := hide (fun j hj => (hb2.cell (p := ⟨g, j, none⟩) g1).trans (uh C1 j hj)); have g2 := alNll g1 hb2.size; clear hb2 kb1 Hv1 BB1 C1 g1 d0 d1 d2 d3 d4 d5; have d0 := (uh kb2).cell (i := 0) (v := .slice a0 m.rooms.length p0) rfl; have d1 := (uh kb2).cell (i := 1) (v := .slice a1 m.guilds.length p1) rfl; have d2 := (uh kb2).cell (i := 2) (v := .slice a2 m.smiths.length p2) rfl; have d3 := (uh kb2).cell (i := 3) (v := .slice a3 m.desks.length p3) rfl; have d4 := (uh kb2).cell (i := 4) (v := .slice a4 m.paces.length p4) rfl; have d5 := (uh kb2).cell (i := 5) (v := .int .i64 m.now) rfl; have x0 := uh C2 0 hle) | (go_at_call 65; refine (l13With_any _ (uh Hv2) (uh HS) (uh HP) (uh HA).lt (uh HA).st).mono ?_; rintro e w3 ⟨rfl, hb3⟩; have B3 := hide hb3; clear hb3) | fail)
  have kb3 := hide ((uh kb2).below (uh B3) (uh kb2).lt)
  have Hv3 := hide ((uh Hv2).below (uh B3))
  have BB3 := hide ((uh BB2).trans ((uh B3).mono (uh BB2).size))
  have C3 := hide (fun j hj => ((uh B3).cell (p := ⟨g, j, none⟩) g2).trans (uh C2 j hj))
  have g3 := alNll g2 (uh B3).size
  clear kb2 Hv2 BB2 B3 C2 g2 d0 d1 d2 d3 d4 d5 x0
  go_loopw [6, 7, 8] (fun bv lv i wr => ∃ k : Nat, 1 ≤ k ∧ k ≤ L.length ∧ bv = .int .i64 (bestTo m (who : Int) L k).1 ∧ lv = .int .i64 (bestTo m (who : Int) L k).2 ∧ i = .int .i64 k ∧ (∀ j, j < L.length → wr.cell? ⟨g, j, none⟩ = some (.int .i64 (recAt L j))) ∧ g < wr.heap.size ∧ Blk wr w.heap.size 32 (S6 a0 p0 a1 p1 a2 p2 a3 p3 a4 p4 m) ∧ Smy wr (.slice a0 m.rooms.length p0) (.slice a1 m.guilds.length p1) (.slice a2 m.smiths.length p2) (.slice a3 m.desks.length p3) (.slice a4 m.paces.length p4) m ∧ Below w.heap.size w wr) (fun _ _ i _ => L.length - (intOf i).toNat)
  case atStart => exact ⟨1, alNlr _, by omega, by rw [bestTo_one], by rw [bestTo_one], rfl, uh C3, g3, uh kb3, uh Hv3, uh BB3⟩
  case round =>
   obtain ⟨k, hk1, hk, rfl, rfl, rfl, hc, hg, hkb, hv, hb0⟩ := hrel
   have HC := hide hc
   have kb := hide hkb
   have Hv4 := hide hv
   have BB := hide hb0
   clear hkb hv hb0 kb3 BB3 Hv3 hc C3 g3
   obtain ⟨e0, e1, e2, e3, e4, e5⟩ := (uh kb).c6
   by_cases hlt : k < L.length
   ·have hlt1 : (k : Int) < (L.length : Int) := by omega
    have x0 := uh HC k hlt
    obtain ⟨_, _, hse, _, _, r2⟩ := (uh Hv4).smiths
    cases hse
    have hwl := (uh HA).lt
    rcases r2 with e0 | ⟨sb, so, rfl, hbs, hcs⟩
    ·rw [e0] at hwl; simp at hwl
    obtain ⟨_, s1, _⟩ := smith_cells hcs hwl
    clear hcs
    have hwl1 : (who : Int) < (m.smiths.length : Int) := by omega
    have Hno := hide (fun hh => bestTo_no (m := m) (who := who) (k := k) hk1 hlt hh)
    have Hyes := hide (fun hh => bestTo_yes (m := m) (who := who) (k := k) hk1 hlt hh)
    have Hw := hide (fun (W : World) (hW : Below wr.heap.size wr W) => l13With_any (recAt L k) ((uh Hv4).below hW) (uh HS) (uh HP) (uh HA).lt (uh HA).st)
    generalize coalWithV m (who : Int) (recAt L k) = n at *
    generalize recAt L k = x at *
    generalize (recAt m.smiths who).2.1 = y at *
    obtain ⟨bt, hbt⟩ := alAx ((bestTo m (who : Int) L k).1)
    obtain ⟨lt, hmt⟩ := alAx ((bestTo m (who : Int) L k).2)
    rw [hmt] at Hno Hyes
    rw [hbt, hmt]
    have Hbt := hide hbt
    have Hmt := hide hmt
    clear hbt hmt
    have y0 := alCrg e0
    have y1 := alCrg e1
    have y2 := alCrg e2
    have y3 := alCrg e3
    have y4 := alCrg e4
    have y5 := alCrg e5
    have z0 := alCrg x0
    have z1 := alCrg s1
    go_wp2_with fail
    refine wq ?_
    repeat (go_big_quiet_step (first | exact alCro (uh Hw _ (alBrg _ _ _))))
    refine wpQuiet_nil ?_
    intro _ hw'
    obtain ⟨⟨dq, osq⟩, hw''⟩ := hw'
    subst hw''
    go_wp2_with fail
    have hX := hide (alBrg wr dq osq)
    have q0 := y0 dq osq; have q1 := y1 dq osq; have q2 := y2 dq osq; have q3 := y3 dq osq; have q4 := y4 dq osq; have q5 := y5 dq osq
    have r0 := z0 dq osq
    have r1 := z1 dq osq
    clear z0 z1 x0 s1 y0 y1 y2 y3 y4 y5 e0 e1 e2 e3 e4 e5 Hw
    have HC2 := hide (fun j hj => ((uh hX).cell (p := ⟨g, j, none⟩) hg).trans (uh HC j hj))
    have hg2 := alNll hg (uh hX).size
    have kb9 := hide ((uh kb).below (uh hX) (uh kb).lt)
    have Hv9 := hide ((uh Hv4).below (uh hX))
    have BB9 := hide ((uh BB).trans ((uh hX).mono (uh BB).size))
    clear HC hg kb Hv4 BB hX hbs
    generalize grow (redrawn wr dq) osq = X at *
    have r2 := alCrg r0
    have r3 := alCrg r1
    have t0 := alCrg q0; have t1 := alCrg q1; have t2 := alCrg q2; have t3 := alCrg q3; have t4 := alCrg q4; have t5 := alCrg q5
    by_cases hn : n < lt
    ·refine wq ?_
     repeat (go_big_quiet_step (fail))
     refine wpQuiet_nil ?_
     intro _ hw'
     obtain ⟨⟨dq, osq⟩, hw''⟩ := hw'
     subst hw''
     go_wp2_with fail
     go_roundw
     case rel => exact ⟨k + 1, by omega, by omega, by rw [uh Hyes (by omega)], by rw [uh Hyes (by omega)], by go_num, fun j hj => ((alBrg X dq osq).cell (p := ⟨g, j, none⟩) hg2).trans (uh HC2 j hj), alNll hg2 (alBrg X dq osq).size, (uh kb9).below (alBrg X dq osq) (uh kb9).lt, (uh Hv9).below (alBrg X dq osq), (uh BB9).trans ((alBrg X dq osq).mono (uh BB9).size)⟩
     case measure => exact ms
    by_cases he : n = lt
    ·subst he
     by_cases hxy : x = y
     ·subst hxy
      refine wq ?_
      repeat (go_big_quiet_step (fail))
      refine wpQuiet_nil ?_
      intro _ hw'
      obtain ⟨⟨dq, osq⟩, hw''⟩ := hw'
      subst hw''
      go_wp2_with fail
      go_roundw
      case rel => exact ⟨k + 1, by omega, by omega, by rw [uh Hyes (by omega)], by rw [uh Hyes (by omega)], by go_num, fun j hj => ((alBrg X dq osq).cell (p := ⟨g, j, none⟩) hg2).trans (uh HC2 j hj), alNll hg2 (alBrg X dq osq).size, (uh kb9).below (alBrg X dq osq) (uh kb9).lt, (uh Hv9).below (alBrg X dq osq), (uh BB9).trans ((alBrg X dq osq).mono (uh BB9).size)⟩
      case measure => exact ms
     ·refine wq ?_
      repeat (go_big_quiet_step (fail))
      refine wpQuiet_nil ?_
      intro _ hw'
      obtain ⟨⟨dq, osq⟩, hw''⟩ := hw'
      subst hw''
      go_wp2_with fail
      go_roundw
      case rel => exact ⟨k + 1, by omega, by omega, by rw [uh Hno (by omega), uh Hbt], by rw [uh Hno (by omega), uh Hmt], by go_num, fun j hj => ((alBrg X dq osq).cell (p := ⟨g, j, none⟩) hg2).trans (uh HC2 j hj), alNll hg2 (alBrg X dq osq).size, (uh kb9).below (alBrg X dq osq) (uh kb9).lt, (uh Hv9).below (alBrg X dq osq), (uh BB9).trans ((alBrg X dq osq).mono (uh BB9).size)⟩
      case measure => exact ms
    ·have e1 : (n == lt) = false := by simpa using he
     have e2 : decide (n = lt) = false := alDef he
     refine wq ?_
     repeat (go_big_quiet_step (fail))
     refine wpQuiet_nil ?_
     intro _ hw'
     obtain ⟨⟨dq, osq⟩, hw''⟩ := hw'
     subst hw''
     go_wp2_with fail
     go_roundw
     case rel => exact ⟨k + 1, by omega, by omega, by rw [uh Hno (by omega), uh Hbt], by rw [uh Hno (by omega), uh Hmt], by go_num, fun j hj => ((alBrg X dq osq).cell (p := ⟨g, j, none⟩) hg2).trans (uh HC2 j hj), alNll hg2 (alBrg X dq osq).size, (uh kb9).below (alBrg X dq osq) (uh kb9).lt, (uh Hv9).below (alBrg X dq osq), (uh BB9).trans ((alBrg X dq osq).mono (uh BB9).size)⟩
     case measure => exact ms
   ·obtain rfl : k = L.length := by omega
    go_wp2_with fail
    go_ret
    exact ⟨rfl, uh BB⟩
set_option maxRecDepth 100000
theorem ask_of {m : SmyV} (h : Loose m) {k : Nat} (hk : k < m.smiths.length) (hs : (recAt m.smiths k).1 ≠ 0) : Askable m k := by
 have key := may_bd h hk hs
 exact ⟨hk, hs, key.1, key.2⟩
theorem specMayWork_any {w : World} {v0 v1 v2 v3 v4 : Value} {m : SmyV} {who b : Int} {q : Bool} (hq : mayWorkV m who b = q) (h : Smy w v0 v1 v2 v3 v4 m) : cB 24 #[.agg #[v0, v1, v2, v3, v4, .int .i64 m.now], .int .i64 who, .int .i64 b] w (.bool q) := by
 have Hq := hide hq
 clear hq
 obtain ⟨ok, Hok⟩ := alAn (smyB m)
 obtain ⟨a0, p0, a1, p1, a2, p2, a3, p3, a4, p4, rfl, rfl, rfl, rfl, rfl, K⟩ := Bx.new h
 clear h
 go_enter func24, ntmps24
 go_wp2_with fail
 generalize w.alloc (.cells (S6 a0 p0 a1 p1 a2 p2 a3 p3 a4 p4 m) 32) = W at *
 refine ck (spec_q (uh Hok) K.smy) fun w1 hb => ?_
 replace K := K.next hb
 clear hb
 cases ok
 ·obtain rfl : q = false := by rw [← uh Hq]; unfold mayWorkV; rw [uh Hok]; simp
  go_wp2_with fail
  go_ret
  exact ⟨rfl, K.bb⟩
 obtain ⟨qw, Hw⟩ := alAn (whoB m who)
 obtain ⟨c0, c1, c2, c3, c4, c5⟩ := K.cells
 go_wp2_with fail
 refine ck (l11Who_q (uh Hw) K.smy) fun w2 hb => ?_
 replace K := K.next hb
 clear hb c0 c1 c2 c3 c4 c5
 cases qw
 ·obtain rfl : q = false := by rw [← uh Hq]; unfold mayWorkV; rw [uh Hw]; simp
  go_wp2_with fail
  go_ret
  exact ⟨rfl, K.bb⟩
 obtain ⟨qb, Hb⟩ := alAn (isBenchB m b)
 obtain ⟨c0, c1, c2, c3, c4, c5⟩ := K.cells
 go_wp2_with fail
 refine ck (l11Bench_q (uh Hb) K.smy) fun w3 hb => ?_
 replace K := K.next hb
 clear hb c0 c1 c2 c3 c4 c5
 cases qb
 ·obtain rfl : q = false := by rw [← uh Hq]; unfold mayWorkV; rw [uh Hb]; simp
  go_wp2_with fail
  go_ret
  exact ⟨rfl, K.bb⟩
 obtain ⟨k, rfl, hk, hs⟩ := whoB_of (uh Hw)
 have hbb : 0 ≤ b ∧ b < (m.desks.length : Int) := by have := inB_of (show inB b 0 ((m.desks.length : Int) - 1) = true from uh Hb); omega
 obtain ⟨bn, rfl⟩ : ∃ bn : Nat, b = bn := ⟨b.toNat, by omega⟩
 have hlt : bn < m.desks.length := by omega
 obtain rfl : q = mayAt m (k : Int) bn := by rw [← uh Hq]; unfold mayWorkV; rw [uh Hok, uh Hw, uh Hb, alInc]; rfl
 have HA := hide (ask_of (smy_loose (uh Hok)) hk hs)
 have h8 := (smy_loose (uh Hok)).sane.eight
 obtain ⟨c0, c1, c2, c3, c4, c5⟩ := K.cells
 go_wp2_with fail
 refine ck (l14May_any K.smy hk hlt (by omega) (uh HA).y0 (uh HA).y1) fun w4 hb => ?_
 replace K := K.next hb
 clear hb c0 c1 c2 c3 c4 c5
 go_wp2_with fail
 go_ret
 exact ⟨rfl, K.bb⟩
theorem specFitting_any {w : World} {v0 v1 v2 v3 v4 : Value} {m : SmyV} {who : Int} {q : List Int} (hq : fittingOfV m who = q) (h : Smy w v0 v1 v2 v3 v4 m) : Calls prog 22 #[.agg #[v0, v1, v2, v3, v4, .int .i64 m.now], .int .i64 who] w fun e w' => ∃ v', e = .returned v' ∧ NumsAt w.heap.size w' v' q ∧ Below w.heap.size w w' := by
 have Hq := hide hq
 clear hq
 obtain ⟨ok, Hok⟩ := alAn (smyB m)
 obtain ⟨a0, p0, a1, p1, a2, p2, a3, p3, a4, p4, rfl, rfl, rfl, rfl, rfl, K⟩ := Bx.new h
 clear h
 go_enter func22, ntmps22
 go_wp2_with fail
 generalize w.alloc (.cells (S6 a0 p0 a1 p1 a2 p2 a3 p3 a4 p4 m) 32) = W at *
 refine ck (spec_q (uh Hok) K.smy) fun w1 hb => ?_
 replace K := K.next hb
 clear hb
 cases ok
 ·obtain rfl : q = [] := by rw [← uh Hq]; unfold fittingOfV; rw [uh Hok]; simp
  go_wp2_with fail
  go_ret
  have hE : NumsAt w.heap.size (w1.alloc (.cells #[] 2)) (.slice (some ⟨w1.heap.size, 0, none⟩) 0 0) [] := recs_empty rfl K.bb.size
  exact ⟨_, rfl, hE, K.bb.alloc K.bb.size _⟩
 obtain ⟨qw, Hw⟩ := alAn (whoB m who)
 obtain ⟨c0, c1, c2, c3, c4, c5⟩ := K.cells
 go_wp2_with fail
 refine ck (l11Who_q (uh Hw) K.smy) fun w2 hb => ?_
 replace K := K.next hb
 clear hb c0 c1 c2 c3 c4 c5
 cases qw
 ·obtain rfl : q = [] := by rw [← uh Hq]; unfold fittingOfV; rw [uh Hw]; simp
  go_wp2_with fail
  go_ret
  have hE : NumsAt w.heap.size (w2.alloc (.cells #[] 2)) (.slice (some ⟨w2.heap.size, 0, none⟩) 0 0) [] := recs_empty rfl K.bb.size
  exact ⟨_, rfl, hE, K.bb.alloc K.bb.size _⟩
 obtain ⟨k, rfl, hk, hs⟩ := whoB_of (uh Hw)
 obtain rfl : q = fittingL m (k : Int) := by rw [← uh Hq]; unfold fittingOfV; rw [uh Hok, uh Hw]; rfl
 have HA := hide (ask_of (smy_loose (uh Hok)) hk hs)
 have HS := hide (smy_loose (uh Hok)).sane
 obtain ⟨c0, c1, c2, c3, c4, c5⟩ := K.cells
 go_wp2_with fail
 refine (l14Fitting_any K.smy (uh HS) (uh HA)).mono ?_
 rintro e w4 ⟨v9, rfl, hn, hb⟩
 have hn9 : NumsAt w.heap.size w4 v9 (fittingL m (k : Int)) := RecAt.mono hn K.bb.size
 clear hn
 replace K := K.next hb
 clear hb c0 c1 c2 c3 c4 c5
 obtain ⟨na, nc, rfl⟩ := RecAt.shape hn9
 have HN := hide hn9
 clear hn9
 go_wp2_with fail
 go_ret
 exact ⟨_, rfl, uh HN, K.bb⟩
theorem specCrowded_any {w : World} {v0 v1 v2 v3 v4 : Value} {m : SmyV}  {q : Bool} (hq : crowdedV m = q) (h : Smy w v0 v1 v2 v3 v4 m) : cB 37 #[.agg #[v0, v1, v2, v3, v4, .int .i64 m.now]] w (.bool q) := by
 have Hq := hide hq
 clear hq
 obtain ⟨ok, Hok⟩ := alAn (smyB m)
 obtain ⟨a0, p0, a1, p1, a2, p2, a3, p3, a4, p4, rfl, rfl, rfl, rfl, rfl, K⟩ := Bx.new h
 clear h
 go_enter func37, ntmps37
 go_wp2_with fail
 generalize w.alloc (.cells (S6 a0 p0 a1 p1 a2 p2 a3 p3 a4 p4 m) 32) = W at *
 refine ck (spec_q (uh Hok) K.smy) fun w1 hb => ?_
 replace K := K.next hb
 clear hb
 cases ok
 ·obtain rfl : q = false := by rw [← uh Hq]; unfold crowdedV; rw [uh Hok]; simp
  go_wp2_with fail
  go_ret
  exact ⟨rfl, K.bb⟩
 obtain rfl : q = crowdB m := by rw [← uh Hq]; unfold crowdedV; rw [uh Hok]; rfl
 have HS := hide (smy_loose (uh Hok)).sane
 obtain ⟨c0, c1, c2, c3, c4, c5⟩ := K.cells
 go_wp2_with fail
 refine ck (l14Crowded_any K.smy (uh HS)) fun w2 hb => ?_
 replace K := K.next hb
 clear hb c0 c1 c2 c3 c4 c5
 go_wp2_with fail
 go_ret
 exact ⟨rfl, K.bb⟩
theorem specChosen_any {w : World} {v0 v1 v2 v3 v4 : Value} {m : SmyV} {who : Int} {q : Int} (hq : chosenOfV m who = q) (h : Smy w v0 v1 v2 v3 v4 m) : cB 36 #[.agg #[v0, v1, v2, v3, v4, .int .i64 m.now], .int .i64 who] w (.int .i64 q) := by
 have Hq := hide hq
 clear hq
 obtain ⟨ok, Hok⟩ := alAn (smyB m)
 obtain ⟨a0, p0, a1, p1, a2, p2, a3, p3, a4, p4, rfl, rfl, rfl, rfl, rfl, K⟩ := Bx.new h
 clear h
 go_enter func36, ntmps36
 go_wp2_with fail
 generalize w.alloc (.cells (S6 a0 p0 a1 p1 a2 p2 a3 p3 a4 p4 m) 32) = W at *
 refine ck (spec_q (uh Hok) K.smy) fun w1 hb => ?_
 replace K := K.next hb
 clear hb
 cases ok
 ·obtain rfl : q = -1 := by rw [← uh Hq]; unfold chosenOfV; rw [uh Hok]; simp
  go_wp2_with fail
  go_ret
  exact ⟨rfl, K.bb⟩
 obtain ⟨qw, Hw⟩ := alAn (whoB m who)
 obtain ⟨c0, c1, c2, c3, c4, c5⟩ := K.cells
 go_wp2_with fail
 refine ck (l11Who_q (uh Hw) K.smy) fun w2 hb => ?_
 replace K := K.next hb
 clear hb c0 c1 c2 c3 c4 c5
 cases qw
 ·obtain rfl : q = -1 := by rw [← uh Hq]; unfold chosenOfV; rw [uh Hw]; simp
  go_wp2_with fail
  go_ret
  exact ⟨rfl, K.bb⟩
 obtain ⟨k, rfl, hk, hs⟩ := whoB_of (uh Hw)
 obtain rfl : q = chosenV m (k : Int) := by rw [← uh Hq]; unfold chosenOfV; rw [uh Hok, uh Hw]; rfl
 have HA := hide (ask_of (smy_loose (uh Hok)) hk hs)
 have HS := hide (smy_loose (uh Hok)).sane
 have hp := (few_of (smy_loose (uh Hok))).nums
 obtain ⟨c0, c1, c2, c3, c4, c5⟩ := K.cells
 go_wp2_with fail
 refine ck (l14Chosen_any K.smy (uh HS) hp (uh HA)) fun w3 hb => ?_
 replace K := K.next hb
 clear hb c0 c1 c2 c3 c4 c5
 go_wp2_with fail
 go_ret
 exact ⟨rfl, K.bb⟩
end Go.Proofs.YtgdpaigcmoifbaaGreat
