/- Contracts of the model's lists of words and of what is told, and of its ShowAct. Conditions: the numbers are int64. -/
import Derived.Test.YtmdgokjeobnnaaaDoorActForms
import Derived.Test.YtmdgokjeobnnaaaDoorShowIntN
import Derived.Test.YtmdgokjeobnnaaaDoorActShow
import Derived.Test.YtmdgokjeobnnaaaDoorRegTail
namespace Go.Proofs.YtmdgokjeobnnaaaDoor
open Go.ChangeShapes Go.WideShapes Go.ChangeAt Go.RowKit Go.Sort
open Go.Lib (decDigits itoa join joinTail)
set_option linter.unusedVariables false
set_option linter.unusedSimpArgs false
set_option maxRecDepth 100000

set_option maxHeartbeats 8000000 in
theorem l19Words_any (w : World) : Calls Tryd.prog 12 #[] w fun e w' => ∃ v, e = .returned v ∧ StrsAt w.heap.size w' v wordsL ∧ Below w.heap.size w w' := by
  go_enter Tryd.func12, Tryd.ntmps12
  go_wp2_with fail
  go_ret
  exact ⟨_, rfl, World.ownsRow_lit w _ 14 (Nat.le_refl _) (by simp [maxLen]) rfl, (Below.refl _ _).alloc (Nat.le_refl _) _⟩
set_option maxHeartbeats 8000000 in
theorem l19Tells_any (k : Nat) (hk : k < 14) (w : World) : Calls Tryd.prog 13 #[.int .i64 ((k : Int) + 1)] w fun e w' => ∃ v, e = .returned v ∧ PartsAt w' v (tellsL.getD k []) ∧ (∀ q, v.ownBlock = some q → w.heap.size ≤ q) ∧ Below w.heap.size w w' := by
  have hk1 : (k : Int) < 14 := by omega
  go_enter Tryd.func13, Tryd.ntmps13
  go_wp2_with fail
  go_ret
  have B0 : Below w.heap.size w w := Below.refl _ _
  obtain ⟨W1, e1, b1, s1, f1⟩ := new_block w 3 #[.int .i64 1, .int .i64 2]
  rw [e1]
  have B1 : Below w.heap.size w W1 := by rw [← e1]; exact B0.alloc B0.size _
  clear e1 B0
  obtain ⟨W2, e2, b2, s2, f2⟩ := new_block W1 3 #[.int .i64 0]
  rw [e2]
  have B2 : Below w.heap.size w W2 := by rw [← e2]; exact B1.alloc B1.size _
  clear e2 B1
  obtain ⟨W3, e3, b3, s3, f3⟩ := new_block W2 3 #[.int .i64 0]
  rw [e3]
  have B3 : Below w.heap.size w W3 := by rw [← e3]; exact B2.alloc B2.size _
  clear e3 B2
  obtain ⟨W4, e4, b4, s4, f4⟩ := new_block W3 3 #[.int .i64 0]
  rw [e4]
  have B4 : Below w.heap.size w W4 := by rw [← e4]; exact B3.alloc B3.size _
  clear e4 B3
  obtain ⟨W5, e5, b5, s5, f5⟩ := new_block W4 3 #[.int .i64 0, .int .i64 1]
  rw [e5]
  have B5 : Below w.heap.size w W5 := by rw [← e5]; exact B4.alloc B4.size _
  clear e5 B4
  obtain ⟨W6, e6, b6, s6, f6⟩ := new_block W5 3 #[.int .i64 0, .int .i64 1]
  rw [e6]
  have B6 : Below w.heap.size w W6 := by rw [← e6]; exact B5.alloc B5.size _
  clear e6 B5
  obtain ⟨W7, e7, b7, s7, f7⟩ := new_block W6 3 #[.int .i64 0, .int .i64 1, .int .i64 2]
  rw [e7]
  have B7 : Below w.heap.size w W7 := by rw [← e7]; exact B6.alloc B6.size _
  clear e7 B6
  obtain ⟨W8, e8, b8, s8, f8⟩ := new_block W7 3 #[.int .i64 1]
  rw [e8]
  have B8 : Below w.heap.size w W8 := by rw [← e8]; exact B7.alloc B7.size _
  clear e8 B7
  obtain ⟨W9, e9, b9, s9, f9⟩ := new_block W8 3 #[.int .i64 1]
  rw [e9]
  have B9 : Below w.heap.size w W9 := by rw [← e9]; exact B8.alloc B8.size _
  clear e9 B8
  obtain ⟨W10, e10, b10, s10, f10⟩ := new_block W9 3 #[.int .i64 1]
  rw [e10]
  have B10 : Below w.heap.size w W10 := by rw [← e10]; exact B9.alloc B9.size _
  clear e10 B9
  obtain ⟨W11, e11, b11, s11, f11⟩ := new_block W10 3 #[.int .i64 1, .int .i64 2]
  rw [e11]
  have B11 : Below w.heap.size w W11 := by rw [← e11]; exact B10.alloc B10.size _
  clear e11 B10
  obtain ⟨W12, e12, b12, s12, f12⟩ := new_block W11 3 #[]
  rw [e12]
  have B12 : Below w.heap.size w W12 := by rw [← e12]; exact B11.alloc B11.size _
  clear e12 B11
  obtain ⟨W13, e13, b13, s13, f13⟩ := new_block W12 3 #[]
  rw [e13]
  have B13 : Below w.heap.size w W13 := by rw [← e13]; exact B12.alloc B12.size _
  clear e13 B12
  obtain ⟨W14, e14, b14, s14, f14⟩ := new_block W13 3 #[.int .i64 0, .int .i64 1]
  rw [e14]
  have B14 : Below w.heap.size w W14 := by rw [← e14]; exact B13.alloc B13.size _
  clear e14 B13
  obtain ⟨W, e, b, s, f⟩ := new_block W14 35 #[.slice (some ⟨w.heap.size, 0, none⟩) 2 2, .slice (some ⟨w.heap.size + 1, 0, none⟩) 1 1, .slice (some ⟨w.heap.size + 1 + 1, 0, none⟩) 1 1, .slice (some ⟨w.heap.size + 1 + 1 + 1, 0, none⟩) 1 1, .slice (some ⟨w.heap.size + 1 + 1 + 1 + 1, 0, none⟩) 2 2, .slice (some ⟨w.heap.size + 1 + 1 + 1 + 1 + 1, 0, none⟩) 2 2, .slice (some ⟨w.heap.size + 1 + 1 + 1 + 1 + 1 + 1, 0, none⟩) 3 3, .slice (some ⟨w.heap.size + 1 + 1 + 1 + 1 + 1 + 1 + 1, 0, none⟩) 1 1, .slice (some ⟨w.heap.size + 1 + 1 + 1 + 1 + 1 + 1 + 1 + 1, 0, none⟩) 1 1, .slice (some ⟨w.heap.size + 1 + 1 + 1 + 1 + 1 + 1 + 1 + 1 + 1, 0, none⟩) 1 1, .slice (some ⟨w.heap.size + 1 + 1 + 1 + 1 + 1 + 1 + 1 + 1 + 1 + 1, 0, none⟩) 2 2, .slice (some ⟨w.heap.size + 1 + 1 + 1 + 1 + 1 + 1 + 1 + 1 + 1 + 1 + 1, 0, none⟩) 0 0, .slice (some ⟨w.heap.size + 1 + 1 + 1 + 1 + 1 + 1 + 1 + 1 + 1 + 1 + 1 + 1, 0, none⟩) 0 0, .slice (some ⟨w.heap.size + 1 + 1 + 1 + 1 + 1 + 1 + 1 + 1 + 1 + 1 + 1 + 1 + 1, 0, none⟩) 2 2]
  rw [e]
  have B : Below w.heap.size w W := by rw [← e]; exact B14.alloc B14.size _
  clear e
  have k1 := f (f14 (f13 (f12 (f11 (f10 (f9 (f8 (f7 (f6 (f5 (f4 (f3 (f2 (b1))))))))))))))
  have k2 := f (f14 (f13 (f12 (f11 (f10 (f9 (f8 (f7 (f6 (f5 (f4 (f3 (b2)))))))))))))
  have k3 := f (f14 (f13 (f12 (f11 (f10 (f9 (f8 (f7 (f6 (f5 (f4 (b3))))))))))))
  have k4 := f (f14 (f13 (f12 (f11 (f10 (f9 (f8 (f7 (f6 (f5 (b4)))))))))))
  have k5 := f (f14 (f13 (f12 (f11 (f10 (f9 (f8 (f7 (f6 (b5))))))))))
  have k6 := f (f14 (f13 (f12 (f11 (f10 (f9 (f8 (f7 (b6)))))))))
  have k7 := f (f14 (f13 (f12 (f11 (f10 (f9 (f8 (b7))))))))
  have k8 := f (f14 (f13 (f12 (f11 (f10 (f9 (b8)))))))
  have k9 := f (f14 (f13 (f12 (f11 (f10 (b9))))))
  have k10 := f (f14 (f13 (f12 (f11 (b10)))))
  have k11 := f (f14 (f13 (f12 (b11))))
  have k12 := f (f14 (f13 (b12)))
  have k13 := f (f14 (b13))
  have k14 := f (b14)
  rw [s1] at k2
  rw [s2, s1] at k3
  rw [s3, s2, s1] at k4
  rw [s4, s3, s2, s1] at k5
  rw [s5, s4, s3, s2, s1] at k6
  rw [s6, s5, s4, s3, s2, s1] at k7
  rw [s7, s6, s5, s4, s3, s2, s1] at k8
  rw [s8, s7, s6, s5, s4, s3, s2, s1] at k9
  rw [s9, s8, s7, s6, s5, s4, s3, s2, s1] at k10
  rw [s10, s9, s8, s7, s6, s5, s4, s3, s2, s1] at k11
  rw [s11, s10, s9, s8, s7, s6, s5, s4, s3, s2, s1] at k12
  rw [s12, s11, s10, s9, s8, s7, s6, s5, s4, s3, s2, s1] at k13
  rw [s13, s12, s11, s10, s9, s8, s7, s6, s5, s4, s3, s2, s1] at k14
  rcases (show k = 0 ∨ k = 1 ∨ k = 2 ∨ k = 3 ∨ k = 4 ∨ k = 5 ∨ k = 6 ∨ k = 7 ∨ k = 8 ∨ k = 9 ∨ k = 10 ∨ k = 11 ∨ k = 12 ∨ k = 13 by omega) with rfl | rfl | rfl | rfl | rfl | rfl | rfl | rfl | rfl | rfl | rfl | rfl | rfl | rfl
  · exact ⟨_, rfl, parts_2 k1.lt (k1.cell (i := 0) rfl) (k1.cell (i := 1) rfl), (fun q e => by have e2 := Option.some.inj (show some (w.heap.size) = some q from e); omega), B⟩
  · exact ⟨_, rfl, parts_1 k2.lt (k2.cell (i := 0) rfl), (fun q e => by have e2 := Option.some.inj (show some (w.heap.size + 1) = some q from e); omega), B⟩
  · exact ⟨_, rfl, parts_1 k3.lt (k3.cell (i := 0) rfl), (fun q e => by have e2 := Option.some.inj (show some (w.heap.size + 1 + 1) = some q from e); omega), B⟩
  · exact ⟨_, rfl, parts_1 k4.lt (k4.cell (i := 0) rfl), (fun q e => by have e2 := Option.some.inj (show some (w.heap.size + 1 + 1 + 1) = some q from e); omega), B⟩
  · exact ⟨_, rfl, parts_2 k5.lt (k5.cell (i := 0) rfl) (k5.cell (i := 1) rfl), (fun q e => by have e2 := Option.some.inj (show some (w.heap.size + 1 + 1 + 1 + 1) = some q from e); omega), B⟩
  · exact ⟨_, rfl, parts_2 k6.lt (k6.cell (i := 0) rfl) (k6.cell (i := 1) rfl), (fun q e => by have e2 := Option.some.inj (show some (w.heap.size + 1 + 1 + 1 + 1 + 1) = some q from e); omega), B⟩
  · exact ⟨_, rfl, parts_3 k7.lt (k7.cell (i := 0) rfl) (k7.cell (i := 1) rfl) (k7.cell (i := 2) rfl), (fun q e => by have e2 := Option.some.inj (show some (w.heap.size + 1 + 1 + 1 + 1 + 1 + 1) = some q from e); omega), B⟩
  · exact ⟨_, rfl, parts_1 k8.lt (k8.cell (i := 0) rfl), (fun q e => by have e2 := Option.some.inj (show some (w.heap.size + 1 + 1 + 1 + 1 + 1 + 1 + 1) = some q from e); omega), B⟩
  · exact ⟨_, rfl, parts_1 k9.lt (k9.cell (i := 0) rfl), (fun q e => by have e2 := Option.some.inj (show some (w.heap.size + 1 + 1 + 1 + 1 + 1 + 1 + 1 + 1) = some q from e); omega), B⟩
  · exact ⟨_, rfl, parts_1 k10.lt (k10.cell (i := 0) rfl), (fun q e => by have e2 := Option.some.inj (show some (w.heap.size + 1 + 1 + 1 + 1 + 1 + 1 + 1 + 1 + 1) = some q from e); omega), B⟩
  · exact ⟨_, rfl, parts_2 k11.lt (k11.cell (i := 0) rfl) (k11.cell (i := 1) rfl), (fun q e => by have e2 := Option.some.inj (show some (w.heap.size + 1 + 1 + 1 + 1 + 1 + 1 + 1 + 1 + 1 + 1) = some q from e); omega), B⟩
  · exact ⟨_, rfl, parts_nil, (fun q e => by have e2 := Option.some.inj (show some (w.heap.size + 1 + 1 + 1 + 1 + 1 + 1 + 1 + 1 + 1 + 1 + 1) = some q from e); omega), B⟩
  · exact ⟨_, rfl, parts_nil, (fun q e => by have e2 := Option.some.inj (show some (w.heap.size + 1 + 1 + 1 + 1 + 1 + 1 + 1 + 1 + 1 + 1 + 1 + 1) = some q from e); omega), B⟩
  · exact ⟨_, rfl, parts_2 k14.lt (k14.cell (i := 0) rfl) (k14.cell (i := 1) rfl), (fun q e => by have e2 := Option.some.inj (show some (w.heap.size + 1 + 1 + 1 + 1 + 1 + 1 + 1 + 1 + 1 + 1 + 1 + 1 + 1) = some q from e); omega), B⟩
theorem shown_next {wd : Txt} {t : List Nat} {a : ActV} {j : Nat} (hj : j < t.length) : join ((shownL wd t a).take (j + 2)) [32] = (join ((shownL wd t a).take (j + 1)) [32] ++ [32]) ++ itoa (numA a (t.getD j 0)) := by
  rw [join_take [32] (by omega) (by rw [shownL_len]; omega)]
  congr 1
  unfold shownL
  simp [List.getD, hj]
theorem cat_bs {l : Txt} {x : Txt} : (bs l ++ ⟨#[32]⟩) ++ bs x = bs ((l ++ [32]) ++ x) := bs_of (by rw [cat_data, cat_data, bs_data, bs_data])
set_option maxHeartbeats 8000000 in
theorem specShowAct_any {w : World} (a : ActV) (ha : fitA a) :
    Calls Tryd.prog 5 #[.agg #[.int .i64 a.1, .int .i64 a.2.1, .int .i64 a.2.2.1, .int .i64 a.2.2.2]] w fun e w' => e = .returned (.string (bs (showAct a))) ∧ Below w.heap.size w w' := by
  have Ha := hide ha
  obtain ⟨Z, hZ⟩ : ∃ z, showAct a = z := ⟨_, rfl⟩
  rw [hZ]
  have HZ := hide hZ
  obtain ⟨a0, a1, a2, a3⟩ := a
  clear ha hZ
  have W1 : Hid (Below w.heap.size w (w.alloc (.cells #[.int .i64 a0, .int .i64 a1, .int .i64 a2, .int .i64 a3] 25))) := hide ((Below.refl _ _).alloc (Nat.le_refl _) _)
  have k1 : Hid (Blk (w.alloc (.cells #[.int .i64 a0, .int .i64 a1, .int .i64 a2, .int .i64 a3] 25)) w.heap.size 25 #[.int .i64 a0, .int .i64 a1, .int .i64 a2, .int .i64 a3]) := hide (Blk.new w _ _)
  by_cases hk : 1 ≤ a0 ∧ a0 ≤ 14
  rotate_left
  · have Hk : Hid (a0 < 1 ∨ 14 < a0) := hide (by omega)
    have hq : inB a0 1 14 = false := by
      cases h : inB a0 1 14
      · rfl
      · exact absurd (inB_of h) hk
    have hE := hide ((unhide HZ).symm.trans (showAct_no (a := (a0, a1, a2, a3)) (unhide Hk)))
    clear hk
    go_enter Tryd.func5, Tryd.ntmps5
    go_wp2_with fail
    generalize w.alloc (.cells #[.int .i64 a0, .int .i64 a1, .int .i64 a2, .int .i64 a3] 25) = W at *
    refine (l1In_any a0 1 14 W).mono ?_
    rw [hq]
    rintro e w1 ⟨rfl, rfl⟩
    go_wp2_with fail
    go_ret
    exact ⟨by rw [unhide hE]; rfl, unhide W1⟩
  obtain ⟨k, hk14, hka⟩ : ∃ k : Nat, k < 14 ∧ a0 = (k : Int) + 1 := ⟨(a0 - 1).toNat, by omega, by omega⟩
  have hq : inB a0 1 14 = true := inB_t hk.1 hk.2
  have hE := hide ((unhide HZ).symm.trans (showAct_k (a := (a0, a1, a2, a3)) hka hk14))
  unfold showK at hE
  have HT := hide (tells_ok k hk14).1
  have HTl := hide (tells_len k hk14)
  have Hwl := hide (words_len k hk14)
  have Hkp := hide hk14
  obtain ⟨wd, hwd⟩ : ∃ x, wordsL.getD k [] = x := ⟨_, rfl⟩
  obtain ⟨t, htd⟩ : ∃ x, tellsL.getD k [] = x := ⟨_, rfl⟩
  rw [hwd] at Hwl hE
  rw [htd] at HT HTl hE
  have Hwd := hide hwd
  have Htd := hide htd
  clear hk hwd htd
  subst hka
  go_enter Tryd.func5, Tryd.ntmps5
  go_wp2_with fail
  generalize w.alloc (.cells #[.int .i64 ((k : Int) + 1), .int .i64 a1, .int .i64 a2, .int .i64 a3] 25) = W at *
  refine (l1In_any ((k : Int) + 1) 1 14 W).mono ?_
  rw [hq]
  rintro e w1 ⟨rfl, rfl⟩
  have y0 := (unhide k1).cell (i := 0) (v := .int .i64 ((k : Int) + 1)) rfl
  have hzW := (unhide W1).size
  have hk1 : (k : Int) < 14 := by omega
  go_wp2_with fail
  refine wp_region_last (S := fun w' => w'.cell? ⟨w.heap.size, 0, none⟩ = some (.int .i64 ((k : Int) + 1))) (by kernel_rfl) (List.cons_ne_nil _ _) (by kernel_rfl) y0 (fun hHeld => ?_)
  simp only [List.dropLast_cons_cons, List.dropLast_singleton, List.length_cons, List.length_nil, Nat.zero_add, Nat.reduceAdd]
  clear y0
  have hwk : IntKind.i64.wrap (k : Int) = (k : Int) := by rw [IntKind.wrap_i64]; omega
  have hkl : (k : Int) < (wordsL.length : Int) := hk1
  (refine wpAnyH_take (i := 1) (v := ?_) rfl (by kernel_rfl) (by kernel_rfl) (by kernel_rfl) (fun _ _ _ h => h) (Or.inl ⟨by rfl, ?_⟩) (by assumption) ?_; rotate_left; (intro W9 hSw; (try dsimp only at hSw); go_simp; (try with_reducible rfl)); (try simp only [Act.put, List.setIfInBounds_toArray, List.set_cons_zero, List.set_cons_succ]))
  (refine wpAnyH_take (i := 2) (v := ?_) rfl (by kernel_rfl) (by kernel_rfl) (by kernel_rfl) (fun _ _ _ h => h) (Or.inl ⟨by rfl, ?_⟩) (by assumption) ?_; rotate_left; (intro W9 hSw; (try dsimp only at hSw); go_simp; (try with_reducible rfl)); (try simp only [Act.put, List.setIfInBounds_toArray, List.set_cons_zero, List.set_cons_succ]))
  (refine wpAnyH_take (i := 3) (v := ?_) rfl (by kernel_rfl) (by kernel_rfl) (by kernel_rfl) (fun _ _ _ h => h) (Or.inl ⟨by rfl, ?_⟩) (by assumption) ?_; rotate_left; (intro W9 hSw; (try dsimp only at hSw); go_simp; (try with_reducible rfl)); (try simp only [Act.put, List.setIfInBounds_toArray, List.set_cons_zero, List.set_cons_succ]))
  refine wpAnyH_ready (rs := [0]) (by kernel_rfl) (by simp) ?_
  refine AllReadyH.cons rfl (fun K hK => ?_) AllReadyH.nil
  go_simp
  refine (l19Words_any w1.drew).mono ?_
  rintro e9 w2 ⟨v, rfl, hst, hb⟩
  obtain ⟨va, vcap, rfl, hc, hcm, hrow⟩ := hst.view
  rcases hrow with h0 | ⟨g, rfl, hg0, hg, hcl⟩
  · cases h0
  have hcw := hcl k (unhide Hkp)
  rw [unhide Hwd] at hcw
  have hb2 : Below w1.heap.size w1 w2 := (Below.refl _ _).drew.trans hb
  replace k1 := bl k1 hb2
  have W2 : Hid (Below w.heap.size w w2) := hide ((unhide W1).trans (hb2.mono hzW))
  refine hK.out _ _ ((unhide k1).cell (i := 0) (v := .int .i64 ((k : Int) + 1)) rfl) (fun hHeld => ?_)
  clear hK K hb hb2 hst W1
  (try simp only [Act.put, List.setIfInBounds_toArray, List.set_cons_zero, List.set_cons_succ])
  (refine wpAnyH_take (i := 4) (v := ?_) rfl (by kernel_rfl) (by kernel_rfl) (by kernel_rfl) (fun _ _ _ h => h) (Or.inl ⟨by rfl, ?_⟩) (by assumption) ?_; rotate_left; (intro W9 hSw; (try dsimp only at hSw); go_simp; (try with_reducible rfl)); (try simp only [Act.put, List.setIfInBounds_toArray, List.set_cons_zero, List.set_cons_succ]))
  refine wpAnyH_ready (rs := [5]) (by kernel_rfl) (by simp) ?_
  refine AllReadyH.cons rfl (fun K hK => ?_) AllReadyH.nil
  go_simp
  refine hK.out _ _ ((unhide k1).cell (i := 0) (v := .int .i64 ((k : Int) + 1)) rfl) (fun hHeld => ?_)
  clear hK K
  (try simp only [Act.put, List.setIfInBounds_toArray, List.set_cons_zero, List.set_cons_succ])
  refine wpAnyH_done (by kernel_rfl) ?_ _
  refine tailQ_run rfl rfl ?_
  go_simp
  clear hHeld hcw hcl hg hg0 hc hcm
  have y0 := (unhide k1).cell (i := 0) (v := .int .i64 ((k : Int) + 1)) rfl
  have hzW := (unhide W2).size
  go_wp2_with fail
  refine (l19Tells_any k (unhide Hkp) w2).mono ?_
  rintro e w3 ⟨tv, rfl, hpt, -, hb⟩
  rw [unhide Htd] at hpt
  obtain ⟨ta, tcap, rfl, hp⟩ := hpt
  replace k1 := bl k1 hb
  have W3 : Hid (Below w.heap.size w w3) := hide ((unhide W2).trans (hb.mono hzW))
  have Hp := hide hp
  clear hb hp W2 y0 hzW
  have HL : Hid ((join (shownL wd t ((k : Int) + 1, a1, a2, a3)) [32]).length ≤ 1000000) := hide (by
    have h := join_len [32] 21 _ (shown_len (w := wd) (t := t) (unhide Ha) (unhide HT) (unhide Hwl))
    have := unhide HTl
    rw [shownL_len] at h; simp only [List.length_cons, List.length_nil] at h; omega)
  have HS : Hid (∀ j, j < t.length → ((join ((shownL wd t ((k : Int) + 1, a1, a2, a3)).take (j + 1)) [32]).length ≤ 1000000)) := hide (fun j hj => by
    have h := join_len [32] 21 ((shownL wd t ((k : Int) + 1, a1, a2, a3)).take (j + 1)) (fun z hz => shown_len (unhide Ha) (unhide HT) (unhide Hwl) z (List.mem_of_mem_take hz))
    have := unhide HTl
    rw [List.length_take, shownL_len] at h; simp only [List.length_cons, List.length_nil] at h
    have : min (j + 1) (t.length + 1) ≤ 4 := by omega
    have h2 : min (j + 1) (t.length + 1) * (21 + 1) ≤ 4 * 22 := Nat.mul_le_mul this (by omega)
    omega)
  have H0 : Hid (join ((shownL wd t ((k : Int) + 1, a1, a2, a3)).take 1) [32] = wd) := hide (by unfold shownL; simp [Go.Lib.join_one])
  go_wp2_with fail
  go_loopw [3, 5] (fun s i wr => ∃ j : Nat, j ≤ t.length ∧ i = .int .i64 j ∧ s = .string (bs (join ((shownL wd t ((k : Int) + 1, a1, a2, a3)).take (j + 1)) [32])) ∧ Below w3.heap.size w3 wr) (fun _ i _ => t.length - (intOf i).toNat)
  case atStart => exact ⟨0, Nat.zero_le _, rfl, by rw [unhide H0], Below.refl _ _⟩
  case round =>
    obtain ⟨j, hj, rfl, rfl, hb⟩ := hrel
    have Hb := hide hb
    have hzr := hb.size
    have hz3 := (unhide W3).size
    clear hb
    by_cases hlt : j < t.length
    · have hlt1 : (j : Int) < (t.length : Int) := by omega
      have hj3 : j < 4 := by have := unhide HTl; omega
      obtain ⟨g, rfl, hg, hc⟩ := unhide Hp j hlt
      have hc' := (unhide Hb).cell (p := ⟨g, j, none⟩) hg |>.trans hc
      have HN := hide (shown_next (wd := wd) (t := t) (a := ((k : Int) + 1, a1, a2, a3)) hlt)
      have hti := unhide HT _ (show t.getD j 0 ∈ t by simp [List.getD, hlt])
      have hsl := unhide HS j hlt
      rw [← bs_size] at hsl
      have k3 := bl k1 (unhide Hb)
      clear hc
      generalize t.getD j 0 = ti at *
      generalize join ((shownL wd t ((k : Int) + 1, a1, a2, a3)).take (j + 1)) [32] = P at *
      have hs1 : (bs P).size + (⟨#[32]⟩ : ByteArray).size ≤ 9223372036854775807 := by have : (⟨#[32]⟩ : ByteArray).size = 1 := rfl; omega
      have hf := unhide Ha ti hti
      have hil := itoa_len _ hf.1 hf.2
      rw [← bs_size] at hil
      have hs2 : (bs P ++ ⟨#[32]⟩).size + (bs (itoa (numA ((k : Int) + 1, a1, a2, a3) ti))).size ≤ 9223372036854775807 := by rw [size_app]; have : (⟨#[32]⟩ : ByteArray).size = 1 := rfl; omega
      have hs3 : (bs P).size + 1 ≤ 9223372036854775807 := hs1
      have hs4 : (bs P).size + 1 + (bs (itoa (numA ((k : Int) + 1, a1, a2, a3) ti))).size ≤ 9223372036854775807 := by omega
      obtain ⟨x, hx⟩ : ∃ x, numA ((k : Int) + 1, a1, a2, a3) ti = x := ⟨_, rfl⟩
      rw [hx] at HN hf hs2 hs4
      have hn1 : (9223372036854775807 < (bs P).size + 1) = False := eq_false (by omega)
      have hn2 : (9223372036854775807 < (bs P).size + 1 + (bs (itoa x)).size) = False := eq_false (by omega)
      have Hx := hide hx
      have Hf := hide hf
      have y1 := (unhide k3).cell (i := 1) (v := .int .i64 a1) rfl
      have y2 := (unhide k3).cell (i := 2) (v := .int .i64 a2) rfl
      have y3 := (unhide k3).cell (i := 3) (v := .int .i64 a3) rfl
      clear hx hf hil hsl
      go_wp2_with fail
      refine wp_region_last (S := fun w' => w'.cell? ⟨w.heap.size, 1, none⟩ = some (.int .i64 a1) ∧ w'.cell? ⟨w.heap.size, 2, none⟩ = some (.int .i64 a2) ∧ w'.cell? ⟨w.heap.size, 3, none⟩ = some (.int .i64 a3) ∧ w'.cell? ⟨g, j, none⟩ = some (.int .i64 (ti : Int))) (by kernel_rfl) (List.cons_ne_nil _ _) (by kernel_rfl) ⟨y1, y2, y3, hc'⟩ (fun hHeld => ?_)
      simp only [List.dropLast_cons_cons, List.dropLast_singleton, List.length_cons, List.length_nil, Nat.zero_add, Nat.reduceAdd]
      have hb0 : Below wr.heap.size wr wr.drew := (Below.refl _ _).drew
      replace k3 := bl k3 hb0
      have hc2 := (hb0.cell (p := ⟨g, j, none⟩) (Nat.lt_of_lt_of_le hg hzr)).trans hc'
      replace Hb := hide ((unhide Hb).trans (hb0.mono hzr))
      clear y1 y2 y3 hc' hb0
      generalize wr.drew = W4 at *
      (refine wpAnyH_take (i := 0) (v := ?_) rfl (by kernel_rfl) (by kernel_rfl) (by kernel_rfl) (fun _ _ _ h => h) (Or.inl ⟨by rfl, ?_⟩) (by assumption) ?_; rotate_left; (intro W9 hSw; (try dsimp only at hSw); go_simp; (try with_reducible rfl)); (try simp only [Act.put, List.setIfInBounds_toArray, List.set_cons_zero, List.set_cons_succ]))
      (refine wpAnyH_take (i := 1) (v := ?_) rfl (by kernel_rfl) (by kernel_rfl) (by kernel_rfl) (fun _ _ _ h => h) (Or.inl ⟨by rfl, ?_⟩) (by assumption) ?_; rotate_left; (intro W9 hSw; (try dsimp only at hSw); go_simp; (try with_reducible rfl)); (try simp only [Act.put, List.setIfInBounds_toArray, List.set_cons_zero, List.set_cons_succ]))
      (refine wpAnyH_take (i := 2) (v := ?_) rfl (by kernel_rfl) (by kernel_rfl) (by kernel_rfl) (fun _ _ _ h => h) (Or.inl ⟨by rfl, ?_⟩) (by assumption) ?_; rotate_left; (intro W9 hSw; (try dsimp only at hSw); go_simp; (try with_reducible rfl)); (try simp only [Act.put, List.setIfInBounds_toArray, List.set_cons_zero, List.set_cons_succ]))
      (refine wpAnyH_take (i := 3) (v := ?_) rfl (by kernel_rfl) (by kernel_rfl) (by kernel_rfl) (fun _ _ _ h => h) (Or.inl ⟨by rfl, ?_⟩) (by assumption) ?_; rotate_left; (intro W9 hSw; (try dsimp only at hSw); go_simp; (try with_reducible rfl)); (try simp only [Act.put, List.setIfInBounds_toArray, List.set_cons_zero, List.set_cons_succ]))
      (refine wpAnyH_take (i := 4) (v := ?_) rfl (by kernel_rfl) (by kernel_rfl) (by kernel_rfl) (fun _ _ _ h => h) (Or.inl ⟨by rfl, ?_⟩) (by assumption) ?_; rotate_left; (intro W9 hSw; (try dsimp only at hSw); go_simp; (try with_reducible rfl)); (try simp only [Act.put, List.setIfInBounds_toArray, List.set_cons_zero, List.set_cons_succ]))
      (refine wpAnyH_take (i := 5) (v := ?_) rfl (by kernel_rfl) (by kernel_rfl) (by kernel_rfl) (fun _ _ _ h => h) (Or.inl ⟨by rfl, ?_⟩) (by assumption) ?_; rotate_left; (intro W9 hSw; (try dsimp only at hSw); go_simp; (try with_reducible rfl)); (try simp only [Act.put, List.setIfInBounds_toArray, List.set_cons_zero, List.set_cons_succ]))
      (refine wpAnyH_take (i := 6) (v := ?_) rfl (by kernel_rfl) (by kernel_rfl) (by kernel_rfl) (fun _ _ _ h => h) (Or.inl ⟨by rfl, ?_⟩) (by assumption) ?_; rotate_left; (intro W9 hSw; (try dsimp only at hSw); go_simp; (try with_reducible rfl)); (try simp only [Act.put, List.setIfInBounds_toArray, List.set_cons_zero, List.set_cons_succ]))
      (refine wpAnyH_take (i := 7) (v := ?_) rfl (by kernel_rfl) (by kernel_rfl) (by kernel_rfl) (fun _ _ _ h => h) (Or.inl ⟨by rfl, ?_⟩) (by assumption) ?_; rotate_left; (intro W9 hSw; (try dsimp only at hSw); go_simp; (try with_reducible rfl)); (try simp only [Act.put, List.setIfInBounds_toArray, List.set_cons_zero, List.set_cons_succ]))
      (refine wpAnyH_take (i := 9) (v := ?_) rfl (by kernel_rfl) (by kernel_rfl) (by kernel_rfl) (fun _ _ _ h => h) (Or.inl ⟨by rfl, ?_⟩) (by assumption) ?_; rotate_left; (intro W9 hSw; (try dsimp only at hSw); go_simp; (try with_reducible rfl)); (try simp only [Act.put, List.setIfInBounds_toArray, List.set_cons_zero, List.set_cons_succ]))
      (refine wpAnyH_take (i := 10) (v := ?_) rfl (by kernel_rfl) (by kernel_rfl) (by kernel_rfl) (fun _ _ _ h => h) (Or.inl ⟨by rfl, ?_⟩) (by assumption) ?_; rotate_left; (intro W9 hSw; (try dsimp only at hSw); go_simp; (try with_reducible rfl)); (try simp only [Act.put, List.setIfInBounds_toArray, List.set_cons_zero, List.set_cons_succ]))
      (refine wpAnyH_take (i := 11) (v := ?_) rfl (by kernel_rfl) (by kernel_rfl) (by kernel_rfl) (fun _ _ _ h => h) (Or.inl ⟨by rfl, ?_⟩) (by assumption) ?_; rotate_left; (intro W9 hSw; (try dsimp only at hSw); go_simp; (try with_reducible rfl)); (try simp only [Act.put, List.setIfInBounds_toArray, List.set_cons_zero, List.set_cons_succ]))
      (refine wpAnyH_take (i := 12) (v := ?_) rfl (by kernel_rfl) (by kernel_rfl) (by kernel_rfl) (fun _ _ _ h => h) (Or.inl ⟨by rfl, ?_⟩) (by assumption) ?_; rotate_left; (intro W9 hSw; (try dsimp only at hSw); go_simp; (try with_reducible rfl)); (try simp only [Act.put, List.setIfInBounds_toArray, List.set_cons_zero, List.set_cons_succ]))
      refine wpAnyH_ready (rs := [8]) (by kernel_rfl) (by simp) ?_
      refine AllReadyH.cons rfl (fun K hK => ?_) AllReadyH.nil
      go_simp
      rcases (show ti = 0 ∨ ti = 1 ∨ ti = 2 by omega) with rfl | rfl | rfl
      all_goals
        have hba : Below W4.heap.size W4 (W4.alloc (.cells #[.int .i64 a1, .int .i64 a2, .int .i64 a3] 2)) := (Below.refl _ _).alloc (Nat.le_refl _) _
        replace k3 := bl k3 hba
        replace hc2 := (hba.cell (p := ⟨g, j, none⟩) (World.block_lt_of_cell? _ _ hc2)).trans hc2
        have HBa := hide ((unhide Hb).trans (hba.mono (unhide Hb).size))
        have kn := Blk.new W4 2 #[.int .i64 a1, .int .i64 a2, .int .i64 a3]
        refine hK.out _ _ ⟨(unhide k3).cell (i := 1) (v := .int .i64 a1) rfl, (unhide k3).cell (i := 2) (v := .int .i64 a2) rfl, (unhide k3).cell (i := 3) (v := .int .i64 a3) rfl, hc2⟩ (fun hHeld => ?_)
        clear hK K hba Hb
        (try simp only [Act.put, List.setIfInBounds_toArray, List.set_cons_zero, List.set_cons_succ])
        generalize W4.alloc (.cells #[.int .i64 a1, .int .i64 a2, .int .i64 a3] 2) = W5 at *
        generalize W4.heap.size = nb at *
        have n0 := kn.cell (i := 0) (v := .int .i64 a1) rfl
        have n1 := kn.cell (i := 1) (v := .int .i64 a2) rfl
        have n2 := kn.cell (i := 2) (v := .int .i64 a3) rfl
        (refine wpAnyH_take (i := 13) (v := ?_) rfl (by kernel_rfl) (by kernel_rfl) (by kernel_rfl) (fun _ _ _ h => h) (Or.inl ⟨by rfl, ?_⟩) (by assumption) ?_; rotate_left; (intro W9 hSw; (try dsimp only at hSw); go_simp; (try with_reducible rfl)); (try simp only [Act.put, List.setIfInBounds_toArray, List.set_cons_zero, List.set_cons_succ]))
        refine wpAnyH_ready (rs := [14]) (by kernel_rfl) (by simp) ?_
        refine AllReadyH.cons rfl (fun K hK => ?_) AllReadyH.nil
        go_simp
        refine hK.out _ _ ⟨(unhide k3).cell (i := 1) (v := .int .i64 a1) rfl, (unhide k3).cell (i := 2) (v := .int .i64 a2) rfl, (unhide k3).cell (i := 3) (v := .int .i64 a3) rfl, hc2⟩ (fun hHeld => ?_)
        clear hK K n0 n1 n2 kn
        (try simp only [Act.put, List.setIfInBounds_toArray, List.set_cons_zero, List.set_cons_succ])
        refine wpAnyH_ready (rs := [15]) (by kernel_rfl) (by simp) ?_
        refine AllReadyH.cons rfl (fun K hK => ?_) AllReadyH.nil
        go_simp
        first | (have e9 : a1 = x := unhide Hx; subst e9) | (have e9 : a2 = x := unhide Hx; subst e9) | (have e9 : a3 = x := unhide Hx; subst e9)
        refine (l1Int_z _ (unhide Hf).1 (unhide Hf).2 W5).mono ?_
        rintro e9 w9 ⟨rfl, hb9⟩
        replace k3 := bl k3 hb9
        have hc9 := (hb9.cell (p := ⟨g, j, none⟩) (World.block_lt_of_cell? _ _ hc2)).trans hc2
        have HB9 := hide ((unhide HBa).trans (hb9.mono (unhide HBa).size))
        refine hK.out _ _ ⟨(unhide k3).cell (i := 1) (v := .int .i64 a1) rfl, (unhide k3).cell (i := 2) (v := .int .i64 a2) rfl, (unhide k3).cell (i := 3) (v := .int .i64 a3) rfl, hc9⟩ (fun hHeld => ?_)
        clear hK K hb9 hc2 hc9 HBa
        (try simp only [Act.put, List.setIfInBounds_toArray, List.set_cons_zero, List.set_cons_succ])
        (refine wpAnyH_take (i := 16) (v := ?_) rfl (by kernel_rfl) (by kernel_rfl) (by kernel_rfl) (fun _ _ _ h => h) (Or.inl ⟨by rfl, ?_⟩) (by assumption) ?_; rotate_left; (intro W9 hSw; (try dsimp only at hSw); go_simp; (try with_reducible rfl)); (try simp only [Act.put, List.setIfInBounds_toArray, List.set_cons_zero, List.set_cons_succ]))
        refine wpAnyH_done (by kernel_rfl) ?_ _
        refine tailQ_run rfl rfl ?_
        go_simp
        clear hHeld hn1 hn2 hs1 hs2 hs3 hs4
        go_wp2_with fail
        go_roundw
        case rel => exact ⟨j + 1, by omega, by go_num, by rw [unhide HN, ← cat_bs], unhide HB9⟩
        case measure => simp [intOf]; omega
    · obtain rfl : j = t.length := by omega
      have hall : (shownL wd t ((k : Int) + 1, a1, a2, a3)).take (t.length + 1) = shownL wd t ((k : Int) + 1, a1, a2, a3) := List.take_of_length_le (by rw [shownL_len]; omega)
      rw [hall]
      have hB : Below w.heap.size w wr := (unhide W3).trans ((unhide Hb).mono hz3)
      have HB := hide hB
      clear hall hB
      go_wp2_with fail
      go_ret
      exact ⟨by rw [unhide hE]; rfl, unhide HB⟩

end Go.Proofs.YtmdgokjeobnnaaaDoor
