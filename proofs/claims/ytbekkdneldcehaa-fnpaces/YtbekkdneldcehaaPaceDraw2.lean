/- Contracts of the draws of chapter 5's arguments: each returns a room that can be read, and numbers, and writes into no memory that was there. Condition: the bytes of the draw can be read and are at most 4096. -/
import Derived.Test.YtbekkdneldcehaaPaceDraw
namespace Go.Proofs.Ytbekkdneldcehaa
open Go.ChangeShapes Go.WideShapes Go.ChangeAt Go.RowKit Go.Sort
open Draw (St Off Row Cur)
set_option linter.unusedVariables false

/-- What stands as it stood where all blocks up to the box's are as they were: the result's cells and the box's. -/
theorem drawn_cells {w1 W : World} {R : Nat} {r r' u u' : Value} {t : TypeId} (M : Below (w1.heap.size + 1) (w1.alloc (.cells #[u, u'] t)) W) (h : Res w1 R r r') (hlt : R < w1.heap.size) : Res W R r r' ∧ Res W w1.heap.size u u' :=
  ⟨(h.alloc hlt _).below M (by omega), (Res.new w1 u u' t).below M (by omega)⟩
theorem drawn_old {w1 W : World} {u u' : Value} {t : TypeId} (M : Below (w1.heap.size + 1) (w1.alloc (.cells #[u, u'] t)) W) : Below w1.heap.size w1 W :=
  ((Below.refl _ _).alloc (Nat.le_refl _) _).trans (M.mono (by omega))
theorem drawn_end {w w1 W : World} {R : Nat} {v u u' x x' : Value} {t : TypeId} {ps : List PaceV} (M : Below (w1.heap.size + 1) (w1.alloc (.cells #[u, u'] t)) W) (hi : IsPaces w1 v ps) (hn : ∀ k, v.ownBlock = some k → R + 1 < k) (hb : Below w.heap.size w w1) (hR : R = w.heap.size) :
    IsPaces ((W.setCell ⟨R, 0, none⟩ x).setCell ⟨R, 1, none⟩ x') v ps ∧ Below w.heap.size w ((W.setCell ⟨R, 0, none⟩ x).setCell ⟨R, 1, none⟩ x') := by
  subst hR
  exact ⟨((hi.below (drawn_old M)).set _ _ _ (fun k e => by have := hn k e; omega)).set _ _ _ (fun k e => by have := hn k e; omega), ((hb.trans ((drawn_old M).mono hb.size)).setCell (Nat.le_refl w.heap.size) _).setCell (Nat.le_refl w.heap.size) _⟩

theorem paces_cell {w : World} {b off len cap : Nat} {ps : List PaceV} (h : IsPaces w (.slice (some ⟨b, off, none⟩) len cap) ps) {k : Nat} (hk : k < ps.length) :
    w.cell? ⟨b, off + k * 2, none⟩ = some (.int .i64 (paceAt ps k).1) ∧ w.cell? ⟨b, off + k * 2 + 1, none⟩ = some (.int .i64 (paceAt ps k).2) := by
  obtain ⟨a, cap', he, _, _, hr⟩ := h
  rcases hr with h0 | ⟨b', off', rfl, _, hc⟩
  · rw [h0] at hk; simp at hk
  · cases he; exact hc k hk

set_option maxRecDepth 100000 in
set_option maxHeartbeats 4000000 in
theorem drawCoalFor_any (a : Option Addr) (len cap : Nat) (w : World) (hr : Row w.heap.size w a len) :
    Calls Try.prog 12 #[.slice a len cap] w fun e w' => ∃ (b : Int) (v : Value) (ps : List PaceV) (x y : Int), e = .returned (.tuple #[.agg #[.int .i64 b, v], .int .i64 x, .int .i64 y]) ∧ IsPaces w' v ps ∧ Below w.heap.size w w' := by
  have Hr := hide hr
  clear hr
  have Ba : Hid (∀ o, Below w.heap.size w (w.alloc o)) := hide (fun o => (Below.refl _ _).alloc (Nat.le_refl _) _)
  go_enter Try.func12, Try.ntmps12
  go_wp2_with fail
  refine (drawRoomOk_from a len cap _ (Draw.row_later (unhide Hr) (unhide Ba _))).mono ?_
  rintro e w1 ⟨b, v, ps, rfl, hip, hpn, hbl1⟩
  simp only [World.size_alloc] at hpn hbl1
  have hz1 : w.heap.size + 1 ≤ w1.heap.size := by have := hbl1.size; simpa using this
  obtain ⟨va, vcap, rfl, hvc, hvm⟩ := pshape hip
  have Hip := hide hip
  have Hpn := hide hpn
  have HR : Hid (Res w1 w.heap.size (.int .i64 0) (.slice none 0 0)) := hide ((Res.new w _ _ 26).below hbl1 (by omega))
  have B1 : Hid (Below w.heap.size w w1) := hide ((unhide Ba _).trans (hbl1.mono (by omega)))
  clear hip hpn hbl1
  go_wp2_with fail
  refine (Draw.new_any a len cap _ (Draw.row_later (unhide Hr) ((unhide B1).alloc (unhide B1).size _))).mono ?_
  rintro e w2 ⟨rfl, hs2, ho2⟩
  simp only [World.size_alloc] at hs2 ho2 ⊢
  have M2 : Hid (Below (w1.heap.size + 1) (w1.alloc (.cells #[.int .i64 b, .slice va ps.length vcap] 26)) w2) := hide (ho2.below (Nat.le_refl _) (by simp))
  have hz2 : w1.heap.size + 2 ≤ w2.heap.size := by have := st_lt hs2; omega
  have Hs2 := hide hs2
  clear hs2 ho2
  go_wp2_with fail
  refine (Draw.from_any a len cap (w1.heap.size + 1) (-1) 4 (by omega) (by omega) (by omega) _ (unhide Hs2)).mono ?_
  rintro e w3 ⟨x, rfl, _, _, hs3, ho3⟩
  have M3 : Hid (Below (w1.heap.size + 1) (w1.alloc (.cells #[.int .i64 b, .slice va ps.length vcap] 26)) w3) := hide ((unhide M2).trans (ho3.below (Nat.le_refl _) (by omega)))
  have hz3 := ho3.size
  have Hs3 := hide hs3
  clear hs3 ho3 M2 Hs2
  obtain ⟨⟨r0, r1, r2, r3⟩, x0, x1, _, _⟩ := drawn_cells (unhide M3) (unhide HR) (by omega)
  go_wp2_with fail
  go_region_with (go_at_call 32; go_must (refine (l5DrawWork_any a len cap (w1.heap.size + 1) _ ?_).mono ?_); go_must (exact st_drew (unhide Hs3)); go_must (rintro e w4 ⟨y, rfl, _, _, hs4, ho4⟩; have M4 : Hid (Below (w1.heap.size + 1) (w1.alloc (.cells #[.int .i64 b, .slice va ps.length vcap] 26)) w4) := hide ((unhide M3).trans ((off_drew ho4).below (Nat.le_refl _) (by omega))); obtain ⟨⟨q0, q1, q2, q3⟩, y0, y1, _, _⟩ := drawn_cells (unhide M4) (unhide HR) (by omega); clear hs4 ho4))
  all_goals
    go_wp2_with fail
    have hend := drawn_end (x := .int .i64 b) (x' := .slice va ps.length vcap) (unhide M4) (unhide Hip) (unhide Hpn) (unhide B1) rfl
    exact bodyPost_ret (v := .tuple #[.agg #[.int .i64 b, .slice va ps.length vcap], .int .i64 x, .int .i64 y]) (by simp [results, Try.results12, go_sem, q0, q1]) rfl ⟨_, _, ps, _, _, rfl, hend.1, hend.2⟩

set_option maxRecDepth 100000 in
set_option maxHeartbeats 4000000 in
theorem drawLeastCoal_any (a : Option Addr) (len cap : Nat) (w : World) (hr : Row w.heap.size w a len) :
    Calls Try.prog 14 #[.slice a len cap] w fun e w' => ∃ (b : Int) (v : Value) (ps : List PaceV) (x y : Int), e = .returned (.tuple #[.agg #[.int .i64 b, v], .int .i64 x, .int .i64 y]) ∧ IsPaces w' v ps ∧ Below w.heap.size w w' := by
  have Hr := hide hr
  clear hr
  have Ba : Hid (∀ o, Below w.heap.size w (w.alloc o)) := hide (fun o => (Below.refl _ _).alloc (Nat.le_refl _) _)
  go_enter Try.func14, Try.ntmps14
  go_wp2_with fail
  refine (drawRoomOk_from a len cap _ (Draw.row_later (unhide Hr) (unhide Ba _))).mono ?_
  rintro e w1 ⟨b, v, ps, rfl, hip, hpn, hbl1⟩
  simp only [World.size_alloc] at hpn hbl1
  have hz1 : w.heap.size + 1 ≤ w1.heap.size := by have := hbl1.size; simpa using this
  obtain ⟨va, vcap, rfl, hvc, hvm⟩ := pshape hip
  have Hip := hide hip
  have Hpn := hide hpn
  have HR : Hid (Res w1 w.heap.size (.int .i64 0) (.slice none 0 0)) := hide ((Res.new w _ _ 26).below hbl1 (by omega))
  have B1 : Hid (Below w.heap.size w w1) := hide ((unhide Ba _).trans (hbl1.mono (by omega)))
  clear hip hpn hbl1
  go_wp2_with fail
  refine (Draw.new_any a len cap _ (Draw.row_later (unhide Hr) ((unhide B1).alloc (unhide B1).size _))).mono ?_
  rintro e w2 ⟨rfl, hs2, ho2⟩
  simp only [World.size_alloc] at hs2 ho2 ⊢
  have M2 : Hid (Below (w1.heap.size + 1) (w1.alloc (.cells #[.int .i64 b, .slice va ps.length vcap] 26)) w2) := hide (ho2.below (Nat.le_refl _) (by simp))
  have hz2 : w1.heap.size + 2 ≤ w2.heap.size := by have := st_lt hs2; omega
  have Hs2 := hide hs2
  clear hs2 ho2
  go_wp2_with fail
  refine (l5DrawWork_any a len cap (w1.heap.size + 1) _ (unhide Hs2)).mono ?_
  rintro e w3 ⟨x, rfl, _, _, hs3, ho3⟩
  have M3 : Hid (Below (w1.heap.size + 1) (w1.alloc (.cells #[.int .i64 b, .slice va ps.length vcap] 26)) w3) := hide ((unhide M2).trans (ho3.below (Nat.le_refl _) (by omega)))
  have hz3 := ho3.size
  have Hs3 := hide hs3
  clear hs3 ho3 M2 Hs2
  obtain ⟨⟨r0, r1, r2, r3⟩, x0, x1, _, _⟩ := drawn_cells (unhide M3) (unhide HR) (by omega)
  go_wp2_with fail
  go_region_with (go_at_call 32; go_must (refine (l5DrawWork_any a len cap (w1.heap.size + 1) _ ?_).mono ?_); go_must (exact st_drew (unhide Hs3)); go_must (rintro e w4 ⟨y, rfl, _, _, hs4, ho4⟩; have M4 : Hid (Below (w1.heap.size + 1) (w1.alloc (.cells #[.int .i64 b, .slice va ps.length vcap] 26)) w4) := hide ((unhide M3).trans ((off_drew ho4).below (Nat.le_refl _) (by omega))); obtain ⟨⟨q0, q1, q2, q3⟩, y0, y1, _, _⟩ := drawn_cells (unhide M4) (unhide HR) (by omega); clear hs4 ho4))
  all_goals
    go_wp2_with fail
    have hend := drawn_end (x := .int .i64 b) (x' := .slice va ps.length vcap) (unhide M4) (unhide Hip) (unhide Hpn) (unhide B1) rfl
    exact bodyPost_ret (v := .tuple #[.agg #[.int .i64 b, .slice va ps.length vcap], .int .i64 x, .int .i64 y]) (by simp [results, Try.results14, go_sem, q0, q1]) rfl ⟨_, _, ps, _, _, rfl, hend.1, hend.2⟩

set_option maxRecDepth 100000 in
set_option maxHeartbeats 4000000 in
theorem drawPaceFor_any (a : Option Addr) (len cap : Nat) (w : World) (hr : Row w.heap.size w a len) :
    Calls Try.prog 10 #[.slice a len cap] w fun e w' => ∃ (b : Int) (v : Value) (ps : List PaceV) (x : Int), e = .returned (.tuple #[.agg #[.int .i64 b, v], .int .i64 x]) ∧ IsPaces w' v ps ∧ Below w.heap.size w w' := by
  have Hr := hide hr
  clear hr
  have Ba : Hid (∀ o, Below w.heap.size w (w.alloc o)) := hide (fun o => (Below.refl _ _).alloc (Nat.le_refl _) _)
  go_enter Try.func10, Try.ntmps10
  go_wp2_with fail
  refine (drawRoomOk_from a len cap _ (Draw.row_later (unhide Hr) (unhide Ba _))).mono ?_
  rintro e w1 ⟨b, v, ps, rfl, hip, hpn, hbl1⟩
  simp only [World.size_alloc] at hpn hbl1
  have hz1 : w.heap.size + 1 ≤ w1.heap.size := by have := hbl1.size; simpa using this
  obtain ⟨va, vcap, rfl, hvc, hvm⟩ := pshape hip
  have Hip := hide hip
  have Hpn := hide hpn
  have HR : Hid (Res w1 w.heap.size (.int .i64 0) (.slice none 0 0)) := hide ((Res.new w _ _ 26).below hbl1 (by omega))
  have B1 : Hid (Below w.heap.size w w1) := hide ((unhide Ba _).trans (hbl1.mono (by omega)))
  clear hip hpn hbl1
  go_wp2_with fail
  refine (Draw.new_any a len cap _ (Draw.row_later (unhide Hr) ((unhide B1).alloc (unhide B1).size _))).mono ?_
  rintro e w2 ⟨rfl, hs2, ho2⟩
  simp only [World.size_alloc] at hs2 ho2 ⊢
  have M2 : Hid (Below (w1.heap.size + 1) (w1.alloc (.cells #[.int .i64 b, .slice va ps.length vcap] 26)) w2) := hide (ho2.below (Nat.le_refl _) (by simp))
  have hz2 : w1.heap.size + 2 ≤ w2.heap.size := by have := st_lt hs2; omega
  have Hs2 := hide hs2
  clear hs2 ho2
  go_wp2_with fail
  refine (l5DrawWork_any a len cap (w1.heap.size + 1) _ (unhide Hs2)).mono ?_
  rintro e w3 ⟨x, rfl, _, _, hs3, ho3⟩
  have M3 : Hid (Below (w1.heap.size + 1) (w1.alloc (.cells #[.int .i64 b, .slice va ps.length vcap] 26)) w3) := hide ((unhide M2).trans (ho3.below (Nat.le_refl _) (by omega)))
  have hz3 := ho3.size
  have Hs3 := hide hs3
  clear hs3 ho3 M2 Hs2
  obtain ⟨⟨r0, r1, r2, r3⟩, x0, x1, _, _⟩ := drawn_cells (unhide M3) (unhide HR) (by omega)
  by_cases hl : 0 < ps.length
  · go_wp2_with fail
    refine (Draw.once_any a len cap (w1.heap.size + 1) 3 (by omega) (by omega) _ (unhide Hs3)).mono ?_
    rintro e w4 ⟨o, rfl, hs4, ho4⟩
    have M4 : Hid (Below (w1.heap.size + 1) (w1.alloc (.cells #[.int .i64 b, .slice va ps.length vcap] 26)) w4) := hide ((unhide M3).trans (ho4.below (Nat.le_refl _) (by omega)))
    have hz4 := ho4.size
    have Hs4 := hide hs4
    clear hs4 ho4 M3 Hs3 r0 r1 r2 r3 x0 x1
    obtain ⟨⟨r0, r1, r2, r3⟩, x0, x1, _, _⟩ := drawn_cells (unhide M4) (unhide HR) (by omega)
    cases o
    · go_wp2_with fail
      have hend := drawn_end (x := .int .i64 b) (x' := .slice va ps.length vcap) (unhide M4) (unhide Hip) (unhide Hpn) (unhide B1) rfl
      exact bodyPost_ret (v := .tuple #[.agg #[.int .i64 b, .slice va ps.length vcap], .int .i64 x]) (by simp [results, Try.results10, go_sem, r0, r1]) rfl ⟨_, _, ps, _, rfl, hend.1, hend.2⟩
    · have hip4 := (unhide Hip).below (drawn_old (unhide M4))
      have hip1 := unhide Hip
      obtain ⟨va', vcap', hve, _, _, hrow⟩ := hip1
      cases hve
      rcases hrow with h0 | ⟨bk, off, rfl, hbw, _⟩
      · rw [h0] at hl; simp at hl
      clear hip4
      have hlz : ¬ (ps.length : Int) ≤ 0 := by omega
      go_wp2_with fail
      go_region_with (first
        | (go_at_call 34; go_must (refine (below_all a len cap (w1.heap.size + 1) (ps.length : Int) ?_ ?_ _ ?_).mono ?_); go_must (omega); go_must (omega); go_must (exact st_drew (unhide Hs4)); go_must (rintro e w5 ⟨j, rfl, j0, j1, hs5, ho5⟩; obtain ⟨k, rfl⟩ := Int.eq_ofNat_of_zero_le j0; have M5 : Hid (Below (w1.heap.size + 1) (w1.alloc (.cells #[.int .i64 b, .slice (some ⟨bk, off, none⟩) ps.length vcap] 26)) w5) := hide ((unhide M4).trans ((off_drew ho5).below (Nat.le_refl _) (by omega))); have hz5 : w4.heap.size ≤ w5.heap.size := ho5.size; have Hs5 := hide hs5; obtain ⟨_, y0, y1, _, _⟩ := drawn_cells (unhide M5) (unhide HR) (by omega); obtain ⟨z0, z1⟩ := paces_cell ((unhide Hip).below (drawn_old (unhide M5))) (show k < ps.length by omega); generalize hpf : paceAt ps k = pf at z0 z1; obtain ⟨f, c⟩ := pf; simp only at z0 z1; clear hs5 ho5))
        | (go_at_call 35; go_must (refine (Draw.from_any a len cap (w1.heap.size + 1) 0 1 ?_ ?_ ?_ _ ?_).mono ?_); go_must (omega); go_must (omega); go_must (omega); go_must (exact unhide Hs5); go_must (rintro e w6 ⟨y, rfl, g0, g1, hs6, ho6⟩; have M6 : Hid (Below (w1.heap.size + 1) (w1.alloc (.cells #[.int .i64 b, .slice (some ⟨bk, off, none⟩) ps.length vcap] 26)) w6) := hide ((unhide M5).trans (ho6.below (Nat.le_refl _) (by omega))); obtain ⟨⟨q0, q1, q2, q3⟩, u0, u1, _, _⟩ := drawn_cells (unhide M6) (unhide HR) (by omega); obtain ⟨v0, v1⟩ := paces_cell ((unhide Hip).below (drawn_old (unhide M6))) (show k < ps.length by omega); rw [hpf] at v0 v1; simp only at v0 v1; clear hs6 ho6)))
      all_goals
        go_wp2_with fail
        have hend := drawn_end (x := .int .i64 b) (x' := .slice (some ⟨bk, off, none⟩) ps.length vcap) (unhide M6) (unhide Hip) (unhide Hpn) (unhide B1) rfl
        exact bodyPost_ret (v := .tuple #[.agg #[.int .i64 b, .slice (some ⟨bk, off, none⟩) ps.length vcap], .int .i64 (wrap64 (wrap64 ((wrap64 (4 * f)).tdiv 5) + y))]) (by simp [results, Try.results10, go_sem, q0, q1]) rfl ⟨_, _, ps, _, rfl, hend.1, hend.2⟩
  · have hlz : (ps.length : Int) ≤ 0 := by omega
    go_wp2_with fail
    have hend := drawn_end (x := .int .i64 b) (x' := .slice va ps.length vcap) (unhide M3) (unhide Hip) (unhide Hpn) (unhide B1) rfl
    exact bodyPost_ret (v := .tuple #[.agg #[.int .i64 b, .slice va ps.length vcap], .int .i64 x]) (by simp [results, Try.results10, go_sem, r0, r1]) rfl ⟨_, _, ps, _, rfl, hend.1, hend.2⟩

end Go.Proofs.Ytbekkdneldcehaa
