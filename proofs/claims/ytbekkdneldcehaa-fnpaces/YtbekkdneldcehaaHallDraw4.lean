/- Contracts of the draws of chapter 4's arguments: each returns halls and rooms that can be read, and numbers within bounds, and writes into no memory that was there. Condition: the bytes of the draw can be read and are at most 4096. -/
import Derived.Test.YtbekkdneldcehaaHallDraw3
namespace Go.Proofs.Ytbekkdneldcehaa
open Go.ChangeShapes Go.WideShapes Go.ChangeAt Go.RowKit Go.Sort
open Draw (St Off Row Cur)
set_option linter.unusedVariables false

theorem RoomsFrom.mono {n₀ n₁ : Nat} {w : World} {v : Value} {rs : List RoomV} (h : RoomsFrom n₀ w v rs) (hn : n₁ ≤ n₀) : RoomsFrom n₁ w v rs := by
  obtain ⟨a, cap, rfl, hc, hm, hr⟩ := h
  refine ⟨a, cap, rfl, hc, hm, ?_⟩
  rcases hr with hr | ⟨b, off, rfl, hb, hlt, hcl⟩
  · exact .inl hr
  · exact .inr ⟨b, off, rfl, by omega, hlt, fun k hk => by obtain ⟨h1, pv, h2, h3, h4⟩ := hcl k hk; exact ⟨h1, pv, h2, h3, fun j e => by have := h4 j e; omega⟩⟩




set_option maxRecDepth 100000 in
set_option maxHeartbeats 4000000 in
theorem drawRoomOk_from (a : Option Addr) (len cap : Nat) (w : World) (hr : Row w.heap.size w a len) :
    Calls Try.prog 30 #[.slice a len cap] w fun e w' => ∃ (b : Int) (v : Value) (ps : List PaceV), e = .returned (.agg #[.int .i64 b, v]) ∧ IsPaces w' v ps ∧ (∀ k, v.ownBlock = some k → w.heap.size < k) ∧ Below w.heap.size w w' := by
  have Hr := hide hr
  clear hr
  have Ba : Hid (∀ o, Below w.heap.size w (w.alloc o)) := hide (fun o => (Below.refl _ _).alloc (Nat.le_refl _) _)
  go_enter Try.func30, Try.ntmps30
  go_wp2_with fail
  refine (Draw.new_any a len cap _ (Draw.row_later (unhide Hr) (unhide Ba _))).mono ?_
  rintro e w1 ⟨rfl, hs1, ho1⟩
  simp only [World.size_alloc] at hs1 ho1 ⊢
  have hz1 : w.heap.size + 2 ≤ w1.heap.size := by have := st_lt hs1; omega
  have hb0 : Below (w.heap.size + 1) (w.alloc (.cells #[.int .i64 0, .slice none 0 0] 26)) w1 := ho1.below (Nat.le_refl _) (by simp)
  have B1 : Hid (Below w.heap.size w w1) := hide ((unhide Ba _).trans (hb0.mono (by omega)))
  have HX : Hid (w1.cell? ⟨w.heap.size, 0, none⟩ = some (.int .i64 0) ∧ w1.cell? ⟨w.heap.size, 1, none⟩ = some (.slice none 0 0) ∧ w1.frozen? ⟨w.heap.size, 0, none⟩ = false ∧ w1.frozen? ⟨w.heap.size, 1, none⟩ = false) := hide ⟨(hb0.cell (p := ⟨w.heap.size, 0, none⟩) (Nat.lt_succ_self _)).trans (by simp), (hb0.cell (p := ⟨w.heap.size, 1, none⟩) (Nat.lt_succ_self _)).trans (by simp), (hb0.frozen (p := ⟨w.heap.size, 0, none⟩) (Nat.lt_succ_self _)).trans (by rw [frozen?_alloc_cells]; exact frozen_far (Nat.le_refl _)), (hb0.frozen (p := ⟨w.heap.size, 1, none⟩) (Nat.lt_succ_self _)).trans (by rw [frozen?_alloc_cells]; exact frozen_far (Nat.le_refl _))⟩
  have Hs1 := hide hs1
  clear hs1 ho1 hb0
  go_wp2_with fail
  refine (l4DrawAny_any a len cap (w.heap.size + 1) _ (unhide Hs1)).mono ?_
  rintro e w2 ⟨v, rs, rfl, hrs, hir, hs2, ho2⟩
  have hz2 := ho2.size
  obtain ⟨va, vcap, rfl, hvc, hvm⟩ := hir.rooms.shape
  obtain ⟨hl1, hl6⟩ := hrs
  have hB2 : Below (w.heap.size + 1) w1 w2 := ho2.below (Nat.le_refl _) (by omega)
  have B2 : Hid (Below w.heap.size w w2) := hide ((unhide B1).trans (hB2.mono (by omega)))
  have HB2 := hide hB2
  have Hir := hide hir
  have Hs2 := hide (st_below hs2 (((Below.refl _ _).alloc (Nat.le_refl _) (.cells #[.slice va rs.length vcap] 67)).mono (by have := st_lt hs2; omega)))
  have hN2 : w.heap.size < w2.heap.size := by omega
  clear hir hs2 ho2 hB2
  go_wp2_with fail
  go_region_with (go_at_call 34; go_must (refine (Draw.below_any a len cap (w.heap.size + 1) (rs.length : Int) ?_ ?_ _ ?_).mono ?_); go_must (omega); go_must (omega); go_must (exact st_drew (unhide Hs2)); go_must (rintro e w3 ⟨x, rfl, hx0, hx1, hs3, ho3⟩; obtain ⟨j, rfl⟩ := Int.eq_ofNat_of_zero_le hx0; have hoW := off_drew ho3; have hz3 : w2.heap.size + 1 ≤ w3.heap.size := (by have := hoW.size; simpa using this); have hB3 : Below (w.heap.size + 1) w2 w3 := (((Below.refl _ w2).alloc (by omega) _).trans (hoW.below (Nat.le_refl _) (by simp; omega))); have e2 : w3.cell? ⟨w2.heap.size, 0, none⟩ = some (.slice va rs.length vcap) := (hoW.cell (p := ⟨w2.heap.size, 0, none⟩) (by simp) (show w2.heap.size ≠ w.heap.size + 1 by omega)).trans (by simp); have hir3 := ((unhide Hir).later ((Below.refl _ _).alloc (Nat.le_refl _) _)).off hoW (by omega); have hB13 := (unhide HB2).trans hB3; obtain ⟨x0, x1, x2, x3⟩ := unhide HX; have f0 := (hB13.cell (p := ⟨w.heap.size, 0, none⟩) (Nat.lt_succ_self _)).trans x0; have f1 := (hB13.cell (p := ⟨w.heap.size, 1, none⟩) (Nat.lt_succ_self _)).trans x1; have f2 := (hB13.frozen (p := ⟨w.heap.size, 0, none⟩) (Nat.lt_succ_self _)).trans x2; have f3 := (hB13.frozen (p := ⟨w.heap.size, 1, none⟩) (Nat.lt_succ_self _)).trans x3; obtain ⟨va', vcap', hve, _, _, hrr⟩ := hir3; cases hve; rcases hrr with hz | ⟨gb, go, rfl, hgn, hglt, hgc⟩; exact absurd hz (fun e => (by rw [e] at hl1; simp at hl1)); obtain ⟨c0, pv, c1, hip, hpn⟩ := hgc j (by omega); obtain ⟨pa, pcap, rfl, hpr⟩ := (show ∃ pa pcap, pv = .slice pa (roomAt rs j).2.length pcap ∧ True from (by obtain ⟨pa, pcap, rfl, _⟩ := hip; exact ⟨pa, pcap, rfl, trivial⟩)); have Hip := hide hip; have Hpn := hide hpn; have HB3 : Hid (Below w.heap.size w w3) := hide ((unhide B2).trans (hB3.mono (by omega))); clear hs3 ho3 hoW hgc hip hpn hB3 hB13 x0 x1 x2 x3 hpr))
  all_goals
    go_wp2_with fail
    exact bodyPost_ret (v := .agg #[.int .i64 (roomAt rs j).1, .slice pa (roomAt rs j).2.length pcap]) (by simp [results, Try.results30, go_sem, *]) rfl ⟨_, _, (roomAt rs j).2, rfl, ((unhide Hip).set _ _ _ (fun k e => by have := unhide Hpn k e; omega)).set _ _ _ (fun k e => by have := unhide Hpn k e; omega), fun k e => by have := unhide Hpn k e; omega, ((unhide HB3).setCell (Nat.le_refl w.heap.size) _).setCell (Nat.le_refl w.heap.size) _⟩
theorem drawRoomOk_any (a : Option Addr) (len cap : Nat) (w : World) (hr : Row w.heap.size w a len) :
    Calls Try.prog 30 #[.slice a len cap] w fun e w' => ∃ (b : Int) (v : Value) (ps : List PaceV), e = .returned (.agg #[.int .i64 b, v]) ∧ IsPaces w' v ps ∧ Below w.heap.size w w' :=
  (drawRoomOk_from a len cap w hr).mono fun e w' ⟨b, v, ps, h1, h2, _, h3⟩ => ⟨b, v, ps, h1, h2, h3⟩



end Go.Proofs.Ytbekkdneldcehaa
