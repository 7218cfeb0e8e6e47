/- Contracts of the draws of chapter 4's arguments: each returns halls and rooms that can be read, and numbers within bounds, and writes into no memory that was there. Condition: the bytes of the draw can be read and are at most 4096. -/
import Derived.Test.YtnofnjddbflpmaaDoorHallDraw3
namespace Go.Proofs.YtnofnjddbflpmaaDoor
open Go.ChangeShapes Go.WideShapes Go.ChangeAt Go.RowKit Go.Sort
open Draw (St Off Row Cur)
set_option linter.unusedVariables false

theorem RoomsFrom.mono {n₀ n₁ : Nat} {w : World} {v : Value} {rs : List RoomV} (h : RoomsFrom n₀ w v rs) (hn : n₁ ≤ n₀) : RoomsFrom n₁ w v rs := by
  obtain ⟨a, cap, rfl, hc, hm, hr⟩ := h
  refine ⟨a, cap, rfl, hc, hm, ?_⟩
  rcases hr with hr | ⟨b, off, rfl, hb, hlt, hcl⟩
  · exact .inl hr
  · exact .inr ⟨b, off, rfl, by omega, hlt, fun k hk => by obtain ⟨h1, pv, h2, h3, h4⟩ := hcl k hk; exact ⟨h1, pv, h2, h3, fun j e => by have := h4 j e; omega⟩⟩





set_option maxRecDepth 100000 in
set_option maxHeartbeats 4000000 in
theorem drawHallOk_any (a : Option Addr) (len cap : Nat) (w : World) (hr : Row w.heap.size w a len) :
    Calls Tryd.prog 20 #[.slice a len cap] w fun e w' => ∃ (v : Value) (rs : List RoomV), e = .returned (.agg #[v]) ∧ Few rs ∧ RoomsFrom w.heap.size w' v rs ∧ Below w.heap.size w w' := by
  have Hr := hide hr
  clear hr
  have Ba : Hid (∀ o, Below w.heap.size w (w.alloc o)) := hide (fun o => (Below.refl _ _).alloc (Nat.le_refl _) _)
  go_enter Tryd.func20, Tryd.ntmps20
  go_wp2_with fail
  refine (Draw.new_any a len cap _ (Draw.row_later (unhide Hr) (unhide Ba _))).mono ?_
  rintro e w1 ⟨rfl, hs1, ho1⟩
  simp only [World.size_alloc] at hs1 ho1 ⊢
  have hz1 : w.heap.size + 2 ≤ w1.heap.size := by have := st_lt hs1; omega
  have x0 : w1.cell? ⟨w.heap.size, 0, none⟩ = some (.slice none 0 0) := (ho1.cell (p := ⟨w.heap.size, 0, none⟩) (by simp) (show w.heap.size ≠ w.heap.size + 1 by omega)).trans (by simp)
  have x1 : w1.frozen? ⟨w.heap.size, 0, none⟩ = false := (World.frozen?_of_block (w := w.alloc _) (w' := w1) (ho1.block w.heap.size (by simp) (by omega))).trans (by rw [frozen?_alloc_cells]; exact frozen_far (Nat.le_refl _))
  have B1 : Hid (Below w.heap.size w w1) := hide ((unhide Ba _).trans (ho1.below (by omega) (by simp)))
  have Hs1 := hide hs1
  clear hs1 ho1
  go_wp2_with fail
  refine (l4DrawAny_any a len cap (w.heap.size + 1) _ (unhide Hs1)).mono ?_
  rintro e w2 ⟨v, rs, rfl, hrs, hir, hs2, ho2⟩
  have hz2 := ho2.size
  obtain ⟨va, vcap, rfl, _, _⟩ := hir.rooms.shape
  have y0 := (ho2.cell (p := ⟨w.heap.size, 0, none⟩) (show w.heap.size < w1.heap.size by omega) (show w.heap.size ≠ w.heap.size + 1 by omega)).trans x0
  have y1 : w2.frozen? ⟨w.heap.size, 0, none⟩ = false := (World.frozen?_of_block (w := w1) (w' := w2) (ho2.block w.heap.size (by omega) (by omega))).trans x1
  have B2 : Hid (Below w.heap.size w w2) := hide ((unhide B1).trans (ho2.below (by omega) (by omega)))
  have Hrs := hide hrs
  have Hir := hide hir
  have hN2 : w.heap.size < w2.heap.size := by omega
  clear hrs hir hs2 ho2 x0 x1
  go_wp2_with fail
  exact bodyPost_ret (v := .agg #[.slice va rs.length vcap]) (by simp [results, Tryd.results20, go_sem, *]) rfl ⟨_, rs, rfl, unhide Hrs, ((unhide Hir).set _ _ _ (by omega)).mono (by omega), (unhide B2).setCell (Nat.le_refl w.heap.size) _⟩

set_option maxRecDepth 100000 in
set_option maxHeartbeats 4000000 in
theorem drawShowHall_any (a : Option Addr) (len cap : Nat) (w : World) (hr : Row w.heap.size w a len) :
    Calls Tryd.prog 7 #[.slice a len cap] w fun e w' => ∃ (v : Value) (rs : List RoomV), e = .returned (.agg #[v]) ∧ Few rs ∧ RoomsFrom w.heap.size w' v rs ∧ Below w.heap.size w w' := by
  have Hr := hide hr
  clear hr
  have Ba : Hid (∀ o, Below w.heap.size w (w.alloc o)) := hide (fun o => (Below.refl _ _).alloc (Nat.le_refl _) _)
  go_enter Tryd.func7, Tryd.ntmps7
  go_wp2_with fail
  refine (drawHallOk_any a len cap _ (Draw.row_later (unhide Hr) (unhide Ba _))).mono ?_
  rintro e w1 ⟨v, rs, rfl, hrs, hir, hb⟩
  have hz1 : w.heap.size + 1 ≤ w1.heap.size := by have := hb.size; simpa using this
  simp only [World.size_alloc] at hir hb
  obtain ⟨va, vcap, rfl, _, _⟩ := hir.rooms.shape
  have y0 : w1.cell? ⟨w.heap.size, 0, none⟩ = some (.slice none 0 0) := (hb.cell (p := ⟨w.heap.size, 0, none⟩) (Nat.lt_succ_self _)).trans (by simp)
  have y1 : w1.frozen? ⟨w.heap.size, 0, none⟩ = false := (hb.frozen (p := ⟨w.heap.size, 0, none⟩) (Nat.lt_succ_self _)).trans (by rw [frozen?_alloc_cells]; exact frozen_far (Nat.le_refl _))
  have B1 : Hid (Below w.heap.size w w1) := hide ((unhide Ba _).trans (hb.mono (by omega)))
  have Hrs := hide hrs
  have Hir := hide hir
  have hN2 : w.heap.size < w1.heap.size := by omega
  clear hrs hir hb
  go_wp2_with fail
  exact bodyPost_ret (v := .agg #[.slice va rs.length vcap]) (by simp [results, Tryd.results7, go_sem, *]) rfl ⟨_, rs, rfl, unhide Hrs, ((unhide Hir).set _ _ _ (by omega)).mono (by omega), (unhide B1).setCell (Nat.le_refl w.heap.size) _⟩

end Go.Proofs.YtnofnjddbflpmaaDoor
