/- Contracts of the laws' copies of rooms and halls: what is copied reads as what it was copied of, in memory of its own. Conditions: the slices can be read and are no longer than 2^20. -/
import Derived.Test.YtbekkdneldcehaaHallCopy
namespace Go.Proofs.Ytbekkdneldcehaa
open Go.ChangeShapes Go.WideShapes Go.ChangeAt Go.RowKit Go.Sort
set_option linter.unusedVariables false

theorem IsPaces.set {w : World} {v : Value} {ps : List PaceV} (h : IsPaces w v ps) (b o : Nat) (u : Value) (hn : ∀ k, v.ownBlock = some k → k ≠ b) : IsPaces (w.setCell ⟨b, o, none⟩ u) v ps := by
  obtain ⟨a, cap, rfl, hc, hm, hr⟩ := h
  refine ⟨a, cap, rfl, hc, hm, ?_⟩
  rcases hr with hr | ⟨b', off, rfl, hlt, hcl⟩
  · exact .inl hr
  · have hne : b' ≠ b := hn b' rfl
    refine .inr ⟨b', off, rfl, by simpa using hlt, fun k hk => ?_⟩
    obtain ⟨h1, h2⟩ := hcl k hk
    exact ⟨by rw [World.cell?_setCell_other _ _ _ _ (by simp)]; exact h1, by rw [World.cell?_setCell_other _ _ _ _ (by simp)]; exact h2⟩

set_option maxHeartbeats 2000000 in
theorem toRoom_any {w : World} {v : Value} {ps : List PaceV} (rb : Int) (h : IsPaces w v ps) (hs : ps.length ≤ 1048576) :
    Calls Try.prog 20 #[.agg #[.int .i64 rb, v]] w fun e w' => ∃ v', e = .returned (.agg #[.int .i64 rb, v']) ∧ IsPaces w' v' ps ∧ (∀ k, v'.ownBlock = some k → w.heap.size ≤ k) ∧ Below w.heap.size w w' := by
  have Hv := hide h
  obtain ⟨a, cap, rfl, hc, hm, hr⟩ := h
  clear hr
  have Hb0 : Hid (∀ o1 o2 o3 : Obj, Below w.heap.size w (((w.alloc o1).alloc o2).alloc o3)) := hide (fun o1 o2 o3 => (((Below.refl _ _).alloc (Nat.le_refl _) _).alloc (by simp) _).alloc (by simp; omega) _)
  go_enter Try.func20, Try.ntmps20
  go_wp2_with fail
  refine (toPaceS_any ((unhide Hv).below (unhide Hb0 _ _ _)) hs).mono ?_
  rintro e w1 ⟨v', rfl, hp, hk, hb1⟩
  have hsz : w.heap.size + 3 ≤ w1.heap.size := by have := hb1.size; simp at this; omega
  have hk' : ∀ k, v'.ownBlock = some k → w.heap.size + 3 ≤ k := fun k e => by have := hk k e; simp at this; omega
  obtain ⟨cc, ff⟩ := bcell hb1
  have x0 := cc (w.heap.size + 2) 0 (by simp)
  have x1 := cc (w.heap.size + 2) 1 (by simp)
  have y0 := cc (w.heap.size + 1) 0 (by simp)
  have y1 := cc (w.heap.size + 1) 1 (by simp)
  have fx0 := ff (w.heap.size + 2) 0 (by simp)
  have fx1 := ff (w.heap.size + 2) 1 (by simp)
  have fy0 := ff (w.heap.size + 1) 0 (by simp)
  have fy1 := ff (w.heap.size + 1) 1 (by simp)
  have Hp := hide hp
  have Hk := hide hk'
  have Hb1 := hide hb1
  obtain ⟨a', cap', rfl, _⟩ := hp
  clear cc ff hk hk' hb1
  go_wp2_with fail
  have Q : ∀ b o u, b ≤ w.heap.size + 2 → ∀ w' v', IsPaces w' v' ps → (∀ k, v'.ownBlock = some k → w.heap.size + 3 ≤ k) → IsPaces (w'.setCell ⟨b, o, none⟩ u) v' ps := fun b o u hb w' v' h hk => h.set b o u (fun k e => by have := hk k e; omega)
  have B1 : Below w.heap.size w w1 := (unhide Hb0 _ _ _).trans ((unhide Hb1).mono (by simp; omega))
  refine bodyPost_ret (v := .agg #[.int .i64 rb, .slice a' ps.length cap']) (by simp [results, Try.results20, go_sem, *]) rfl ⟨_, rfl, ?_, fun k e => by have := unhide Hk k e; omega, ?_⟩
  · exact Q _ _ _ (by omega) _ _ (Q _ _ _ (by omega) _ _ (Q _ _ _ (by omega) _ _ (unhide Hp) (unhide Hk)) (unhide Hk)) (unhide Hk)
  · exact ((B1.setCell (by show _ ≤ w.heap.size + 1 + 1; omega) _).setCell (by show _ ≤ w.heap.size + 1; omega) _).setCell (by show _ ≤ w.heap.size + 1; omega) _

def isRoomOf (w : World) (g : Nat) (rs : List RoomV) (j : Nat) (u u' : Value) : Prop := u = .int .i64 (roomAt rs j).1 ∧ IsPaces w u' (roomAt rs j).2 ∧ ∀ k, u'.ownBlock = some k → g < k
/-- The slice v reads as the rooms rs, and all of it lies in blocks from n₀ on. -/
def RoomsFrom (n₀ : Nat) (w : World) (v : Value) (rs : List RoomV) : Prop :=
  ∃ (a : Option Addr) (cap : Nat), v = .slice a rs.length cap ∧ rs.length ≤ cap ∧ cap ≤ 9223372036854775807 ∧ (rs = [] ∨ ∃ b off, a = some ⟨b, off, none⟩ ∧ n₀ ≤ b ∧ b < w.heap.size ∧
    ∀ k, k < rs.length → w.cell? ⟨b, off + k * 2, none⟩ = some (.int .i64 (roomAt rs k).1) ∧ ∃ pv, w.cell? ⟨b, off + k * 2 + 1, none⟩ = some pv ∧ IsPaces w pv (roomAt rs k).2 ∧ ∀ j, pv.ownBlock = some j → n₀ ≤ j)
theorem RoomsFrom.rooms {n₀ : Nat} {w : World} {v : Value} {rs : List RoomV} (h : RoomsFrom n₀ w v rs) : IsRooms w v rs := by
  obtain ⟨a, cap, rfl, hc, hm, hr⟩ := h
  refine ⟨a, cap, rfl, hc, hm, ?_⟩
  rcases hr with hr | ⟨b, off, rfl, _, hlt, hcl⟩
  · exact .inl hr
  · exact .inr ⟨b, off, rfl, hlt, fun k hk => by obtain ⟨h1, pv, h2, h3, _⟩ := hcl k hk; exact ⟨h1, pv, h2, h3⟩⟩
theorem RoomsFrom.set {n₀ : Nat} {w : World} {v : Value} {rs : List RoomV} (h : RoomsFrom n₀ w v rs) (g o : Nat) (u : Value) (hg : g < n₀) : RoomsFrom n₀ (w.setCell ⟨g, o, none⟩ u) v rs := by
  obtain ⟨a, cap, rfl, hc, hm, hr⟩ := h
  refine ⟨a, cap, rfl, hc, hm, ?_⟩
  rcases hr with hr | ⟨b, off, rfl, hn, hlt, hcl⟩
  · exact .inl hr
  · have hne : b ≠ g := by omega
    refine .inr ⟨b, off, rfl, hn, by simpa using hlt, fun k hk => ?_⟩
    obtain ⟨h1, pv, h2, h3, h4⟩ := hcl k hk
    exact ⟨by rw [World.cell?_setCell_other _ _ _ _ (by simp)]; exact h1, pv, by rw [World.cell?_setCell_other _ _ _ _ (by simp)]; exact h2, h3.set _ _ _ (fun j e => by have := h4 j e; omega), h4⟩
theorem RoomsFrom.of_row {w : World} {B g n cap t : Nat} {rs : List RoomV} {xs : List Value} (h : w.ownsRow B t 2 (.slice (some ⟨g, 0, none⟩) n cap) n xs) (hp : Pairs xs (isRoomOf w g rs) rs.length) (hn : n = rs.length) : RoomsFrom g w (.slice (some ⟨g, 0, none⟩) n cap) rs := by
  subst hn
  have h' := h
  rcases h.2 with ⟨hh, _⟩ | ⟨g', cap', cur, hh, hb, hg, hnc, hcm, r⟩
  · simp at hh
  · simp only [Value.slice.injEq, Option.some.injEq, Addr.mk.injEq, and_true, true_and] at hh
    obtain ⟨rfl, rfl⟩ := hh
    refine ⟨_, cap, rfl, hnc, by unfold maxLen at hcm; omega, .inr ⟨g, 0, rfl, Nat.le_refl _, (Array.getElem?_eq_some_iff.1 hg).1, fun k hk => ?_⟩⟩
    obtain ⟨u, u', h1, h2, rfl, h3, h4⟩ := hp k hk
    refine ⟨?_, u', ?_, h3, fun j e => Nat.le_of_lt (h4 j e)⟩
    · rw [Nat.zero_add, World.ownsRow.cellAt h' _ (by omega)]; exact h1
    · rw [Nat.zero_add, World.ownsRow.cellAt h' _ (by omega)]; exact h2


theorem IsRooms.shape {w : World} {v : Value} {rs : List RoomV} (h : IsRooms w v rs) : ∃ a cap, v = .slice a rs.length cap ∧ rs.length ≤ cap ∧ cap ≤ 9223372036854775807 := by
  obtain ⟨a, cap, rfl, hc, hm, _⟩ := h; exact ⟨a, cap, rfl, hc, hm⟩

end Go.Proofs.Ytbekkdneldcehaa
