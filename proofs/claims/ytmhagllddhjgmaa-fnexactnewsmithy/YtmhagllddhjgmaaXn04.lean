/- What the proof rests on, part 4: lists and numbers, how they lie in memory, and contracts of the calls. No condition but those that a theorem names. -/
import Derived.Test.YtmhagllddhjgmaaXn01
import Derived.Test.YtmhagllddhjgmaaXn02
import Derived.Test.YtmhagllddhjgmaaXn03
import Derived.Deep.RegionWith
import Derived.Maps.AppendAt
import Derived.WalkKit
import Derived.ProofKit
import Derived.OpenShut
import Derived.Outline
import Derived.Deep.QuietTactic
import Derived.BigQuiet
import Derived.Laws.OwnMore
import Derived.OwnWalk
import Derived.Lib.QuietBelow
/- Contracts of the laws' copies of rooms and halls: what is copied reads as what it was copied of, in memory of its own. Conditions: the slices can be read and are no longer than 2^20. -/
namespace Go.Proofs.Ytmhagllddhjgmaa
open Go.ChangeShapes Go.WideShapes Go.ChangeAt Go.RowKit Go.Sort
set_option linter.unusedVariables false

theorem IsPaces.set {w : World} {v : Value} {ps : List PaceV} (h : IsPaces w v ps) (b o : Nat) (u : Value) (hn : ∀ k, v.ownBlock = some k → k ≠ b) : IsPaces (w.setCell ⟨b, o, none⟩ u) v ps := by
  obtain ⟨a, cap, rfl, hc, hm, hr⟩ := h
  refine ⟨a, cap, rfl, hc, hm, ?_⟩
  rcases hr with hr | ⟨b', off, rfl, hlt, hcl⟩
  · exact .inl hr
  · have hne : b' ≠ b := hn b' rfl
    refine .inr ⟨b', off, rfl, by simpa using hlt, fun k hk => ?_⟩
    obtain ⟨h1, h2⟩ := hcl k hk
    exact ⟨by rw [World.cell?_setCell_other _ _ _ _ (by simp)]; exact h1, by rw [World.cell?_setCell_other _ _ _ _ (by simp)]; exact h2⟩

set_option maxHeartbeats 2000000 in
theorem toRoom_any {w : World} {v : Value} {ps : List PaceV} (rb : Int) (h : IsPaces w v ps) (hs : ps.length ≤ 1048576) :
    Calls Try.prog 39 #[.agg #[.int .i64 rb, v]] w fun e w' => ∃ v', e = .returned (.agg #[.int .i64 rb, v']) ∧ IsPaces w' v' ps ∧ (∀ k, v'.ownBlock = some k → w.heap.size ≤ k) ∧ Below w.heap.size w w' := by
  have Hv := hide h
  obtain ⟨a, cap, rfl, hc, hm, hr⟩ := h
  clear hr
  have Hb0 : Hid (∀ o1 o2 o3 : Obj, Below w.heap.size w (((w.alloc o1).alloc o2).alloc o3)) := hide (fun o1 o2 o3 => (((Below.refl _ _).alloc (Nat.le_refl _) _).alloc (by simp) _).alloc (by simp; omega) _)
  go_enter Try.func39, Try.ntmps39
  go_wp2_with fail
  refine (toPaceS_any ((unhide Hv).below (unhide Hb0 _ _ _)) hs).mono ?_
  rintro e w1 ⟨v', rfl, hp, hk, hb1⟩
  have hsz : w.heap.size + 3 ≤ w1.heap.size := by have := hb1.size; simp at this; omega
  have hk' : ∀ k, v'.ownBlock = some k → w.heap.size + 3 ≤ k := fun k e => by have := hk k e; simp at this; omega
  obtain ⟨cc, ff⟩ := bcell hb1
  have x0 := cc (w.heap.size + 2) 0 (by simp)
  have x1 := cc (w.heap.size + 2) 1 (by simp)
  have y0 := cc (w.heap.size + 1) 0 (by simp)
  have y1 := cc (w.heap.size + 1) 1 (by simp)
  have fx0 := ff (w.heap.size + 2) 0 (by simp)
  have fx1 := ff (w.heap.size + 2) 1 (by simp)
  have fy0 := ff (w.heap.size + 1) 0 (by simp)
  have fy1 := ff (w.heap.size + 1) 1 (by simp)
  have Hp := hide hp
  have Hk := hide hk'
  have Hb1 := hide hb1
  obtain ⟨a', cap', rfl, _⟩ := hp
  clear cc ff hk hk' hb1
  go_wp2_with fail
  have Q : ∀ b o u, b ≤ w.heap.size + 2 → ∀ w' v', IsPaces w' v' ps → (∀ k, v'.ownBlock = some k → w.heap.size + 3 ≤ k) → IsPaces (w'.setCell ⟨b, o, none⟩ u) v' ps := fun b o u hb w' v' h hk => h.set b o u (fun k e => by have := hk k e; omega)
  have B1 : Below w.heap.size w w1 := (unhide Hb0 _ _ _).trans ((unhide Hb1).mono (by simp; omega))
  refine bodyPost_ret (v := .agg #[.int .i64 rb, .slice a' ps.length cap']) (by simp [results, Try.results39, go_sem, *]) rfl ⟨_, rfl, ?_, fun k e => by have := unhide Hk k e; omega, ?_⟩
  · exact Q _ _ _ (by omega) _ _ (Q _ _ _ (by omega) _ _ (Q _ _ _ (by omega) _ _ (unhide Hp) (unhide Hk)) (unhide Hk)) (unhide Hk)
  · exact ((B1.setCell (by show _ ≤ w.heap.size + 1 + 1; omega) _).setCell (by show _ ≤ w.heap.size + 1; omega) _).setCell (by show _ ≤ w.heap.size + 1; omega) _

def isRoomOf (w : World) (g : Nat) (rs : List RoomV) (j : Nat) (u u' : Value) : Prop := u = .int .i64 (roomAt rs j).1 ∧ IsPaces w u' (roomAt rs j).2 ∧ ∀ k, u'.ownBlock = some k → g < k
/-- The slice v reads as the rooms rs, and all of it lies in blocks from n₀ on. -/
def RoomsFrom (n₀ : Nat) (w : World) (v : Value) (rs : List RoomV) : Prop :=
  ∃ (a : Option Addr) (cap : Nat), v = .slice a rs.length cap ∧ rs.length ≤ cap ∧ cap ≤ 9223372036854775807 ∧ (rs = [] ∨ ∃ b off, a = some ⟨b, off, none⟩ ∧ n₀ ≤ b ∧ b < w.heap.size ∧
    ∀ k, k < rs.length → w.cell? ⟨b, off + k * 2, none⟩ = some (.int .i64 (roomAt rs k).1) ∧ ∃ pv, w.cell? ⟨b, off + k * 2 + 1, none⟩ = some pv ∧ IsPaces w pv (roomAt rs k).2 ∧ ∀ j, pv.ownBlock = some j → n₀ ≤ j)
theorem RoomsFrom.rooms {n₀ : Nat} {w : World} {v : Value} {rs : List RoomV} (h : RoomsFrom n₀ w v rs) : IsRooms w v rs := by
  obtain ⟨a, cap, rfl, hc, hm, hr⟩ := h
  refine ⟨a, cap, rfl, hc, hm, ?_⟩
  rcases hr with hr | ⟨b, off, rfl, _, hlt, hcl⟩
  · exact .inl hr
  · exact .inr ⟨b, off, rfl, hlt, fun k hk => by obtain ⟨h1, pv, h2, h3, _⟩ := hcl k hk; exact ⟨h1, pv, h2, h3⟩⟩
theorem RoomsFrom.set {n₀ : Nat} {w : World} {v : Value} {rs : List RoomV} (h : RoomsFrom n₀ w v rs) (g o : Nat) (u : Value) (hg : g < n₀) : RoomsFrom n₀ (w.setCell ⟨g, o, none⟩ u) v rs := by
  obtain ⟨a, cap, rfl, hc, hm, hr⟩ := h
  refine ⟨a, cap, rfl, hc, hm, ?_⟩
  rcases hr with hr | ⟨b, off, rfl, hn, hlt, hcl⟩
  · exact .inl hr
  · have hne : b ≠ g := by omega
    refine .inr ⟨b, off, rfl, hn, by simpa using hlt, fun k hk => ?_⟩
    obtain ⟨h1, pv, h2, h3, h4⟩ := hcl k hk
    exact ⟨by rw [World.cell?_setCell_other _ _ _ _ (by simp)]; exact h1, pv, by rw [World.cell?_setCell_other _ _ _ _ (by simp)]; exact h2, h3.set _ _ _ (fun j e => by have := h4 j e; omega), h4⟩
theorem RoomsFrom.of_row {w : World} {B g n cap t : Nat} {rs : List RoomV} {xs : List Value} (h : w.ownsRow B t 2 (.slice (some ⟨g, 0, none⟩) n cap) n xs) (hp : Pairs xs (isRoomOf w g rs) rs.length) (hn : n = rs.length) : RoomsFrom g w (.slice (some ⟨g, 0, none⟩) n cap) rs := by
  subst hn
  have h' := h
  rcases h.2 with ⟨hh, _⟩ | ⟨g', cap', cur, hh, hb, hg, hnc, hcm, r⟩
  · simp at hh
  · simp only [Value.slice.injEq, Option.some.injEq, Addr.mk.injEq, and_true, true_and] at hh
    obtain ⟨rfl, rfl⟩ := hh
    refine ⟨_, cap, rfl, hnc, by unfold maxLen at hcm; omega, .inr ⟨g, 0, rfl, Nat.le_refl _, (Array.getElem?_eq_some_iff.1 hg).1, fun k hk => ?_⟩⟩
    obtain ⟨u, u', h1, h2, rfl, h3, h4⟩ := hp k hk
    refine ⟨?_, u', ?_, h3, fun j e => Nat.le_of_lt (h4 j e)⟩
    · rw [Nat.zero_add, World.ownsRow.cellAt h' _ (by omega)]; exact h1
    · rw [Nat.zero_add, World.ownsRow.cellAt h' _ (by omega)]; exact h2

set_option maxHeartbeats 2000000 in
theorem toRoomS_any {w : World} {v : Value} {rs : List RoomV} (h : IsRooms w v rs) (hs : Small rs) :
    Calls Try.prog 17 #[v] w fun e w' => ∃ v', e = .returned v' ∧ RoomsFrom w.heap.size w' v' rs ∧ Below w.heap.size w w' := by
  obtain ⟨a, cap, rfl, hc, hm, hr⟩ := h
  have Hr := hide hr
  clear hr
  obtain ⟨hs1, hs2⟩ := hs
  have Hs2 := hide hs2
  clear hs2
  obtain ⟨i0, hi, hz0, hz1, hz2⟩ := info_parts infoRoom
  go_enter Try.func17, Try.ntmps17
  go_wp2_with (at_make; refine wpList_make_full _ rfl _ _ 26 rfl w.heap.size 67 i0 (.agg #[.int .i64 0, .slice none 0 0]) 2 Try.underlying26 hi hz0 hz1 _ _ _ _ rs.length rfl rfl rfl rfl (by rw [hz2]; omega) (by unfold maxLen; omega) (Nat.le_refl _) ?_; intro w0 hown hgrow)
  have Hown := hide hown
  have Hgr := hide hgrow
  clear hown hgrow
  go_loopw [4] (fun i wr => ∃ k : Nat, k ≤ rs.length ∧ i = .int .i64 k ∧ ∃ xs, wr.ownsRow w.heap.size 67 2 (.slice (some ⟨w.heap.size, 0, none⟩) rs.length rs.length) rs.length xs ∧ Pairs xs (isRoomOf wr w.heap.size rs) k ∧ Below w.heap.size w wr) (fun i _ => rs.length - (intOf i).toNat)
  case atStart => exact ⟨0, Nat.zero_le _, rfl, _, unhide Hown, fun j hj => by omega, (Below.refl _ _).grown (unhide Hgr) (Nat.le_refl _) (fun k e => by cases e)⟩
  case round =>
    obtain ⟨k, hk, rfl, xs, hown, hpr, hb⟩ := hrel
    have Hb := hide hb
    by_cases hlt : k < rs.length
    · rcases unhide Hr with h0 | ⟨b, off, rfl, hbw, hcl⟩
      · rw [h0] at hlt; simp at hlt
      obtain ⟨c0, pv, c1, hip⟩ := hcl k hlt
      rw [← hb.cell (p := ⟨b, off + k * 2, none⟩) hbw] at c0
      rw [← hb.cell (p := ⟨b, off + k * 2 + 1, none⟩) hbw] at c1
      have hxs : xs.length = rs.length * 2 := hown.1
      have hg1 : w.heap.size < wr.heap.size := (World.ownsRow.lt hown w.heap.size rfl).2
      have Ho := hide hown
      have Hpr := hide hpr
      have Hip := hide (hip.below hb)
      obtain ⟨pa, pcap, rfl, _⟩ := hip
      have hsk := unhide Hs2 k hlt
      generalize hp : roomAt rs k = p at *
      obtain ⟨rb, ps⟩ := p
      simp only at c0 c1 hsk
      have Hp := hide hp
      clear hcl hb hown hpr hp
      go_wp2_with fail
      refine (toRoom_any rb (unhide Hip) hsk).mono ?_
      rintro e w1 ⟨v', rfl, hip', hk', hb1⟩
      have ho1 := own_later (unhide Ho) hb1
      obtain ⟨⟨x0, y0⟩, z0⟩ := own_cell ho1 (j := k * 2) (by omega)
      obtain ⟨⟨x1, y1⟩, z1⟩ := own_cell ho1 (j := k * 2 + 1) (by omega)
      have Hp2 := hide (own_pair ho1 (k * 2) (.int .i64 rb) v')
      have Hip' := hide hip'
      have Hk' := hide hk'
      have Hb1 := hide hb1
      have hsz := hb1.size
      have hsz0 := (unhide Hb).size
      obtain ⟨a', cap', rfl, _⟩ := hip'
      clear ho1 hb1 hk'
      go_wp2_with fail
      have hne : ∀ {u : Value}, (∀ m, u.ownBlock = some m → w.heap.size < m) → ∀ {qs}, IsPaces wr u qs → IsPaces ((w1.setCell ⟨w.heap.size, k * 2, none⟩ (.int .i64 rb)).setCell ⟨w.heap.size, k * 2 + 1, none⟩ (.slice a' ps.length cap')) u qs := fun hn qs hq => ((hq.below (unhide Hb1)).set _ _ _ (fun m e => by have := hn m e; omega)).set _ _ _ (fun m e => by have := hn m e; omega)
      have hn' : ∀ m, (Value.slice a' ps.length cap').ownBlock = some m → w.heap.size < m := fun m e => by have := unhide Hk' _ e; omega
      have hlast : isRoomOf ((w1.setCell ⟨w.heap.size, k * 2, none⟩ (.int .i64 rb)).setCell ⟨w.heap.size, k * 2 + 1, none⟩ (.slice a' ps.length cap')) w.heap.size rs k (.int .i64 rb) (.slice a' ps.length cap') := by
        unfold isRoomOf
        rw [unhide Hp]
        exact ⟨rfl, ((unhide Hip').set _ _ _ (fun m e => by have := hn' m e; omega)).set _ _ _ (fun m e => by have := hn' m e; omega), hn'⟩
      have hprev := (unhide Hpr).mono (Q := isRoomOf ((w1.setCell ⟨w.heap.size, k * 2, none⟩ (.int .i64 rb)).setCell ⟨w.heap.size, k * 2 + 1, none⟩ (.slice a' ps.length cap')) w.heap.size rs) (fun j u u' h => ⟨h.1, hne h.2.2 h.2.1, h.2.2⟩)
      go_roundw
      case rel => exact ⟨k + 1, by omega, by go_num, _, (unhide Hp2).1, hprev.next (by omega) hlast, ((unhide Hb).trans ((unhide Hb1).mono hsz0)).trans (below_grown (unhide Hp2).2 (Nat.le_refl _) (by omega))⟩
      case measure => simp [intOf]; omega
    · obtain rfl : k = rs.length := by omega
      go_wp2_with fail
      go_ret
      exact ⟨_, rfl, RoomsFrom.of_row hown hpr rfl, hb⟩

theorem IsRooms.shape {w : World} {v : Value} {rs : List RoomV} (h : IsRooms w v rs) : ∃ a cap, v = .slice a rs.length cap ∧ rs.length ≤ cap ∧ cap ≤ 9223372036854775807 := by
  obtain ⟨a, cap, rfl, hc, hm, _⟩ := h; exact ⟨a, cap, rfl, hc, hm⟩

end Go.Proofs.Ytmhagllddhjgmaa

/- The copy of a hall; the exact laws on RoomOk, HallOk and BenchesIn: whatever room or hall is handed in, each answers as its model and leaves it as it was. No condition but that what is handed in can be read. -/
namespace Go.Proofs.Ytmhagllddhjgmaa
open Go.ChangeShapes Go.WideShapes Go.ChangeAt Go.RowKit Go.Sort
set_option linter.unusedVariables false

set_option maxHeartbeats 2000000 in
theorem toHall_any {w : World} {v : Value} {rs : List RoomV} (h : IsRooms w v rs) (hs : Small rs) :
    Calls Try.prog 6 #[.agg #[v]] w fun e w' => ∃ v', e = .returned (.agg #[v']) ∧ IsRooms w' v' rs ∧ Below w.heap.size w w' := by
  have Hv := hide h
  obtain ⟨a, cap, rfl, hc, hm, hr⟩ := h
  clear hr
  have Hb0 : Hid (∀ o1 o2 o3 : Obj, Below w.heap.size w (((w.alloc o1).alloc o2).alloc o3)) := hide (fun o1 o2 o3 => (((Below.refl _ _).alloc (Nat.le_refl _) _).alloc (by simp) _).alloc (by simp; omega) _)
  go_enter Try.func6, Try.ntmps6
  go_wp2_with fail
  refine (toRoomS_any ((unhide Hv).below (unhide Hb0 _ _ _)) hs).mono ?_
  rintro e w1 ⟨v', rfl, hp, hb1⟩
  simp only [World.size_alloc] at hp
  have hsz : w.heap.size + 3 ≤ w1.heap.size := by have := hb1.size; simp at this; omega
  obtain ⟨cc, ff⟩ := bcell hb1
  have x0 := cc (w.heap.size + 2) 0 (by simp)
  have y0 := cc (w.heap.size + 1) 0 (by simp)
  have fx0 := ff (w.heap.size + 2) 0 (by simp)
  have fy0 := ff (w.heap.size + 1) 0 (by simp)
  have Hp := hide hp
  have Hb1 := hide hb1
  obtain ⟨a', cap', rfl, _⟩ := hp
  clear cc ff hb1
  go_wp2_with fail
  have B1 : Below w.heap.size w w1 := (unhide Hb0 _ _ _).trans ((unhide Hb1).mono (by simp; omega))
  refine bodyPost_ret (v := .agg #[.slice a' rs.length cap']) (by simp [results, Try.results6, go_sem, *]) rfl ⟨_, rfl, ?_, ?_⟩
  · exact (((unhide Hp).set _ _ _ (by omega)).set _ _ _ (by omega)).rooms
  · exact (B1.setCell (by show _ ≤ w.heap.size + 1 + 1; omega) _).setCell (by show _ ≤ w.heap.size + 1; omega) _

end Go.Proofs.Ytmhagllddhjgmaa

/- Halls that the call itself made: rows of rooms and of paces, no two of them in one block; what they read as; that they stay; how a room is put to them. Conditions: those that each theorem names. -/
namespace Go.Proofs.Ytmhagllddhjgmaa
open Go.ChangeShapes Go.WideShapes Go.ChangeAt Go.RowKit Go.Sort
set_option linter.unusedVariables false

/-- The slice v, in a block from n₀ on, holds the paces ps. -/
def PacesAt (n₀ : Nat) (w : World) (v : Value) (ps : List PaceV) : Prop := w.ownsRow n₀ 75 2 v ps.length (pcells ps)
theorem PacesAt.lt {n₀ : Nat} {w : World} {v : Value} {ps : List PaceV} (h : PacesAt n₀ w v ps) {k : Nat} (hk : v.ownBlock = some k) : n₀ ≤ k ∧ k < w.heap.size := World.ownsRow.lt h k hk
theorem PacesAt.paces {n₀ : Nat} {w : World} {v : Value} {ps : List PaceV} (h : PacesAt n₀ w v ps) : IsPaces w v ps := by
  have h' := h
  rcases h.2 with ⟨rfl, hz⟩ | ⟨g, cap, cur, rfl, hb, hg, hnc, hcm, r⟩
  · exact ⟨none, 0, by rw [hz], by omega, by omega, .inl (List.eq_nil_of_length_eq_zero hz)⟩
  · refine ⟨_, cap, rfl, hnc, by unfold maxLen at hcm; omega, .inr ⟨g, 0, rfl, (Array.getElem?_eq_some_iff.1 hg).1, fun k hk => ?_⟩⟩
    have hp := pairs_get (f := fun p : PaceV => Value.int .i64 p.1) (g := fun p : PaceV => Value.int .i64 p.2) ps k hk
    have hat : paceAt ps k = ps[k] := by unfold paceAt; simp [List.getD, hk]
    rw [Nat.zero_add, hat]
    exact ⟨(World.ownsRow.cellAt h' (k * 2) (by omega)).trans hp.1, (World.ownsRow.cellAt h' (k * 2 + 1) (by omega)).trans hp.2⟩

/-- The slice v holds the rooms qs, each with the slice of its paces; all lie in blocks from n₀ on, no two in one. -/
structure OwnHall (n₀ : Nat) (w : World) (v : Value) (qs : List (RoomV × Value)) : Prop where
  row : w.ownsRow n₀ 67 2 v qs.length (rcells qs)
  paces : ∀ q ∈ qs, PacesAt n₀ w q.2 q.1.2
  off : ∀ q ∈ qs, ∀ b, q.2.ownBlock = some b → v.ownBlock ≠ some b
  apart : (qs.map (·.2)).Pairwise fun x y => ∀ b, x.ownBlock = some b → y.ownBlock ≠ some b
theorem OwnHall.nil (n₀ : Nat) (w : World) : OwnHall n₀ w (.slice none 0 0) [] :=
  ⟨World.ownsRow_nil w n₀ _ _, fun _ h => (by cases h), fun _ h => (by cases h), List.Pairwise.nil⟩
theorem OwnHall.lt {n₀ : Nat} {w : World} {v : Value} {qs : List (RoomV × Value)} (h : OwnHall n₀ w v qs) {k : Nat} (hk : v.ownBlock = some k ∨ ∃ q ∈ qs, q.2.ownBlock = some k) : n₀ ≤ k ∧ k < w.heap.size := by
  rcases hk with hk | ⟨q, hq, hk⟩
  · exact World.ownsRow.lt h.row k hk
  · exact (h.paces q hq).lt hk
theorem OwnHall.same {n₀ : Nat} {w w' : World} {v : Value} {qs : List (RoomV × Value)} (h : OwnHall n₀ w v qs) (hs : ∀ k, n₀ ≤ k → k < w.heap.size → w'.heap[k]? = w.heap[k]?) : OwnHall n₀ w' v qs :=
  ⟨own_same h.row (fun k e => hs k (h.lt (.inl e)).1 (h.lt (.inl e)).2), fun q hq => own_same (h.paces q hq) (fun k e => hs k (h.lt (.inr ⟨q, hq, e⟩)).1 (h.lt (.inr ⟨q, hq, e⟩)).2), h.off, h.apart⟩
theorem OwnHall.later {n₀ : Nat} {w w' : World} {v : Value} {qs : List (RoomV × Value)} (h : OwnHall n₀ w v qs) (hb : Below w.heap.size w w') : OwnHall n₀ w' v qs := h.same (fun k _ hk => hb.block k hk)
theorem OwnHall.mono {n₀ n₁ : Nat} {w : World} {v : Value} {qs : List (RoomV × Value)} (h : OwnHall n₀ w v qs) (hn : n₁ ≤ n₀) : OwnHall n₁ w v qs :=
  ⟨own_mono h.row hn, fun q hq => own_mono (h.paces q hq) hn, h.off, h.apart⟩
theorem OwnHall.rooms {n₀ : Nat} {w : World} {v : Value} {qs : List (RoomV × Value)} (h : OwnHall n₀ w v qs) : IsRooms w v (qs.map (·.1)) := by
  have h' := h.row
  have hlen : (qs.map (·.1)).length = qs.length := by simp
  rcases h.row.2 with ⟨rfl, hz⟩ | ⟨g, cap, cur, rfl, hb, hg, hnc, hcm, r⟩
  · exact ⟨none, 0, by rw [hlen, hz], by omega, by omega, .inl (by rw [List.eq_nil_of_length_eq_zero hz]; rfl)⟩
  · refine ⟨_, cap, by rw [hlen], by rw [hlen]; exact hnc, by unfold maxLen at hcm; omega, .inr ⟨g, 0, rfl, (Array.getElem?_eq_some_iff.1 hg).1, fun k hk => ?_⟩⟩
    rw [hlen] at hk
    have hp := pairs_get (f := fun q : RoomV × Value => Value.int .i64 q.1.1) (g := fun q : RoomV × Value => q.2) qs k hk
    have hat : roomAt (qs.map (·.1)) k = qs[k].1 := by unfold roomAt; simp [List.getD, hk]
    rw [Nat.zero_add, hat]
    exact ⟨(World.ownsRow.cellAt h' (k * 2) (by omega)).trans hp.1, qs[k].2, (World.ownsRow.cellAt h' (k * 2 + 1) (by omega)).trans hp.2, (h.paces _ (List.getElem_mem hk)).paces⟩

/-- A room is put to it. -/
theorem OwnHall.push {n₀ : Nat} {w w1 : World} {v v' pv : Value} {qs : List (RoomV × Value)} {rb : Int} {ps : List PaceV} {o : Obj} (h : OwnHall n₀ w v qs) (hp : PacesAt n₀ w pv ps)
    (hoff : ∀ b, pv.ownBlock = some b → v.ownBlock ≠ some b) (hap : ∀ q ∈ qs, ∀ b, q.2.ownBlock = some b → pv.ownBlock ≠ some b)
    (hown : w1.ownsRow n₀ 67 2 v' (qs.length + 1) (rcells qs ++ [.int .i64 rb, pv])) (hg : (w.alloc o).grownBy w1 v.ownBlock) (hat : v'.ownBlock = v.ownBlock ∨ v'.ownBlock = some (w.alloc o).heap.size) :
    OwnHall n₀ w1 v' (qs ++ [((rb, ps), pv)]) := by
  have hk : ∀ k, k < w.heap.size → v.ownBlock ≠ some k → w1.heap[k]? = w.heap[k]? := fun k hk hn => (hg.block k (by simp; omega) (fun e => hn e.symm)).trans (Below.heap_alloc w o k hk)
  have hv' : ∀ k, k < w.heap.size → v'.ownBlock = some k → v.ownBlock = some k := fun k hk e => by
    rcases hat with e' | e'
    · rw [← e']; exact e
    · rw [e'] at e; simp at e; omega
  refine ⟨?_, fun q hq => ?_, fun q hq b e => ?_, ?_⟩
  · simpa [rcells] using hown
  · rcases List.mem_append.1 hq with hq | hq
    · exact own_same (h.paces q hq) (fun k e => hk k (h.lt (.inr ⟨q, hq, e⟩)).2 (h.off q hq k e))
    · obtain rfl : q = ((rb, ps), pv) := by simpa using hq
      exact own_same hp (fun k e => hk k (hp.lt e).2 (hoff k e))
  · rcases List.mem_append.1 hq with hq | hq
    · exact fun e' => h.off q hq b e (hv' b (h.lt (.inr ⟨q, hq, e⟩)).2 e')
    · obtain rfl : q = ((rb, ps), pv) := by simpa using hq
      exact fun e' => hoff b e (hv' b (hp.lt e).2 e')
  · rw [List.map_append, List.pairwise_append]
    refine ⟨h.apart, by simp, fun x hx y hy b e => ?_⟩
    obtain ⟨q, hq, rfl⟩ := List.mem_map.1 hx
    obtain rfl : y = pv := by simpa using hy
    exact hap q hq b e

theorem infoRoom2 : (Try.prog.info? 67).map (fun i => (i.zero, i.size, i.bytes)) = some (some (.agg #[.int .i64 0, .slice none 0 0]), 2, 32) := by kernel_rfl

theorem OwnHall.shape {n₀ : Nat} {w : World} {v : Value} {qs : List (RoomV × Value)} (h : OwnHall n₀ w v qs) : ∃ a cap, v = .slice a qs.length cap := by
  rcases h.row.2 with ⟨rfl, hz⟩ | ⟨g, cap, cur, rfl, _⟩
  · exact ⟨none, 0, by rw [hz]⟩
  · exact ⟨_, cap, rfl⟩
theorem PacesAt.shape {n₀ : Nat} {w : World} {v : Value} {ps : List PaceV} (h : PacesAt n₀ w v ps) : ∃ a cap, v = .slice a ps.length cap := by
  rcases h.2 with ⟨rfl, hz⟩ | ⟨g, cap, cur, rfl, _⟩
  · exact ⟨none, 0, by rw [hz]⟩
  · exact ⟨_, cap, rfl⟩

end Go.Proofs.Ytmhagllddhjgmaa

