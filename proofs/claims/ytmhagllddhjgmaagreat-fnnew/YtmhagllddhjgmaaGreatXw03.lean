/- What the proof rests on, part 3: lists and numbers, how they lie in memory, and contracts of the calls. No condition but those that a theorem names. -/
import Derived.Test.YtmhagllddhjgmaaGreatXw01
import Derived.Test.YtmhagllddhjgmaaGreatXw02
import Derived.Maps.AppendAt
import Derived.WalkKit
import Derived.ProofKit
import Derived.OpenShut
import Derived.Outline
import Derived.Deep.RegionWith
import Derived.Deep.QuietTactic
import Derived.BigQuiet
import Derived.Laws.OwnMore
import Derived.OwnWalk
import Derived.Lib.QuietBelow
/- Contracts of the model's HallOk, of its count of benches and of its BenchesIn, and of the program's BenchesIn, at whatever hall can be read. No other condition but that what is counted can be added up. -/
namespace Go.Proofs.YtmhagllddhjgmaaGreat
open Go.ChangeShapes Go.WideShapes Go.ChangeAt Go.RowKit Go.Sort
set_option linter.unusedVariables false

def benchesV (rs : List RoomV) : Int := if hallB rs = true then benchSum rs else -1
theorem benchesV_t {rs : List RoomV} (h : hallB rs = true) : benchesV rs = benchSum rs := by unfold benchesV; rw [if_pos h]
theorem benchesV_f {rs : List RoomV} (h : hallB rs = false) : benchesV rs = -1 := by unfold benchesV; rw [h]; rfl
theorem adds_hall {rs : List RoomV} (h : hallB rs = true) : Adds rs := adds_of (hallB_of h).2.2.1 (hallB_of h).2.1

set_option maxHeartbeats 1000000 in
theorem implBenchesIn_any {w : World} {v : Value} {rs : List RoomV} (h : IsRooms w v rs) :
    Calls Tryz.prog 65 #[.agg #[v]] w fun e w' => e = .returned (.int .i64 (benchesV rs)) ∧ Below w.heap.size w w' := by
  have Hv := hide h
  obtain ⟨a, cap, rfl, hc, hm, hr⟩ := h
  clear hr
  cases h1 : hallB rs
  · have H1 := hide h1
    clear h1
    go_enter Tryz.func65, Tryz.ntmps65
    go_wp2_with fail
    refine (implHallOk_any ((unhide Hv).alloc _)).mono ?_
    rw [unhide H1]
    rintro e w1 ⟨rfl, hb⟩
    go_wp2_with fail
    go_ret
    exact ⟨ret_int (benchesV_f (unhide H1)).symm, ((Below.refl _ _).alloc (Nat.le_refl _) _).trans (hb.mono (by simp))⟩
  · have H1 := hide h1
    clear h1
    go_enter Tryz.func65, Tryz.ntmps65
    go_wp2_with fail
    refine (implHallOk_any ((unhide Hv).alloc _)).mono ?_
    rw [unhide H1]
    rintro e w1 ⟨rfl, hb⟩
    have hz : w.heap.size + 1 ≤ w1.heap.size := by have := hb.size; simpa using this
    have hbox : w1.cell? ⟨w.heap.size, 0, none⟩ = some (.slice a rs.length cap) := by rw [hb.cell (p := ⟨w.heap.size, 0, none⟩) (by simp)]; simp
    have hw1 := hide (((unhide Hv).alloc _).below hb)
    have Hb := hide hb
    clear hb
    go_wp2_with fail
    refine (benchesOf_any (unhide hw1) (adds_hall (unhide H1))).mono ?_
    rintro e w2 ⟨rfl, hb2⟩
    have Hb2 := hide hb2
    clear hb2
    go_wp2_with fail
    go_ret
    exact ⟨ret_int (benchesV_t (unhide H1)).symm, ((Below.refl _ _).alloc (Nat.le_refl _) _).trans (((unhide Hb).trans ((unhide Hb2).mono (unhide Hb).size)).mono (by simp))⟩

set_option maxHeartbeats 1000000 in
theorem l4Count_any {w : World} {v : Value} {rs : List RoomV} (h : IsRooms w v rs) (ha : Adds rs) :
    Calls Tryz.prog 67 #[.agg #[v]] w fun e w' => e = .returned (.int .i64 (benchSum rs)) ∧ Below w.heap.size w w' := by
  obtain ⟨a, cap, rfl, hc, hm, hr⟩ := h
  have Hr := hide hr
  have Ha := hide ha
  clear hr ha
  go_enter Tryz.func67, Tryz.ntmps67
  go_wp2_with fail
  go_loop [3, 4] (fun s i => ∃ k : Nat, k ≤ rs.length ∧ i = .int .i64 k ∧ s = .int .i64 (benchSum (rs.take k))) (fun _ i => rs.length - (intOf i).toNat)
  case atStart => exact ⟨0, Nat.zero_le _, rfl, rfl⟩
  case round =>
    obtain ⟨k, hk, rfl, rfl⟩ := hrel
    by_cases hlt : k < rs.length
    · rcases unhide Hr with h0 | ⟨b, off, rfl, hbw, hcl⟩
      · rw [h0] at hlt; simp at hlt
      obtain ⟨c0, pv, c1, hip⟩ := hcl k hlt
      have hne : b ≠ w.heap.size := Nat.ne_of_lt hbw
      have hs0 := unhide Ha k hk
      have hs1 := unhide Ha (k + 1) hlt
      have Hs := hide (benchSum_take rs hlt)
      rw [benchSum_take rs hlt] at hs1
      generalize benchSum (rs.take k) = s at *
      generalize (roomAt rs k).1 = rb at *
      obtain ⟨s0, s1⟩ := hs0
      obtain ⟨s2, s3⟩ := hs1
      clear hcl hip
      go_wp2_with fail
      go_round
      case rel => exact ⟨k + 1, by omega, by go_num, by rw [unhide Hs]⟩
      case measure => simp [intOf]; omega
    · obtain rfl : k = rs.length := by omega
      go_wp2_with fail
      go_ret
      exact ⟨ret_int (by first | rfl | rw [benchSum_all]), (Below.refl _ _).alloc (Nat.le_refl _) _⟩

set_option maxHeartbeats 1000000 in
theorem specHallOk_any {w : World} {v : Value} {rs : List RoomV} (h : IsRooms w v rs) :
    Calls Tryz.prog 27 #[.agg #[v]] w fun e w' => e = .returned (.bool (hallB rs)) ∧ Below w.heap.size w w' := by
  have Hv := hide h
  obtain ⟨a, cap, rfl, hc, hm, hr⟩ := h
  have Hr := hide hr
  clear hr
  have hl : (rs.length : Int) ≤ 9223372036854775807 := by omega
  go_enter Tryz.func27, Tryz.ntmps27
  go_wp2_with fail
  go_loopw [3] (fun i wr => ∃ k : Nat, k ≤ rs.length ∧ i = .int .i64 k ∧ (∀ j, j < k → roomB (roomAt rs j) = true) ∧ Below (w.heap.size + 1) (w.alloc (.cells #[.slice a rs.length cap] 26)) wr) (fun i _ => rs.length - (intOf i).toNat)
  case atStart => exact ⟨0, Nat.zero_le _, rfl, fun j hj => by omega, Below.refl _ _⟩
  case round =>
    obtain ⟨k, hk, rfl, hst, hb⟩ := hrel
    have Hst := hide hst
    have Hb := hide hb
    have hsz : w.heap.size + 1 ≤ wr.heap.size := by have := hb.size; simpa using this
    have hbox : wr.cell? ⟨w.heap.size, 0, none⟩ = some (.slice a rs.length cap) := by rw [hb.cell (p := ⟨w.heap.size, 0, none⟩) (by simp)]; simp
    have hbB : Below w.heap.size w wr := ((Below.refl _ _).alloc (Nat.le_refl _) _).trans (hb.mono (by omega))
    clear hst
    by_cases hlt : k < rs.length
    · rcases unhide Hr with h0 | ⟨b, off, rfl, hbw, hcl⟩
      · rw [h0] at hlt; simp at hlt
      obtain ⟨c0, pv, c1, hip⟩ := hcl k hlt
      rw [← hbB.cell (p := ⟨b, off + k * 2, none⟩) hbw] at c0
      rw [← hbB.cell (p := ⟨b, off + k * 2 + 1, none⟩) hbw] at c1
      have Hip := hide (hip.below hbB)
      obtain ⟨pa, pcap, rfl, _⟩ := hip
      generalize hp : roomAt rs k = p at *
      obtain ⟨rb, ps⟩ := p
      simp only at c0 c1
      have Hp := hide hp
      have HbB := hide hbB
      clear hp hcl hb hbB
      cases hrb : roomB (rb, ps)
      · go_wp2_with fail
        refine (specRoomOk_any rb (unhide Hip)).mono ?_
        rintro e w1 ⟨rfl, hb1⟩
        have Hb1 := hide hb1
        clear hb1
        go_wp2_with fail
        go_ret
        exact ⟨ret_bool (hallB_2 (allRooms_f hlt (by rw [unhide Hp]; exact hrb))).symm, (unhide HbB).trans ((unhide Hb1).mono (unhide HbB).size)⟩
      · go_wp2_with fail
        refine (specRoomOk_any rb (unhide Hip)).mono ?_
        rintro e w1 ⟨rfl, hb1⟩
        have Hb1 := hide hb1
        clear hb1
        go_wp2_with fail
        go_roundw
        case rel => exact ⟨k + 1, by omega, by go_num, next_all (unhide Hst) (by rw [unhide Hp]; exact hrb), (unhide Hb).trans ((unhide Hb1).mono hsz)⟩
        case measure => simp [intOf]; omega
    · obtain rfl : k = rs.length := by omega
      have h2 := allRooms_t (unhide Hst)
      have HbB := hide hbB
      have hw1 := hide ((unhide Hv).below hbB)
      clear hb hbB
      cases h1 : inB rs.length 1 3
      · have H2 := hide (hallB_1 h1)
        clear h2
        go_wp2_with fail
        refine (l1In_any _ _ _ _).mono ?_
        rintro e w' ⟨rfl, rfl⟩
        go_wp2_with fail
        go_ret
        exact ⟨ret_bool (unhide H2).symm, unhide HbB⟩
      · have H3 := hide (hallB_3 h1 h2)
        have Ha := hide (adds_of h2 (by have := inB_of h1; omega))
        clear h2
        go_wp2_with fail
        refine (l1In_any _ _ _ _).mono ?_
        rintro e w' ⟨rfl, rfl⟩
        go_wp2_with fail
        refine (l4Count_any (unhide hw1) (unhide Ha)).mono ?_
        rintro e w2 ⟨rfl, hb2⟩
        have Hb2 := hide hb2
        clear hb2
        go_wp2_with fail
        go_ret
        exact ⟨ret_bool (by rw [unhide H3]), (unhide HbB).trans ((unhide Hb2).mono (unhide HbB).size)⟩

set_option maxHeartbeats 1000000 in
theorem specBenchesIn_any {w : World} {v : Value} {rs : List RoomV} (h : IsRooms w v rs) :
    Calls Tryz.prog 28 #[.agg #[v]] w fun e w' => e = .returned (.int .i64 (benchesV rs)) ∧ Below w.heap.size w w' := by
  have Hv := hide h
  obtain ⟨a, cap, rfl, hc, hm, hr⟩ := h
  clear hr
  cases h1 : hallB rs
  · have H1 := hide h1
    clear h1
    go_enter Tryz.func28, Tryz.ntmps28
    go_wp2_with fail
    refine (specHallOk_any ((unhide Hv).alloc _)).mono ?_
    rw [unhide H1]
    rintro e w1 ⟨rfl, hb⟩
    go_wp2_with fail
    go_ret
    exact ⟨ret_int (benchesV_f (unhide H1)).symm, ((Below.refl _ _).alloc (Nat.le_refl _) _).trans (hb.mono (by simp))⟩
  · have H1 := hide h1
    clear h1
    go_enter Tryz.func28, Tryz.ntmps28
    go_wp2_with fail
    refine (specHallOk_any ((unhide Hv).alloc _)).mono ?_
    rw [unhide H1]
    rintro e w1 ⟨rfl, hb⟩
    have hz : w.heap.size + 1 ≤ w1.heap.size := by have := hb.size; simpa using this
    have hbox : w1.cell? ⟨w.heap.size, 0, none⟩ = some (.slice a rs.length cap) := by rw [hb.cell (p := ⟨w.heap.size, 0, none⟩) (by simp)]; simp
    have hw1 := hide (((unhide Hv).alloc _).below hb)
    have Hb := hide hb
    clear hb
    go_wp2_with fail
    refine (l4Count_any (unhide hw1) (adds_hall (unhide H1))).mono ?_
    rintro e w2 ⟨rfl, hb2⟩
    have Hb2 := hide hb2
    clear hb2
    go_wp2_with fail
    go_ret
    exact ⟨ret_int (benchesV_t (unhide H1)).symm, ((Below.refl _ _).alloc (Nat.le_refl _) _).trans (((unhide Hb).trans ((unhide Hb2).mono (unhide Hb).size)).mono (by simp))⟩

end Go.Proofs.YtmhagllddhjgmaaGreat

/- Contracts of the laws' copies of rooms and halls: what is copied reads as what it was copied of, in memory of its own. Conditions: the slices can be read and are no longer than 2^20. -/
namespace Go.Proofs.YtmhagllddhjgmaaGreat
open Go.ChangeShapes Go.WideShapes Go.ChangeAt Go.RowKit Go.Sort
set_option linter.unusedVariables false

theorem IsPaces.set {w : World} {v : Value} {ps : List PaceV} (h : IsPaces w v ps) (b o : Nat) (u : Value) (hn : ∀ k, v.ownBlock = some k → k ≠ b) : IsPaces (w.setCell ⟨b, o, none⟩ u) v ps := by
  obtain ⟨a, cap, rfl, hc, hm, hr⟩ := h
  refine ⟨a, cap, rfl, hc, hm, ?_⟩
  rcases hr with hr | ⟨b', off, rfl, hlt, hcl⟩
  · exact .inl hr
  · have hne : b' ≠ b := hn b' rfl
    refine .inr ⟨b', off, rfl, by simpa using hlt, fun k hk => ?_⟩
    obtain ⟨h1, h2⟩ := hcl k hk
    exact ⟨by rw [World.cell?_setCell_other _ _ _ _ (by simp)]; exact h1, by rw [World.cell?_setCell_other _ _ _ _ (by simp)]; exact h2⟩

/-- The slice v reads as the rooms rs, and all of it lies in blocks from n₀ on. -/
def RoomsFrom (n₀ : Nat) (w : World) (v : Value) (rs : List RoomV) : Prop :=
  ∃ (a : Option Addr) (cap : Nat), v = .slice a rs.length cap ∧ rs.length ≤ cap ∧ cap ≤ 9223372036854775807 ∧ (rs = [] ∨ ∃ b off, a = some ⟨b, off, none⟩ ∧ n₀ ≤ b ∧ b < w.heap.size ∧
    ∀ k, k < rs.length → w.cell? ⟨b, off + k * 2, none⟩ = some (.int .i64 (roomAt rs k).1) ∧ ∃ pv, w.cell? ⟨b, off + k * 2 + 1, none⟩ = some pv ∧ IsPaces w pv (roomAt rs k).2 ∧ ∀ j, pv.ownBlock = some j → n₀ ≤ j)
theorem RoomsFrom.rooms {n₀ : Nat} {w : World} {v : Value} {rs : List RoomV} (h : RoomsFrom n₀ w v rs) : IsRooms w v rs := by
  obtain ⟨a, cap, rfl, hc, hm, hr⟩ := h
  refine ⟨a, cap, rfl, hc, hm, ?_⟩
  rcases hr with hr | ⟨b, off, rfl, _, hlt, hcl⟩
  · exact .inl hr
  · exact .inr ⟨b, off, rfl, hlt, fun k hk => by obtain ⟨h1, pv, h2, h3, _⟩ := hcl k hk; exact ⟨h1, pv, h2, h3⟩⟩
theorem RoomsFrom.set {n₀ : Nat} {w : World} {v : Value} {rs : List RoomV} (h : RoomsFrom n₀ w v rs) (g o : Nat) (u : Value) (hg : g < n₀) : RoomsFrom n₀ (w.setCell ⟨g, o, none⟩ u) v rs := by
  obtain ⟨a, cap, rfl, hc, hm, hr⟩ := h
  refine ⟨a, cap, rfl, hc, hm, ?_⟩
  rcases hr with hr | ⟨b, off, rfl, hn, hlt, hcl⟩
  · exact .inl hr
  · have hne : b ≠ g := by omega
    refine .inr ⟨b, off, rfl, hn, by simpa using hlt, fun k hk => ?_⟩
    obtain ⟨h1, pv, h2, h3, h4⟩ := hcl k hk
    exact ⟨by rw [World.cell?_setCell_other _ _ _ _ (by simp)]; exact h1, pv, by rw [World.cell?_setCell_other _ _ _ _ (by simp)]; exact h2, h3.set _ _ _ (fun j e => by have := h4 j e; omega), h4⟩
theorem IsRooms.shape {w : World} {v : Value} {rs : List RoomV} (h : IsRooms w v rs) : ∃ a cap, v = .slice a rs.length cap ∧ rs.length ≤ cap ∧ cap ≤ 9223372036854775807 := by
  obtain ⟨a, cap, rfl, hc, hm, _⟩ := h; exact ⟨a, cap, rfl, hc, hm⟩

end Go.Proofs.YtmhagllddhjgmaaGreat

/- Halls that the call itself made: rows of rooms and of paces, no two of them in one block; what they read as; that they stay; how a room is put to them. Conditions: those that each theorem names. -/
namespace Go.Proofs.YtmhagllddhjgmaaGreat
open Go.ChangeShapes Go.WideShapes Go.ChangeAt Go.RowKit Go.Sort
set_option linter.unusedVariables false

/-- The slice v, in a block from n₀ on, holds the paces ps. -/
def PacesAt (n₀ : Nat) (w : World) (v : Value) (ps : List PaceV) : Prop := w.ownsRow n₀ 138 2 v ps.length (pcells ps)
theorem PacesAt.lt {n₀ : Nat} {w : World} {v : Value} {ps : List PaceV} (h : PacesAt n₀ w v ps) {k : Nat} (hk : v.ownBlock = some k) : n₀ ≤ k ∧ k < w.heap.size := World.ownsRow.lt h k hk
theorem PacesAt.paces {n₀ : Nat} {w : World} {v : Value} {ps : List PaceV} (h : PacesAt n₀ w v ps) : IsPaces w v ps := by
  have h' := h
  rcases h.2 with ⟨rfl, hz⟩ | ⟨g, cap, cur, rfl, hb, hg, hnc, hcm, r⟩
  · exact ⟨none, 0, by rw [hz], by omega, by omega, .inl (List.eq_nil_of_length_eq_zero hz)⟩
  · refine ⟨_, cap, rfl, hnc, by unfold maxLen at hcm; omega, .inr ⟨g, 0, rfl, (Array.getElem?_eq_some_iff.1 hg).1, fun k hk => ?_⟩⟩
    have hp := pairs_get (f := fun p : PaceV => Value.int .i64 p.1) (g := fun p : PaceV => Value.int .i64 p.2) ps k hk
    have hat : paceAt ps k = ps[k] := by unfold paceAt; simp [List.getD, hk]
    rw [Nat.zero_add, hat]
    exact ⟨(World.ownsRow.cellAt h' (k * 2) (by omega)).trans hp.1, (World.ownsRow.cellAt h' (k * 2 + 1) (by omega)).trans hp.2⟩

/-- The slice v holds the rooms qs, each with the slice of its paces; all lie in blocks from n₀ on, no two in one. -/
structure OwnHall (n₀ : Nat) (w : World) (v : Value) (qs : List (RoomV × Value)) : Prop where
  row : w.ownsRow n₀ 95 2 v qs.length (rcells qs)
  paces : ∀ q ∈ qs, PacesAt n₀ w q.2 q.1.2
  off : ∀ q ∈ qs, ∀ b, q.2.ownBlock = some b → v.ownBlock ≠ some b
  apart : (qs.map (·.2)).Pairwise fun x y => ∀ b, x.ownBlock = some b → y.ownBlock ≠ some b
theorem OwnHall.nil (n₀ : Nat) (w : World) : OwnHall n₀ w (.slice none 0 0) [] :=
  ⟨World.ownsRow_nil w n₀ _ _, fun _ h => (by cases h), fun _ h => (by cases h), List.Pairwise.nil⟩
theorem OwnHall.lt {n₀ : Nat} {w : World} {v : Value} {qs : List (RoomV × Value)} (h : OwnHall n₀ w v qs) {k : Nat} (hk : v.ownBlock = some k ∨ ∃ q ∈ qs, q.2.ownBlock = some k) : n₀ ≤ k ∧ k < w.heap.size := by
  rcases hk with hk | ⟨q, hq, hk⟩
  · exact World.ownsRow.lt h.row k hk
  · exact (h.paces q hq).lt hk
theorem OwnHall.same {n₀ : Nat} {w w' : World} {v : Value} {qs : List (RoomV × Value)} (h : OwnHall n₀ w v qs) (hs : ∀ k, n₀ ≤ k → k < w.heap.size → w'.heap[k]? = w.heap[k]?) : OwnHall n₀ w' v qs :=
  ⟨own_same h.row (fun k e => hs k (h.lt (.inl e)).1 (h.lt (.inl e)).2), fun q hq => own_same (h.paces q hq) (fun k e => hs k (h.lt (.inr ⟨q, hq, e⟩)).1 (h.lt (.inr ⟨q, hq, e⟩)).2), h.off, h.apart⟩
theorem OwnHall.later {n₀ : Nat} {w w' : World} {v : Value} {qs : List (RoomV × Value)} (h : OwnHall n₀ w v qs) (hb : Below w.heap.size w w') : OwnHall n₀ w' v qs := h.same (fun k _ hk => hb.block k hk)
theorem OwnHall.but {n₀ bc : Nat} {w w' : World} {v : Value} {qs : List (RoomV × Value)} (h : OwnHall n₀ w v qs) (hb : But bc w w') (hbc : bc < n₀ ∨ w.heap.size ≤ bc) : OwnHall n₀ w' v qs := h.same (fun k h0 hk => hb.block k hk (by omega))
theorem OwnHall.mono {n₀ n₁ : Nat} {w : World} {v : Value} {qs : List (RoomV × Value)} (h : OwnHall n₀ w v qs) (hn : n₁ ≤ n₀) : OwnHall n₁ w v qs :=
  ⟨own_mono h.row hn, fun q hq => own_mono (h.paces q hq) hn, h.off, h.apart⟩
theorem OwnHall.rooms {n₀ : Nat} {w : World} {v : Value} {qs : List (RoomV × Value)} (h : OwnHall n₀ w v qs) : IsRooms w v (qs.map (·.1)) := by
  have h' := h.row
  have hlen : (qs.map (·.1)).length = qs.length := by simp
  rcases h.row.2 with ⟨rfl, hz⟩ | ⟨g, cap, cur, rfl, hb, hg, hnc, hcm, r⟩
  · exact ⟨none, 0, by rw [hlen, hz], by omega, by omega, .inl (by rw [List.eq_nil_of_length_eq_zero hz]; rfl)⟩
  · refine ⟨_, cap, by rw [hlen], by rw [hlen]; exact hnc, by unfold maxLen at hcm; omega, .inr ⟨g, 0, rfl, (Array.getElem?_eq_some_iff.1 hg).1, fun k hk => ?_⟩⟩
    rw [hlen] at hk
    have hp := pairs_get (f := fun q : RoomV × Value => Value.int .i64 q.1.1) (g := fun q : RoomV × Value => q.2) qs k hk
    have hat : roomAt (qs.map (·.1)) k = qs[k].1 := by unfold roomAt; simp [List.getD, hk]
    rw [Nat.zero_add, hat]
    exact ⟨(World.ownsRow.cellAt h' (k * 2) (by omega)).trans hp.1, qs[k].2, (World.ownsRow.cellAt h' (k * 2 + 1) (by omega)).trans hp.2, (h.paces _ (List.getElem_mem hk)).paces⟩

/-- A room is put to it. -/
theorem OwnHall.push {n₀ : Nat} {w w1 : World} {v v' pv : Value} {qs : List (RoomV × Value)} {rb : Int} {ps : List PaceV} {o : Obj} (h : OwnHall n₀ w v qs) (hp : PacesAt n₀ w pv ps)
    (hoff : ∀ b, pv.ownBlock = some b → v.ownBlock ≠ some b) (hap : ∀ q ∈ qs, ∀ b, q.2.ownBlock = some b → pv.ownBlock ≠ some b)
    (hown : w1.ownsRow n₀ 95 2 v' (qs.length + 1) (rcells qs ++ [.int .i64 rb, pv])) (hg : (w.alloc o).grownBy w1 v.ownBlock) (hat : v'.ownBlock = v.ownBlock ∨ v'.ownBlock = some (w.alloc o).heap.size) :
    OwnHall n₀ w1 v' (qs ++ [((rb, ps), pv)]) := by
  have hk : ∀ k, k < w.heap.size → v.ownBlock ≠ some k → w1.heap[k]? = w.heap[k]? := fun k hk hn => (hg.block k (by simp; omega) (fun e => hn e.symm)).trans (Below.heap_alloc w o k hk)
  have hv' : ∀ k, k < w.heap.size → v'.ownBlock = some k → v.ownBlock = some k := fun k hk e => by
    rcases hat with e' | e'
    · rw [← e']; exact e
    · rw [e'] at e; simp at e; omega
  refine ⟨?_, fun q hq => ?_, fun q hq b e => ?_, ?_⟩
  · simpa [rcells] using hown
  · rcases List.mem_append.1 hq with hq | hq
    · exact own_same (h.paces q hq) (fun k e => hk k (h.lt (.inr ⟨q, hq, e⟩)).2 (h.off q hq k e))
    · obtain rfl : q = ((rb, ps), pv) := by simpa using hq
      exact own_same hp (fun k e => hk k (hp.lt e).2 (hoff k e))
  · rcases List.mem_append.1 hq with hq | hq
    · exact fun e' => h.off q hq b e (hv' b (h.lt (.inr ⟨q, hq, e⟩)).2 e')
    · obtain rfl : q = ((rb, ps), pv) := by simpa using hq
      exact fun e' => hoff b e (hv' b (hp.lt e).2 e')
  · rw [List.map_append, List.pairwise_append]
    refine ⟨h.apart, by simp, fun x hx y hy b e => ?_⟩
    obtain ⟨q, hq, rfl⟩ := List.mem_map.1 hx
    obtain rfl : y = pv := by simpa using hy
    exact hap q hq b e

theorem infoPace2 : (Tryz.prog.info? 138).map (fun i => (i.zero, i.size, i.bytes)) = some (some (.agg #[.int .i64 0, .int .i64 0]), 2, 16) := by kernel_rfl
theorem infoRoom2 : (Tryz.prog.info? 95).map (fun i => (i.zero, i.size, i.bytes)) = some (some (.agg #[.int .i64 0, .slice none 0 0]), 2, 32) := by kernel_rfl

theorem OwnHall.shape {n₀ : Nat} {w : World} {v : Value} {qs : List (RoomV × Value)} (h : OwnHall n₀ w v qs) : ∃ a cap, v = .slice a qs.length cap := by
  rcases h.row.2 with ⟨rfl, hz⟩ | ⟨g, cap, cur, rfl, _⟩
  · exact ⟨none, 0, by rw [hz]⟩
  · exact ⟨_, cap, rfl⟩
theorem PacesAt.shape {n₀ : Nat} {w : World} {v : Value} {ps : List PaceV} (h : PacesAt n₀ w v ps) : ∃ a cap, v = .slice a ps.length cap := by
  rcases h.2 with ⟨rfl, hz⟩ | ⟨g, cap, cur, rfl, _⟩
  · exact ⟨none, 0, by rw [hz]⟩
  · exact ⟨_, cap, rfl⟩

end Go.Proofs.YtmhagllddhjgmaaGreat

/- The copies of paces, rooms and halls once more: no two rows of such a copy lie in one block. Conditions: the slices can be read; nothing in them is longer than 2^20. -/
namespace Go.Proofs.YtmhagllddhjgmaaGreat
open Go.ChangeShapes Go.WideShapes Go.ChangeAt Go.RowKit Go.Sort
set_option linter.unusedVariables false

theorem PacesAt.mono {n₀ n₁ : Nat} {w : World} {v : Value} {ps : List PaceV} (h : PacesAt n₀ w v ps) (hn : n₁ ≤ n₀) : PacesAt n₁ w v ps := own_mono h hn
end Go.Proofs.YtmhagllddhjgmaaGreat

