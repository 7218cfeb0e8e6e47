/- What the proof rests on, part 10: lists and numbers, how they lie in memory, and contracts of the calls. No condition but those that a theorem names. -/
import Derived.Test.YtmhagllddhjgmaaXn01
import Derived.Test.YtmhagllddhjgmaaXn02
import Derived.Test.YtmhagllddhjgmaaXn03
import Derived.Test.YtmhagllddhjgmaaXn04
import Derived.Test.YtmhagllddhjgmaaXn05
import Derived.Test.YtmhagllddhjgmaaXn06
import Derived.Test.YtmhagllddhjgmaaXn07
import Derived.Test.YtmhagllddhjgmaaXn08
import Derived.Test.YtmhagllddhjgmaaXn09
import Derived.Deep.DeepCutAuto
import Derived.WalkKit
import Derived.ProofKit
import Derived.OpenShut
import Derived.Outline
import Derived.Deep.DrawnRows
import Derived.BigRegion
import Derived.Deep.RegionLawGrows
import Derived.Deep.RegionWith
import Derived.Deep.QuietTactic
import Derived.BigQuiet
import Derived.Laws.OwnMore
import Derived.OwnWalk
import Derived.Maps.AppendAt
import Derived.Lib.QuietBelow
import Derived.Lib.SmallJoins
import Derived.Deep.Fields
import Derived.Deep.Slices
import Derived.OrdersHeld
import Derived.Deep.RegionHeldLaw
/- The copy of a hall: rows of its own, no two in one block. Conditions: the slices can be read; nothing in them is longer than 2^20. -/
namespace Go.Proofs.Ytmhagllddhjgmaa
open Go.ChangeShapes Go.WideShapes Go.ChangeAt Go.RowKit Go.Sort
set_option linter.unusedVariables false

/-- The slice of the paces of the room at j. -/
def valAt (us : List Value) (j : Nat) : Value := us.getD j (.slice none 0 0)
def isRowOf (rs : List RoomV) (us : List Value) (j : Nat) (u u' : Value) : Prop := u = .int .i64 (roomAt rs j).1 ∧ u' = valAt us j
theorem valAt_old {us : List Value} {j : Nat} (h : j < us.length) (x : Value) : valAt (us ++ [x]) j = valAt us j := by unfold valAt; simp [List.getD, List.getElem?_append_left h]
theorem valAt_new (us : List Value) (x : Value) : valAt (us ++ [x]) us.length = x := by unfold valAt; simp [List.getD]
def qsOf (rs : List RoomV) (us : List Value) : List (RoomV × Value) := (List.range rs.length).map fun j => (roomAt rs j, valAt us j)
theorem qsOf_len (rs : List RoomV) (us : List Value) : (qsOf rs us).length = rs.length := by unfold qsOf; simp
theorem qsOf_rooms (rs : List RoomV) (us : List Value) : (qsOf rs us).map (·.1) = rs := by
  apply List.ext_getElem?
  intro j
  by_cases hj : j < rs.length
  · unfold qsOf roomAt; simp [hj, List.getD]
  · rw [List.getElem?_eq_none (by rw [List.length_map, qsOf_len]; omega), List.getElem?_eq_none (by omega)]
theorem qsOf_vals {rs : List RoomV} {us : List Value} (h : us.length = rs.length) : (qsOf rs us).map (·.2) = us := by
  apply List.ext_getElem?
  intro j
  by_cases hj : j < rs.length
  · have hj2 : j < us.length := by omega
    unfold qsOf valAt; simp [hj, hj2, List.getD]
  · rw [List.getElem?_eq_none (by rw [List.length_map, qsOf_len]; omega), List.getElem?_eq_none (by omega)]
theorem qsOf_mem {rs : List RoomV} {us : List Value} {q : RoomV × Value} (h : q ∈ qsOf rs us) : ∃ j, j < rs.length ∧ q = (roomAt rs j, valAt us j) := by
  unfold qsOf at h
  obtain ⟨j, hj, rfl⟩ := List.mem_map.1 h
  exact ⟨j, List.mem_range.1 hj, rfl⟩
theorem qsOf_at {rs : List RoomV} {us : List Value} {k : Nat} (h : k < (qsOf rs us).length) : (qsOf rs us)[k] = (roomAt rs k, valAt us k) := by simp [qsOf]
theorem qsOf_cells {xs : List Value} {rs : List RoomV} {us : List Value} (hl : xs.length = rs.length * 2) (h : Pairs xs (isRowOf rs us) rs.length) : xs = rcells (qsOf rs us) := by
  refine pairs_ext (by rw [qsOf_len]; exact hl) fun k hk => ?_
  have hk2 : k < rs.length := by rw [qsOf_len] at hk; exact hk
  obtain ⟨u, u', h1, h2, h3, h4⟩ := h k hk2
  rw [h1, h2, h3, h4, qsOf_at hk]
  exact ⟨rfl, rfl⟩

set_option maxHeartbeats 4000000 in
theorem toRoomS_own {w : World} {v : Value} {rs : List RoomV} (h : IsRooms w v rs) (hs : Small rs) :
    Calls Try.prog 17 #[v] w fun e w' => ∃ v' qs, e = .returned v' ∧ qs.map (·.1) = rs ∧ OwnHall w.heap.size w' v' qs ∧ Below w.heap.size w w' := by
  obtain ⟨a, cap, rfl, hc, hm, hr⟩ := h
  have Hr := hide hr
  clear hr
  obtain ⟨hs1, hs2⟩ := hs
  have Hs2 := hide hs2
  clear hs2
  obtain ⟨i0, hi, hz0, hz1, hz2⟩ := info_parts infoRoom
  go_enter Try.func17, Try.ntmps17
  go_wp2_with (at_make; refine wpList_make_full _ rfl _ _ 26 rfl w.heap.size 67 i0 (.agg #[.int .i64 0, .slice none 0 0]) 2 Try.underlying26 hi hz0 hz1 _ _ _ _ rs.length rfl rfl rfl rfl (by rw [hz2]; omega) (by unfold maxLen; omega) (Nat.le_refl _) ?_; intro w0 hown hgrow)
  have Hown := hide hown
  have Hgr := hide hgrow
  clear hown hgrow
  go_loopw [4] (fun i wr => ∃ k : Nat, k ≤ rs.length ∧ i = .int .i64 k ∧ ∃ (xs us : List Value), wr.ownsRow w.heap.size 67 2 (.slice (some ⟨w.heap.size, 0, none⟩) rs.length rs.length) rs.length xs ∧ us.length = k ∧ Pairs xs (isRowOf rs us) k ∧ (∀ j, j < k → PacesAt (w.heap.size + 1) wr (valAt us j) (roomAt rs j).2) ∧ (us.Pairwise fun x y => ∀ b, x.ownBlock = some b → y.ownBlock ≠ some b) ∧ Below w.heap.size w wr) (fun i _ => rs.length - (intOf i).toNat)
  case atStart => exact ⟨0, Nat.zero_le _, rfl, _, [], unhide Hown, rfl, fun j hj => by omega, fun j hj => by omega, List.Pairwise.nil, (Below.refl _ _).grown (unhide Hgr) (Nat.le_refl _) (fun k e => by cases e)⟩
  case round =>
    obtain ⟨k, hk, rfl, xs, us, hown, hul, hpr, hpa, hap, hb⟩ := hrel
    have Hb := hide hb
    by_cases hlt : k < rs.length
    · rcases unhide Hr with h0 | ⟨b, off, rfl, hbw, hcl⟩
      · rw [h0] at hlt; simp at hlt
      obtain ⟨c0, pv, c1, hip⟩ := hcl k hlt
      rw [← hb.cell (p := ⟨b, off + k * 2, none⟩) hbw] at c0
      rw [← hb.cell (p := ⟨b, off + k * 2 + 1, none⟩) hbw] at c1
      have hxs : xs.length = rs.length * 2 := hown.1
      have hg1 : w.heap.size < wr.heap.size := (World.ownsRow.lt hown w.heap.size rfl).2
      have Ho := hide hown
      have Hpr := hide hpr
      have Hpa := hide hpa
      have Hap := hide hap
      have Hul := hide hul
      have Hip := hide (hip.below hb)
      obtain ⟨pa, pcap, rfl, _⟩ := hip
      have hsk := unhide Hs2 k hlt
      generalize hp : roomAt rs k = p at c0 c1 Hip hsk
      obtain ⟨rb, ps⟩ := p
      simp only at c0 c1 hsk
      have Hp := hide hp
      have Hx := hide hxs
      clear hcl hb hown hpr hp hpa hap hul hxs
      go_wp2_with fail
      refine (toRoom_own rb (unhide Hip) hsk).mono ?_
      rintro e w1 ⟨v', rfl, hip', hb1⟩
      have hxs : xs.length = rs.length * 2 := unhide Hx
      have ho1 := own_later (unhide Ho) hb1
      obtain ⟨⟨x0, y0⟩, z0⟩ := own_cell ho1 (j := k * 2) (by omega)
      obtain ⟨⟨x1, y1⟩, z1⟩ := own_cell ho1 (j := k * 2 + 1) (by omega)
      have Hp2 := hide (own_pair ho1 (k * 2) (.int .i64 rb) v')
      have Hip' := hide hip'
      have Hb1 := hide hb1
      have hsz := hb1.size
      have hsz0 := (unhide Hb).size
      obtain ⟨a', cap', rfl⟩ := hip'.shape
      clear ho1 hb1 hip' hxs
      go_wp2_with fail
      have hkeep : ∀ {u : Value} {ps' : List PaceV}, PacesAt (w.heap.size + 1) w1 u ps' → PacesAt (w.heap.size + 1) ((w1.setCell ⟨w.heap.size, k * 2, none⟩ (.int .i64 rb)).setCell ⟨w.heap.size, k * 2 + 1, none⟩ (.slice a' ps.length cap')) u ps' := fun hq => (hq.set _ _ _ (fun m e => by have := (hq.lt e).1; omega)).set _ _ _ (fun m e => by have := (hq.lt e).1; omega)
      have hnew : PacesAt (w.heap.size + 1) w1 (.slice a' ps.length cap') ps := (unhide Hip').mono (by omega)
      have hul := unhide Hul
      go_roundw
      case rel =>
        refine ⟨k + 1, by omega, by go_num, _, us ++ [.slice a' ps.length cap'], (unhide Hp2).1, by simp; omega, ?_, ?_, ?_, ((unhide Hb).trans ((unhide Hb1).mono hsz0)).trans (below_grown (unhide Hp2).2 (Nat.le_refl _) (by omega))⟩
        · have hpr9 : Pairs xs (isRowOf rs (us ++ [.slice a' ps.length cap'])) k := by
            intro j hj
            obtain ⟨u, u', h1, h2, h3, h4⟩ := unhide Hpr j hj
            exact ⟨u, u', h1, h2, h3, by rw [valAt_old (by omega)]; exact h4⟩
          have hl9 : k * 2 + 1 < xs.length := by have := unhide Hx; omega
          exact hpr9.next hl9 ⟨by rw [unhide Hp], by rw [← hul, valAt_new]⟩
        · intro j hj
          by_cases e : j < k
          · rw [valAt_old (by omega)]
            exact hkeep ((unhide Hpa j e).later (unhide Hb1))
          · obtain rfl : j = us.length := by omega
            rw [valAt_new, hul, unhide Hp]
            exact hkeep hnew
        · rw [List.pairwise_append]
          refine ⟨unhide Hap, by simp, fun x hx y hy b e => ?_⟩
          obtain rfl : y = .slice a' ps.length cap' := by simpa using hy
          obtain ⟨j, hj, rfl⟩ := List.getElem_of_mem hx
          have hq := unhide Hpa j (by omega)
          have hv9 : valAt us j = us[j] := by unfold valAt; simp [List.getD, hj]
          rw [hv9] at hq
          intro e'
          have := (hq.lt e).2
          have := ((unhide Hip').lt e').1
          omega
      case measure => simp [intOf]; omega
    · obtain rfl : k = rs.length := by omega
      go_wp2_with fail
      go_ret
      refine ⟨_, qsOf rs us, rfl, qsOf_rooms _ _, ⟨?_, ?_, ?_, ?_⟩, hb⟩
      · have e9 := qsOf_cells hown.1 hpr
        rw [e9] at hown
        rw [qsOf_len]
        exact hown
      · intro q hq
        obtain ⟨j, hj, rfl⟩ := qsOf_mem hq
        exact (hpa j hj).mono (by omega)
      · intro q hq b' e e'
        obtain ⟨j, hj, rfl⟩ := qsOf_mem hq
        have := ((hpa j hj).lt e).1
        have e2 : w.heap.size = b' := by simpa [Value.ownBlock] using e'
        omega
      · rw [qsOf_vals hul]
        exact hap

end Go.Proofs.Ytmhagllddhjgmaa

/- A smithy that the call made, no two rows of it in one block; the laws' copy of a smithy is such a one. Conditions: the slices can be read; what is copied is no longer than 2^20. -/
namespace Go.Proofs.Ytmhagllddhjgmaa
open Go.ChangeShapes Go.WideShapes Go.ChangeAt Go.RowKit Go.Sort
set_option linter.unusedVariables false

/-- Two slices lie in different blocks. -/
def Off2 (u v : Value) : Prop := ∀ b, u.ownBlock = some b → v.ownBlock ≠ some b
theorem Off2.symm {u v : Value} (h : Off2 u v) : Off2 v u := fun b e e' => h b e' e
/-- No block of u is one of the hall's. -/
def OffHall (u v : Value) (qs : List (RoomV × Value)) : Prop := Off2 u v ∧ ∀ q ∈ qs, Off2 u q.2
structure FullSmy (n₀ : Nat) (w : World) (v0 v1 v2 v3 v4 : Value) (m : SmyV) (qs : List (RoomV × Value)) : Prop where
  hall : OwnHall n₀ w v0 qs
  rooms : qs.map (·.1) = m.rooms
  guilds : GuildsAt n₀ w v1 m.guilds
  smiths : SmithsAt n₀ w v2 m.smiths
  desks : DesksAt n₀ w v3 m.desks
  paces : NumsAt n₀ w v4 m.paces
  h1 : OffHall v1 v0 qs
  h2 : OffHall v2 v0 qs
  h3 : OffHall v3 v0 qs
  h4 : OffHall v4 v0 qs
  a12 : Off2 v1 v2
  a13 : Off2 v1 v3
  a14 : Off2 v1 v4
  a23 : Off2 v2 v3
  a24 : Off2 v2 v4
  a34 : Off2 v3 v4
theorem FullSmy.smy {n₀ : Nat} {w : World} {v0 v1 v2 v3 v4 : Value} {m : SmyV} {qs : List (RoomV × Value)} (h : FullSmy n₀ w v0 v1 v2 v3 v4 m qs) : Smy w v0 v1 v2 v3 v4 m :=
  ⟨by rw [← h.rooms]; exact h.hall.rooms, h.guilds.list, h.smiths.list, h.desks.list, h.paces.list⟩
theorem OwnHall.set_old {n₀ : Nat} {w : World} {v : Value} {qs : List (RoomV × Value)} (h : OwnHall n₀ w v qs) (g o : Nat) (u : Value) (hg : g < n₀) : OwnHall n₀ (w.setCell ⟨g, o, none⟩ u) v qs :=
  h.same fun k h0 hk => heap_setCell_other w _ k u (by show k ≠ g; omega)
theorem FullSmy.below {n₀ : Nat} {w w' : World} {v0 v1 v2 v3 v4 : Value} {m : SmyV} {qs : List (RoomV × Value)} (h : FullSmy n₀ w v0 v1 v2 v3 v4 m qs) (hb : Below w.heap.size w w') : FullSmy n₀ w' v0 v1 v2 v3 v4 m qs :=
  ⟨h.hall.later hb, h.rooms, RecAt.later h.guilds hb, RecAt.later h.smiths hb, RecAt.later h.desks hb, RecAt.later h.paces hb, h.h1, h.h2, h.h3, h.h4, h.a12, h.a13, h.a14, h.a23, h.a24, h.a34⟩
theorem FullSmy.mono {n₀ n₁ : Nat} {w : World} {v0 v1 v2 v3 v4 : Value} {m : SmyV} {qs : List (RoomV × Value)} (h : FullSmy n₀ w v0 v1 v2 v3 v4 m qs) (hn : n₁ ≤ n₀) : FullSmy n₁ w v0 v1 v2 v3 v4 m qs :=
  ⟨h.hall.mono hn, h.rooms, RecAt.mono h.guilds hn, RecAt.mono h.smiths hn, RecAt.mono h.desks hn, RecAt.mono h.paces hn, h.h1, h.h2, h.h3, h.h4, h.a12, h.a13, h.a14, h.a23, h.a24, h.a34⟩
set_option maxHeartbeats 2000000 in
theorem toHall_full {w : World} {v : Value} {rs : List RoomV} (h : IsRooms w v rs) (hs : Small rs) :
    Calls Try.prog 6 #[.agg #[v]] w fun e w' => ∃ v' qs, e = .returned (.agg #[v']) ∧ qs.map (·.1) = rs ∧ OwnHall w.heap.size w' v' qs ∧ Below w.heap.size w w' := by
  have Hv := hide h
  obtain ⟨a, cap, rfl, hc, hm, hr⟩ := h
  clear hr
  have Hb0 : Hid (∀ o1 o2 o3 : Obj, Below w.heap.size w (((w.alloc o1).alloc o2).alloc o3)) := hide (fun o1 o2 o3 => (((Below.refl _ _).alloc (Nat.le_refl _) _).alloc (by simp) _).alloc (by simp; omega) _)
  go_enter Try.func6, Try.ntmps6
  go_wp2_with fail
  refine (toRoomS_own ((unhide Hv).below (unhide Hb0 _ _ _)) hs).mono ?_
  rintro e w1 ⟨v', qs, rfl, hmap, hp, hb1⟩
  simp only [World.size_alloc] at hp
  have hsz : w.heap.size + 3 ≤ w1.heap.size := by have := hb1.size; simp at this; omega
  obtain ⟨cc, ff⟩ := bcell hb1
  have x0 := cc (w.heap.size + 2) 0 (by simp)
  have y0 := cc (w.heap.size + 1) 0 (by simp)
  have fx0 := ff (w.heap.size + 2) 0 (by simp)
  have fy0 := ff (w.heap.size + 1) 0 (by simp)
  have Hp := hide hp
  have Hb1 := hide hb1
  obtain ⟨a', cap', rfl⟩ := hp.shape
  have hql : qs.length = rs.length := by rw [← hmap, List.length_map]
  have Hmap := hide hmap
  rw [hql] at Hp ⊢
  clear hp hmap hql
  clear cc ff hb1
  go_wp2_with fail
  have B1 : Below w.heap.size w w1 := (unhide Hb0 _ _ _).trans ((unhide Hb1).mono (by simp; omega))
  refine bodyPost_ret (v := .agg #[.slice a' rs.length cap']) (by simp [results, Try.results6, go_sem, *]) rfl ⟨_, qs, rfl, unhide Hmap, ?_, ?_⟩
  · exact (((unhide Hp).set_old _ _ _ (by omega)).set_old _ _ _ (by omega)).mono (by omega)
  · exact (B1.setCell (by show _ ≤ w.heap.size + 1 + 1; omega) _).setCell (by show _ ≤ w.heap.size + 1; omega) _

end Go.Proofs.Ytmhagllddhjgmaa

/- The model's copy of a smithy (l11Copy): it reads as the smithy does, in memory of the call's own, no two rows of it in one block. Conditions: the smithy can be read; nothing in it is longer than a thousand. -/
namespace Go.Proofs.Ytmhagllddhjgmaa
open Go.ChangeShapes Go.WideShapes Go.ChangeAt Go.RowKit Go.Sort
set_option linter.unusedVariables false

theorem tyD : RecTy 48 3 (.agg #[.bool false, .int .i64 0, .int .i64 0]) encDesk := ⟨by kernel_rfl, rfl, encDesk_len, by omega, by omega, fun x u hu => by
  simp only [encDesk, List.mem_cons, List.not_mem_nil, or_false] at hu
  rcases hu with rfl | rfl | rfl <;> rfl⟩
end Go.Proofs.Ytmhagllddhjgmaa

