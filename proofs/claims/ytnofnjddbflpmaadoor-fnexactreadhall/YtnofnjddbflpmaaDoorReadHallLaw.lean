/- The exact law on ReadHall: whatever text is handed in, the program answers as its model, in memory of its own, and a second call answers alike and changes nothing of the first one's answer. Conditions: the text can lie in memory; the library's variables hold what the calls ask. -/
import Derived.Test.YtnofnjddbflpmaaDoorReadHall
import Derived.Test.YtnofnjddbflpmaaDoorMarkHall2
import Derived.Test.YtnofnjddbflpmaaDoorHallLaw
namespace Go.Proofs.YtnofnjddbflpmaaDoor
open Go.ChangeShapes Go.WideShapes Go.ChangeAt Go.RowKit Go.Sort
set_option linter.unusedVariables false

/-- One hall or none, as a list: what was handed back, and that it lies in memory of its own. -/
def HallIs (l : Txt) (n₀ : Nat) (v : Value) (b : Bool) (qs : List (RoomV × Value)) (w : World) : Prop :=
  OwnHall n₀ w v qs ∧ b = (readHall l).isSome ∧ qs.map (·.1) = (readHall l).getD []
theorem got_is {l : Txt} {n₀ : Nat} {e : Ending} {w : World} (h : GotHall l n₀ e w) : ∃ v b qs, e = .returned (.tuple #[.agg #[v], .bool b]) ∧ HallIs l n₀ v b qs w := by
  rcases h with ⟨v, qs, rfl, h1, h2⟩ | ⟨rfl, h1⟩
  · exact ⟨v, true, qs, rfl, h2, by rw [h1]; rfl, by rw [h1]; rfl⟩
  · exact ⟨_, false, [], rfl, OwnHall.nil _ _, by rw [h1]; rfl, by rw [h1]; rfl⟩
theorem HallIs.small {l : Txt} {n₀ : Nat} {v : Value} {b : Bool} {qs : List (RoomV × Value)} {w : World} (h : HallIs l n₀ v b qs w) : qs.length ≤ 3 ∧ ∀ q ∈ qs, q.1.2.length ≤ 4 := by
  obtain ⟨_, _, hm⟩ := h
  cases hr : readHall l with
  | none => rw [hr] at hm; simp at hm; subst hm; simp
  | some rs =>
    rw [hr] at hm
    simp only [Option.getD_some] at hm
    have hb := hallB_of (readHall_back hr).1
    have hl : qs.length = rs.length := by rw [← hm, List.length_map]
    refine ⟨by omega, fun q hq => ?_⟩
    have hq1 : q.1 ∈ rs := by rw [← hm]; exact List.mem_map_of_mem hq
    have h4 := List.all_eq_true.1 hb.2.2.1 q.1 hq1
    exact (room_bd h4).2.2.2

set_option maxRecDepth 100000 in
set_option maxHeartbeats 8000000 in
theorem walkFnExactReadHall (s : ByteArray) (w : World) (ws : s.size ≤ maxLen) (he : Env w) :
    Calls Tryd.prog 4 #[.string s] w fun e w' => e = .returned (.bool true) ∧ Below w.heap.size w w' := by
  have He := hide he
  clear he
  unfold maxLen at ws
  by_cases hbig : 1048576 < s.size
  · have hb' : (1048576 : Int) < (s.size : Int) := by omega
    go_enter Tryd.func4, Tryd.ntmps4
    go_wp2_with fail
    go_ret
    exact ⟨rfl, Below.refl _ _⟩
  obtain ⟨l, rfl⟩ : ∃ l, s = bs l := ⟨s.data.toList, (bs_back s).symm⟩
  have hl : l.length ≤ 1048576 := by rw [bs_size] at hbig; omega
  have hb' : ¬ (1048576 : Int) < ((bs l).size : Int) := by omega
  go_enter Tryd.func4, Tryd.ntmps4
  go_wp2_with fail
  refine (specReadHall_any l _ hl).mono ?_
  rintro e w1 ⟨hg, hb1⟩
  obtain ⟨v1, b1, q1, rfl, hi1⟩ := got_is hg
  obtain ⟨a1, cap1, rfl⟩ := hi1.1.shape
  have Hi1 := hide hi1
  have HB1 := hide hb1
  have hz1 := hb1.size
  clear hg hi1 hb1
  go_wp2_with fail
  refine (implReadHall_any l _ ((unhide He).below ((unhide HB1).alloc hz1 _)) hl).mono ?_
  rintro e w2 ⟨hg, hb2⟩
  obtain ⟨v2, b2, q2, rfl, hi2⟩ := got_is hg
  obtain ⟨a2, cap2, rfl⟩ := hi2.1.shape
  simp only [World.size_alloc] at hi2 hb2
  have hz2 : w1.heap.size + 1 ≤ w2.heap.size := by have := hb2.size; simpa using this
  have Hi2 := hide hi2
  have M2 : Hid (Below (w1.heap.size + 1) (w1.alloc (.cells #[.slice a1 q1.length cap1] 26)) w2) := hide hb2
  have hlt12 : w1.heap.size < w2.heap.size := by omega
  have x1 : w2.cell? ⟨w1.heap.size, 0, none⟩ = some (.slice a1 q1.length cap1) := (hb2.cell (p := ⟨w1.heap.size, 0, none⟩) (Nat.lt_succ_self _)).trans (by simp)
  have hbb : b2 = b1 := by rw [hi2.2.1, (unhide Hi1).2.1]
  subst hbb
  have Hrs : Hid (q2.map (·.1) = q1.map (·.1)) := hide (by rw [hi2.2.2, (unhide Hi1).2.2])
  have HL : Hid (∀ W, Below (w1.heap.size + 1) (w1.alloc (.cells #[.slice a1 q1.length cap1] 26)) W → IsRooms W (.slice a1 q1.length cap1) (q1.map (·.1)) ∧ Below w.heap.size w W) := hide (fun W hW => ⟨((unhide Hi1).1.rooms).below (((Below.refl _ _).alloc (Nat.le_refl _) _).trans (hW.mono (by omega))), ((unhide HB1).alloc hz1 _).trans (hW.mono (by omega))⟩)
  obtain ⟨hs1, hs2⟩ := hi2.small
  have Hs2 := hide hs2
  have Hlt : Hid (∀ k, ((Value.slice a2 q2.length cap2).ownBlock = some k ∨ ∃ q ∈ q2, q.2.ownBlock = some k) → w1.heap.size + 1 ≤ k ∧ k < w2.heap.size) := hide (fun k hk => hi2.1.lt hk)
  clear hg hi2 hb2 hs2
  go_wp2_with fail
  have hW2 : Below (w1.heap.size + 1) (w1.alloc (.cells #[.slice a1 q1.length cap1] 26)) (w2.alloc (.cells #[.slice a2 q2.length cap2] 26)) := (unhide M2).alloc (by omega) _
  have HW2 := hide hW2
  clear hW2
  refine (eqHall_yes (rs := q1.map (·.1)) (by have h3 := ((unhide Hi2).1.later ((Below.refl _ _).alloc (Nat.le_refl _) (.cells #[.slice a2 q2.length cap2] 26))).rooms; rw [unhide Hrs] at h3; exact h3) (unhide HL _ (unhide HW2)).1).mono ?_
  rintro e w3 ⟨rfl, hb3⟩
  have hz3 : w2.heap.size + 1 ≤ w3.heap.size := by have := hb3.size; simpa using this
  have y1 : w3.cell? ⟨w1.heap.size, 0, none⟩ = some (.slice a1 q1.length cap1) := (hb3.cell (p := ⟨w1.heap.size, 0, none⟩) (by simp; omega)).trans ((World.cell?_alloc_lt _ _ _ hlt12).trans x1)
  have y2 : w3.cell? ⟨w2.heap.size, 0, none⟩ = some (.slice a2 q2.length cap2) := (hb3.cell (p := ⟨w2.heap.size, 0, none⟩) (by simp)).trans (by simp)
  have M3 : Hid (Below (w1.heap.size + 1) (w1.alloc (.cells #[.slice a1 q1.length cap1] 26)) w3) := hide ((unhide HW2).trans (hb3.mono (by simp; omega)))
  have Ho3 : Hid (OwnHall (w1.heap.size + 1) w3 (.slice a2 q2.length cap2) q2) := hide (((unhide Hi2).1.later ((Below.refl _ _).alloc (Nat.le_refl _) _)).later hb3)
  clear hb3 x1 HW2
  go_wp2_with fail
  refine (markHall_any 1 (unhide Ho3) (by omega) (by omega) (by omega) hs1 (unhide Hs2)).mono ?_
  rintro e w4 ⟨rfl, ho4, hon⟩
  have hz4 := hon.size
  have z1 : w4.cell? ⟨w1.heap.size, 0, none⟩ = some (.slice a1 q1.length cap1) := (World.cell?_of_block (hon.block w1.heap.size (by omega) (fun e => by have := unhide Hlt _ (.inl e); omega) (fun q hq e => by have := unhide Hlt _ (.inr ⟨q, hq, e⟩); omega))).trans y1
  have z2 : w4.cell? ⟨w2.heap.size, 0, none⟩ = some (.slice a2 q2.length cap2) := (World.cell?_of_block (hon.block w2.heap.size (by omega) (fun e => by have := unhide Hlt _ (.inl e); omega) (fun q hq e => by have := unhide Hlt _ (.inr ⟨q, hq, e⟩); omega))).trans y2
  have M4 : Hid (Below (w1.heap.size + 1) (w1.alloc (.cells #[.slice a1 q1.length cap1] 26)) w4) := hide ((unhide M3).trans (hon.below (unhide Ho3) (by omega)))
  have Ho4 := hide ho4
  have hkb := kEnd_bd (unhide Hs2) 1 q2.length (Nat.le_refl _)
  rw [List.take_length] at hkb
  clear ho4 hon y1 y2
  go_wp2_with fail
  refine (heldHall_yes (qs := q2) 1 (unhide Ho4).rooms (by omega) (by omega) hs1 (unhide Hs2)).mono ?_
  rintro e w5 ⟨rfl, hb5⟩
  have hz5 := hb5.size
  have t1 := (hb5.cell (p := ⟨w1.heap.size, 0, none⟩) (by show w1.heap.size < _; omega)).trans z1
  have t2 := (hb5.cell (p := ⟨w2.heap.size, 0, none⟩) (by show w2.heap.size < _; omega)).trans z2
  have M5 : Hid (Below (w1.heap.size + 1) (w1.alloc (.cells #[.slice a1 q1.length cap1] 26)) w5) := hide ((unhide M4).trans (hb5.mono (by omega)))
  have Ho5 := hide ((unhide Ho4).later hb5)
  clear hb5 z1 z2
  have hkn : ¬ kEnd 1 q2 < 0 := by omega
  generalize hKK : kEnd 1 q2 = K at *
  have HKK := hide hKK
  clear hKK
  go_wp2_with fail
  refine (implReadHall_any l _ ((unhide He).below (unhide HL _ (unhide M5)).2) hl).mono ?_
  rintro e w6 ⟨hg, hb6⟩
  obtain ⟨v6, b6, q6, rfl, hi6⟩ := got_is hg
  obtain ⟨a6, cap6, rfl⟩ := hi6.1.shape
  have hz6 := hb6.size
  have u1 := (hb6.cell (p := ⟨w1.heap.size, 0, none⟩) (by show w1.heap.size < _; omega)).trans t1
  have u2 := (hb6.cell (p := ⟨w2.heap.size, 0, none⟩) (by show w2.heap.size < _; omega)).trans t2
  have M6 : Hid (Below (w1.heap.size + 1) (w1.alloc (.cells #[.slice a1 q1.length cap1] 26)) w6) := hide ((unhide M5).trans (hb6.mono (by omega)))
  have Ho6 := hide ((unhide Ho5).later hb6)
  have hbb6 : b6 = b2 := by rw [hi6.2.1, (unhide Hi2).2.1]
  subst hbb6
  have Hrs6 : Hid (q6.map (·.1) = q1.map (·.1)) := hide (by rw [hi6.2.2, (unhide Hi1).2.2])
  have Hi6 := hide hi6
  have hlt16 : w1.heap.size < w6.heap.size := by omega
  have hlt26 : w2.heap.size < w6.heap.size := by omega
  clear hg hi6 hb6 t1 t2
  go_wp2_with fail
  have HW6 : Hid (Below (w1.heap.size + 1) (w1.alloc (.cells #[.slice a1 q1.length cap1] 26)) (w6.alloc (.cells #[.slice a6 q6.length cap6] 26))) := hide ((unhide M6).alloc (by omega) _)
  refine (eqHall_yes (rs := q1.map (·.1)) (by have h3 := ((unhide Hi6).1.later ((Below.refl _ _).alloc (Nat.le_refl _) (.cells #[.slice a6 q6.length cap6] 26))).rooms; rw [unhide Hrs6] at h3; exact h3) (unhide HL _ (unhide HW6)).1).mono ?_
  rintro e w7 ⟨rfl, hb7⟩
  have hz7 : w6.heap.size + 1 ≤ w7.heap.size := by have := hb7.size; simpa using this
  have s2 : w7.cell? ⟨w2.heap.size, 0, none⟩ = some (.slice a2 q2.length cap2) := (hb7.cell (p := ⟨w2.heap.size, 0, none⟩) (by simp; omega)).trans ((World.cell?_alloc_lt _ _ _ hlt26).trans u2)
  have M7 : Hid (Below (w1.heap.size + 1) (w1.alloc (.cells #[.slice a1 q1.length cap1] 26)) w7) := hide ((unhide HW6).trans (hb7.mono (by simp; omega)))
  have Ho7 := hide (((unhide Ho6).later ((Below.refl _ _).alloc (Nat.le_refl _) _)).later hb7)
  clear hb7 u1 u2
  go_wp2_with fail
  refine (heldHall_yes (qs := q2) 1 (unhide Ho7).rooms (by omega) (by omega) hs1 (unhide Hs2)).mono ?_
  rw [unhide HKK]
  rintro e w8 ⟨rfl, hb8⟩
  have M8 : Hid (Below (w1.heap.size + 1) (w1.alloc (.cells #[.slice a1 q1.length cap1] 26)) w8) := hide ((unhide M7).trans (hb8.mono (by omega)))
  clear hb8
  go_wp2_with fail
  go_ret
  exact ⟨rfl, (unhide HL _ (unhide M8)).2⟩

end Go.Proofs.YtnofnjddbflpmaaDoor
