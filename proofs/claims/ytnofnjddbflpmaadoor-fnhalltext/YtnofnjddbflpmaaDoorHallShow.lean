/- Contract of the program's ShowHall: it returns the text that the lists say and writes into no memory that was there. Conditions: the library's table of powers of ten lies as its text lays it; the hall can be read. -/
import Derived.Test.YtnofnjddbflpmaaDoorShowRoom2
import Derived.Test.YtnofnjddbflpmaaDoorHallSpec
namespace Go.Proofs.YtnofnjddbflpmaaDoor
open Go.ChangeShapes Go.WideShapes Go.ChangeAt Go.RowKit Go.Sort
open Go.Lib (decDigits itoa join joinTail)
set_option linter.unusedVariables false

theorem app_strs {w wr w1 : World} {v v' : Value} {P : List Txt} {z : Txt} {o : Obj} (hown : StrsAt w.heap.size wr v P) (hb : Below w.heap.size w wr)
    (hown' : w1.ownsRow w.heap.size 9 1 v' (P.length + 1) ((P.map fun z => Value.string (bs z)) ++ [.string (bs z)])) (hg : (wr.alloc o).grownBy w1 v.ownBlock) :
    StrsAt w.heap.size w1 v' (P ++ [z]) ∧ Below w.heap.size w w1 := by
  refine ⟨?_, ?_⟩
  · unfold StrsAt; simpa using hown'
  · exact (hb.alloc hb.size o).grown hg (by have := hb.size; simp; omega) (fun j ej => (hown.lt ej).1)
theorem rooms_take {rs : List RoomV} {k : Nat} (h : k < rs.length) : (rs.take (k + 1)).map showRoom = (rs.take k).map showRoom ++ [showRoom (roomAt rs k)] := by
  rw [List.take_succ_eq_append_getElem h, List.map_append]; simp [roomAt, List.getD, h]
theorem showRoom_len {r : RoomV} (h : roomB r = true) : (showRoom r).length ≤ 197 := by
  obtain ⟨rb, ps⟩ := r
  have h1 := preR_len h ps.length (Nat.le_refl _)
  rw [preR_all] at h1
  have h2 := room_bd h
  simp only at h2
  omega
theorem showHall_t {rs : List RoomV} (h : hallB rs = true) : showHall rs = join (rs.map showRoom) [47] := by unfold showHall; rw [if_pos h]
theorem showHall_f {rs : List RoomV} (h : hallB rs = false) : showHall rs = [] := by unfold showHall; rw [h]; rfl
theorem rooms_len {rs : List RoomV} (h : hallB rs = true) : ∀ z ∈ rs.map showRoom, z.length ≤ 197 := by
  intro z hz
  obtain ⟨r, hr, rfl⟩ := List.mem_map.1 hz
  obtain ⟨j, hj, rfl⟩ := List.getElem_of_mem hr
  have := allRooms_of (hallB_of h).2.2.1 hj
  unfold roomAt at this
  exact showRoom_len (by simpa [List.getD, hj] using this)
theorem data_bs (zs : List Txt) : (zs.map bs).map (fun x => x.data.toList) = zs := by
  rw [List.map_map]; conv => rhs; rw [← List.map_id zs]
  exact List.map_congr_left (fun z _ => bs_data z)

set_option maxRecDepth 100000 in
set_option maxHeartbeats 4000000 in
theorem join_any {n₀ : Nat} {w : World} {v : Value} {zs : List Txt} (sep : Txt) (h : StrsAt n₀ w v zs) (h1 : 1 ≤ zs.length) (h2 : zs.length ≤ 1000) (hl : (join zs sep).length ≤ 1000000) :
    Calls Tryd.prog 22 #[v, .string (bs sep)] w fun e w' => e = .returned (.string (bs (join zs sep))) ∧ Below w.heap.size w w' := by
  obtain ⟨a, cap, rfl, hc, hcm, hrow⟩ := h.view
  rcases hrow with h0 | ⟨g, rfl, _, hg, hcl⟩
  · rw [h0] at h1; simp at h1
  have hj := Tryd.strings_Join g 0 cap (zs.map bs) (bs sep) w (fun j x hx => by
    have hj : j < zs.length := by have := (List.getElem?_eq_some_iff.1 hx).1; simpa using this
    rw [Nat.zero_add, hcl j hj]
    simp [List.getElem?_eq_getElem hj] at hx
    rw [← hx]; simp [List.getD, hj]) hg (by simp; omega) (by simpa using hc) (by rw [data_bs, bs_data]; omega)
  rw [data_bs, bs_data, List.length_map] at hj
  exact hj

set_option maxRecDepth 100000 in
set_option maxHeartbeats 4000000 in
theorem implShowHall_any {w : World} {v : Value} {rs : List RoomV} (h : IsRooms w v rs) (ht : Tab w) :
    Calls Tryd.prog 8 #[.agg #[v]] w fun e w' => e = .returned (.string (bs (showHall rs))) ∧ Below w.heap.size w w' := by
  have Hv := hide h
  obtain ⟨a, cap, rfl, hc, hm, hrow⟩ := h
  have Ht := hide ht
  clear hrow ht
  cases hh : hallB rs
  · rw [showHall_f hh]
    go_enter Tryd.func8, Tryd.ntmps8
    go_wp2_with fail
    refine (implHallOk_any ((unhide Hv).below ((Below.refl _ _).alloc (Nat.le_refl _) _))).mono ?_
    rintro e w1 ⟨rfl, hb⟩
    have B1 : Hid (Below w.heap.size w w1) := hide (((Below.refl _ _).alloc (Nat.le_refl _) _).trans (hb.mono (by simp)))
    clear hb
    go_wp2_with fail
    go_ret
    exact ⟨rfl, unhide B1⟩
  rw [showHall_t hh]
  have Hh := hide hh
  obtain ⟨hl1, hl3, hall, _⟩ := hallB_of hh
  have Hall := hide hall
  clear hall
  obtain ⟨i0, hi, hz0, hz1, hz2⟩ := info_parts infoStr
  go_enter Tryd.func8, Tryd.ntmps8
  go_wp2_with fail
  refine (implHallOk_any ((unhide Hv).below ((Below.refl _ _).alloc (Nat.le_refl _) _))).mono ?_
  rintro e w1 ⟨rfl, hb⟩
  have hz : w.heap.size + 1 ≤ w1.heap.size := by have := hb.size; simpa using this
  have x1 : w1.cell? ⟨w.heap.size, 0, none⟩ = some (.slice a rs.length cap) := (hb.cell (p := ⟨w.heap.size, 0, none⟩) (by simp)).trans (by simp)
  have B1 : Hid (Below w.heap.size w w1) := hide (((Below.refl _ _).alloc (Nat.le_refl _) _).trans (hb.mono (by simp)))
  clear hb
  have hv1 := (unhide Hv).below (unhide B1)
  obtain ⟨a', cap', he, _, _, hrow⟩ := hv1
  cases he
  rcases hrow with h0 | ⟨bk, off, rfl, hbw, hcl⟩
  · rw [h0] at hl1; simp at hl1
  have Hcl := hide hcl
  clear hcl
  have hlt0 : w.heap.size < w1.heap.size := by omega
  go_wp2_with fail
  clear hh
  go_loopw [3, 13] (fun s i wr => ∃ k : Nat, k ≤ rs.length ∧ i = .int .i64 k ∧ StrsAt w1.heap.size wr s ((rs.take k).map showRoom) ∧ Below w1.heap.size w1 wr) (fun _ i _ => rs.length - (intOf i).toNat)
  case atStart => exact ⟨0, Nat.zero_le _, rfl, World.ownsRow_lit w1 #[] 0 (Nat.le_refl _) (by simp [maxLen]) rfl, (Below.refl _ _).alloc (Nat.le_refl _) _⟩
  case round =>
    obtain ⟨k, hk, rfl, hst, hb⟩ := hrel
    have Hst := hide hst
    have Hb := hide hb
    have hzr := hb.size
    have hlenk : ((rs.take k).map showRoom).length = k := by simp; omega
    clear hst
    by_cases hlt : k < rs.length
    · obtain ⟨c0, pv, c1, hip⟩ := unhide Hcl k hlt
      rw [← hb.cell (p := ⟨bk, off + k * 2, none⟩) hbw] at c0
      rw [← hb.cell (p := ⟨bk, off + k * 2 + 1, none⟩) hbw] at c1
      have HS := hide (rooms_take hlt)
      have hrb := allRooms_of (unhide Hall) hlt
      generalize roomAt rs k = r at *
      obtain ⟨rb, ps⟩ := r
      simp only at c0 c1 hip
      obtain ⟨pa, pcap, rfl, hpc, hpm⟩ : ∃ pa pcap, pv = .slice pa ps.length pcap ∧ ps.length ≤ pcap ∧ pcap ≤ 9223372036854775807 := by obtain ⟨pa, pcap, rfl, h1, h2, _⟩ := hip; exact ⟨pa, pcap, rfl, h1, h2⟩
      have Hip := hide (hip.below hb)
      have Hrb := hide hrb
      clear hip hrb hb
      have Ba : Hid (∀ o, Below wr.heap.size wr (wr.alloc o)) := hide (fun o => (Below.refl _ _).alloc (Nat.le_refl _) _)
      obtain ⟨P, hP⟩ : ∃ P, P = (rs.take k).map showRoom := ⟨_, rfl⟩
      rw [← hP] at Hst HS hlenk
      have HP := hide hP
      clear hP
      go_wp2_with fail
      refine (showRoom_any rb ((unhide Hip).below (unhide Ba _)) (unhide Hrb) (((unhide Ht).below (unhide B1)).below ((unhide Hb).trans ((unhide Ba _).mono hzr)))).mono ?_
      rintro e w2 ⟨rfl, hb2⟩
      have hzw2 : wr.heap.size + 1 ≤ w2.heap.size := by have := hb2.size; simpa using this
      have HW2 : Hid (Below w1.heap.size w1 w2) := hide (((unhide Hb).alloc hzr _).trans (hb2.mono (by simp; omega)))
      have Hst2 : Hid (StrsAt w1.heap.size w2 _ P) := hide ((unhide Hst).later (((Below.refl _ _).alloc (Nat.le_refl _) _).trans (hb2.mono (by simp))))
      clear hb2
      go_wp2_with (at_builtin; refine wpList_append_own _ rfl _ _ 42 rfl w1.heap.size 9 i0 (.string ByteArray.empty) 1 16 Tryd.underlying42 hi hz0 hz1 hz2 rfl (by decide) _ _ _ rfl (World.ownsRow.alloc (unhide Hst2) _) ⟨_, 0, none⟩ 1 1 [.string (bs (showRoom (rb, ps)))] rfl rfl (cell_one_new _ _ _) (by simp [Value.oneCell']) (by simp only [maxLen]; omega) (by omega) (by have := (unhide HW2).size; simp; omega) ?_; intro v' w3 hown' hgrow _; have R := app_strs (unhide Hst2) (unhide HW2) hown' hgrow; have HR := hide R; clear hown' hgrow R)
      go_roundw
      case rel => exact ⟨k + 1, by omega, by go_num, by rw [unhide HS]; exact (unhide HR).1, (unhide HR).2⟩
      case measure => simp [intOf]; omega
    · obtain rfl : k = rs.length := by omega
      rw [List.take_length] at Hst
      have hjl := join_len [47] 197 (rs.map showRoom) (rooms_len (unhide Hh))
      have hjl' : (join (rs.map showRoom) [47]).length ≤ 1000000 := by simp only [List.length_map, List.length_cons, List.length_nil] at hjl; omega
      clear hjl hb
      go_wp2_with fail
      refine (join_any [47] (unhide Hst) (by simp; omega) (by simp; omega) hjl').mono ?_
      rintro e w2 ⟨rfl, hb2⟩
      have Hb2 := hide hb2
      clear hb2
      go_wp2_with fail
      go_ret
      exact ⟨rfl, (unhide B1).trans (((unhide Hb).trans ((unhide Hb2).mono hzr)).mono (by omega))⟩

end Go.Proofs.YtnofnjddbflpmaaDoor
