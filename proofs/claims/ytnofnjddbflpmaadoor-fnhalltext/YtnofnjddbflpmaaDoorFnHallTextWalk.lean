/- The law FnHallText: at every row of bytes the drawn hall's text and the drawn text's hall are as the measure tells them, and each reads back as it was. Conditions: of the library's variables what Env says; none else but that the bytes can be read. -/
import Derived.Test.YtnofnjddbflpmaaDoorBendDraw
import Derived.Test.YtnofnjddbflpmaaDoorLikeHall
import Derived.Test.YtnofnjddbflpmaaDoorHallShow2
import Derived.Test.YtnofnjddbflpmaaDoorReadHall
namespace Go.Proofs.YtnofnjddbflpmaaDoor
open Go.ChangeShapes Go.WideShapes Go.ChangeAt Go.RowKit Go.Sort
open Go.Lib (join)
open Draw (St Off Row Cur IsRow)
set_option linter.unusedVariables false

theorem IsRooms.on {w : World} {v : Value} {rs : List RoomV} (h : IsRooms w v rs) (o : Obj) : IsRooms (w.alloc o) v rs := h.below ((Below.refl _ _).alloc (Nat.le_refl _) _)
theorem got_rooms {l : Txt} {n₀ : Nat} {e : Ending} {w : World} (h : GotHall l n₀ e w) : ∃ a cap rs, e = .returned (.tuple #[.agg #[.slice a rs.length cap], .bool (readHall l).isSome]) ∧ IsRooms w (.slice a rs.length cap) rs ∧ rs = (readHall l).getD [] := by
  rcases h with ⟨v, qs, rfl, h1, h2⟩ | ⟨rfl, h1⟩
  · obtain ⟨a, cap, rfl, _⟩ := h2.rooms.shape
    exact ⟨a, cap, _, by rw [h1]; rfl, h2.rooms, by rw [h1]; rfl⟩
  · exact ⟨none, 0, [], by rw [h1]; rfl, ⟨none, 0, rfl, Nat.le_refl _, by omega, .inl rfl⟩, by rw [h1]; rfl⟩
theorem showHall_len (rs : List RoomV) : (showHall rs).length ≤ 1000000 := by
  cases h : hallB rs
  · rw [showHall_f h]; simp
  · rw [showHall_t h]
    have hjl := join_len [47] 197 (rs.map showRoom) (rooms_len h)
    have h3 := (hallB_of h).2.1
    simp only [List.length_map, List.length_cons, List.length_nil] at hjl; omega

theorem empty_no {l : Txt} (h : l ≠ []) : (bs l).toList.isEmpty = false := by
  have e : (bs l).toList = l := by rw [ByteArray.toList_eq, bs_data]
  rw [e]
  cases l with
  | nil => exact absurd rfl h
  | cons => rfl

set_option maxRecDepth 100000 in
set_option maxHeartbeats 8000000 in
theorem walkFnHallText (a0 : Option Addr) (len0 cap0 : Nat) (z0 : List Int) (w : World) (w0 : IsRow .u8 w a0 len0 cap0 z0) (he : Env w) :
    Calls Tryd.prog 3 #[.slice a0 len0 cap0] w fun e w' => e = .returned (.bool true) ∧ Below w.heap.size w w' := by
  by_cases hbig : 4096 < len0
  · go_enter Tryd.func3, Tryd.ntmps3
    go_wp2_with fail
    refine (Draw.big_yes _ _ _ _ hbig).mono ?_
    rintro e w' ⟨rfl, rfl⟩
    go_wp2_with fail
    go_ret
    exact ⟨rfl, Below.refl _ _⟩
  have HRow := hide (Draw.row_of w0 (by omega))
  have HE : Hid (∀ w', Below w.heap.size w w' → Env w') := hide (fun w' hb => he.below hb)
  clear w0 he
  go_enter Tryd.func3, Tryd.ntmps3
  go_wp2_with fail
  refine (Draw.big_no _ _ _ _ (by omega)).mono ?_
  rintro e w' ⟨rfl, hw'⟩
  subst w'
  go_wp2_with fail
  refine (drawShowHall_any _ _ _ _ (unhide HRow)).mono ?_
  rintro e w1 ⟨v, rs, rfl, hrs, hir, hb1⟩
  have hi1 := hir.rooms
  obtain ⟨va, vcap, rfl, hvc, hvm⟩ := hi1.shape
  have hz1 := hb1.size
  have HI1 := hide (hi1.on (.cells #[.slice va rs.length vcap] 26))
  have HB1 : Hid (Below w.heap.size w (w1.alloc (.cells #[.slice va rs.length vcap] 26))) := hide (hb1.alloc hz1 _)
  have hlen := showHall_len rs
  have Hsh : Hid (∀ b, hallB rs = b → if b = true then readHall (showHall rs) = some rs ∧ showHall rs ≠ [] else showHall rs = []) := hide (fun b hb => by
    cases b
    · exact showHall_f hb
    · exact ⟨readHall_show hb, showHall_ne hb⟩)
  clear hi1 hir hrs hb1
  go_wp2_with fail
  refine (implShowHall_any (unhide HI1) (unhide HE _ (unhide HB1)).tab).mono ?_
  rintro e w2 ⟨rfl, hb2⟩
  have hz2 : w1.heap.size + 1 ≤ w2.heap.size := by have := hb2.size; simpa using this
  have HI2 := hide ((unhide HI1).below hb2)
  have c2 : w2.cell? ⟨w1.heap.size, 0, none⟩ = some (.slice va rs.length vcap) := (hb2.cell (p := ⟨w1.heap.size, 0, none⟩) (by simp)).trans (by simp)
  have HB2 := hide ((unhide HB1).trans (hb2.mono (by simp; omega)))
  clear hb2
  go_wp2_with fail
  refine (drawReadHall_any _ _ _ _ (Draw.row_later (unhide HRow) (unhide HB2))).mono ?_
  rintro e w3 ⟨l, rfl, hl, hb3⟩
  have hz3 := hb3.size
  have HI3 := hide ((unhide HI2).below hb3)
  have c3 := (hb3.cell (p := ⟨w1.heap.size, 0, none⟩) (by show w1.heap.size < _; omega)).trans c2
  have HB3 := hide ((unhide HB2).trans (hb3.mono (by omega)))
  clear hb3 c2
  go_wp2_with fail
  refine (implReadHall_any l _ (unhide HE _ (unhide HB3)) (by omega)).mono ?_
  rintro e w4 ⟨hg, hb4⟩
  obtain ⟨xa, xcap, xs, rfl, hx, hxs⟩ := got_rooms hg
  have hz4 := hb4.size
  have HI4 := hide (((unhide HI3).below hb4).on (.cells #[.slice xa xs.length xcap] 26))
  have HX4 := hide (hx.on (.cells #[.slice xa xs.length xcap] 26))
  have c4 := (hb4.cell (p := ⟨w1.heap.size, 0, none⟩) (by show w1.heap.size < _; omega)).trans c3
  have HB4 : Hid (Below w.heap.size w (w4.alloc (.cells #[.slice xa xs.length xcap] 26))) := hide (((unhide HB3).trans (hb4.mono (by omega))).alloc (by omega) _)
  have hlt4 : w1.heap.size < w4.heap.size := by omega
  have Hxs := hide hxs
  clear hb4 hg hx c3 hxs
  go_wp2_with fail
  refine (specReadHall_any l _ (by omega)).mono ?_
  rintro e w5 ⟨hg, hb5⟩
  obtain ⟨ya, ycap, ys, rfl, hy, hys⟩ := got_rooms hg
  obtain rfl : ys = xs := by rw [hys, unhide Hxs]
  have hz5 : w4.heap.size + 1 ≤ w5.heap.size := by have := hb5.size; simpa using this
  have HI5 := hide (((unhide HI4).below hb5).on (.cells #[.slice ya ys.length ycap] 26))
  have HX5 := hide (((unhide HX4).below hb5).on (.cells #[.slice ya ys.length ycap] 26))
  have HY5 := hide (hy.on (.cells #[.slice ya ys.length ycap] 26))
  have c5 : w5.cell? ⟨w1.heap.size, 0, none⟩ = some (.slice va rs.length vcap) := (hb5.cell (p := ⟨w1.heap.size, 0, none⟩) (by simp; omega)).trans ((World.cell?_alloc_lt _ _ _ hlt4).trans c4)
  have d5 : w5.cell? ⟨w4.heap.size, 0, none⟩ = some (.slice xa ys.length xcap) := (hb5.cell (p := ⟨w4.heap.size, 0, none⟩) (by simp)).trans (by simp)
  have HB5 : Hid (Below w.heap.size w (w5.alloc (.cells #[.slice ya ys.length ycap] 26))) := hide (((unhide HB4).trans (hb5.mono (by simp; omega))).alloc (by omega) _)
  have hlt5 : w1.heap.size < w5.heap.size := by omega
  have hlt5' : w4.heap.size < w5.heap.size := by omega
  clear hb5 hg hy c4 hys
  generalize hb : (readHall l).isSome = b at *
  have Hb := hide hb
  clear hb
  go_wp2_with fail
  refine (likeHall_yes (unhide HX5) (unhide HY5)).mono ?_
  rintro e w6 ⟨rfl, hb6⟩
  have hz6 : w5.heap.size + 1 ≤ w6.heap.size := by have := hb6.size; simpa using this
  have HI6 := hide ((unhide HI5).below hb6)
  have HX6 := hide ((unhide HX5).below hb6)
  have c6 : w6.cell? ⟨w1.heap.size, 0, none⟩ = some (.slice va rs.length vcap) := (hb6.cell (p := ⟨w1.heap.size, 0, none⟩) (by simp; omega)).trans ((World.cell?_alloc_lt _ _ _ hlt5).trans c5)
  have d6 : w6.cell? ⟨w4.heap.size, 0, none⟩ = some (.slice xa ys.length xcap) := (hb6.cell (p := ⟨w4.heap.size, 0, none⟩) (by simp; omega)).trans ((World.cell?_alloc_lt _ _ _ hlt5').trans d5)
  have HB6 := hide ((unhide HB5).trans (hb6.mono (by simp; omega)))
  clear hb6 c5 d5
  go_wp2_with fail
  refine (specShowHall_any (unhide HI6)).mono ?_
  rintro e w7 ⟨rfl, hb7⟩
  have hz7 := hb7.size
  have HI7 := hide ((unhide HI6).below hb7)
  have HX7 := hide ((unhide HX6).below hb7)
  have c7 := (hb7.cell (p := ⟨w1.heap.size, 0, none⟩) (by show w1.heap.size < _; omega)).trans c6
  have d7 := (hb7.cell (p := ⟨w4.heap.size, 0, none⟩) (by show w4.heap.size < _; omega)).trans d6
  have HB7 := hide ((unhide HB6).trans (hb7.mono (by omega)))
  clear hb7 c6 d6
  generalize hS : showHall rs = sh at *
  have HS := hide hS
  clear hS
  cases b
  · have hy0 : ys.length = 0 := by
      have h1 := unhide Hxs
      have h2 := unhide Hb
      cases hr : readHall l with
      | none => rw [h1, hr]; rfl
      | some z => rw [hr] at h2; cases h2
    cases hh : hallB rs
    · have h0 : sh = [] := by have := unhide Hsh _ hh; simpa using this
      have e0 : (bs sh).toList.isEmpty = true := by rw [h0, ByteArray.toList_eq]; rfl
      clear h0
      go_wp2_with fail
      refine (implHallOk_any (unhide HI7)).mono ?_
      rw [hh]
      rintro e wz ⟨rfl, hbz⟩
      have Hbz := hide hbz
      clear hbz
      go_wp2_with fail
      go_ret
      exact ⟨rfl, (unhide HB7).trans ((unhide Hbz).mono (unhide HB7).size)⟩
    · obtain ⟨hrd, hne⟩ : readHall sh = some rs ∧ sh ≠ [] := by have := unhide Hsh _ hh; simpa using this
      have e0 : (bs sh).toList.isEmpty = false := empty_no hne
      have Hrd := hide hrd
      clear hrd hne
      go_wp2_with fail
      refine (implReadHall_any sh _ (unhide HE _ (unhide HB7)) (by omega)).mono ?_
      rintro e wz ⟨hg, hbz⟩
      obtain ⟨ua, ucap, us, rfl, hu, hus⟩ := got_rooms hg
      rw [unhide Hrd] at hus ⊢
      obtain rfl : us = rs := hus
      have hzz := hbz.size
      have HIz := hide (((unhide HI7).below hbz).on (.cells #[.slice ua us.length ucap] 26))
      have HUz := hide (hu.on (.cells #[.slice ua us.length ucap] 26))
      have cz := (hbz.cell (p := ⟨w1.heap.size, 0, none⟩) (by show w1.heap.size < _; omega)).trans c7
      have hltz : w1.heap.size < wz.heap.size := by omega
      have HBz : Hid (Below w.heap.size w (wz.alloc (.cells #[.slice ua us.length ucap] 26))) := hide (((unhide HB7).trans (hbz.mono (unhide HB7).size)).alloc (by omega) _)
      clear hg hu hbz
      go_wp2_with fail
      refine (likeHall_yes (unhide HUz) (unhide HIz)).mono ?_
      rintro e wy ⟨rfl, hby⟩
      have Hby := hide hby
      clear hby
      go_wp2_with fail
      go_ret
      exact ⟨rfl, (unhide HBz).trans ((unhide Hby).mono (unhide HBz).size)⟩
  · have hrd : readHall l = some ys := by
      have h1 := unhide Hxs
      have h2 := unhide Hb
      cases hr : readHall l with
      | none => rw [hr] at h2; cases h2
      | some z => rw [h1, hr]; rfl
    obtain ⟨hyb, hys⟩ := readHall_back hrd
    have Hyb := hide hyb
    have Hys := hide hys
    clear hrd hyb hys
    go_wp2_with fail
    refine (implHallOk_any (unhide HX7)).mono ?_
    rw [unhide Hyb]
    rintro e w8 ⟨rfl, hb8⟩
    have hz8 := hb8.size
    have HI8 := hide ((unhide HI7).below hb8)
    have HX8 := hide ((unhide HX7).below hb8)
    have c8 := (hb8.cell (p := ⟨w1.heap.size, 0, none⟩) (by show w1.heap.size < _; omega)).trans c7
    have d8 := (hb8.cell (p := ⟨w4.heap.size, 0, none⟩) (by show w4.heap.size < _; omega)).trans d7
    have HB8 := hide ((unhide HB7).trans (hb8.mono (by omega)))
    clear hb8 c7 d7
    go_wp2_with fail
    refine (implShowHall_any (unhide HX8) (unhide HE _ (unhide HB8)).tab).mono ?_
    rw [unhide Hys]
    rintro e w9 ⟨rfl, hb9⟩
    have hz9 := hb9.size
    have HI9 := hide ((unhide HI8).below hb9)
    have c9 := (hb9.cell (p := ⟨w1.heap.size, 0, none⟩) (by show w1.heap.size < _; omega)).trans c8
    have HB9 := hide ((unhide HB8).trans (hb9.mono (by omega)))
    clear hb9 c8 d8
    cases hh : hallB rs
    · have h0 : sh = [] := by have := unhide Hsh _ hh; simpa using this
      have e0 : (bs sh).toList.isEmpty = true := by rw [h0, ByteArray.toList_eq]; rfl
      clear h0
      go_wp2_with fail
      refine (implHallOk_any (unhide HI9)).mono ?_
      rw [hh]
      rintro e wz ⟨rfl, hbz⟩
      have Hbz := hide hbz
      clear hbz
      go_wp2_with fail
      go_ret
      exact ⟨rfl, (unhide HB9).trans ((unhide Hbz).mono (unhide HB9).size)⟩
    · obtain ⟨hrd, hne⟩ : readHall sh = some rs ∧ sh ≠ [] := by have := unhide Hsh _ hh; simpa using this
      have e0 : (bs sh).toList.isEmpty = false := empty_no hne
      have Hrd := hide hrd
      clear hrd hne
      go_wp2_with fail
      refine (implReadHall_any sh _ (unhide HE _ (unhide HB9)) (by omega)).mono ?_
      rintro e wz ⟨hg, hbz⟩
      obtain ⟨ua, ucap, us, rfl, hu, hus⟩ := got_rooms hg
      rw [unhide Hrd] at hus ⊢
      obtain rfl : us = rs := hus
      have hzz := hbz.size
      have HIz := hide (((unhide HI9).below hbz).on (.cells #[.slice ua us.length ucap] 26))
      have HUz := hide (hu.on (.cells #[.slice ua us.length ucap] 26))
      have cz := (hbz.cell (p := ⟨w1.heap.size, 0, none⟩) (by show w1.heap.size < _; omega)).trans c9
      have hltz : w1.heap.size < wz.heap.size := by omega
      have HBz : Hid (Below w.heap.size w (wz.alloc (.cells #[.slice ua us.length ucap] 26))) := hide (((unhide HB9).trans (hbz.mono (unhide HB9).size)).alloc (by omega) _)
      clear hg hu hbz
      go_wp2_with fail
      refine (likeHall_yes (unhide HUz) (unhide HIz)).mono ?_
      rintro e wy ⟨rfl, hby⟩
      have Hby := hide hby
      clear hby
      go_wp2_with fail
      go_ret
      exact ⟨rfl, (unhide HBz).trans ((unhide Hby).mono (unhide HBz).size)⟩

end Go.Proofs.YtnofnjddbflpmaaDoor
