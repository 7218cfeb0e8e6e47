/- Contract of the program's ShowHall: it returns the text that the lists say and writes into no memory that was there. Conditions: the library's table of powers of ten lies as its text lays it; the hall can be read. -/
import Derived.Test.YtmdgokjeobnnaaaDoorShowRoom2
import Derived.Test.YtmdgokjeobnnaaaDoorHallSpec
namespace Go.Proofs.YtmdgokjeobnnaaaDoor
open Go.ChangeShapes Go.WideShapes Go.ChangeAt Go.RowKit Go.Sort
open Go.Lib (decDigits itoa join joinTail)
set_option linter.unusedVariables false

theorem app_strs {w wr w1 : World} {v v' : Value} {P : List Txt} {z : Txt} {o : Obj} (hown : StrsAt w.heap.size wr v P) (hb : Below w.heap.size w wr)
    (hown' : w1.ownsRow w.heap.size 9 1 v' (P.length + 1) ((P.map fun z => Value.string (bs z)) ++ [.string (bs z)])) (hg : (wr.alloc o).grownBy w1 v.ownBlock) :
    StrsAt w.heap.size w1 v' (P ++ [z]) ∧ Below w.heap.size w w1 := by
  refine ⟨?_, ?_⟩
  · unfold StrsAt; simpa using hown'
  · exact (hb.alloc hb.size o).grown hg (by have := hb.size; simp; omega) (fun j ej => (hown.lt ej).1)
theorem rooms_take {rs : List RoomV} {k : Nat} (h : k < rs.length) : (rs.take (k + 1)).map showRoom = (rs.take k).map showRoom ++ [showRoom (roomAt rs k)] := by
  rw [List.take_succ_eq_append_getElem h, List.map_append]; simp [roomAt, List.getD, h]
theorem showRoom_len {r : RoomV} (h : roomB r = true) : (showRoom r).length ≤ 197 := by
  obtain ⟨rb, ps⟩ := r
  have h1 := preR_len h ps.length (Nat.le_refl _)
  rw [preR_all] at h1
  have h2 := room_bd h
  simp only at h2
  omega
theorem showHall_t {rs : List RoomV} (h : hallB rs = true) : showHall rs = join (rs.map showRoom) [47] := by unfold showHall; rw [if_pos h]
theorem showHall_f {rs : List RoomV} (h : hallB rs = false) : showHall rs = [] := by unfold showHall; rw [h]; rfl
theorem rooms_len {rs : List RoomV} (h : hallB rs = true) : ∀ z ∈ rs.map showRoom, z.length ≤ 197 := by
  intro z hz
  obtain ⟨r, hr, rfl⟩ := List.mem_map.1 hz
  obtain ⟨j, hj, rfl⟩ := List.getElem_of_mem hr
  have := allRooms_of (hallB_of h).2.2.1 hj
  unfold roomAt at this
  exact showRoom_len (by simpa [List.getD, hj] using this)
theorem data_bs (zs : List Txt) : (zs.map bs).map (fun x => x.data.toList) = zs := by
  rw [List.map_map]; conv => rhs; rw [← List.map_id zs]
  exact List.map_congr_left (fun z _ => bs_data z)

set_option maxRecDepth 100000 in
set_option maxHeartbeats 4000000 in
theorem join_any {n₀ : Nat} {w : World} {v : Value} {zs : List Txt} (sep : Txt) (h : StrsAt n₀ w v zs) (h1 : 1 ≤ zs.length) (h2 : zs.length ≤ 1000) (hl : (join zs sep).length ≤ 1000000) :
    Calls Tryd.prog 24 #[v, .string (bs sep)] w fun e w' => e = .returned (.string (bs (join zs sep))) ∧ Below w.heap.size w w' := by
  obtain ⟨a, cap, rfl, hc, hcm, hrow⟩ := h.view
  rcases hrow with h0 | ⟨g, rfl, _, hg, hcl⟩
  · rw [h0] at h1; simp at h1
  have hj := Tryd.strings_Join g 0 cap (zs.map bs) (bs sep) w (fun j x hx => by
    have hj : j < zs.length := by have := (List.getElem?_eq_some_iff.1 hx).1; simpa using this
    rw [Nat.zero_add, hcl j hj]
    simp [List.getElem?_eq_getElem hj] at hx
    rw [← hx]; simp [List.getD, hj]) hg (by simp; omega) (by simpa using hc) (by rw [data_bs, bs_data]; omega)
  rw [data_bs, bs_data, List.length_map] at hj
  exact hj

end Go.Proofs.YtmdgokjeobnnaaaDoor
