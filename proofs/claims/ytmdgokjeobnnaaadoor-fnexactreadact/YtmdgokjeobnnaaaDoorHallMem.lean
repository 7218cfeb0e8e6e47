/- Halls, rooms and paces as lists, and how they lie in memory: what a slice of paces or rooms reads as, and that it reads so on wherever older blocks lie as they lay. No condition. -/
import Derived.Test.YtmdgokjeobnnaaaDoorBase
import Derived.Deep.QuietTactic
import Derived.BigQuiet
import Derived.Laws.OwnMore
import Derived.OwnWalk
namespace Go.Proofs.YtmdgokjeobnnaaaDoor
open Go.ChangeShapes Go.WideShapes Go.ChangeAt Go.RowKit
set_option linter.unusedVariables false

abbrev PaceV := Int × Int
abbrev RoomV := Int × List PaceV
def paceAt (ps : List PaceV) (k : Nat) : PaceV := ps.getD k (0, 0)
def roomAt (rs : List RoomV) (k : Nat) : RoomV := rs.getD k (0, [])

/-- The slice v reads as the paces ps. -/
def IsPaces (w : World) (v : Value) (ps : List PaceV) : Prop :=
  ∃ (a : Option Addr) (cap : Nat), v = .slice a ps.length cap ∧ ps.length ≤ cap ∧ cap ≤ 9223372036854775807 ∧ (ps = [] ∨ ∃ b off, a = some ⟨b, off, none⟩ ∧ b < w.heap.size ∧
    ∀ k, k < ps.length → w.cell? ⟨b, off + k * 2, none⟩ = some (.int .i64 (paceAt ps k).1) ∧ w.cell? ⟨b, off + k * 2 + 1, none⟩ = some (.int .i64 (paceAt ps k).2))
/-- The slice v reads as the rooms rs. -/
def IsRooms (w : World) (v : Value) (rs : List RoomV) : Prop :=
  ∃ (a : Option Addr) (cap : Nat), v = .slice a rs.length cap ∧ rs.length ≤ cap ∧ cap ≤ 9223372036854775807 ∧ (rs = [] ∨ ∃ b off, a = some ⟨b, off, none⟩ ∧ b < w.heap.size ∧
    ∀ k, k < rs.length → w.cell? ⟨b, off + k * 2, none⟩ = some (.int .i64 (roomAt rs k).1) ∧ ∃ pv, w.cell? ⟨b, off + k * 2 + 1, none⟩ = some pv ∧ IsPaces w pv (roomAt rs k).2)

theorem IsPaces.below {w w' : World} {v : Value} {ps : List PaceV} (h : IsPaces w v ps) (hb : Below w.heap.size w w') : IsPaces w' v ps := by
  obtain ⟨a, cap, rfl, hc, hm, hr⟩ := h
  refine ⟨a, cap, rfl, hc, hm, ?_⟩
  rcases hr with hr | ⟨b, off, rfl, hlt, hcl⟩
  · exact .inl hr
  · refine .inr ⟨b, off, rfl, Nat.lt_of_lt_of_le hlt hb.size, fun k hk => ?_⟩
    obtain ⟨h1, h2⟩ := hcl k hk
    exact ⟨by rw [hb.cell (p := ⟨b, off + k * 2, none⟩) hlt]; exact h1, by rw [hb.cell (p := ⟨b, off + k * 2 + 1, none⟩) hlt]; exact h2⟩
theorem IsRooms.below {w w' : World} {v : Value} {rs : List RoomV} (h : IsRooms w v rs) (hb : Below w.heap.size w w') : IsRooms w' v rs := by
  obtain ⟨a, cap, rfl, hc, hm, hr⟩ := h
  refine ⟨a, cap, rfl, hc, hm, ?_⟩
  rcases hr with hr | ⟨b, off, rfl, hlt, hcl⟩
  · exact .inl hr
  · refine .inr ⟨b, off, rfl, Nat.lt_of_lt_of_le hlt hb.size, fun k hk => ?_⟩
    obtain ⟨h1, pv, h2, h3⟩ := hcl k hk
    exact ⟨by rw [hb.cell (p := ⟨b, off + k * 2, none⟩) hlt]; exact h1, pv, by rw [hb.cell (p := ⟨b, off + k * 2 + 1, none⟩) hlt]; exact h2, h3.below hb⟩
theorem roomAt_take {rs : List RoomV} {n k : Nat} (h : k < n) : roomAt (rs.take n) k = roomAt rs k := by
  unfold roomAt; simp [List.getD, h]
/-- The first n of them, where n is not more than there are. -/
theorem IsRooms.taken {w : World} {a : Option Addr} {len cap : Nat} {rs : List RoomV} (h : IsRooms w (.slice a len cap) rs) {n : Nat} (hn : n ≤ len) : IsRooms w (.slice a n cap) (rs.take n) := by
  obtain ⟨a', cap', he, hc, hm, hr⟩ := h
  cases he
  have hl : (rs.take n).length = n := by simp; omega
  refine ⟨a, cap, by rw [hl], by omega, hm, ?_⟩
  rcases hr with hr | ⟨b, off, rfl, hlt, hcl⟩
  · exact .inl (by rw [hr]; simp)
  · refine .inr ⟨b, off, rfl, hlt, fun k hk => ?_⟩
    rw [roomAt_take (by omega)]
    exact hcl k (by omega)

def paceB (p : PaceV) : Bool := inB p.1 1 1024 && inB p.2 1 1024
def aboveB (p q : PaceV) : Bool := decide (q.1 < p.1) && decide (q.2 < p.2)
def stepB (ps : List PaceV) (k : Nat) : Bool := paceB (paceAt ps k) && (k == 0 || aboveB (paceAt ps k) (paceAt ps (k - 1)))
def pacesB (ps : List PaceV) : Bool := (List.range ps.length).all (stepB ps)
def roomB (r : RoomV) : Bool := inB r.1 1 4 && (inB r.2.length 1 4 && pacesB r.2)
def benchSum (rs : List RoomV) : Int := (rs.map (·.1)).sum
def hallB (rs : List RoomV) : Bool := inB rs.length 1 3 && (rs.all roomB && decide (benchSum rs ≤ 8))

theorem pacesB_t {ps : List PaceV} (h : ∀ j, j < ps.length → stepB ps j = true) : pacesB ps = true := by
  unfold pacesB; rw [List.all_eq_true]; intro j hj; exact h j (List.mem_range.1 hj)
theorem pacesB_f {ps : List PaceV} {j : Nat} (hj : j < ps.length) (h : stepB ps j = false) : pacesB ps = false := by
  unfold pacesB; rw [List.all_eq_false]; exact ⟨j, List.mem_range.2 hj, by simp [h]⟩
theorem pacesB_of {ps : List PaceV} (h : pacesB ps = true) {j : Nat} (hj : j < ps.length) : stepB ps j = true := by
  unfold pacesB at h; rw [List.all_eq_true] at h; exact h j (List.mem_range.2 hj)
theorem roomAt_mem {rs : List RoomV} {k : Nat} (h : k < rs.length) : roomAt rs k ∈ rs := by
  unfold roomAt; simp [List.getD, h]
theorem allRooms_t {rs : List RoomV} (h : ∀ j, j < rs.length → roomB (roomAt rs j) = true) : rs.all roomB = true := by
  rw [List.all_eq_true]; intro r hr
  obtain ⟨j, hj, rfl⟩ := List.getElem_of_mem hr
  have := h j hj
  unfold roomAt at this; simpa [List.getD, hj] using this
theorem allRooms_f {rs : List RoomV} {j : Nat} (hj : j < rs.length) (h : roomB (roomAt rs j) = false) : rs.all roomB = false := by
  rw [List.all_eq_false]; exact ⟨_, roomAt_mem hj, by simp [h]⟩
theorem allRooms_of {rs : List RoomV} (h : rs.all roomB = true) {j : Nat} (hj : j < rs.length) : roomB (roomAt rs j) = true := by
  rw [List.all_eq_true] at h; exact h _ (roomAt_mem hj)
theorem room_bd {r : RoomV} (h : roomB r = true) : 1 ≤ r.1 ∧ r.1 ≤ 4 ∧ 1 ≤ r.2.length ∧ r.2.length ≤ 4 := by
  unfold roomB at h; simp only [Bool.and_eq_true] at h
  have h1 := inB_of h.1; have h2 := inB_of h.2.1
  omega
theorem benchSum_take (rs : List RoomV) {k : Nat} (h : k < rs.length) : benchSum (rs.take (k + 1)) = benchSum (rs.take k) + (roomAt rs k).1 := by
  unfold benchSum roomAt
  rw [List.take_succ_eq_append_getElem h, List.map_append, List.sum_append]; simp [List.getD, h]
theorem benchSum_bd {rs : List RoomV} (h : rs.all roomB = true) : ∀ k, k ≤ rs.length → (k : Int) ≤ benchSum (rs.take k) ∧ benchSum (rs.take k) ≤ 4 * k
  | 0, _ => by simp [benchSum]
  | k + 1, hk => by
    have ih := benchSum_bd h k (by omega)
    have hb := room_bd (allRooms_of h (j := k) (by omega))
    rw [benchSum_take rs (by omega)]; omega
theorem benchSum_all (rs : List RoomV) : benchSum (rs.take rs.length) = benchSum rs := by rw [List.take_length]
theorem hallB_of {rs : List RoomV} (h : hallB rs = true) : 1 ≤ rs.length ∧ rs.length ≤ 3 ∧ rs.all roomB = true ∧ benchSum rs ≤ 8 := by
  unfold hallB at h; simp only [Bool.and_eq_true, decide_eq_true_eq] at h
  have h1 := inB_of h.1
  exact ⟨by omega, by omega, h.2.1, h.2.2⟩

end Go.Proofs.YtmdgokjeobnnaaaDoor
