/- Contracts of RoomOf and ForceOf, the program's and the model's, at whatever hall can be read and whatever bench. No other condition. -/
import Derived.Test.YtbehfbckoodkfaaHallSpec
namespace Go.Proofs.Ytbehfbckoodkfaa
open Go.ChangeShapes Go.WideShapes Go.ChangeAt Go.RowKit Go.Sort
set_option linter.unusedVariables false

/-- The first room up to whose last bench there are more than n. -/
def roomN (rs : List RoomV) (n : Int) : Nat := ((List.range rs.length).find? fun r => decide (n < benchSum (rs.take (r + 1)))).getD 0
def isBench (rs : List RoomV) (n : Int) : Bool := hallB rs && inB n 0 (benchSum rs - 1)
def roomV (rs : List RoomV) (n : Int) : Int := if isBench rs n = true then (roomN rs n : Int) else -1
def lastForce (ps : List PaceV) : Int := (paceAt ps (ps.length - 1)).1
def forceV (rs : List RoomV) (n : Int) : Int := if isBench rs n = true then lastForce (roomAt rs (roomN rs n)).2 else -1
theorem roomN_eq {rs : List RoomV} {n : Int} {r : Nat} (hr : r < rs.length) (h : n < benchSum (rs.take (r + 1))) (hl : ∀ j, j < r → benchSum (rs.take (j + 1)) ≤ n) : roomN rs n = r := by
  unfold roomN
  have : (List.range rs.length).find? (fun r => decide (n < benchSum (rs.take (r + 1)))) = some r := by
    rw [List.find?_range_eq_some]
    refine ⟨by simpa using h, by simpa using hr, fun j hj => ?_⟩
    have := hl j hj
    simp; omega
  rw [this]; rfl
theorem isBench_of {rs : List RoomV} {n : Int} (h : isBench rs n = true) : hallB rs = true ∧ 0 ≤ n ∧ n < benchSum rs := by
  unfold isBench at h; simp only [Bool.and_eq_true] at h
  have := inB_of h.2
  exact ⟨h.1, by omega, by omega⟩
theorem isBench_t {rs : List RoomV} {n : Int} (h : hallB rs = true) (h0 : 0 ≤ n) (h1 : n < benchSum rs) : isBench rs n = true := by
  unfold isBench; rw [h, inB_t (by omega) (by omega)]; rfl
theorem isBench_f1 {rs : List RoomV} {n : Int} (h : hallB rs = false) : isBench rs n = false := by unfold isBench; rw [h]; rfl
theorem isBench_f2 {rs : List RoomV} {n : Int} (h : n < 0 ∨ benchSum rs ≤ n) : isBench rs n = false := by unfold isBench; rw [inB_f (by omega)]; simp
theorem roomV_t {rs : List RoomV} {n : Int} (h : isBench rs n = true) : roomV rs n = roomN rs n := by unfold roomV; rw [if_pos h]
theorem roomV_f {rs : List RoomV} {n : Int} (h : isBench rs n = false) : roomV rs n = -1 := by unfold roomV; rw [h]; rfl
theorem forceV_t {rs : List RoomV} {n : Int} (h : isBench rs n = true) : forceV rs n = lastForce (roomAt rs (roomN rs n)).2 := by unfold forceV; rw [if_pos h]
theorem forceV_f {rs : List RoomV} {n : Int} (h : isBench rs n = false) : forceV rs n = -1 := by unfold forceV; rw [h]; rfl
/-- While no room is found there is one more. -/
theorem room_more {rs : List RoomV} {n : Int} (h : isBench rs n = true) {r : Nat} (hr : r ≤ rs.length) (hl : ∀ j, j < r → benchSum (rs.take (j + 1)) ≤ n) : r < rs.length := by
  rcases Nat.lt_or_ge r rs.length with h1 | h1
  · exact h1
  · obtain rfl : r = rs.length := by omega
    have hb := isBench_of h
    have h3 := hallB_of hb.1
    have := hl (rs.length - 1) (by omega)
    rw [show rs.length - 1 + 1 = rs.length by omega, benchSum_all] at this
    omega
theorem benches_hall {rs : List RoomV} (h : hallB rs = true) (k : Nat) (hk : k ≤ rs.length) : 0 ≤ benchSum (rs.take k) ∧ benchSum (rs.take k) ≤ 12 := by
  have h3 := hallB_of h
  have := benchSum_bd h3.2.2.1 k hk
  omega
theorem room_found {rs : List RoomV} {n : Int} (h : isBench rs n = true) : roomN rs n < rs.length := by
  have key : ∀ d r : Nat, r + d = rs.length → (∀ j, j < r → benchSum (rs.take (j + 1)) ≤ n) → roomN rs n < rs.length := by
    intro d
    induction d with
    | zero => intro r hr hl; have := room_more h (by omega) hl; omega
    | succ d ih =>
      intro r hr hl
      have hlt := room_more h (r := r) (by omega) hl
      by_cases hc : n < benchSum (rs.take (r + 1))
      · rw [roomN_eq hlt hc hl]; exact hlt
      · exact ih (r + 1) (by omega) (next_all hl (by omega))
  exact key rs.length 0 (by omega) (fun j hj => by omega)

set_option maxHeartbeats 1000000 in
theorem implRoomOf_any {w : World} {v : Value} {rs : List RoomV} (n : Int) (h : IsRooms w v rs) :
    Calls Try.prog 22 #[.agg #[v], .int .i64 n] w fun e w' => e = .returned (.int .i64 (roomV rs n)) ∧ Below w.heap.size w w' := by
  have Hv := hide h
  obtain ⟨a, cap, rfl, hc, hm, hr⟩ := h
  clear hr
  by_cases h0 : n < 0
  · have H1 := hide (roomV_f (isBench_f2 (rs := rs) (.inl h0)))
    go_enter Try.func22, Try.ntmps22
    go_wp2_with fail
    go_ret
    exact ⟨ret_int (unhide H1).symm, (Below.refl _ _).alloc (Nat.le_refl _) _⟩
  by_cases h1 : benchesV rs ≤ n
  · have H1 : Hid (roomV rs n = -1) := hide (roomV_f (by
      cases hh : hallB rs
      · exact isBench_f1 hh
      · rw [benchesV_t hh] at h1; exact isBench_f2 (.inr h1)))
    go_enter Try.func22, Try.ntmps22
    go_wp2_with fail
    refine (implBenchesIn_any ((unhide Hv).alloc _)).mono ?_
    rintro e w1 ⟨rfl, hb⟩
    have Hb := hide hb
    clear hb
    generalize benchesV rs = m at *
    go_wp2_with fail
    go_ret
    exact ⟨ret_int (unhide H1).symm, ((Below.refl _ _).alloc (Nat.le_refl _) _).trans ((unhide Hb).mono (by simp))⟩
  have hh : hallB rs = true := by
    cases hh : hallB rs
    · rw [benchesV_f hh] at h1; omega
    · rfl
  have H : Hid (isBench rs n = true) := hide (isBench_t hh (by omega) (by rw [benchesV_t hh] at h1; omega))
  have Hh := hide hh
  clear hh
  go_enter Try.func22, Try.ntmps22
  go_wp2_with fail
  refine (implBenchesIn_any ((unhide Hv).alloc _)).mono ?_
  rintro e w1 ⟨rfl, hb⟩
  have hsz : w.heap.size + 1 ≤ w1.heap.size := by have := hb.size; simpa using this
  have hbox : w1.cell? ⟨w.heap.size, 0, none⟩ = some (.slice a rs.length cap) := by rw [hb.cell (p := ⟨w.heap.size, 0, none⟩) (by simp)]; simp
  have B1 : Hid (Below w.heap.size w w1) := hide (((Below.refl _ _).alloc (Nat.le_refl _) _).trans (hb.mono (by simp)))
  clear hb
  generalize benchesV rs = m at *
  go_wp2_with fail
  go_loopw [5] (fun i wr => ∃ r : Nat, r ≤ rs.length ∧ i = .int .i64 r ∧ (∀ j, j < r → benchSum (rs.take (j + 1)) ≤ n) ∧ Below w1.heap.size w1 wr) (fun i _ => rs.length - (intOf i).toNat)
  case atStart => exact ⟨0, Nat.zero_le _, rfl, fun j hj => by omega, Below.refl _ _⟩
  case round =>
    obtain ⟨r, hr, rfl, hl, hb⟩ := hrel
    have hlt := room_more (unhide H) hr hl
    have hbox2 : wr.cell? ⟨w.heap.size, 0, none⟩ = some (.slice a rs.length cap) := by rw [hb.cell (p := ⟨w.heap.size, 0, none⟩) (by show w.heap.size < w1.heap.size; omega)]; exact hbox
    have hz := hb.size
    have hl3 : rs.length ≤ 3 := (hallB_of (unhide Hh)).2.1
    have Hl := hide hl
    have Hb := hide hb
    have Hw : Hid (IsRooms wr (.slice a (r + 1) cap) (rs.take (r + 1))) := hide ((((unhide Hv).below (unhide B1)).below hb).taken (by omega))
    clear hl hb hbox
    go_wp2_with fail
    refine (benchesOf_any (unhide Hw) ((adds_hall (unhide Hh)).taken _)).mono ?_
    rintro e w2 ⟨rfl, hb2⟩
    have hbd := benches_hall (unhide Hh) (r + 1) (by omega)
    have Hb2 := hide hb2
    clear hb2
    by_cases hc2 : n < benchSum (rs.take (r + 1))
    · have HN := hide (roomN_eq hlt hc2 (unhide Hl))
      generalize benchSum (rs.take (r + 1)) = s at *
      go_wp2_with fail
      go_ret
      exact ⟨ret_int (by rw [roomV_t (unhide H), unhide HN]), (unhide B1).trans (((unhide Hb).trans ((unhide Hb2).mono hz)).mono (by omega))⟩
    · have hle : benchSum (rs.take (r + 1)) ≤ n := by omega
      have Hle := hide (next_all (unhide Hl) hle)
      generalize benchSum (rs.take (r + 1)) = s at *
      go_wp2_with fail
      go_roundw
      case rel => exact ⟨r + 1, by omega, by go_num, unhide Hle, (unhide Hb).trans ((unhide Hb2).mono hz)⟩
      case measure => simp [intOf]; omega

end Go.Proofs.Ytbehfbckoodkfaa
