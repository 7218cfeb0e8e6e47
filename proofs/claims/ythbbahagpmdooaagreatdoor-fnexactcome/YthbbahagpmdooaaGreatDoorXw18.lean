/- Part 18 of what the proof rests on. No condition but those that a theorem names. -/
import Derived.Test.YthbbahagpmdooaaGreatDoorXw07
import Derived.Test.YthbbahagpmdooaaGreatDoorXw17
set_option maxHeartbeats 8000000
set_option maxRecDepth 100000
namespace Go.Proofs.YthbbahagpmdooaaGreatDoor
open Go.ChangeShapes Go.WideShapes Go.ChangeAt Go.RowKit Go.Sort
set_option linter.unusedVariables false
theorem l4Room_any {w : World} {v : Value} {rs : List RoomV} (n : Int) (h : IsRooms w v rs) (hbn : isBench rs n = true) :
  Calls Tryz.prog 180 #[.agg #[v], .int .i64 n] w fun e w' => e = .returned (.int .i64 (roomN rs n)) ∧ Below w.heap.size w w' := by
 obtain ⟨a, cap, rfl, hc, hm, hr⟩ := h
 have Hr := hide hr
 have H := hide hbn
 have hh := (isBench_of hbn).1
 have hn0 := (isBench_of hbn).2.1
 have hn1 : n < 12 := by have h1 := (isBench_of hbn).2.2; have := (hallB_of hh).2.2.2; omega
 have Hh := hide hh
 have hl3 : rs.length ≤ 3 := (hallB_of hh).2.1
 clear hr hbn hh
 go_enter Tryz.func180, Tryz.ntmps180
 go_wp2_with fail
 go_loop [1, 5] (fun q i => ∃ r : Nat, r ≤ rs.length ∧ i = .int .i64 r ∧ q = .int .i64 (n - benchSum (rs.take r)) ∧ (∀ j, j < r → benchSum (rs.take (j + 1)) ≤ n)) (fun _ i => rs.length - (intOf i).toNat)
 case atStart => exact ⟨0, Nat.zero_le _, rfl, by simp [benchSum], fun j hj => by omega⟩
 case round =>
  obtain ⟨r, hr, rfl, rfl, hl⟩ := hrel
  have hlt := room_more (uh H) hr hl
  rcases uh Hr with e0 | ⟨b, off, rfl, hbw, hcl⟩
  ·rw [e0] at hlt; simp at hlt
  obtain ⟨c0, pv, c1, hip⟩ := hcl r hlt
  have hne : b ≠ w.heap.size := Nat.ne_of_lt hbw
  have Hl := hide hl
  have hb0 := benches_hall (uh Hh) r hr
  have hb1 := benches_hall (uh Hh) (r + 1) hlt
  have Hs := hide (benchSum_take rs hlt)
  have HN : Hid (n < benchSum (rs.take (r + 1)) → roomN rs n = r) := hide (fun hx => roomN_eq hlt hx (uh Hl))
  have HM : Hid (benchSum (rs.take (r + 1)) ≤ n → ∀ j, j < r + 1 → benchSum (rs.take (j + 1)) ≤ n) := hide (fun hx => next_all (uh Hl) hx)
  rw [benchSum_take rs hlt] at hb1 HN HM
  generalize benchSum (rs.take r) = s at *
  generalize (roomAt rs r).1 = rb at *
  clear hcl hip hl
  by_cases hq : rb ≤ n - s
  ·go_wp2_with fail
   go_round
   case rel => exact ⟨r + 1, by omega, by go_num, by rw [uh Hs]; congr 1; omega, uh HM (by omega)⟩
   case measure => simp [intOf]; omega
  ·go_wp2_with fail
   go_ret
   exact ⟨ret_int (by rw [uh HN (by omega)]), (Below.refl _ _).alloc (Nat.le_refl _) _⟩
theorem room_at {w : World} {a : Option Addr} {cap : Nat} {rs : List RoomV} {r : Nat} (h : IsRooms w (.slice a rs.length cap) rs) (hr : r < rs.length) (hh : hallB rs = true) :
  ∃ b off a' cap', a = some ⟨b, off, none⟩ ∧ b < w.heap.size ∧ w.cell? ⟨b, off + r * 2 + 1, none⟩ = some (.slice (some a') (roomAt rs r).2.length cap') ∧ 1 ≤ (roomAt rs r).2.length ∧ (roomAt rs r).2.length ≤ 4 ∧ a'.spot = none ∧ a'.block < w.heap.size ∧ w.cell? ⟨a'.block, a'.off + ((roomAt rs r).2.length - 1) * 2, none⟩ = some (.int .i64 (lastForce (roomAt rs r).2)) := by
 obtain ⟨a0, cap0, he, hc, hm, hr'⟩ := h
 cases he
 rcases hr' with e0 | ⟨b, off, rfl, hbw, hcl⟩
 ·rw [e0] at hr; simp at hr
 obtain ⟨_, pv, c1, hip⟩ := hcl r hr
 have hb := room_bd (allRooms_of (hallB_of hh).2.2.1 hr)
 obtain ⟨pa, pcap, rfl, _, _, hp⟩ := hip
 rcases hp with e1 | ⟨b', off', rfl, hbw', hcl'⟩
 ·rw [e1] at hb; simp at hb
 ·exact ⟨b, off, ⟨b', off', none⟩, pcap, rfl, hbw, c1, hb.2.2.1, hb.2.2.2, rfl, hbw', (hcl' _ (by omega)).1⟩
theorem implForceOf_any {w : World} {v : Value} {rs : List RoomV} (n : Int) (h : IsRooms w v rs) :
  Calls Tryz.prog 304 #[.agg #[v], .int .i64 n] w fun e w' => e = .returned (.int .i64 (forceV rs n)) ∧ Below w.heap.size w w' := by
 have Hv := hide h
 obtain ⟨a, cap, rfl, hc, hm⟩ : ∃ a cap, v = .slice a rs.length cap ∧ rs.length ≤ cap ∧ cap ≤ 9223372036854775807 := by obtain ⟨a, cap, rfl, hc, hm, _⟩ := h; exact ⟨a, cap, rfl, hc, hm⟩
 clear h
 cases h1 : isBench rs n
 ·have H2 := hide (forceV_f h1)
  have H3 := roomV_f h1
  have H3' := hide H3
  clear H3 h1
  go_enter Tryz.func304, Tryz.ntmps304
  go_wp2_with fail
  refine (implRoomOf_any n ((uh Hv).alloc _)).mono ?_
  rw [uh H3']
  rintro e w1 ⟨rfl, hb⟩
  have Hb := hide hb
  clear hb
  go_wp2_with fail
  go_ret
  exact ⟨ret_int (uh H2).symm, ((Below.refl _ _).alloc (Nat.le_refl _) _).trans ((uh Hb).mono (by simp))⟩
 ·have H2 := hide (forceV_t h1)
  have H3 := hide (roomV_t h1)
  have hlt := room_found h1
  have Hh := hide (isBench_of h1).1
  have hl3 : rs.length ≤ 3 := (hallB_of (isBench_of h1).1).2.1
  clear h1
  go_enter Tryz.func304, Tryz.ntmps304
  go_wp2_with fail
  refine (implRoomOf_any n ((uh Hv).alloc _)).mono ?_
  rw [uh H3]
  rintro e w1 ⟨rfl, hb⟩
  have hz : w.heap.size + 1 ≤ w1.heap.size := by have := hb.size; simpa using this
  have hbox : w1.cell? ⟨w.heap.size, 0, none⟩ = some (.slice a rs.length cap) := by rw [hb.cell (p := ⟨w.heap.size, 0, none⟩) (by simp)]; simp
  have hw1 := ((uh Hv).alloc _).below hb
  have Hb := hide hb
  obtain ⟨b, off, a', cap', rfl, hbw, d1, p1, p4, sp, hbw', d2⟩ := room_at hw1 hlt (uh Hh)
  obtain ⟨b', off', sp'⟩ := a'
  simp only at sp hbw' d2
  subst sp
  clear hb hw1 H3
  generalize roomN rs n = r at *
  generalize lastForce (roomAt rs r).2 = fo at *
  generalize (roomAt rs r).2.length = m at *
  have hr0 : ((r : Int) == -1) = false := beq_eq_false_iff_ne.2 (by omega)
  go_wp2_with fail
  go_ret
  exact ⟨ret_int (uh H2).symm, ((Below.refl _ _).alloc (Nat.le_refl _) _).trans ((uh Hb).mono (by simp))⟩
def isRoom (rs : List RoomV) (n : Int) : Bool := hallB rs && inB n 0 ((rs.length : Int) - 1)
def bitsV (lo hi : Int) : Int := (2 : Int) ^ hi.toNat - 2 ^ lo.toNat
def setV (rs : List RoomV) (n : Int) : Int := if isRoom rs n = true then bitsV (benchSum (rs.take n.toNat)) (benchSum (rs.take (n.toNat + 1))) else -1
theorem setV_t {rs : List RoomV} {n : Int} (h : isRoom rs n = true) : setV rs n = bitsV (benchSum (rs.take n.toNat)) (benchSum (rs.take (n.toNat + 1))) := by unfold setV; rw [if_pos h]
theorem setV_f {rs : List RoomV} {n : Int} (h : isRoom rs n = false) : setV rs n = -1 := by unfold setV; rw [h]; rfl
theorem isRoom_f1 {rs : List RoomV} {n : Int} (h : hallB rs = false) : isRoom rs n = false := by unfold isRoom; rw [h]; rfl
theorem isRoom_f2 {rs : List RoomV} {n : Int} (h : n < 0 ∨ rs.length ≤ n) : isRoom rs n = false := by unfold isRoom; rw [inB_f (by omega)]; simp
theorem pow_small {s : Int} (h0 : 0 ≤ s) (h1 : s ≤ 12) : 1 ≤ (2 : Int) ^ s.toNat ∧ (2 : Int) ^ s.toNat ≤ 4096 := by
 have key : ∀ k : Fin 13, 1 ≤ (2 : Int) ^ k.val ∧ (2 : Int) ^ k.val ≤ 4096 := by decide
 exact key ⟨s.toNat, by omega⟩
theorem wrap_small {x : Int} (h0 : -100000 ≤ x) (h1 : x ≤ 100000) : wrap64 x = x := by unfold wrap64; omega
theorem implBenchSet_any {w : World} {v : Value} {rs : List RoomV} (n : Int) (h : IsRooms w v rs) :
  Calls Tryz.prog 327 #[.agg #[v], .int .i64 n] w fun e w' => e = .returned (.int .i64 (setV rs n)) ∧ Below w.heap.size w w' := by
 have Hv := hide h
 obtain ⟨a, cap, rfl, hc, hm⟩ : ∃ a cap, v = .slice a rs.length cap ∧ rs.length ≤ cap ∧ cap ≤ 9223372036854775807 := by obtain ⟨a, cap, rfl, hc, hm, _⟩ := h; exact ⟨a, cap, rfl, hc, hm⟩
 clear h
 have Hb0 : Hid (Below w.heap.size w (w.alloc (.cells #[.slice a rs.length cap] 26))) := hide ((Below.refl _ _).alloc (Nat.le_refl _) _)
 cases h1 : hallB rs
 ·have H2 := hide (setV_f (isRoom_f1 (n := n) h1))
  go_enter Tryz.func327, Tryz.ntmps327
  go_wp2_with fail
  refine (implHallOk_any ((uh Hv).alloc _)).mono ?_
  rintro e w1 ⟨rfl, hb⟩
  have Hb := hide hb
  clear hb
  go_wp2_with fail
  go_ret
  exact ⟨ret_int (uh H2).symm, (uh Hb0).trans ((uh Hb).mono (by simp))⟩
 by_cases h2 : n < 0
 ·have H2 := hide (setV_f (isRoom_f2 (rs := rs) (.inl h2)))
  go_enter Tryz.func327, Tryz.ntmps327
  go_wp2_with fail
  refine (implHallOk_any ((uh Hv).alloc _)).mono ?_
  rintro e w1 ⟨rfl, hb⟩
  have Hb := hide hb
  clear hb
  go_wp2_with fail
  go_ret
  exact ⟨ret_int (uh H2).symm, (uh Hb0).trans ((uh Hb).mono (by simp))⟩
 by_cases h3 : (rs.length : Int) ≤ n
 ·have H2 := hide (setV_f (isRoom_f2 (rs := rs) (.inr h3)))
  go_enter Tryz.func327, Tryz.ntmps327
  go_wp2_with fail
  refine (implHallOk_any ((uh Hv).alloc _)).mono ?_
  rintro e w1 ⟨rfl, hb⟩
  have hbox : w1.cell? ⟨w.heap.size, 0, none⟩ = some (.slice a rs.length cap) := by rw [hb.cell (p := ⟨w.heap.size, 0, none⟩) (by simp)]; simp
  have Hb := hide hb
  clear hb
  go_wp2_with fail
  go_ret
  exact ⟨ret_int (uh H2).symm, (uh Hb0).trans ((uh Hb).mono (by simp))⟩
 have h4 : isRoom rs n = true := by unfold isRoom; rw [h1, inB_t (by omega) (by omega)]; rfl
 have H2 := hide (setV_t h4)
 obtain ⟨r, rfl⟩ := Int.eq_ofNat_of_zero_le (show 0 ≤ n by omega)
 have H1 := hide h1
 have Ha := hide (adds_hall h1)
 have hl3 : rs.length ≤ 3 := (hallB_of h1).2.1
 have hb0 := benches_hall h1 r (by omega)
 have hb1 := benches_hall h1 (r + 1) (by omega)
 go_enter Tryz.func327, Tryz.ntmps327
 go_wp2_with fail
 refine (implHallOk_any ((uh Hv).alloc _)).mono ?_
 rintro e w1 ⟨rfl, hb⟩
 have hbox : w1.cell? ⟨w.heap.size, 0, none⟩ = some (.slice a rs.length cap) := by rw [hb.cell (p := ⟨w.heap.size, 0, none⟩) (by simp)]; simp
 have k0 := cell_regrown hbox
 have Hb := hide hb
 have Hw := hide (((uh Hv).alloc _).below hb)
 clear hb h4
 go_wp2_with fail
 refine wp_region_quiet_below (by kernel_rfl) (by kernel_rfl) ?_
 repeat (go_big_quiet_step (first | exact Calls.regrown_of (benchesOf_any (((uh Hw).below (below_regrown _ _ _)).taken (n := r) (by omega)) ((uh Ha).taken _)) | exact Calls.regrown_of (benchesOf_any (((uh Hw).below (below_regrown _ _ _)).taken (n := r + 1) (by omega)) ((uh Ha).taken _))))
 refine wpQuiet_nil ?_
 intro _ hw'
 obtain ⟨⟨dq, osq⟩, hw''⟩ := hw'
 subst hw''
 rw [Int.toNat_natCast] at H2
 generalize benchSum (rs.take r) = s0 at *
 generalize benchSum (rs.take (r + 1)) = s1 at *
 obtain ⟨x0, x1⟩ := hb0
 obtain ⟨y0, y1⟩ := hb1
 go_wp2_with fail
 go_quiet (fail)
 go_wp2_with fail
 go_ret
 refine ⟨ret_int ?_, (uh Hb0).trans (((uh Hb).trans (below_drewN ((below_regrown _ _ _).mono (uh Hb).size) _)).mono (by simp))⟩
 have p0 := pow_small x0 x1
 have p1 := pow_small y0 y1
 rw [uh H2, wrap_small (x := 2 ^ s1.toNat) (by omega) (by omega), wrap_small (x := 2 ^ s0.toNat) (by omega) (by omega), wrap_small (x := 2 ^ s1.toNat - 2 ^ s0.toNat) (by omega) (by omega)]
 rfl
theorem benchSum_mono {rs : List RoomV} (h : rs.all roomB = true) {i : Nat} : ∀ d, i + d ≤ rs.length → benchSum (rs.take i) ≤ benchSum (rs.take (i + d))
 | 0, _ => Int.le_refl _
 | d + 1, hd => by
  have ih := benchSum_mono h (i := i) d (by omega)
  have hb := room_bd (allRooms_of h (j := i + d) (by omega))
  rw [← Nat.add_assoc, benchSum_take rs (by omega)]; omega
theorem room_is {rs : List RoomV} {n : Int} (h : isBench rs n = true) {r : Nat} (hr : r < rs.length) : roomN rs n = r ↔ benchSum (rs.take r) ≤ n ∧ n < benchSum (rs.take (r + 1)) := by
 have hb := isBench_of h
 have ha := (hallB_of hb.1).2.2.1
 have key : ∀ d q : Nat, q + d = rs.length → (∀ j, j < q → benchSum (rs.take (j + 1)) ≤ n) → benchSum (rs.take (roomN rs n)) ≤ n ∧ n < benchSum (rs.take (roomN rs n + 1)) := by
  intro d
  induction d with
  | zero => intro q hq hl; have := room_more h (by omega) hl; omega
  | succ d ih =>
   intro q hq hl
   have hlt := room_more h (r := q) (by omega) hl
   by_cases hc : n < benchSum (rs.take (q + 1))
   ·rw [roomN_eq hlt hc hl]
    refine ⟨?_, hc⟩
    cases q with
    | zero => simp [benchSum]; omega
    | succ q => exact hl q (by omega)
   ·exact ih (q + 1) (by omega) (next_all hl (by omega))
 constructor
 ·intro e; have := key rs.length 0 (by omega) (fun j hj => by omega); rwa [e] at this
 ·intro hx
  refine roomN_eq hr hx.2 (fun j hj => ?_)
  have := benchSum_mono ha (i := j + 1) (r - (j + 1)) (by omega)
  rw [show j + 1 + (r - (j + 1)) = r by omega] at this
  omega
open Go.ChangeShapes Go.WideShapes Go.ChangeAt Go.RowKit
def upto (s : Int) : Nat → List Int
 | 0 => []
 | k + 1 => if memB s k = true then upto s k ++ [(k : Int)] else upto s k
def mems (s : Int) : List Int := upto s 8
def firstMV (s : Int) : Int := (mems s).headD (-1)
theorem upto_hit {s : Int} {k : Nat} (h : memB s k = true) : upto s (k + 1) = upto s k ++ [(k : Int)] := by simp [upto, h]
theorem upto_miss {s : Int} {k : Nat} (h : memB s k = false) : upto s (k + 1) = upto s k := by simp [upto, h]
theorem upto_len (s : Int) : ∀ k, (upto s k).length ≤ k
 | 0 => by simp [upto]
 | k + 1 => by
  have := upto_len s k
  cases h : memB s k
  ·rw [upto_miss h]; omega
  ·rw [upto_hit h]; simp; omega
theorem upto_none {s : Int} (h : inB s 0 255 = false) : ∀ k, upto s k = []
 | 0 => rfl
 | k + 1 => by rw [upto_miss (memB_f (.inl h))]; exact upto_none h k
theorem upto_pre (s : Int) : ∀ k, k ≤ 8 → upto s k <+: mems s := by
 have step : ∀ k, upto s k <+: upto s (k + 1) := fun k => by
  cases h : memB s k
  ·rw [upto_miss h]; exact List.prefix_refl _
  ·rw [upto_hit h]; exact List.prefix_append _ _
 have go : ∀ d k, upto s k <+: upto s (k + d) := by
  intro d
  induction d with
  | zero => intro k; exact List.prefix_refl _
  | succ d ih => intro k; exact (ih k).trans (step (k + d))
 intro k hk
 have := go (8 - k) k
 rwa [show k + (8 - k) = 8 by omega] at this
theorem bits_mem {lo hi b : Int} (h0 : 0 ≤ lo) (h1 : lo ≤ hi) (h2 : hi ≤ 8) (hb0 : -1 ≤ b) (hb1 : b ≤ 8) : memB (bitsV lo hi) b = decide (lo ≤ b ∧ b < hi) := by
 have key : ∀ b : Fin 10, ∀ hi : Fin 9, ∀ lo : Fin 9, lo.val ≤ hi.val → memB (bitsV lo.val hi.val) ((b.val : Int) - 1) = decide ((lo.val : Int) ≤ (b.val : Int) - 1 ∧ (b.val : Int) - 1 < hi.val) := by decide +kernel
 have := key ⟨(b + 1).toNat, by omega⟩ ⟨hi.toNat, by omega⟩ ⟨lo.toNat, by omega⟩ (by show lo.toNat ≤ hi.toNat; omega)
 simp only [show ((lo.toNat : Nat) : Int) = lo by omega, show ((hi.toNat : Nat) : Int) = hi by omega, show (((b + 1).toNat : Nat) : Int) - 1 = b by omega] at this
 exact this
def whereTo {α : Type} [Inhabited α] (p : α → Bool) (xs : List α) : Nat → List Int
 | 0 => []
 | k + 1 => if p (recAt xs k) then whereTo p xs k ++ [(k : Int)] else whereTo p xs k
theorem whereTo_yes {α : Type} [Inhabited α] {p : α → Bool} {xs : List α} {k : Nat} (h : p (recAt xs k) = true) : whereTo p xs (k + 1) = whereTo p xs k ++ [(k : Int)] := by rw [whereTo, if_pos h]
theorem whereTo_no {α : Type} [Inhabited α] {p : α → Bool} {xs : List α} {k : Nat} (h : p (recAt xs k) = false) : whereTo p xs (k + 1) = whereTo p xs k := by rw [whereTo, if_neg (by simp [h])]
theorem whereTo_len {α : Type} [Inhabited α] (p : α → Bool) (xs : List α) : ∀ k, (whereTo p xs k).length ≤ k
 | 0 => Nat.le_refl _
 | k + 1 => by
  have := whereTo_len p xs k
  unfold whereTo
  split
  ·simp; omega
  ·omega
theorem whereTo_mem {α : Type} [Inhabited α] (p : α → Bool) (xs : List α) (x : Int) : ∀ k, x ∈ whereTo p xs k ↔ ∃ i : Nat, i < k ∧ x = (i : Int) ∧ p (recAt xs i) = true
 | 0 => by simp [whereTo]
 | k + 1 => by
  have ih := whereTo_mem p xs x k
  cases h : p (recAt xs k)
  ·rw [whereTo_no h, ih]
   constructor
   ·rintro ⟨i, hi, h1, h2⟩
    exact ⟨i, by omega, h1, h2⟩
   ·rintro ⟨i, hi, h1, h2⟩
    by_cases hik : i = k
    ·subst hik; rw [h] at h2; cases h2
    ·exact ⟨i, by omega, h1, h2⟩
  ·rw [whereTo_yes h, List.mem_append, ih]
   constructor
   ·rintro (⟨i, hi, h1, h2⟩ | h1)
    ·exact ⟨i, by omega, h1, h2⟩
    ·exact ⟨k, by omega, by simpa using h1, h⟩
   ·rintro ⟨i, hi, h1, h2⟩
    by_cases hik : i = k
    ·subst hik; right; simp [h1]
    ·exact .inl ⟨i, by omega, h1, h2⟩
theorem whereTo_any {α : Type} [Inhabited α] (p : α → Bool) (xs : List α) : ∀ k, decide (0 < (whereTo p xs k).length) = (List.range k).any fun j => p (recAt xs j)
 | 0 => rfl
 | k + 1 => by
  have ih := whereTo_any p xs k
  rw [any_up, ← ih]
  cases h : p (recAt xs k)
  ·rw [whereTo_no h]; simp
  ·rw [whereTo_yes h]; simp
def allTo {α : Type} [Inhabited α] (p : α → Bool) (xs : List α) (k : Nat) : Bool := (List.range k).all fun j => p (recAt xs j)
theorem allTo_no {α : Type} [Inhabited α] {p : α → Bool} {xs : List α} {k n : Nat} (hk : k < n) (h : p (recAt xs k) = false) : allTo p xs n = false := all_no (p := fun j => p (recAt xs j)) hk h
theorem allTo_up {α : Type} [Inhabited α] {p : α → Bool} {xs : List α} {k : Nat} (h : allTo p xs k = true) (h2 : p (recAt xs k) = true) : allTo p xs (k + 1) = true := by unfold allTo at h ⊢; rw [all_up, h, h2]; rfl
theorem allTo_and {α : Type} [Inhabited α] (p q : α → Bool) (xs : List α) : ∀ k, (allTo p xs k && allTo q xs k) = allTo (fun x => p x && q x) xs k
 | 0 => rfl
 | k + 1 => by
  have ih := allTo_and p q xs k
  unfold allTo at ih ⊢
  rw [all_up, all_up, all_up, ← ih]
  generalize ((List.range k).all fun j => p (recAt xs j)) = a
  generalize ((List.range k).all fun j => q (recAt xs j)) = b
  cases a <;> cases b <;> cases hp : p (recAt xs k) <;> cases hq : q (recAt xs k) <;> simp [hp, hq]
theorem allTo_congr {α : Type} [Inhabited α] {p q : α → Bool} (xs : List α) (h : ∀ x, p x = q x) (k : Nat) : allTo p xs k = allTo q xs k := by unfold allTo; congr 1; funext j; exact h _
def hasB (n : Nat) (i : Int) : Bool := decide (0 ≤ i) && decide (i < n)
def atB (b : Int) (s : SmithV) : Bool := (s.1 == 2 || s.1 == 3) && s.2.1 == b
def worksB (b : Int) (s : SmithV) : Bool := s.1 == 3 && s.2.1 == b
def thereB (n : Nat) (s : SmithV) : Bool := s.1 == 0 || (s.2.2.2.2.1 == -1 || hasB n s.2.2.2.2.1)
def placeB (ds : List DeskV) (s : SmithV) : Bool := s.1 == 0 || (hasB ds.length s.2.1 && (s.1 == 1 || ((recAt ds s.2.1.toNat).1 && (memB s.2.2.2.1 s.2.1 && inBandB s.2.2.2.2.2.2.2.1 (recAt ds s.2.1.toNat).2.2))))
def smithsIB (ss : List SmithV) (n : Nat) : Bool := decide (ss.length ≤ 12) && (allTo smithB ss ss.length && allTo (thereB n) ss ss.length)
def desksIB (ds : List DeskV) (n : Int) : Bool := decide ((ds.length : Int) = n) && (allTo deskB ds ds.length && decide (0 < (whereTo (fun d : DeskV => d.1) ds ds.length).length))
def pacesIB (ps : List Int) (rs : List RoomV) : Bool := decide (ps.length = rs.length) && (List.range ps.length).all fun j => hasB (roomAt rs j).2.length (recAt ps j)
def partsIB (m : SmyV) : Bool := hallB m.rooms && (guildsB m.guilds && (smithsIB m.smiths m.guilds.length && (desksIB m.desks (benchSum m.rooms) && (pacesIB m.paces m.rooms && inB m.now 0 1000000))))
def inPlaceIB (m : SmyV) : Bool := partsIB m && allTo (placeB m.desks) m.smiths m.smiths.length
def turnIB (m : SmyV) (b : Nat) : Bool := if (recAt m.desks b).2.1 = -1 then decide ((whereTo (atB b) m.smiths m.smiths.length).length = 0) else decide ((whereTo (worksB b) m.smiths m.smiths.length).length = 1) && decide (recAt (whereTo (worksB b) m.smiths m.smiths.length) 0 = (recAt m.desks b).2.1)
def turnsIB (m : SmyV) : Bool := (List.range m.desks.length).all (turnIB m)
def smyIB (m : SmyV) : Bool := inPlaceIB m && turnsIB m
theorem band_same (h m : Int) : inBandB h m = bandB h m := by
 unfold inBandB bandB hadB
 rw [Bool.and_assoc]
theorem one_same (m : SmyV) (s : SmithV) : (smithB s && (thereB m.guilds.length s && placeB m.desks s)) = (hereB m s && seatB m s) := by
 cases hs : smithB s
 ·unfold hereB; rw [hs]; rfl
 ·have hh : hereB m s = (s.1 == 0 || (decide (s.2.2.2.2.1 < m.guilds.length) && decide (s.2.1 < m.desks.length))) := by unfold hereB; rw [hs]; rfl
  rw [hh, Bool.true_and]
  unfold smithB at hs
  simp only [Bool.or_eq_true] at hs
  rcases hs with hg | hp
  ·have e := goneB_of hg
   subst e
   rfl
  ·obtain ⟨st, be, rk, my, gu, lo, hi, hd, ca, ut, wk⟩ := s
   obtain ⟨⟨s1, s2⟩, ⟨b1, b2⟩, _, ⟨m1, m2⟩, ⟨g1, g2⟩, _⟩ := presB_of hp
   have hmem : memB my be = bitB my be := memB_t (inB_t (by omega) (by omega)) (inB_t (by omega) (by omega))
   have hst0 : (st == 0) = false := by simp; omega
   have hgu : (gu == -1 || hasB m.guilds.length gu) = decide (gu < m.guilds.length) := by
    unfold hasB
    by_cases e : gu = -1
    ·subst e; simp; omega
    ·have : (gu == -1) = false := by simpa using e
     rw [this, Bool.false_or, show decide (0 ≤ gu) = true from decide_eq_true (by omega), Bool.true_and]
   have hbe : hasB m.desks.length be = decide (be < m.desks.length) := by
    unfold hasB
    rw [show decide (0 ≤ be) = true from decide_eq_true (by omega), Bool.true_and]
   have hpr : presS (st, be, rk, my, gu, lo, hi, hd, ca, ut, wk) = !(st == 1) := by
    unfold presS
    rcases (by omega : st = 1 ∨ st = 2 ∨ st = 3) with e | e | e <;> subst e <;> rfl
   unfold thereB placeB seatB
   simp only
   rw [hst0, hgu, hbe, hpr, hmem, band_same, Bool.not_not]
   simp only [Bool.false_or, Bool.and_assoc]
theorem scan_same (ss : List SmithV) (b : Int) : ∀ k : Nat,
  (match scanV ss b k with
   | none => 2 ≤ (whereTo (worksB b) ss k).length
   | some (wk, wt) => ((wk = -1 ∧ whereTo (worksB b) ss k = []) ∨ (0 ≤ wk ∧ whereTo (worksB b) ss k = [wk])) ∧ ((whereTo (atB b) ss k = []) ↔ (whereTo (worksB b) ss k = [] ∧ wt = false)))
 | 0 => by simp [scanV, whereTo]
 | k + 1 => by
  have ih := scan_same ss b k
  unfold scanV
  cases hsc : scanV ss b k with
  | none =>
   rw [hsc] at ih
   simp only at ih ⊢
   unfold whereTo
   split
   ·simp; omega
   ·exact ih
  | some r =>
   obtain ⟨wk, wt⟩ := r
   rw [hsc] at ih
   simp only at ih ⊢
   by_cases hat : (recAt ss k).2.1 = b ∧ presS (recAt ss k) = true
   ·rw [if_pos hat]
    have hA : atB b (recAt ss k) = true := by
     have h2 := hat.2
     unfold presS at h2
     unfold atB
     rw [h2, hat.1]; simp
    by_cases h2 : (recAt ss k).1 = 2
    ·rw [if_pos h2]
     have hW : worksB b (recAt ss k) = false := by unfold worksB; rw [h2]; rfl
     rw [whereTo_no hW, whereTo_yes hA]
     exact ⟨ih.1, by simp⟩
    ·rw [if_neg h2]
     have h3 : (recAt ss k).1 = 3 := by
      have := hat.2
      unfold presS at this
      simp only [Bool.or_eq_true, beq_iff_eq] at this
      omega
     have hW : worksB b (recAt ss k) = true := by unfold worksB; rw [h3, hat.1]; simp
     rw [whereTo_yes hW, whereTo_yes hA]
     by_cases hwk : 0 ≤ wk
     ·rw [if_pos hwk]
      rcases ih.1 with ⟨e, _⟩ | ⟨_, e⟩
      ·omega
      ·simp only
       rw [e]; simp
     ·rw [if_neg hwk]
      rcases ih.1 with ⟨_, e⟩ | ⟨e, _⟩
      ·simp only
       rw [e]; simp
      ·omega
   ·rw [if_neg hat]
    have hA : atB b (recAt ss k) = false := by
     cases hc : atB b (recAt ss k)
     ·rfl
     ·exfalso
      apply hat
      unfold atB at hc
      simp only [Bool.and_eq_true, beq_iff_eq] at hc
      exact ⟨hc.2, by unfold presS; exact hc.1⟩
    have hW : worksB b (recAt ss k) = false := by
     cases hc : worksB b (recAt ss k)
     ·rfl
     ·exfalso
      apply hat
      unfold worksB at hc
      simp only [Bool.and_eq_true, beq_iff_eq] at hc
      exact ⟨hc.2, by unfold presS; rw [hc.1]; rfl⟩
    rw [whereTo_no hW, whereTo_no hA]
    exact ih
theorem turn_same (m : SmyV) (b : Nat) : turnIB m b = benchOkB m b := by
 have h := scan_same m.smiths b m.smiths.length
 unfold turnIB benchOkB
 cases hsc : scanV m.smiths b m.smiths.length with
 | none =>
  rw [hsc] at h
  simp only at h ⊢
  split
  ·have : whereTo (atB b) m.smiths m.smiths.length ≠ [] := by
    intro e
    have hx : recAt (whereTo (worksB b) m.smiths m.smiths.length) 0 ∈ whereTo (worksB b) m.smiths m.smiths.length := recAt_mem (by omega)
    obtain ⟨i, hi, _, hw⟩ := (whereTo_mem _ _ _ _).1 hx
    have : (i : Int) ∈ whereTo (atB b) m.smiths m.smiths.length := (whereTo_mem _ _ _ _).2 ⟨i, hi, rfl, by
     unfold worksB at hw
     simp only [Bool.and_eq_true, beq_iff_eq] at hw
     unfold atB
     rw [hw.1, hw.2]; simp⟩
    rw [e] at this
    cases this
   simp only [List.length_eq_zero_iff, this, decide_false]
  ·rw [show decide ((whereTo (worksB b) m.smiths m.smiths.length).length = 1) = false from decide_eq_false (by omega), Bool.false_and]
 | some r =>
  obtain ⟨wk, wt⟩ := r
  rw [hsc] at h
  simp only at h ⊢
  obtain ⟨h1, h2⟩ := h
  generalize whereTo (worksB b) m.smiths m.smiths.length = ws at *
  generalize whereTo (atB b) m.smiths m.smiths.length = az at *
  generalize (recAt m.desks b).2.1 = who at *
  by_cases hw : who = -1
  ·subst hw
   simp only [if_true, List.length_eq_zero_iff]
   rcases h1 with ⟨rfl, rfl⟩ | ⟨hk, rfl⟩
   ·cases wt
    ·simp at h2; simp [h2]
    ·simp at h2; simp [h2]
   ·have hne : az ≠ [] := by
     intro e
     have := (h2.1 e).1
     cases this
    have : ((-1 : Int) == wk) = false := by simp; omega
    rw [this]
    simp [hne]
  ·rw [if_neg hw]
   rcases h1 with ⟨rfl, rfl⟩ | ⟨hk, rfl⟩
   ·have : (who == -1) = false := by simpa using hw
    rw [this]; simp
   ·have h0 : decide (wk < 0) = false := decide_eq_false (by omega)
    rw [h0, Bool.and_false, Bool.not_false, Bool.and_true]
    simp only [List.length_cons, List.length_nil, decide_true, Bool.true_and]
    show decide (wk = who) = (who == wk)
    by_cases e : wk = who
    ·subst e; simp
    ·rw [decide_eq_false e]; symm; simp; omega
theorem has_in (n : Nat) (i : Int) : hasB n i = inB i 0 ((n : Int) - 1) := by
 unfold hasB inB
 by_cases h0 : 0 ≤ i <;> by_cases h1 : i < n
 ·rw [decide_eq_true h0, decide_eq_true h1, decide_eq_true (show 0 ≤ i ∧ i ≤ (n : Int) - 1 by omega)]; rfl
 ·rw [decide_eq_true h0, decide_eq_false h1, decide_eq_false (show ¬ (0 ≤ i ∧ i ≤ (n : Int) - 1) by omega)]; rfl
 ·rw [decide_eq_false h0, decide_eq_false (show ¬ (0 ≤ i ∧ i ≤ (n : Int) - 1) by omega)]; rfl
 ·rw [decide_eq_false h0, decide_eq_false (show ¬ (0 ≤ i ∧ i ≤ (n : Int) - 1) by omega)]; rfl
theorem loose_same (m : SmyV) : inPlaceIB m = looseB m := by
 have e1 : upSmiths m m.smiths.length = (allTo smithB m.smiths m.smiths.length && (allTo (thereB m.guilds.length) m.smiths m.smiths.length && allTo (placeB m.desks) m.smiths m.smiths.length)) := by
  rw [allTo_and, allTo_and]
  exact (allTo_congr m.smiths (one_same m) m.smiths.length).symm
 have e2 : pacesIB m.paces m.rooms = (decide (m.paces.length = m.rooms.length) && upPaces m m.paces.length) := by
  unfold pacesIB upPaces
  congr 2
  funext j
  unfold paceInB
  exact has_in _ _
 have e3 : decide (0 < (whereTo (fun d : DeskV => d.1) m.desks m.desks.length).length) = upOpen m m.desks.length := whereTo_any _ _ _
 unfold inPlaceIB partsIB looseB headB smithsIB desksIB
 rw [e1, e2, e3]
 have e4 : allTo deskB m.desks m.desks.length = upDesks m m.desks.length := rfl
 rw [e4]
 generalize hallB m.rooms = x1
 generalize guildsB m.guilds = x2
 generalize decide (m.smiths.length ≤ 12) = x3
 generalize allTo smithB m.smiths m.smiths.length = x4
 generalize allTo (thereB m.guilds.length) m.smiths m.smiths.length = x5
 generalize decide ((m.desks.length : Int) = benchSum m.rooms) = x6
 generalize upDesks m m.desks.length = x7
 generalize upOpen m m.desks.length = x8
 generalize decide (m.paces.length = m.rooms.length) = x9
 generalize upPaces m m.paces.length = x10
 generalize inB m.now 0 1000000 = x11
 generalize allTo (placeB m.desks) m.smiths m.smiths.length = x12
 rw [Bool.eq_iff_iff]
 simp only [Bool.and_eq_true]
 constructor
 ·rintro ⟨⟨a1, a2, ⟨a3, a4, a5⟩, ⟨a6, a7, a8⟩, ⟨a9, a10⟩, a11⟩, a12⟩
  exact ⟨⟨a1, a2, a3, a6, a9, a11⟩, a7, a10, ⟨a4, a5, a12⟩, a8⟩
 ·rintro ⟨⟨a1, a2, a3, a6, a9, a11⟩, a7, a10, ⟨a4, a5, a12⟩, a8⟩
  exact ⟨⟨a1, a2, ⟨a3, a4, a5⟩, ⟨a6, a7, a8⟩, ⟨a9, a10⟩, a11⟩, a12⟩
theorem smy_same (m : SmyV) : smyIB m = smyB m := by
 unfold smyIB smyB turnsIB
 rw [loose_same, show turnIB m = benchOkB m from funext (turn_same m)]
def queueOf (ss : List SmithV) (ps : List Int) : List PaceV := ps.foldl (fun q i => putV q (hadS (recAt ss i.toNat), i)) []
theorem queueOf_snoc (ss : List SmithV) (ps : List Int) (i : Int) : queueOf ss (ps ++ [i]) = putV (queueOf ss ps) (hadS (recAt ss i.toNat), i) := by unfold queueOf; rw [List.foldl_append]; rfl
theorem queueOf_at (ss : List SmithV) (b : Int) : ∀ k, queueOf ss (whereTo (atB b) ss k) = atV ss b k
 | 0 => rfl
 | k + 1 => by
  have ih := queueOf_at ss b k
  by_cases hat : (recAt ss k).2.1 = b ∧ presS (recAt ss k) = true
  ·have hA : atB b (recAt ss k) = true := by
    have h2 := hat.2
    unfold presS at h2
    unfold atB
    rw [h2, hat.1]; simp
   rw [whereTo_yes hA, queueOf_snoc, ih, atV_yes hat.1 hat.2]
   rfl
  ·have hA : atB b (recAt ss k) = false := by
    cases hc : atB b (recAt ss k)
    ·rfl
    ·exfalso
     apply hat
     unfold atB at hc
     simp only [Bool.and_eq_true, beq_iff_eq] at hc
     exact ⟨hc.2, by unfold presS; exact hc.1⟩
   rw [whereTo_no hA, atV_no hat, ih]
theorem take_snoc_at {ps : List Int} {k : Nat} (h : k < ps.length) : ps.take (k + 1) = ps.take k ++ [recAt ps k] := by
 unfold recAt
 rw [List.take_add_one, List.getD, List.getElem?_eq_getElem h]; rfl
theorem at_queue {m : SmyV} (h : Loose m) (b : Int) (k : Nat) (hk : k ≤ m.smiths.length) : queueB (atV m.smiths b k) = true := by
 have hd := h.head
 unfold headB at hd
 simp only [Bool.and_eq_true, decide_eq_true_eq] at hd
 have hl := atV_len m.smiths b k
 have h12 := hd.2.2.1
 refine queueB_isQ ⟨by omega, fun p hp => ?_, ?_, atV_whos _ _ _⟩
 ·obtain ⟨i, hi, h1, h2, rfl⟩ := (atV_mem m.smiths b p k).1 hp
  have := bandB_of (h.at (i := i) (by omega) h2).2.2.2.2
  unfold entB
  rw [inB_t (by omega) (by omega), inB_t (by omega) (by show (i : Int) ≤ 99; omega)]; rfl
 ·refine ((atV_ris m.smiths b k).and (atV_whos m.smiths b k)).imp fun {x y} hxy => ?_
  have h1 := hxy.1
  have h2 := hxy.2
  rw [ltB_f] at h1
  rw [ltB_t]
  omega
theorem whereTo_sub {α : Type} [Inhabited α] (p : α → Bool) (xs : List α) : ∀ n k : Nat, ∃ j, j ≤ n ∧ (whereTo p xs n).take k = whereTo p xs j
 | 0, k => ⟨0, Nat.le_refl _, by simp [whereTo]⟩
 | n + 1, k => by
  obtain ⟨j, hj, e⟩ := whereTo_sub p xs n k
  cases h : p (recAt xs n)
  ·rw [whereTo_no h]; exact ⟨j, by omega, e⟩
  ·rw [whereTo_yes h]
   by_cases hk : k ≤ (whereTo p xs n).length
   ·rw [List.take_append_of_le_length hk]; exact ⟨j, by omega, e⟩
   ·refine ⟨n + 1, Nat.le_refl _, ?_⟩
    rw [whereTo_yes h, List.take_of_length_le (by simp; omega)]
theorem part_queue {m : SmyV} (h : Loose m) (b : Int) (k : Nat) : queueB (queueOf m.smiths ((whereTo (atB b) m.smiths m.smiths.length).take k)) = true := by
 obtain ⟨j, hj, e⟩ := whereTo_sub (atB b) m.smiths m.smiths.length k
 rw [e, queueOf_at]
 exact at_queue h b j hj
def wantOfV (m : SmyV) (who : Int) : Int := if smyB m && whoB m who then wantV m who else -1
theorem spec_q {w : World} {v0 v1 v2 v3 v4 : Value} {m : SmyV} {q : Bool} (hq : smyB m = q) (h : Smy w v0 v1 v2 v3 v4 m) : Calls Tryz.prog 15 #[.agg #[v0, v1, v2, v3, v4, .int .i64 m.now]] w fun e w' => e = .returned (.bool q) ∧ Below w.heap.size w w' := by
 have := specSmithyOk_any h; rw [hq] at this; exact this
def sumP (m : SmyV) : List PaceV → Int
 | [] => 0
 | e :: q => wantV m e.2 + sumP m q
def sumW (m : SmyV) : List Int → Int
 | [] => 0
 | x :: q => wantV m x + sumW m q
theorem sumP_app (m : SmyV) (a b : List PaceV) : sumP m (a ++ b) = sumP m a + sumP m b := by
 induction a with
 | nil => show sumP m b = 0 + sumP m b; omega
 | cons e a ih => show wantV m e.2 + sumP m (a ++ b) = wantV m e.2 + sumP m a + sumP m b; omega
theorem sumW_app (m : SmyV) (a b : List Int) : sumW m (a ++ b) = sumW m a + sumW m b := by
 induction a with
 | nil => show sumW m b = 0 + sumW m b; omega
 | cons e a ih => show wantV m e + sumW m (a ++ b) = wantV m e + sumW m a + sumW m b; omega
theorem sumW_snoc (m : SmyV) (a : List Int) (x : Int) : sumW m (a ++ [x]) = sumW m a + wantV m x := by rw [sumW_app]; show _ + (wantV m x + 0) = _; omega
theorem sumW_bd (m : SmyV) : ∀ a : List Int, 0 ≤ sumW m a ∧ sumW m a ≤ 1024 * a.length
 | [] => by simp [sumW]
 | x :: a => by
  have ih := sumW_bd m a
  have hw := wantV_bd m x
  show 0 ≤ wantV m x + sumW m a ∧ wantV m x + sumW m a ≤ 1024 * ((a.length + 1 : Nat) : Int)
  omega
theorem sumP_put (m : SmyV) (q : List PaceV) (e : PaceV) : sumP m (putV q e) = sumP m q + wantV m e.2 := by
 have h := sumP_app m (q.take (lessN e q)) (q.drop (lessN e q))
 rw [List.take_append_drop] at h
 unfold putV
 rw [sumP_app, h]
 show _ + (wantV m e.2 + _) = _
 omega
theorem usedF_sum (m : SmyV) (but : Int) : ∀ (q : List PaceV) (n : Int), (∀ e ∈ q, e.2 ≠ but) → q.foldl (fun n e => if e.2 = but then n else n + wantV m e.2) n = n + sumP m q
 | [], n, _ => by show n = n + 0; omega
 | e :: q, n, h => by
  have h0 := h e (by simp)
  have ih := usedF_sum m but q (if e.2 = but then n else n + wantV m e.2) (fun x hx => h x (by simp [hx]))
  rw [List.foldl_cons, ih, if_neg h0]
  show _ = n + (wantV m e.2 + sumP m q)
  omega
theorem usedV_sum (m : SmyV) (b : Int) : usedV m b (-1) = sumP m (atV m.smiths b m.smiths.length) := by
 have := usedF_sum m (-1) (atV m.smiths b m.smiths.length) 0 (fun e he => by
  obtain ⟨i, _, _, _, rfl⟩ := (atV_mem m.smiths b e m.smiths.length).1 he
  show (i : Int) ≠ -1
  omega)
 unfold usedV usedL
 omega
theorem at_is (b : Int) (s : SmithV) : atB b s = decide (s.2.1 = b ∧ presS s = true) := by
 unfold atB presS
 rw [Bool.eq_iff_iff]
 simp only [Bool.and_eq_true, decide_eq_true_eq, beq_iff_eq]
 exact ⟨fun h => ⟨h.2, h.1⟩, fun h => ⟨h.2, h.1⟩⟩
theorem where_sum (m : SmyV) (ss : List SmithV) (b : Int) : ∀ k, sumW m (whereTo (atB b) ss k) = sumP m (atV ss b k)
 | 0 => rfl
 | k + 1 => by
  have ih := where_sum m ss b k
  by_cases hat : (recAt ss k).2.1 = b ∧ presS (recAt ss k) = true
  ·rw [whereTo_yes (by rw [at_is]; exact decide_eq_true hat), sumW_snoc, atV_yes hat.1 hat.2, sumP_put, ih]
  ·rw [whereTo_no (by rw [at_is]; exact decide_eq_false hat), atV_no hat, ih]
theorem used_where (m : SmyV) (b : Int) : sumW m (whereTo (atB b) m.smiths m.smiths.length) = usedV m b (-1) := by rw [where_sum, usedV_sum]
theorem sumW_step (m : SmyV) {ws : List Int} {k : Nat} (h : k < ws.length) : sumW m (ws.take (k + 1)) = sumW m (ws.take k) + wantV m (recAt ws k) := by rw [take_snoc_at h, sumW_snoc]
structure Wants (m : SmyV) : Prop where
 guilds : guildsB m.guilds = true
 each : ∀ i, i < m.smiths.length → (recAt m.smiths i).1 ≠ 0 → isB m.guilds (recAt m.smiths i).2.2.2.2.1 = true ∧ pairB (recAt m.smiths i).2.2.2.2.2.1 (recAt m.smiths i).2.2.2.2.2.2.1 = true
theorem Loose.wants {m : SmyV} (h : Loose m) : Wants m := by
 have hd := h.head
 unfold headB at hd
 simp only [Bool.and_eq_true, decide_eq_true_eq] at hd
 refine ⟨hd.2.1, fun i hi hs => ?_⟩
 obtain ⟨hp, hg, _⟩ := h.limits hi hs
 have hgs := hd.2.1
 generalize recAt m.smiths i = s at *
 obtain ⟨st, be, rk, my, gu, lo, hi, hd, ca, ut, wk⟩ := s
 obtain ⟨_, _, _, _, ⟨g0, g5⟩, hpair, _⟩ := presB_of hp
 simp only at hg
 exact ⟨by unfold isB; rw [hgs, inB_t g0 (by omega)]; rfl, hpair⟩
theorem withM_at (m : SmyV) {k : Nat} (hk : k < m.smiths.length) (b : Int) (i : Nat) : recAt (withM m (k : Int) b).smiths i = if i = k then atBench (recAt m.smiths k) b else recAt m.smiths i := by
 unfold withM
 simp only [Int.toNat_natCast]
 exact recAt_set hk i
theorem Wants.with {m : SmyV} (h : Wants m) {k : Nat} (hk : k < m.smiths.length) (hs : (recAt m.smiths k).1 ≠ 0) (b : Int) : Wants (withM m (k : Int) b) := by
 refine ⟨h.guilds, fun i hi hne => ?_⟩
 have hi' : i < m.smiths.length := by unfold withM at hi; simpa using hi
 rw [withM_at m hk] at hne ⊢
 by_cases e : i = k
 ·rw [if_pos e]; exact h.each k hk hs
 ·rw [if_neg e] at hne ⊢; exact h.each i hi' hne
def openB (m : SmyV) (b : Int) : Bool := hasB m.desks.length b && (recAt m.desks b.toNat).1
def needL (m : SmyV) (bs : List Int) : Int := bs.foldl (fun n b => if openB m b then max n (usedV m b (-1)) else n) 0
def workL (m : SmyV) (bs : List Int) : Int := bs.foldl (fun n b => n + usedV m b (-1)) 0
theorem needL_snoc (m : SmyV) (bs : List Int) (b : Int) : needL m (bs ++ [b]) = if openB m b then max (needL m bs) (usedV m b (-1)) else needL m bs := by unfold needL; rw [List.foldl_append]; rfl
theorem workL_snoc (m : SmyV) (bs : List Int) (b : Int) : workL m (bs ++ [b]) = workL m bs + usedV m b (-1) := by unfold workL; rw [List.foldl_append]; rfl
theorem needF_bd (m : SmyV) (hl : m.smiths.length ≤ 12) : ∀ (bs : List Int) (n : Int), 0 ≤ n → n ≤ 12288 → 0 ≤ bs.foldl (fun n b => if openB m b then max n (usedV m b (-1)) else n) n ∧ bs.foldl (fun n b => if openB m b then max n (usedV m b (-1)) else n) n ≤ 12288
 | [], n, h0, h1 => ⟨h0, h1⟩
 | b :: bs, n, h0, h1 => by
  have hu := usedV_bd m b (-1)
  refine needF_bd m hl bs (if openB m b then max n (usedV m b (-1)) else n) ?_ ?_ <;> split <;> omega
theorem needL_bd (m : SmyV) (hl : m.smiths.length ≤ 12) (bs : List Int) : 0 ≤ needL m bs ∧ needL m bs ≤ 12288 := needF_bd m hl bs 0 (by omega) (by omega)
theorem workF_bd (m : SmyV) (hl : m.smiths.length ≤ 12) : ∀ (bs : List Int) (n : Int), 0 ≤ n → 0 ≤ bs.foldl (fun n b => n + usedV m b (-1)) n ∧ bs.foldl (fun n b => n + usedV m b (-1)) n ≤ n + 12288 * bs.length
 | [], n, h0 => ⟨h0, by simp⟩
 | b :: bs, n, h0 => by
  have hu := usedV_bd m b (-1)
  have ih := workF_bd m hl bs (n + usedV m b (-1)) (by omega)
  refine ⟨ih.1, Int.le_trans ih.2 ?_⟩
  simp only [List.length_cons, Int.natCast_add, Int.natCast_one]
  omega
theorem workL_bd (m : SmyV) (hl : m.smiths.length ≤ 12) (bs : List Int) : 0 ≤ workL m bs ∧ workL m bs ≤ 12288 * bs.length := by
 have := workF_bd m hl bs 0 (by omega)
 unfold workL; omega
theorem room_set {m : SmyV} (h : Sane m) {r : Nat} (hr : r < m.rooms.length) {b : Nat} (hb : b < 8) : memB (setV m.rooms (r : Int)) (b : Int) = true ↔ b < m.desks.length ∧ (roomN m.rooms b : Int) = (r : Int) := by
 have hR : isRoom m.rooms (r : Int) = true := by unfold isRoom; rw [h.hall, inB_t (by omega) (by omega)]; rfl
 have ha := (hallB_of h.hall).2.2.1
 have h0 := benches_hall h.hall r (by omega)
 have h1 := benches_hall h.hall (r + 1) (by omega)
 have hm := benchSum_mono ha (i := r) 1 (by omega)
 have hm0 := benchSum_mono ha (i := r + 1) (m.rooms.length - (r + 1)) (by omega)
 rw [show r + 1 + (m.rooms.length - (r + 1)) = m.rooms.length by omega, List.take_length] at hm0
 have h8 := h.eight
 have hd := h.desks
 rw [setV_t hR, Int.toNat_natCast, bits_mem h0.1 hm (by omega) (by omega) (by omega), decide_eq_true_iff]
 constructor
 ·intro hx
  have hbd : b < m.desks.length := by omega
  exact ⟨hbd, by rw [(room_is (h.bench hbd) hr).2 hx]⟩
 ·rintro ⟨hbd, e⟩
  exact (room_is (h.bench hbd) hr).1 (by omega)
theorem room_upto {m : SmyV} (h : Sane m) {r : Nat} (hr : r < m.rooms.length) : ∀ k : Nat, k ≤ m.desks.length → needL m (upto (setV m.rooms (r : Int)) k) = (usedIn m r k).1 ∧ workL m (upto (setV m.rooms (r : Int)) k) = (usedIn m r k).2
 | 0, _ => ⟨rfl, rfl⟩
 | k + 1, hk => by
  have ih := room_upto h hr k (by omega)
  have h8 := h.eight
  have hs := room_set h hr (b := k) (by omega)
  by_cases e : (roomN m.rooms k : Int) = (r : Int)
  ·rw [upto_hit (hs.2 ⟨by omega, e⟩), needL_snoc, workL_snoc, ih.1, ih.2]
   have ho : openB m (k : Int) = (recAt m.desks k).1 := by
    unfold openB hasB
    rw [Int.toNat_natCast, decide_eq_true (show (0 : Int) ≤ (k : Int) by omega), decide_eq_true (show (k : Int) < (m.desks.length : Int) by omega)]
    simp
   rw [ho]
   show _ = (if _ then _ else _ : Int × Int).1 ∧ _ = (if _ then _ else _ : Int × Int).2
   rw [if_pos e]
   exact ⟨rfl, rfl⟩
  ·have hn : memB (setV m.rooms (r : Int)) (k : Int) = false := by
    cases hc : memB (setV m.rooms (r : Int)) (k : Int)
    ·rfl
    ·exact absurd (hs.1 hc).2 e
   rw [upto_miss hn]
   show _ = (if _ then _ else _ : Int × Int).1 ∧ _ = (if _ then _ else _ : Int × Int).2
   rw [if_neg e]
   exact ih
theorem room_mems {m : SmyV} (h : Sane m) {r : Nat} (hr : r < m.rooms.length) : needL m (mems (setV m.rooms (r : Int))) = (usedIn m r m.desks.length).1 ∧ workL m (mems (setV m.rooms (r : Int))) = (usedIn m r m.desks.length).2 := by
 have key : ∀ d k : Nat, m.desks.length + d = k → k ≤ 8 → upto (setV m.rooms (r : Int)) k = upto (setV m.rooms (r : Int)) m.desks.length := by
  intro d
  induction d with
  | zero => intro k hk _; rw [← hk]; rfl
  | succ d ih =>
   intro k hk h8
   obtain ⟨j, rfl⟩ : ∃ j, k = j + 1 := ⟨k - 1, by omega⟩
   have hn : memB (setV m.rooms (r : Int)) (j : Int) = false := by
    cases hc : memB (setV m.rooms (r : Int)) (j : Int)
    ·rfl
    ·have := ((room_set h hr (b := j) (by omega)).1 hc).1; omega
   rw [upto_miss hn]
   exact ih j (by omega) (by omega)
 have h8 := h.eight
 have e := key (8 - m.desks.length) 8 (by omega) (by omega)
 unfold mems
 rw [e]
 exact room_upto h hr m.desks.length (Nat.le_refl _)
def coalWithOfV (m : SmyV) (who b : Int) : Int := if smyB m && (whoB m who && openB m b) then coalWithV m who b else -1
end Go.Proofs.YthbbahagpmdooaaGreatDoor
