/- Contracts of BenchSet, the program's and the model's, at whatever hall can be read and whatever room. No other condition. -/
import Derived.Test.YtbehfbckoodkfaaHallRoom2
namespace Go.Proofs.Ytbehfbckoodkfaa
open Go.ChangeShapes Go.WideShapes Go.ChangeAt Go.RowKit Go.Sort
set_option linter.unusedVariables false

def isRoom (rs : List RoomV) (n : Int) : Bool := hallB rs && inB n 0 ((rs.length : Int) - 1)
/-- The benches from lo to hi less 1, as a set. -/
def bitsV (lo hi : Int) : Int := (2 : Int) ^ hi.toNat - 2 ^ lo.toNat
def setV (rs : List RoomV) (n : Int) : Int := if isRoom rs n = true then bitsV (benchSum (rs.take n.toNat)) (benchSum (rs.take (n.toNat + 1))) else -1
theorem isRoom_of {rs : List RoomV} {n : Int} (h : isRoom rs n = true) : hallB rs = true ∧ 0 ≤ n ∧ n < rs.length := by
  unfold isRoom at h; simp only [Bool.and_eq_true] at h
  have := inB_of h.2
  exact ⟨h.1, by omega, by omega⟩
theorem setV_t {rs : List RoomV} {n : Int} (h : isRoom rs n = true) : setV rs n = bitsV (benchSum (rs.take n.toNat)) (benchSum (rs.take (n.toNat + 1))) := by unfold setV; rw [if_pos h]
theorem setV_f {rs : List RoomV} {n : Int} (h : isRoom rs n = false) : setV rs n = -1 := by unfold setV; rw [h]; rfl
theorem isRoom_f1 {rs : List RoomV} {n : Int} (h : hallB rs = false) : isRoom rs n = false := by unfold isRoom; rw [h]; rfl
theorem isRoom_f2 {rs : List RoomV} {n : Int} (h : n < 0 ∨ rs.length ≤ n) : isRoom rs n = false := by unfold isRoom; rw [inB_f (by omega)]; simp

theorem pow_small {s : Int} (h0 : 0 ≤ s) (h1 : s ≤ 12) : 1 ≤ (2 : Int) ^ s.toNat ∧ (2 : Int) ^ s.toNat ≤ 4096 := by
  have key : ∀ k : Fin 13, 1 ≤ (2 : Int) ^ k.val ∧ (2 : Int) ^ k.val ≤ 4096 := by decide
  exact key ⟨s.toNat, by omega⟩
theorem wrap_small {x : Int} (h0 : -100000 ≤ x) (h1 : x ≤ 100000) : wrap64 x = x := by unfold wrap64; omega

set_option maxHeartbeats 2000000 in
theorem implBenchSet_any {w : World} {v : Value} {rs : List RoomV} (n : Int) (h : IsRooms w v rs) :
    Calls Try.prog 26 #[.agg #[v], .int .i64 n] w fun e w' => e = .returned (.int .i64 (setV rs n)) ∧ Below w.heap.size w w' := by
  have Hv := hide h
  obtain ⟨a, cap, rfl, hc, hm⟩ : ∃ a cap, v = .slice a rs.length cap ∧ rs.length ≤ cap ∧ cap ≤ 9223372036854775807 := by obtain ⟨a, cap, rfl, hc, hm, _⟩ := h; exact ⟨a, cap, rfl, hc, hm⟩
  clear h
  have Hb0 : Hid (Below w.heap.size w (w.alloc (.cells #[.slice a rs.length cap] 45))) := hide ((Below.refl _ _).alloc (Nat.le_refl _) _)
  cases h1 : hallB rs
  · have H2 := hide (setV_f (isRoom_f1 (n := n) h1))
    go_enter Try.func26, Try.ntmps26
    go_wp2_with fail
    refine (implHallOk_any ((unhide Hv).alloc _)).mono ?_
    rintro e w1 ⟨rfl, hb⟩
    have Hb := hide hb
    clear hb
    go_wp2_with fail
    go_ret
    exact ⟨ret_int (unhide H2).symm, (unhide Hb0).trans ((unhide Hb).mono (by simp))⟩
  by_cases h2 : n < 0
  · have H2 := hide (setV_f (isRoom_f2 (rs := rs) (.inl h2)))
    go_enter Try.func26, Try.ntmps26
    go_wp2_with fail
    refine (implHallOk_any ((unhide Hv).alloc _)).mono ?_
    rintro e w1 ⟨rfl, hb⟩
    have Hb := hide hb
    clear hb
    go_wp2_with fail
    go_ret
    exact ⟨ret_int (unhide H2).symm, (unhide Hb0).trans ((unhide Hb).mono (by simp))⟩
  by_cases h3 : (rs.length : Int) ≤ n
  · have H2 := hide (setV_f (isRoom_f2 (rs := rs) (.inr h3)))
    go_enter Try.func26, Try.ntmps26
    go_wp2_with fail
    refine (implHallOk_any ((unhide Hv).alloc _)).mono ?_
    rintro e w1 ⟨rfl, hb⟩
    have hbox : w1.cell? ⟨w.heap.size, 0, none⟩ = some (.slice a rs.length cap) := by rw [hb.cell (p := ⟨w.heap.size, 0, none⟩) (by simp)]; simp
    have Hb := hide hb
    clear hb
    go_wp2_with fail
    go_ret
    exact ⟨ret_int (unhide H2).symm, (unhide Hb0).trans ((unhide Hb).mono (by simp))⟩
  have h4 : isRoom rs n = true := by unfold isRoom; rw [h1, inB_t (by omega) (by omega)]; rfl
  have H2 := hide (setV_t h4)
  obtain ⟨r, rfl⟩ := Int.eq_ofNat_of_zero_le (show 0 ≤ n by omega)
  have H1 := hide h1
  have Ha := hide (adds_hall h1)
  have hl3 : rs.length ≤ 3 := (hallB_of h1).2.1
  have hb0 := benches_hall h1 r (by omega)
  have hb1 := benches_hall h1 (r + 1) (by omega)
  go_enter Try.func26, Try.ntmps26
  go_wp2_with fail
  refine (implHallOk_any ((unhide Hv).alloc _)).mono ?_
  rintro e w1 ⟨rfl, hb⟩
  have hbox : w1.cell? ⟨w.heap.size, 0, none⟩ = some (.slice a rs.length cap) := by rw [hb.cell (p := ⟨w.heap.size, 0, none⟩) (by simp)]; simp
  have k0 := cell_regrown hbox
  have Hb := hide hb
  have Hw := hide (((unhide Hv).alloc _).below hb)
  clear hb h4
  go_wp2_with fail
  refine wp_region_quiet_below (by kernel_rfl) (by kernel_rfl) ?_
  repeat (go_big_quiet_step (first | exact Calls.regrown_of (benchesOf_any (((unhide Hw).below (below_regrown _ _ _)).taken (n := r) (by omega)) ((unhide Ha).taken _)) | exact Calls.regrown_of (benchesOf_any (((unhide Hw).below (below_regrown _ _ _)).taken (n := r + 1) (by omega)) ((unhide Ha).taken _))))
  refine wpQuiet_nil ?_
  intro _ hw'
  obtain ⟨⟨dq, osq⟩, hw''⟩ := hw'
  subst hw''
  rw [Int.toNat_natCast] at H2
  generalize benchSum (rs.take r) = s0 at *
  generalize benchSum (rs.take (r + 1)) = s1 at *
  obtain ⟨x0, x1⟩ := hb0
  obtain ⟨y0, y1⟩ := hb1
  go_wp2_with fail
  go_quiet (fail)
  go_wp2_with fail
  go_ret
  refine ⟨ret_int ?_, (unhide Hb0).trans (((unhide Hb).trans (below_drewN ((below_regrown _ _ _).mono (unhide Hb).size) _)).mono (by simp))⟩
  have p0 := pow_small x0 x1
  have p1 := pow_small y0 y1
  rw [unhide H2, wrap_small (x := 2 ^ s1.toNat) (by omega) (by omega), wrap_small (x := 2 ^ s0.toNat) (by omega) (by omega), wrap_small (x := 2 ^ s1.toNat - 2 ^ s0.toNat) (by omega) (by omega)]
  rfl

theorem benchSum_mono {rs : List RoomV} (h : rs.all roomB = true) {i : Nat} : ∀ d, i + d ≤ rs.length → benchSum (rs.take i) ≤ benchSum (rs.take (i + d))
  | 0, _ => Int.le_refl _
  | d + 1, hd => by
    have ih := benchSum_mono h (i := i) d (by omega)
    have hb := room_bd (allRooms_of h (j := i + d) (by omega))
    rw [← Nat.add_assoc, benchSum_take rs (by omega)]; omega
/-- Where a bench stands. -/
theorem room_is {rs : List RoomV} {n : Int} (h : isBench rs n = true) {r : Nat} (hr : r < rs.length) : roomN rs n = r ↔ benchSum (rs.take r) ≤ n ∧ n < benchSum (rs.take (r + 1)) := by
  have hb := isBench_of h
  have ha := (hallB_of hb.1).2.2.1
  have key : ∀ d q : Nat, q + d = rs.length → (∀ j, j < q → benchSum (rs.take (j + 1)) ≤ n) → benchSum (rs.take (roomN rs n)) ≤ n ∧ n < benchSum (rs.take (roomN rs n + 1)) := by
    intro d
    induction d with
    | zero => intro q hq hl; have := room_more h (by omega) hl; omega
    | succ d ih =>
      intro q hq hl
      have hlt := room_more h (r := q) (by omega) hl
      by_cases hc : n < benchSum (rs.take (q + 1))
      · rw [roomN_eq hlt hc hl]
        refine ⟨?_, hc⟩
        cases q with
        | zero => simp [benchSum]; omega
        | succ q => exact hl q (by omega)
      · exact ih (q + 1) (by omega) (next_all hl (by omega))
  constructor
  · intro e; have := key rs.length 0 (by omega) (fun j hj => by omega); rwa [e] at this
  · intro hx
    refine roomN_eq hr hx.2 (fun j hj => ?_)
    have := benchSum_mono ha (i := j + 1) (r - (j + 1)) (by omega)
    rw [show j + 1 + (r - (j + 1)) = r by omega] at this
    omega

/-- The set of those below b. -/
def upSet (lo hi b : Int) : Int := if b < lo then 0 else bitsV lo (min b hi)
theorem or_bit (lo b : Int) (h0 : 0 ≤ lo) (h1 : lo ≤ b) (h2 : b ≤ 11) : bits .or .i64 (bitsV lo b) (2 ^ b.toNat) = bitsV lo (b + 1) := by
  have key : ∀ b : Fin 12, ∀ lo : Fin 12, lo.val ≤ b.val → bits .or .i64 ((2 : Int) ^ b.val - 2 ^ lo.val) (2 ^ b.val) = (2 : Int) ^ (b.val + 1) - 2 ^ lo.val := by decide +kernel
  have := key ⟨b.toNat, by omega⟩ ⟨lo.toNat, by omega⟩ (by show lo.toNat ≤ b.toNat; omega)
  unfold bitsV
  rw [show (b + 1).toNat = b.toNat + 1 by omega]
  exact this
theorem upSet_in {lo hi b : Int} (h1 : lo ≤ b) (h2 : b < hi) : upSet lo hi b = bitsV lo b ∧ upSet lo hi (b + 1) = bitsV lo (b + 1) := by
  unfold upSet
  rw [if_neg (by omega), if_neg (by omega), show min b hi = b by omega, show min (b + 1) hi = b + 1 by omega]
  exact ⟨rfl, rfl⟩
theorem upSet_out {lo hi b : Int} (hlh : lo ≤ hi) (h : ¬ (lo ≤ b ∧ b < hi)) : upSet lo hi (b + 1) = upSet lo hi b := by
  unfold upSet
  by_cases h1 : b < lo
  · rw [if_pos h1]
    by_cases h2 : b + 1 < lo
    · rw [if_pos h2]
    · rw [if_neg h2, show min (b + 1) hi = lo by omega]; unfold bitsV; omega
  · rw [if_neg h1, if_neg (by omega), show min (b + 1) hi = hi by omega, show min b hi = hi by omega]
theorem upSet_end {lo hi b : Int} (h1 : lo ≤ hi) (h2 : hi ≤ b) : upSet lo hi b = bitsV lo hi := by
  unfold upSet; rw [if_neg (by omega), show min b hi = hi by omega]
theorem upSet_zero {lo hi : Int} (h0 : 0 ≤ lo) (h1 : lo ≤ hi) : upSet lo hi 0 = 0 := by
  unfold upSet
  by_cases h : 0 < lo
  · rw [if_pos h]
  · obtain rfl : lo = 0 := by omega
    rw [if_neg h, show min 0 hi = 0 by omega]; rfl
theorem upSet_bd {lo hi b : Int} (h0 : 0 ≤ lo) (h1 : lo ≤ hi) (h2 : hi ≤ 12) : -100000 ≤ upSet lo hi b ∧ upSet lo hi b ≤ 100000 := by
  unfold upSet
  split
  · omega
  · unfold bitsV
    have p0 := pow_small h0 (by omega)
    have p1 := pow_small (s := min b hi) (by omega) (by omega)
    omega

theorem l2Bit_small (b : Int) (h0 : 0 ≤ b) (h1 : b ≤ 12) (w : World) : Calls Try.prog 58 #[.int .i64 b] w fun e w' => e = .returned (.int .i64 (2 ^ b.toNat)) ∧ w' = w := by
  go_enter Try.func58, Try.ntmps58
  go_wp2
  all_goals
    go_ret
    refine ⟨ret_int ?_, rfl⟩
    have := pow_small h0 h1
    exact wrap_small (by omega) (by omega)

set_option maxHeartbeats 4000000 in
theorem specBenchSet_any {w : World} {v : Value} {rs : List RoomV} (n : Int) (h : IsRooms w v rs) :
    Calls Try.prog 31 #[.agg #[v], .int .i64 n] w fun e w' => e = .returned (.int .i64 (setV rs n)) ∧ Below w.heap.size w w' := by
  have Hv := hide h
  obtain ⟨a, cap, rfl, hc, hm⟩ : ∃ a cap, v = .slice a rs.length cap ∧ rs.length ≤ cap ∧ cap ≤ 9223372036854775807 := by obtain ⟨a, cap, rfl, hc, hm, _⟩ := h; exact ⟨a, cap, rfl, hc, hm⟩
  clear h
  have Hb0 : Hid (Below w.heap.size w (w.alloc (.cells #[.slice a rs.length cap] 45))) := hide ((Below.refl _ _).alloc (Nat.le_refl _) _)
  cases h1 : hallB rs
  · have H2 := hide (setV_f (isRoom_f1 (n := n) h1))
    go_enter Try.func31, Try.ntmps31
    go_wp2_with fail
    refine (specHallOk_any ((unhide Hv).alloc _)).mono ?_
    rintro e w1 ⟨rfl, hb⟩
    have Hb := hide hb
    clear hb
    go_wp2_with fail
    go_ret
    exact ⟨ret_int (unhide H2).symm, (unhide Hb0).trans ((unhide Hb).mono (by simp))⟩
  cases h2 : inB n 0 ((rs.length : Int) - 1)
  · have H2 := hide (setV_f (show isRoom rs n = false by unfold isRoom; rw [h2]; simp))
    go_enter Try.func31, Try.ntmps31
    go_wp2_with fail
    refine (specHallOk_any ((unhide Hv).alloc _)).mono ?_
    rintro e w1 ⟨rfl, hb⟩
    have hbox : w1.cell? ⟨w.heap.size, 0, none⟩ = some (.slice a rs.length cap) := by rw [hb.cell (p := ⟨w.heap.size, 0, none⟩) (by simp)]; simp
    have Hb := hide hb
    clear hb
    go_wp2_with fail
    refine (l1In_any _ _ _ _).mono ?_
    rintro e w' ⟨rfl, rfl⟩
    go_wp2_with fail
    go_ret
    exact ⟨ret_int (unhide H2).symm, (unhide Hb0).trans ((unhide Hb).mono (by simp))⟩
  have h4 : isRoom rs n = true := by unfold isRoom; rw [h1, h2]; rfl
  have H2 := hide (setV_t h4)
  have hir := isRoom_of h4
  obtain ⟨r, rfl⟩ := Int.eq_ofNat_of_zero_le (show 0 ≤ n by omega)
  rw [Int.toNat_natCast] at H2
  have H1 := hide h1
  have hl3 : rs.length ≤ 3 := (hallB_of h1).2.1
  have hrl : r < rs.length := by omega
  have hb0 := benches_hall h1 r (by omega)
  have hb1 := benches_hall h1 (r + 1) (by omega)
  have hbt : 0 ≤ benchSum rs ∧ benchSum rs ≤ 8 := ⟨by have := benches_hall h1 rs.length (Nat.le_refl _); rw [benchSum_all] at this; omega, (hallB_of h1).2.2.2⟩
  have hlh : benchSum (rs.take r) ≤ benchSum (rs.take (r + 1)) := benchSum_mono (hallB_of h1).2.2.1 1 (by omega)
  have hht : benchSum (rs.take (r + 1)) ≤ benchSum rs := by have := benchSum_mono (hallB_of h1).2.2.1 (i := r + 1) (rs.length - (r + 1)) (by omega); rwa [show r + 1 + (rs.length - (r + 1)) = rs.length by omega, benchSum_all] at this
  have HR : Hid (∀ b, isBench rs b = true → (roomN rs b = r ↔ benchSum (rs.take r) ≤ b ∧ b < benchSum (rs.take (r + 1)))) := hide (fun b hb => room_is hb hrl)
  have HB : Hid (∀ b, 0 ≤ b → b < benchSum rs → isBench rs b = true) := hide (fun b h0 h1' => isBench_t (unhide H1) h0 h1')
  have HA := hide (adds_hall h1)
  go_enter Try.func31, Try.ntmps31
  go_wp2_with fail
  refine (specHallOk_any ((unhide Hv).alloc _)).mono ?_
  rintro e w1 ⟨rfl, hb⟩
  have hbox : w1.cell? ⟨w.heap.size, 0, none⟩ = some (.slice a rs.length cap) := by rw [hb.cell (p := ⟨w.heap.size, 0, none⟩) (by simp)]; simp
  have hsz : w.heap.size + 1 ≤ w1.heap.size := by have := hb.size; simpa using this
  have Hb := hide ((unhide Hb0).trans (hb.mono (by simp)))
  have Hw := hide (((unhide Hv).alloc _).below hb)
  clear hb h4 h1 hir
  go_wp2_with fail
  refine (l1In_any _ _ _ _).mono ?_
  rintro e w' ⟨rfl, hw'⟩
  subst w'
  go_wp2_with fail
  clear h2
  have HC : Hid (∀ {w : World} {v : Value}, IsRooms w v rs → Calls Try.prog 57 #[.agg #[v]] w fun e w' => e = .returned (.int .i64 (benchSum rs)) ∧ Below w.heap.size w w') := hide (fun h => l4Count_any h (unhide HA))
  generalize benchSum rs = t at *
  generalize benchSum (rs.take r) = lo at *
  generalize benchSum (rs.take (r + 1)) = hi at *
  obtain ⟨l0, l1⟩ := hb0
  obtain ⟨g0, g1⟩ := hb1
  obtain ⟨t0, t1⟩ := hbt
  go_loopw [5, 6] (fun s i wr => ∃ b : Nat, (b : Int) ≤ t ∧ i = .int .i64 b ∧ s = .int .i64 (upSet lo hi b) ∧ Below w1.heap.size w1 wr) (fun _ i _ => t.toNat - (intOf i).toNat)
  case atStart => exact ⟨0, by omega, rfl, by rw [show ((0 : Nat) : Int) = 0 from rfl, upSet_zero l0 hlh], Below.refl _ _⟩
  case round =>
    obtain ⟨b, hbt, rfl, rfl, hb⟩ := hrel
    have hbox2 : wr.cell? ⟨w.heap.size, 0, none⟩ = some (.slice a rs.length cap) := by rw [hb.cell (p := ⟨w.heap.size, 0, none⟩) (by show w.heap.size < w1.heap.size; omega)]; exact hbox
    have hz := hb.size
    have Hbr := hide hb
    have Hwr := hide ((unhide Hw).below hb)
    clear hb hbox
    go_wp2_with fail
    refine (unhide HC (unhide Hwr)).mono ?_
    rintro e w2 ⟨rfl, hb2⟩
    have hbox3 : w2.cell? ⟨w.heap.size, 0, none⟩ = some (.slice a rs.length cap) := by rw [hb2.cell (p := ⟨w.heap.size, 0, none⟩) (by show w.heap.size < wr.heap.size; omega)]; exact hbox2
    have hz2 := hb2.size
    have Hb2 := hide hb2
    have Hw2 := hide ((unhide Hwr).below hb2)
    clear hb2 hbox2
    by_cases hlt : (b : Int) < t
    · have hbb := unhide HB b (by omega) hlt
      have HR' := unhide HR b hbb
      have hub := upSet_bd (b := (b : Int)) l0 hlh (by omega)
      by_cases hin : lo ≤ (b : Int) ∧ (b : Int) < hi
      · have hrn := HR'.2 hin
        have Hup := hide (upSet_in hin.1 hin.2)
        have Hor := hide (or_bit lo b l0 hin.1 (by omega))
        have Hrn := hide hrn
        have Hbb := hide hbb
        rw [(upSet_in hin.1 hin.2).1]
        clear hrn hbb HR' hin hub
        go_wp2_with fail
        refine (l4Room_any _ (unhide Hw2) (unhide Hbb)).mono ?_
        rw [unhide Hrn]
        rintro e w3 ⟨rfl, hb3⟩
        have Hb3 := hide hb3
        clear hb3
        go_wp2_with fail
        refine (l2Bit_small b (by omega) (by omega) _).mono ?_
        rintro e w' ⟨rfl, rfl⟩
        go_wp2_with fail
        go_roundw
        case rel => exact ⟨b + 1, by omega, by go_num, by have ho := unhide Hor; rw [Int.toNat_natCast] at ho; rw [ho, show ((b + 1 : Nat) : Int) = (b : Int) + 1 by omega, (unhide Hup).2], (unhide Hbr).trans (((unhide Hb2).trans ((unhide Hb3).mono hz2)).mono hz)⟩
        case measure => simp [intOf]; omega
      · have hrn : roomN rs b ≠ r := fun e => hin (HR'.1 e)
        have Hup := hide (upSet_out (b := (b : Int)) hlh hin)
        have Hrn := hide hrn
        have hrne : ((roomN rs b : Int) == (r : Int)) = false := beq_eq_false_iff_ne.2 (by omega)
        have Hbb := hide hbb
        clear hrn hbb HR' hin hub
        go_wp2_with fail
        refine (l4Room_any _ (unhide Hw2) (unhide Hbb)).mono ?_
        rintro e w3 ⟨rfl, hb3⟩
        have Hb3 := hide hb3
        clear hb3
        generalize roomN rs b = q at *
        go_wp2_with fail
        go_roundw
        case rel => exact ⟨b + 1, by omega, by go_num, by rw [show ((b + 1 : Nat) : Int) = (b : Int) + 1 by omega, unhide Hup], (unhide Hbr).trans (((unhide Hb2).trans ((unhide Hb3).mono hz2)).mono hz)⟩
        case measure => simp [intOf]; omega
    · have hend := upSet_end (b := (b : Int)) hlh (by omega)
      go_wp2_with fail
      go_ret
      exact ⟨ret_int (unhide H2).symm, (unhide Hb).trans (((unhide Hbr).trans ((unhide Hb2).mono hz)).mono (by omega))⟩

end Go.Proofs.Ytbehfbckoodkfaa
