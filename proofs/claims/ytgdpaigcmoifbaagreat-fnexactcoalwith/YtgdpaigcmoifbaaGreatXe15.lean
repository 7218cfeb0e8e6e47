/- Part 15 of what the proof rests on. No condition but those that a theorem names. -/
import Derived.Test.YtgdpaigcmoifbaaGreatXe07
import Derived.Test.YtgdpaigcmoifbaaGreatXe11
set_option maxHeartbeats 8000000
set_option maxRecDepth 100000
namespace Go.Proofs.YtgdpaigcmoifbaaGreat
open Go.ChangeShapes Go.WideShapes Go.ChangeAt Go.RowKit Go.Sort Go.Proofs.Tryz
set_option linter.unusedVariables false
theorem enough_any (f c need : Int) (w : World) (f0 : 1 ≤ f) (f1 : f ≤ 1024) (n0 : 0 ≤ need) (n1 : need ≤ 1000000) :
  cB 320 #[.int .i64 f, .int .i64 need] w (.bool (enoughB need (f, c))) :=
 (isEnough_any f need w (by omega) (by omega) n0 (by omega)).mono fun _ _ ⟨he, hw⟩ => ⟨he, hw ▸ alBrf _ _⟩
theorem slowest_any {w : World} {v : Value} {ps : List PaceV} (b need : Int) (h : IsPaces w v ps) (hr : roomB (b, ps) = true) (hn : inB need 0 1000000 = true) :
  cB 287 #[v, .int .i64 need] w (.int .i64 (paceN need ps)) := by
 obtain ⟨a, cap, rfl, hc, hm, hrow⟩ := h
 have hbd := room_bd hr
 simp only at hbd
 obtain ⟨_, _, hl1, hl4⟩ := hbd
 obtain ⟨n0, n1⟩ := inB_of hn
 rcases hrow with h0 | ⟨bk, off, rfl, hbw, hcl⟩
 ·rw [h0] at hl1; simp at hl1
 have Hcl := hide hcl
 have Hr := hide hr
 clear hcl hr hn
 go_enter func287, ntmps287
 go_wp2_with fail
 go_step3
 go_wp2_with fail
 go_step3
 go_wp2_with fail
 go_loopw [5] (fun i wr => ∃ k : Nat, k + 1 ≤ ps.length ∧ i = .int .i64 k ∧ (∀ j, j < k → enoughB need (paceAt ps j) = false) ∧ Below w.heap.size w wr) (fun i _ => ps.length - (intOf i).toNat)
 case atStart => exact ⟨0, by omega, rfl, fun j hj => by omega, alBrf _ _⟩
 case round =>
  obtain ⟨k, hk, rfl, hlo, hb⟩ := hrel
  have Hlo := hide hlo
  have Hb := hide hb
  clear hlo
  by_cases hlast : k + 1 = ps.length
  ·clear hb
   have he : (k : Int) = (ps.length : Int) - 1 := by omega
   have Hp := hide (paceN_eq need ps k hk (uh Hlo) (.inl hlast))
   go_wp2_with fail
   (try rw [Exit.noGoto_ret])
   go_ret
   exact ⟨ret_int (by rw [uh Hp]), uh Hb⟩
  ·have hne : ¬ (k : Int) = (ps.length : Int) - 1 := by omega
   obtain ⟨c0, c1⟩ := uh Hcl k (by omega)
   rw [← hb.cell (p := ⟨bk, off + k * 2, none⟩) hbw] at c0
   rw [← hb.cell (p := ⟨bk, off + k * 2 + 1, none⟩) hbw] at c1
   have hpb := room_pace (uh Hr) (k := k) (show k < ps.length by omega)
   simp only at hpb
   generalize hp : paceAt ps k = p at c0 c1 hpb
   have Hp := hide hp
   clear hp hb
   obtain ⟨f, c⟩ := p
   simp only at c0 c1 hpb
   obtain ⟨f0, f1, _, _⟩ := hpb
   go_wp2_with fail
   refine ck (enough_any f c need _ f0 f1 n0 n1) fun w1 hb1 => ?_
   have Hb1 := hide hb1
   clear hb1
   cases hen : enoughB need (f, c)
   ·go_wp2_with fail
    go_roundw
    case rel => exact ⟨k + 1, by omega, by go_num, next_all (uh Hlo) (by rw [uh Hp]; exact hen), (uh Hb).trans ((uh Hb1).mono (uh Hb).size)⟩
    case measure => exact ms
   ·have Hq := hide (paceN_eq need ps k hk (uh Hlo) (.inr (by rw [uh Hp]; exact hen)))
    go_wp2_with fail
    (try rw [Exit.noGoto_ret])
    go_ret
    exact ⟨ret_int (by rw [uh Hq]), (uh Hb).trans ((uh Hb1).mono (uh Hb).size)⟩
theorem implPaceFor_any {w : World} {v : Value} {ps : List PaceV} (b need : Int) (h : IsPaces w v ps) :
  cB 235 #[.agg #[.int .i64 b, v], .int .i64 need] w (.int .i64 (paceForV (b, ps) need)) := by
 have Hv := hide h
 obtain ⟨a, cap, rfl, hc, hm, hrow⟩ := h
 clear hrow
 cases hr : roomB (b, ps)
 ·rw [paceForV_f1 hr]
  go_enter func235, ntmps235
  go_wp2_with fail
  refine ck (implRoomOk_any b ((uh Hv).below ((ba _ _)))) fun w1 hb => ?_
  have B1 : Hid (Below w.heap.size w w1) := hide (((ba _ _)).trans (hb.mono (by simp)))
  clear hb
  go_wp2_with fail
  go_ret
  exact ⟨rfl, uh B1⟩
 cases hn : inB need 0 1000000
 ·rw [paceForV_f2 hn]
  go_enter func235, ntmps235
  go_wp2_with fail
  refine ck (implRoomOk_any b ((uh Hv).below ((ba _ _)))) fun w1 hb => ?_
  have B1 : Hid (Below w.heap.size w w1) := hide (((ba _ _)).trans (hb.mono (by simp)))
  clear hb
  go_wp2_with (go_at_call 219; refine (liesFrom_any _ _ _ _).mono ?_; rintro e w' ⟨rfl, rfl⟩)
  go_ret
  exact ⟨rfl, uh B1⟩
 ·rw [paceForV_t hr hn]
  have Hr := hide hr
  go_enter func235, ntmps235
  go_wp2_with fail
  refine ck (implRoomOk_any b ((uh Hv).below ((ba _ _)))) fun w1 hb => ?_
  have x1 : w1.cell? ⟨w.heap.size, 1, none⟩ = some (.slice a ps.length cap) := (hb.cell (p := ⟨w.heap.size, 1, none⟩) (by simp)).trans (by simp)
  have B1 : Hid (Below w.heap.size w w1) := hide (((ba _ _)).trans (hb.mono (by simp)))
  clear hb
  go_wp2_with (go_at_call 219; refine (liesFrom_any _ _ _ _).mono ?_; rintro e w' ⟨rfl, rfl⟩)
  refine ck (slowest_any b need ((uh Hv).below (uh B1)) (uh Hr) hn) fun w2 hb2 => ?_
  have Hb2 := hide hb2
  clear hb2
  go_wp2_with fail
  go_ret
  exact ⟨rfl, (uh B1).trans ((uh Hb2).mono (uh B1).size)⟩
theorem l5Work_any (x : Int) (w : World) : cE 78 #[.int .i64 x] w (.bool (inB x 0 1000000)) := by
 go_enter func78, ntmps78
 go_wp2_with (go_at_call 129; refine (l1In_any _ _ _ _).mono ?_; rintro e w' ⟨rfl, rfl⟩)
 go_ret
 exact ⟨rfl, rfl⟩
theorem specPaceFor_any {w : World} {v : Value} {ps : List PaceV} (b need : Int) (h : IsPaces w v ps) :
  cB 240 #[.agg #[.int .i64 b, v], .int .i64 need] w (.int .i64 (paceForV (b, ps) need)) := by
 have Hv := hide h
 obtain ⟨a, cap, rfl, hc, hm, hrow⟩ := h
 clear hrow
 cases hr : roomB (b, ps)
 ·rw [paceForV_f1 hr]
  go_enter func240, ntmps240
  go_wp2_with fail
  refine ck (specRoomOk_any b ((uh Hv).below ((ba _ _)))) fun w1 hb => ?_
  have B1 : Hid (Below w.heap.size w w1) := hide (((ba _ _)).trans (hb.mono (by simp)))
  clear hb
  go_wp2_with fail
  go_ret
  exact ⟨rfl, uh B1⟩
 cases hn : inB need 0 1000000
 ·rw [paceForV_f2 hn]
  go_enter func240, ntmps240
  go_wp2_with fail
  refine ck (specRoomOk_any b ((uh Hv).below ((ba _ _)))) fun w1 hb => ?_
  have B1 : Hid (Below w.heap.size w w1) := hide (((ba _ _)).trans (hb.mono (by simp)))
  clear hb
  go_wp2_with (go_at_call 78; refine (l5Work_any _ _).mono ?_; rintro e w' ⟨rfl, rfl⟩)
  go_ret
  exact ⟨rfl, uh B1⟩
 rw [paceForV_t hr hn]
 have Hr := hide hr
 have hn' := hn
 obtain ⟨n0, n1⟩ := inB_of hn'
 clear hn'
 go_enter func240, ntmps240
 go_wp2_with fail
 refine ck (specRoomOk_any b ((uh Hv).below ((ba _ _)))) fun w1 hb => ?_
 have x1 : w1.cell? ⟨w.heap.size, 1, none⟩ = some (.slice a ps.length cap) := (hb.cell (p := ⟨w.heap.size, 1, none⟩) (by simp)).trans (by simp)
 have B1 : Hid (Below w.heap.size w w1) := hide (((ba _ _)).trans (hb.mono (by simp)))
 clear hb
 have hv1 := (uh Hv).below (uh B1)
 obtain ⟨a', cap', he, _, _, hrow⟩ := hv1
 cases he
 have hbd := room_bd (uh Hr)
 simp only at hbd
 obtain ⟨_, _, hl1, hl4⟩ := hbd
 rcases hrow with h0 | ⟨bk, off, rfl, hbw, hcl⟩
 ·rw [h0] at hl1; simp at hl1
 have Hcl := hide hcl
 clear hcl
 go_wp2_with (go_at_call 78; refine (l5Work_any _ _).mono ?_; rintro e w' ⟨rfl, rfl⟩)
 clear hr hn
 go_loop [5] (fun i => ∃ k : Nat, k + 1 ≤ ps.length ∧ i = .int .i64 k ∧ (∀ j, j < k → enoughB need (paceAt ps j) = false)) (fun i => ps.length - (intOf i).toNat)
 case atStart => exact ⟨0, by omega, rfl, fun j hj => by omega⟩
 case round =>
  obtain ⟨k, hk, rfl, hlo⟩ := hrel
  have Hlo := hide hlo
  clear hlo
  by_cases hlast : k + 1 = ps.length
  ·have Hp := hide (paceN_eq need ps k hk (uh Hlo) (.inl hlast))
   have hd : ¬ (k : Int) + 1 < (ps.length : Int) := by omega
   go_wp2_with fail
   go_ret
   exact ⟨ret_int (by rw [uh Hp]), uh B1⟩
  ·have hd : (k : Int) + 1 < (ps.length : Int) := by omega
   obtain ⟨c0, c1⟩ := uh Hcl k (by omega)
   have hpb := room_pace (uh Hr) (k := k) (show k < ps.length by omega)
   simp only at hpb
   generalize hp : paceAt ps k = p at c0 c1 hpb
   have Hp := hide hp
   clear hp
   obtain ⟨f, c⟩ := p
   simp only at c0 c1 hpb
   obtain ⟨f0, f1, _, _⟩ := hpb
   by_cases hen : 4 * f < 5 * need
   ·go_wp2_with fail
    go_round
    case rel => exact ⟨k + 1, by omega, by go_num, next_all (uh Hlo) (by rw [uh Hp]; exact enough_f hen)⟩
    case measure => exact ms
   ·have Hq := hide (paceN_eq need ps k hk (uh Hlo) (.inr (by rw [uh Hp]; exact enough_t (by simp only; omega))))
    go_wp2_with fail
    go_ret
    exact ⟨ret_int (by rw [uh Hq]), uh B1⟩
theorem implCoalFor_any {w : World} {v : Value} {ps : List PaceV} (b pace work : Int) (h : IsPaces w v ps) :
  cB 234 #[.agg #[.int .i64 b, v], .int .i64 pace, .int .i64 work] w (.int .i64 (coalForV (b, ps) pace work)) := by
 have Hv := hide h
 obtain ⟨a, cap, rfl, hc, hm, hrow⟩ := h
 clear hrow
 have hl : (ps.length : Int) ≤ 9223372036854775807 := by omega
 cases hr : roomB (b, ps)
 ·rw [coalForV_f1 hr]
  go_enter func234, ntmps234
  go_wp2_with fail
  refine ck (implRoomOk_any b ((uh Hv).below ((ba _ _)))) fun w1 hb => ?_
  have B1 : Hid (Below w.heap.size w w1) := hide (((ba _ _)).trans (hb.mono (by simp)))
  clear hb
  go_wp2_with fail
  go_ret
  exact ⟨rfl, uh B1⟩
 by_cases hp0 : pace < 0
 ·rw [coalForV_f3 (inB_f (by omega))]
  go_enter func234, ntmps234
  go_wp2_with fail
  refine ck (implRoomOk_any b ((uh Hv).below ((ba _ _)))) fun w1 hb => ?_
  have B1 : Hid (Below w.heap.size w w1) := hide (((ba _ _)).trans (hb.mono (by simp)))
  clear hb
  go_wp2_with fail
  go_ret
  exact ⟨rfl, uh B1⟩
 by_cases hp1 : (ps.length : Int) ≤ pace
 ·rw [coalForV_f3 (inB_f (by simp only; omega))]
  go_enter func234, ntmps234
  go_wp2_with fail
  refine ck (implRoomOk_any b ((uh Hv).below ((ba _ _)))) fun w1 hb => ?_
  have x1 : w1.cell? ⟨w.heap.size, 1, none⟩ = some (.slice a ps.length cap) := (hb.cell (p := ⟨w.heap.size, 1, none⟩) (by simp)).trans (by simp)
  have B1 : Hid (Below w.heap.size w w1) := hide (((ba _ _)).trans (hb.mono (by simp)))
  clear hb
  go_wp2_with fail
  go_ret
  exact ⟨rfl, uh B1⟩
 cases hn : inB work 0 1000000
 ·rw [coalForV_f2 hn]
  go_enter func234, ntmps234
  go_wp2_with fail
  refine ck (implRoomOk_any b ((uh Hv).below ((ba _ _)))) fun w1 hb => ?_
  have x1 : w1.cell? ⟨w.heap.size, 1, none⟩ = some (.slice a ps.length cap) := (hb.cell (p := ⟨w.heap.size, 1, none⟩) (by simp)).trans (by simp)
  have B1 : Hid (Below w.heap.size w w1) := hide (((ba _ _)).trans (hb.mono (by simp)))
  clear hb
  go_wp2_with (go_at_call 219; refine (liesFrom_any _ _ _ _).mono ?_; rintro e w' ⟨rfl, rfl⟩)
  go_ret
  exact ⟨rfl, uh B1⟩
 rw [coalForV_t hr hn (inB_t (by omega) (by simp only; omega))]
 obtain ⟨k, rfl⟩ := Int.eq_ofNat_of_zero_le (show 0 ≤ pace by omega)
 have hk : k < ps.length := by omega
 rw [alInc]
 simp only
 generalize hpk : paceAt ps k = p
 have Hpk := hide hpk
 clear hpk
 obtain ⟨f, c⟩ := p
 simp only
 have Hn := hide hn
 go_enter func234, ntmps234
 go_wp2_with fail
 refine ck (implRoomOk_any b ((uh Hv).below ((ba _ _)))) fun w1 hb => ?_
 have x1 : w1.cell? ⟨w.heap.size, 1, none⟩ = some (.slice a ps.length cap) := (hb.cell (p := ⟨w.heap.size, 1, none⟩) (by simp)).trans (by simp)
 have B1 : Hid (Below w.heap.size w w1) := hide (((ba _ _)).trans (hb.mono (by simp)))
 have hz1 : w.heap.size + 1 ≤ w1.heap.size := by have := hb.size; simpa using this
 clear hb
 have hv1 := (uh Hv).below (uh B1)
 obtain ⟨a', cap', he, _, _, hrow⟩ := hv1
 cases he
 rcases hrow with h0 | ⟨bk, off, rfl, hbw, hcl⟩
 ·rw [h0] at hk; simp at hk
 obtain ⟨c0, c1⟩ := hcl k hk
 clear hcl
 rw [uh Hpk] at c0 c1
 simp only at c0 c1
 go_wp2_with (go_at_call 219; refine (liesFrom_any _ _ _ _).mono ?_; rintro e w' ⟨rfl, rfl⟩)
 refine ck (implMulDiv_any c work f _) fun w2 hb2 => ?_
 have Hb2 := hide hb2
 clear hb2
 go_wp2_with fail
 go_ret
 exact ⟨rfl, (uh B1).trans (((alBrf _ _).alloc (uh B1).size _).trans ((uh Hb2).mono (by simp; omega)))⟩
theorem specCoalFor_any {w : World} {v : Value} {ps : List PaceV} (b pace work : Int) (h : IsPaces w v ps) :
  cB 239 #[.agg #[.int .i64 b, v], .int .i64 pace, .int .i64 work] w (.int .i64 (coalForV (b, ps) pace work)) := by
 have Hv := hide h
 obtain ⟨a, cap, rfl, hc, hm, hrow⟩ := h
 clear hrow
 have hl : (ps.length : Int) ≤ 9223372036854775807 := by omega
 cases hr : roomB (b, ps)
 ·rw [coalForV_f1 hr]
  go_enter func239, ntmps239
  go_wp2_with fail
  refine ck (specRoomOk_any b ((uh Hv).below ((ba _ _)))) fun w1 hb => ?_
  have B1 : Hid (Below w.heap.size w w1) := hide (((ba _ _)).trans (hb.mono (by simp)))
  clear hb
  go_wp2_with fail
  go_ret
  exact ⟨rfl, uh B1⟩
 cases hn : inB work 0 1000000
 ·rw [coalForV_f2 hn]
  go_enter func239, ntmps239
  go_wp2_with fail
  refine ck (specRoomOk_any b ((uh Hv).below ((ba _ _)))) fun w1 hb => ?_
  have B1 : Hid (Below w.heap.size w w1) := hide (((ba _ _)).trans (hb.mono (by simp)))
  clear hb
  go_wp2_with (go_at_call 78; refine (l5Work_any _ _).mono ?_; rintro e w' ⟨rfl, rfl⟩)
  go_ret
  exact ⟨rfl, uh B1⟩
 cases hp : inB pace 0 ((ps.length : Int) - 1)
 ·rw [coalForV_f3 hp]
  go_enter func239, ntmps239
  go_wp2_with fail
  refine ck (specRoomOk_any b ((uh Hv).below ((ba _ _)))) fun w1 hb => ?_
  have x1 : w1.cell? ⟨w.heap.size, 1, none⟩ = some (.slice a ps.length cap) := (hb.cell (p := ⟨w.heap.size, 1, none⟩) (by simp)).trans (by simp)
  have B1 : Hid (Below w.heap.size w w1) := hide (((ba _ _)).trans (hb.mono (by simp)))
  clear hb
  go_wp2_with (first | (go_at_call 78; refine (l5Work_any _ _).mono ?_; rintro e w' ⟨rfl, rfl⟩) | (go_at_call 129; refine (l1In_any _ _ _ _).mono ?_; rintro e w' ⟨rfl, rfl⟩))
  go_ret
  exact ⟨rfl, uh B1⟩
 rw [coalForV_t hr hn hp]
 have hpp := inB_of hp
 obtain ⟨hp0, hp1⟩ := hpp
 obtain ⟨k, rfl⟩ := Int.eq_ofNat_of_zero_le hp0
 have hk : k < ps.length := by omega
 rw [alInc]
 simp only
 generalize hpk : paceAt ps k = p
 have Hpk := hide hpk
 clear hpk
 obtain ⟨f, c⟩ := p
 simp only
 go_enter func239, ntmps239
 go_wp2_with fail
 refine ck (specRoomOk_any b ((uh Hv).below ((ba _ _)))) fun w1 hb => ?_
 have x1 : w1.cell? ⟨w.heap.size, 1, none⟩ = some (.slice a ps.length cap) := (hb.cell (p := ⟨w.heap.size, 1, none⟩) (by simp)).trans (by simp)
 have B1 : Hid (Below w.heap.size w w1) := hide (((ba _ _)).trans (hb.mono (by simp)))
 clear hb
 have hv1 := (uh Hv).below (uh B1)
 obtain ⟨a', cap', he, _, _, hrow⟩ := hv1
 cases he
 rcases hrow with h0 | ⟨bk, off, rfl, hbw, hcl⟩
 ·rw [h0] at hk; simp at hk
 obtain ⟨c0, c1⟩ := hcl k hk
 clear hcl
 rw [uh Hpk] at c0 c1
 simp only at c0 c1
 go_wp2_with (first | (go_at_call 78; refine (l5Work_any _ _).mono ?_; rintro e w' ⟨rfl, rfl⟩) | (go_at_call 129; refine (l1In_any _ _ _ _).mono ?_; rintro e w' ⟨rfl, rfl⟩))
 go_quiet (exact alCqs (specMulDiv_any _ _ _ _))
 go_wp2_with fail
 go_ret
 exact ⟨rfl, below_drewN (uh B1) _⟩
theorem implLeastCoal_any {w : World} {v : Value} {ps : List PaceV} (b need work : Int) (h : IsPaces w v ps) :
  cB 187 #[.agg #[.int .i64 b, v], .int .i64 need, .int .i64 work] w (.int .i64 (leastV (b, ps) need work)) := by
 have Hv := hide h
 obtain ⟨a, cap, rfl, hc, hm, hrow⟩ := h
 clear hrow
 have k0 := alCrg (w := w.alloc (.cells #[.int .i64 b, .slice a ps.length cap] 130)) (a := ⟨w.heap.size, 0, none⟩) (v := .int .i64 b) (by simp)
 have k1 := alCrg (w := w.alloc (.cells #[.int .i64 b, .slice a ps.length cap] 130)) (a := ⟨w.heap.size, 1, none⟩) (v := .slice a ps.length cap) (by simp)
 have Ha : Hid (IsPaces (w.alloc (.cells #[.int .i64 b, .slice a ps.length cap] 130)) (.slice a ps.length cap) ps) := hide ((uh Hv).below ((ba _ _)))
 go_enter func187, ntmps187
 go_wp2_with fail
 refine wq ?_
 repeat (go_big_quiet_step (first | exact alCro (implPaceFor_any b need ((uh Ha).below (alBrg _ _ _))) | exact alCro (implCoalFor_any b _ work ((uh Ha).below (alBrg _ _ _)))))
 refine wpQuiet_nil ?_
 intro _ hw'
 obtain ⟨⟨dq, osq⟩, hw''⟩ := hw'
 subst hw''
 go_wp2_with fail
 go_ret
 exact ⟨rfl, ((ba _ _)).trans ((alBrg _ _ _).mono (by simp))⟩
theorem specLeastCoal_any {w : World} {v : Value} {ps : List PaceV} (b need work : Int) (h : IsPaces w v ps) :
  cB 191 #[.agg #[.int .i64 b, v], .int .i64 need, .int .i64 work] w (.int .i64 (leastV (b, ps) need work)) := by
 have Hv := hide h
 obtain ⟨a, cap, rfl, hc, hm, hrow⟩ := h
 clear hrow
 have k0 := alCrg (w := w.alloc (.cells #[.int .i64 b, .slice a ps.length cap] 130)) (a := ⟨w.heap.size, 0, none⟩) (v := .int .i64 b) (by simp)
 have k1 := alCrg (w := w.alloc (.cells #[.int .i64 b, .slice a ps.length cap] 130)) (a := ⟨w.heap.size, 1, none⟩) (v := .slice a ps.length cap) (by simp)
 have Ha : Hid (IsPaces (w.alloc (.cells #[.int .i64 b, .slice a ps.length cap] 130)) (.slice a ps.length cap) ps) := hide ((uh Hv).below ((ba _ _)))
 go_enter func191, ntmps191
 go_wp2_with fail
 refine wq ?_
 repeat (go_big_quiet_step (first | exact alCro (specPaceFor_any b need ((uh Ha).below (alBrg _ _ _))) | exact alCro (specCoalFor_any b _ work ((uh Ha).below (alBrg _ _ _)))))
 refine wpQuiet_nil ?_
 intro _ hw'
 obtain ⟨⟨dq, osq⟩, hw''⟩ := hw'
 subst hw''
 go_wp2_with fail
 go_ret
 exact ⟨rfl, ((ba _ _)).trans ((alBrg _ _ _).mono (by simp))⟩
end Go.Proofs.YtgdpaigcmoifbaaGreat
