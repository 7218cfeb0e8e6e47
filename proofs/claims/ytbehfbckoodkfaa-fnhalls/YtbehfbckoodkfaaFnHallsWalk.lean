/- The law FnHalls: at every row of bytes each bench stands in just one room, whose force it has. No condition but that the bytes can be read. -/
import Derived.Test.YtbehfbckoodkfaaHallDraw4
import Derived.Test.YtbehfbckoodkfaaHallBits
import Derived.Test.YtbehfbckoodkfaaHallRoom3
import Derived.Deep.RegionHeld3
import Derived.Deep.DrawnRows
namespace Go.Proofs.Ytbehfbckoodkfaa
open Go.ChangeShapes Go.WideShapes Go.ChangeAt Go.RowKit Go.Sort
open Draw (St Off Row Cur IsRow)
set_option linter.unusedVariables false
attribute [local go_sem ↓] Go.wp_at_zero Go.wp_at_succ

set_option maxRecDepth 100000 in
set_option maxHeartbeats 8000000 in
theorem walkFnHalls (a0 : Option Addr) (len0 cap0 : Nat) (z0 : List Int) (w : World) (w0 : IsRow .u8 w a0 len0 cap0 z0) :
    Calls Try.prog 7 #[.slice a0 len0 cap0] w fun e w' => e = .returned (.bool true) ∧ Below w.heap.size w w' := by
  by_cases hbig : 4096 < len0
  · go_enter Try.func7, Try.ntmps7
    go_wp2_with fail
    refine (Draw.big_yes _ _ _ _ hbig).mono ?_
    rintro e w' ⟨rfl, rfl⟩
    go_wp2_with fail
    go_ret
    exact ⟨rfl, Below.refl _ _⟩
  have HRow := hide (Draw.row_of w0 (by omega))
  clear w0
  go_enter Try.func7, Try.ntmps7
  go_wp2_with fail
  refine (Draw.big_no _ _ _ _ (by omega)).mono ?_
  rintro e w' ⟨rfl, hw'⟩
  subst w'
  go_wp2_with fail
  refine (drawRoomOf_any _ _ _ _ (unhide HRow)).mono ?_
  rintro e w1 ⟨v, rs, b, rfl, hfew, hir, hb0, hb1, hbl1⟩
  obtain ⟨va, vcap, rfl, hvc, hvm⟩ := hir.rooms.shape
  have HIr := hide hir.rooms
  have HB1 := hide hbl1
  clear hir hbl1 hfew
  go_wp2_with fail
  refine (implRoomOf_any b ((unhide HIr).alloc _)).mono ?_
  rintro e w2 ⟨rfl, hbl2⟩
  have hz2 : w1.heap.size + 1 ≤ w2.heap.size := by have := hbl2.size; simpa using this
  have HIr2 := hide (((unhide HIr).alloc _).below hbl2)
  have c2 : w2.cell? ⟨w1.heap.size, 0, none⟩ = some (.slice va rs.length vcap) := (hbl2.cell (p := ⟨w1.heap.size, 0, none⟩) (by simp)).trans (by simp)
  have HB2 : Hid (Below w.heap.size w w2) := hide (((unhide HB1).alloc (unhide HB1).size _).trans (hbl2.mono (by have := (unhide HB1).size; simp; omega)))
  clear hbl2
  go_wp2_with fail
  refine (implForceOf_any b (unhide HIr2)).mono ?_
  rintro e w3 ⟨rfl, hbl3⟩
  have hz3 := hbl3.size
  have HIr3 := hide ((unhide HIr2).below hbl3)
  have c3 := (hbl3.cell (p := ⟨w1.heap.size, 0, none⟩) (show w1.heap.size < w2.heap.size by omega)).trans c2
  have HB3 : Hid (Below w.heap.size w w3) := hide ((unhide HB2).trans (hbl3.mono (unhide HB2).size))
  clear hbl3 c2
  go_wp2_with fail
  refine (implBenchesIn_any (unhide HIr3)).mono ?_
  rintro e w4 ⟨rfl, hbl4⟩
  have hz4 := hbl4.size
  have HIr4 := hide ((unhide HIr3).below hbl4)
  have c4 := (hbl4.cell (p := ⟨w1.heap.size, 0, none⟩) (show w1.heap.size < w3.heap.size by omega)).trans c3
  have HB4 : Hid (Below w.heap.size w w4) := hide ((unhide HB3).trans (hbl4.mono (unhide HB3).size))
  clear hbl4 c3
  go_wp2_with fail
  refine (drawBenchSet_any _ _ _ _ (Draw.row_later (unhide HRow) (unhide HB4))).mono ?_
  rintro e w5 ⟨u, us, m, rfl, _, hiu, hm0, hm1, hbl5⟩
  obtain ⟨ua, ucap, rfl, huc, hum⟩ := hiu.rooms.shape
  have hz5 := hbl5.size
  have HIu := hide hiu.rooms
  have HIr5 := hide ((unhide HIr4).below hbl5)
  have c5 := (hbl5.cell (p := ⟨w1.heap.size, 0, none⟩) (show w1.heap.size < w4.heap.size by omega)).trans c4
  have HB5 : Hid (Below w.heap.size w w5) := hide ((unhide HB4).trans (hbl5.mono (unhide HB4).size))
  clear hbl5 c4 hiu
  go_wp2_with fail
  refine (implBenchSet_any m ((unhide HIu).alloc _)).mono ?_
  rintro e w6 ⟨rfl, hbl6⟩
  have hz6 : w5.heap.size + 1 ≤ w6.heap.size := by have := hbl6.size; simpa using this
  have HIu6 := hide (((unhide HIu).alloc _).below hbl6)
  have HIr6 := hide (((unhide HIr5).alloc (.cells #[.slice ua us.length ucap] 45)).below hbl6)
  have c6 := (hbl6.cell (p := ⟨w1.heap.size, 0, none⟩) (by simp; omega)).trans ((World.cell?_alloc_lt _ _ _ (show w1.heap.size < w5.heap.size by omega)).trans c5)
  have d6 : w6.cell? ⟨w5.heap.size, 0, none⟩ = some (.slice ua us.length ucap) := (hbl6.cell (p := ⟨w5.heap.size, 0, none⟩) (by simp)).trans (by simp)
  have HB6 : Hid (Below w.heap.size w w6) := hide (((unhide HB5).alloc (unhide HB5).size _).trans (hbl6.mono (by have := (unhide HB5).size; simp; omega)))
  clear hbl6 c5
  go_wp2_with fail
  refine (drawRoomOk_any _ _ _ _ (Draw.row_later (unhide HRow) (unhide HB6))).mono ?_
  rintro e w7 ⟨ob, ov, ops, rfl, hio, hbl7⟩
  obtain ⟨oa, ocap, rfl, _⟩ : ∃ a cap, ov = .slice a ops.length cap ∧ True := by obtain ⟨a, cap, rfl, _⟩ := hio; exact ⟨a, cap, rfl, trivial⟩
  have hz7 := hbl7.size
  have HIo := hide hio
  have HIu7 := hide ((unhide HIu6).below hbl7)
  have HIr7 := hide ((unhide HIr6).below hbl7)
  have c7 := (hbl7.cell (p := ⟨w1.heap.size, 0, none⟩) (show w1.heap.size < w6.heap.size by omega)).trans c6
  have d7 := (hbl7.cell (p := ⟨w5.heap.size, 0, none⟩) (show w5.heap.size < w6.heap.size by omega)).trans d6
  have HB7 : Hid (Below w.heap.size w w7) := hide ((unhide HB6).trans (hbl7.mono (unhide HB6).size))
  clear hbl7 c6 d6 hio
  have W8 : ∃ W, W = w7.alloc (.cells #[.int .i64 ob, .slice oa ops.length ocap] 26) := ⟨_, rfl⟩
  obtain ⟨W, hW⟩ := W8
  have k1 := cell_regrown (w := w7.alloc (.cells #[.int .i64 ob, .slice oa ops.length ocap] 26)) (a := ⟨w1.heap.size, 0, none⟩) (v := .slice va rs.length vcap) ((World.cell?_alloc_lt _ _ _ (show w1.heap.size < w7.heap.size by omega)).trans c7)
  have k2 := cell_regrown (w := w7.alloc (.cells #[.int .i64 ob, .slice oa ops.length ocap] 26)) (a := ⟨w5.heap.size, 0, none⟩) (v := .slice ua us.length ucap) ((World.cell?_alloc_lt _ _ _ (show w5.heap.size < w7.heap.size by omega)).trans d7)
  have k3 := cell_regrown (w := w7.alloc (.cells #[.int .i64 ob, .slice oa ops.length ocap] 26)) (a := ⟨w7.heap.size, 0, none⟩) (v := .int .i64 ob) (by simp)
  have k4 := cell_regrown (w := w7.alloc (.cells #[.int .i64 ob, .slice oa ops.length ocap] 26)) (a := ⟨w7.heap.size, 1, none⟩) (v := .slice oa ops.length ocap) (by simp)
  have HIr8 := hide ((unhide HIr7).alloc (.cells #[.int .i64 ob, .slice oa ops.length ocap] 26))
  have HIu8 := hide ((unhide HIu7).alloc (.cells #[.int .i64 ob, .slice oa ops.length ocap] 26))
  have HIo8 : Hid (IsPaces (w7.alloc (.cells #[.int .i64 ob, .slice oa ops.length ocap] 26)) (.slice oa ops.length ocap) ops) := hide ((unhide HIo).below ((Below.refl _ _).alloc (Nat.le_refl _) _))
  clear hW
  go_wp2_with fail
  refine wp_region_quiet_below (by kernel_rfl) (by kernel_rfl) ?_
  repeat (go_big_quiet_step (first | exact Calls.regrown_of (specRoomOf_any b ((unhide HIr8).below (below_regrown _ _ _))) | exact Calls.regrown_of (specForceOf_any b ((unhide HIr8).below (below_regrown _ _ _))) | exact Calls.regrown_of (specBenchesIn_any ((unhide HIr8).below (below_regrown _ _ _))) | exact Calls.regrown_of (specBenchSet_any m ((unhide HIu8).below (below_regrown _ _ _))) | exact Calls.regrown_of (implRoomOk_any ob ((unhide HIo8).below (below_regrown _ _ _))) | exact Calls.regrown_of (specRoomOk_any ob ((unhide HIo8).below (below_regrown _ _ _))) | exact Calls.regrown_of (implHallOk_any ((unhide HIr8).below (below_regrown _ _ _))) | exact Calls.regrown_of (specHallOk_any ((unhide HIr8).below (below_regrown _ _ _)))))
  refine wpQuiet_nil ?_
  intro _ hw'
  obtain ⟨⟨dq, osq⟩, hw''⟩ := hw'
  subst hw''
  have hbq := below_regrown (w7.alloc (.cells #[.int .i64 ob, .slice oa ops.length ocap] 26)) dq osq
  have c9 := k1 dq osq
  have HIr9 := hide ((unhide HIr8).below hbq)
  have hz9 := hbq.size
  have HB9 : Hid (Below w.heap.size w (grow (redrawn (w7.alloc (.cells #[.int .i64 ob, .slice oa ops.length ocap] 26)) dq) osq)) := hide (((unhide HB7).alloc (unhide HB7).size _).trans (hbq.mono (by have := (unhide HB7).size; simp; omega)))
  simp only [World.size_alloc] at hz9
  clear hbq k1 k2 k3 k4 HIr8 HIu8 HIo8 c7 d7
  generalize grow (redrawn (w7.alloc (.cells #[.int .i64 ob, .slice oa ops.length ocap] 26)) dq) osq = w9 at *
  cases hh : hallB rs
  · have e1 := roomV_f (isBench_f1 (n := b) hh)
    have e2 := forceV_f (isBench_f1 (n := b) hh)
    have e3 := benchesV_f hh
    rw [e1, e2, e3]
    clear e1 e2 e3
    have Hh := hide hh
    clear hh
    go_wp2_with fail
    refine (specHallOk_any (unhide HIr9)).mono ?_
    rw [unhide Hh]
    rintro e w10 ⟨rfl, hbl10⟩
    have Hbl10 := hide hbl10
    clear hbl10
    go_wp2_with fail
    go_ret
    exact ⟨rfl, (unhide HB9).trans ((unhide Hbl10).mono (unhide HB9).size)⟩
  have Hh := hide hh
  have hl3 : rs.length ≤ 3 := (hallB_of hh).2.1
  have e3 := benchesV_t hh
  rw [e3]
  clear e3 hh
  go_wp2_with fail
  refine (specHallOk_any (unhide HIr9)).mono ?_
  rw [unhide Hh]
  rintro e w10 ⟨rfl, hbl10⟩
  have hz10 := hbl10.size
  have c10 := (hbl10.cell (p := ⟨w1.heap.size, 0, none⟩) (show w1.heap.size < w9.heap.size by omega)).trans c9
  have HIr10 := hide ((unhide HIr9).below hbl10)
  have HB10 : Hid (Below w.heap.size w w10) := hide ((unhide HB9).trans (hbl10.mono (unhide HB9).size))
  clear hbl10 c9
  go_wp2_with fail
  go_loopw [12, 13] (fun q i wr => ∃ k : Nat, k ≤ rs.length ∧ i = .int .i64 k ∧ q = .int .i64 (bitsV 0 (benchSum (rs.take k))) ∧ Below w10.heap.size w10 wr) (fun _ i _ => rs.length - (intOf i).toNat)
  case atStart => exact ⟨0, Nat.zero_le _, rfl, rfl, Below.refl _ _⟩
  case round =>
    obtain ⟨k, hk, rfl, rfl, hbr⟩ := hrel
    have hzr := hbr.size
    have cr := (hbr.cell (p := ⟨w1.heap.size, 0, none⟩) (show w1.heap.size < w10.heap.size by omega)).trans c10
    have hirr := (unhide HIr10).below hbr
    have HIrr := hide hirr
    have Hbr := hide hbr
    clear hbr
    by_cases hlt : k < rs.length
    · have hroom : isRoom rs k = true := by unfold isRoom; rw [unhide Hh, inB_t (by omega) (by omega)]; rfl
      have hset := setV_t hroom
      rw [Int.toNat_natCast] at hset
      have hlo := benches_hall (unhide Hh) k (by omega)
      have hmono := benchSum_mono (hallB_of (unhide Hh)).2.2.1 (i := k) 1 (by omega)
      have hhi8 : benchSum (rs.take (k + 1)) ≤ 8 := by
        have := benchSum_mono (hallB_of (unhide Hh)).2.2.1 (i := k + 1) (rs.length - (k + 1)) (by omega)
        rw [show k + 1 + (rs.length - (k + 1)) = rs.length by omega, benchSum_all] at this
        have := (hallB_of (unhide Hh)).2.2.2
        omega
      have hjoin := bits_join hlo.1 hmono hhi8
      have hA := bits_range (lo := 0) (hi := benchSum (rs.take k)) (by omega) hlo.1 (by omega)
      have hK := bits_range hlo.1 hmono hhi8
      have hlen := bits_len hlo.1 hmono hhi8
      have hmem := bits_mem (b := b) hlo.1 hmono hhi8 hb0 hb1
      have hst := benchSum_take rs hlt
      have hiff : (decide (benchSum (rs.take k) ≤ b ∧ b < benchSum (rs.take (k + 1)))) = ((k : Int) == roomV rs b) := by
        cases hib : isBench rs b
        · rw [roomV_f hib]
          have h1 : ¬ (benchSum (rs.take k) ≤ b ∧ b < benchSum (rs.take (k + 1))) := fun hx => by
            have : isBench rs b = true := isBench_t (unhide Hh) (by omega) (by
              have := benchSum_mono (hallB_of (unhide Hh)).2.2.1 (i := k + 1) (rs.length - (k + 1)) (by omega)
              rw [show k + 1 + (rs.length - (k + 1)) = rs.length by omega, benchSum_all] at this
              omega)
            rw [hib] at this; cases this
          rw [decide_eq_false h1]; exact (beq_eq_false_iff_ne.2 (by omega)).symm
        · rw [roomV_t hib]
          have h1 := room_is hib hlt
          by_cases hx : roomN rs b = k
          · rw [decide_eq_true (h1.1 hx), hx]; simp
          · rw [decide_eq_false (fun h => hx (h1.2 h))]; exact (beq_eq_false_iff_ne.2 (by omega)).symm
      obtain ⟨aa, capp, hve, _, _, hrr⟩ := hirr
      cases hve
      rcases hrr with h0 | ⟨gb, go, rfl, hgb, hgc⟩
      · rw [h0] at hlt; simp at hlt
      obtain ⟨cg0, pv, cg1, _⟩ := hgc k hlt
      have hrb : (roomAt rs k).1 = benchSum (rs.take (k + 1)) - benchSum (rs.take k) := by omega
      rw [hrb] at cg0
      have Hset := hide hset
      have Hj2 := hide hjoin.2
      have hor : bits .or .i64 (bitsV 0 (benchSum (rs.take k))) (bitsV (benchSum (rs.take k)) (benchSum (rs.take (k + 1)))) = bitsV 0 (benchSum (rs.take k)) + bitsV (benchSum (rs.take k)) (benchSum (rs.take (k + 1))) := by rw [hjoin.2]; exact hjoin.1.symm
      have Hor := hide hor
      clear hor
      have hq3 : (memB (bitsV (benchSum (rs.take k)) (benchSum (rs.take (k + 1)))) b != ((k : Int) == roomV rs b)) = false := by rw [hmem, hiff]; simp
      have HQ3 := hide hq3
      have HLEN := hide hlen
      clear hgc hrb hset hjoin hq3 hlen hmem hst hiff hroom
      have Hrel : Hid (bits .or .i64 (bitsV 0 (benchSum (rs.take k))) (bitsV (benchSum (rs.take k)) (benchSum (rs.take (k + 1)))) = bitsV 0 (benchSum (rs.take (k + 1)))) := Hj2
      generalize bitsV 0 (benchSum (rs.take k)) = A at *
      generalize bitsV (benchSum (rs.take k)) (benchSum (rs.take (k + 1))) = K at *
      generalize benchSum (rs.take k) = lo at *
      generalize hhi : benchSum (rs.take (k + 1)) = hi at *
      have Hhi := hide hhi
      clear hhi
      obtain ⟨A0, A1⟩ := hA
      obtain ⟨K0, K1⟩ := hK
      have hq2 : (((mems K).length : Nat) : Int) = hi - lo := unhide HLEN
      have HQ2 := hide hq2
      clear hq2
      have hmlen := mems_len K
      clear Hj2
      go_wp2_with fail
      refine (implBenchSet_any (k : Int) (unhide HIrr)).mono ?_
      rw [unhide Hset]
      rintro e w11 ⟨rfl, hbl11⟩
      have hz11 := hbl11.size
      have c11 := (hbl11.cell (p := ⟨w1.heap.size, 0, none⟩) (show w1.heap.size < wr.heap.size by omega)).trans cr
      have g11 := (hbl11.cell (p := ⟨gb, go + k * 2, none⟩) hgb).trans cg0
      have Hbl11 := hide hbl11
      clear hbl11 cr cg0 cg1
      generalize hmn : (mems K).length = mn at *
      have Hmn := hide hmn
      clear hmn
      generalize hmb : memB K b = mb at *
      have Hmb := hide hmb
      clear hmb
      go_wp2_with fail
      have hbx : w1.heap.size < w11.heap.size := by omega
      have hby : gb < w11.heap.size := by omega
      clear hz2 hz3 hz4 hz5 hz6 hz7 hz9 hz10 hzr hm0 hm1 huc hum hb0 hb1 c10 hlo hmono hhi8 hl3 hbig HIrr HIr10 HLEN Hset
      have hwr : IntKind.i64.wrap (A + K) = A + K := by rw [IntKind.wrap_i64]; omega
      have hor := unhide Hor
      have hq2 := unhide HQ2
      clear Hor HQ2
      obtain rfl : mb = ((k : Int) == roomV rs b) := bne_eq_false_iff_eq.1 (unhide HQ3)
      clear HQ3
      go_region_held3 (fun w' => w'.cell? ⟨w1.heap.size, 0, none⟩ = some (.slice (some ⟨gb, go, none⟩) rs.length vcap) ∧ w'.cell? ⟨gb, go + k * 2, none⟩ = some (.int .i64 (hi - lo))) (first | go_keep | exact ⟨c12, g12⟩)
        (first
        | (go_at_call 36; refine (specMembers_any K _).mono ?_; rintro e w12 ⟨mv, rfl, hiv, hbl12⟩; obtain ⟨ma, mcap, hme, hml, _⟩ := hiv.view; rw [unhide Hmn] at hme hml; subst hme; have hbm : Below w11.heap.size w11 w12 := ⟨hbl12.os, hbl12.tape, hbl12.output, hbl12.size, hbl12.block⟩; have c12 := (hbm.cell (p := ⟨w1.heap.size, 0, none⟩) (show w1.heap.size < w11.heap.size by omega)).trans c11; have g12 := (hbm.cell (p := ⟨gb, go + k * 2, none⟩) (show gb < w11.heap.size by omega)).trans g11; have Hbm := hide hbm; clear hiv hbl12 hbm)
        | (go_at_call 37; refine (specInSet_any K b _).mono ?_; rw [unhide Hmb]; rintro e w13 ⟨rfl, hw13⟩; subst w13))
      all_goals
        go_wp2_with fail
        go_roundw
        case rel => exact ⟨k + 1, by omega, by go_num, by first | rw [unhide Hrel, unhide Hhi] | rw [← hor, unhide Hrel, unhide Hhi], (unhide Hbr).trans (((unhide Hbl11).trans ((unhide Hbm).mono hz11)).mono (unhide Hbr).size)⟩
        case measure => simp [intOf]; omega
    · obtain rfl : k = rs.length := by omega
      rw [benchSum_all]
      have hnb := benches_hall (unhide Hh) rs.length (Nat.le_refl _)
      rw [benchSum_all] at hnb
      have HFB : Hid (Below w.heap.size w wr) := hide ((unhide HB10).trans ((unhide Hbr).mono (unhide HB10).size))
      cases hib : isBench rs b
      · have e1 := roomV_f hib
        have e2 := forceV_f hib
        have hor : b < 0 ∨ benchSum rs ≤ b := by
          by_cases h1 : b < 0
          · exact .inl h1
          · by_cases h2 : benchSum rs ≤ b
            · exact .inr h2
            · have := isBench_t (unhide Hh) (by omega) (show b < benchSum rs by omega)
              rw [hib] at this; cases this
        rw [e1, e2]
        clear e1 e2 hib
        generalize benchSum rs = n at *
        by_cases h1 : b < 0
        · go_wp2_with fail
          go_ret
          exact ⟨rfl, unhide HFB⟩
        · have h2 : n ≤ b := by omega
          go_wp2_with fail
          go_ret
          exact ⟨rfl, unhide HFB⟩
      · have hbn := isBench_of hib
        have e1 := roomV_t hib
        have e2 := forceV_t hib
        have hlt := room_found hib
        rw [e1, e2]
        obtain ⟨gb, go, a', cap', rfl, hbw, dd1, p1, p4, sp, hbw', dd2⟩ := room_at hirr hlt (unhide Hh)
        obtain ⟨b', off', sp'⟩ := a'
        simp only at sp hbw' dd2
        subst sp
        obtain ⟨_, hb2, hb3⟩ := hbn
        clear e1 e2 hib hirr
        have hpw := pow_small hnb.1 hnb.2
        have Hbits : Hid (bitsV 0 (benchSum rs) = 2 ^ (benchSum rs).toNat - 1) := hide (by unfold bitsV; rfl)
        generalize bitsV 0 (benchSum rs) = S at *
        generalize benchSum rs = n at *
        generalize roomN rs b = r at *
        generalize lastForce (roomAt rs r).2 = fo at *
        generalize (roomAt rs r).2.length = pl at *
        have h1 : ¬ b < 0 := by omega
        have h2 : ¬ n ≤ b := by omega
        go_wp2_with fail
        go_ret
        exact ⟨rfl, unhide HFB⟩

end Go.Proofs.Ytbehfbckoodkfaa
