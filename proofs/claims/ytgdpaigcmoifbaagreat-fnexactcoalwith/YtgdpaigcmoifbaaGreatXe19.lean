/- Part 19 of what the proof rests on. No condition but those that a theorem names. -/
import Derived.Test.YtgdpaigcmoifbaaGreatXe12
set_option maxHeartbeats 8000000
set_option maxRecDepth 100000
namespace Go.Proofs.YtgdpaigcmoifbaaGreat
open Go.ChangeShapes Go.WideShapes Go.ChangeAt Go.RowKit Go.Sort Go.Proofs.Tryz
set_option linter.unusedVariables false
theorem scan_none {ss : List SmithV} {b : Int} {k : Nat} (h : scanV ss b k = none) : ∀ n, k ≤ n → scanV ss b n = none
  | 0, hn => by obtain rfl : k = 0 := by omega
                exact h
  | n + 1, hn => by
    by_cases e : k = n + 1
    · rw [← e]; exact h
    · have := scan_none h n (by omega)
      unfold scanV; rw [this]
theorem scan_skip {ss : List SmithV} {b wk : Int} {wt : Bool} {k : Nat} (h : scanV ss b k = some (wk, wt)) (hs : ¬ ((recAt ss k).2.1 = b ∧ presS (recAt ss k) = true)) : scanV ss b (k + 1) = some (wk, wt) := by
  unfold scanV; rw [h]; simp only [if_neg hs]
theorem scan_wait {ss : List SmithV} {b wk : Int} {wt : Bool} {k : Nat} (h : scanV ss b k = some (wk, wt)) (h1 : (recAt ss k).2.1 = b) (h2 : presS (recAt ss k) = true) (h3 : (recAt ss k).1 = 2) : scanV ss b (k + 1) = some (wk, true) := by
  unfold scanV; rw [h]; simp only [if_pos (And.intro h1 h2), if_pos h3]
theorem scan_two {ss : List SmithV} {b wk : Int} {wt : Bool} {k : Nat} (h : scanV ss b k = some (wk, wt)) (h1 : (recAt ss k).2.1 = b) (h2 : presS (recAt ss k) = true) (h3 : ¬ (recAt ss k).1 = 2) (h4 : 0 ≤ wk) : scanV ss b (k + 1) = none := by
  unfold scanV; rw [h]; simp only [if_pos (And.intro h1 h2), if_neg h3, if_pos h4]
theorem scan_work {ss : List SmithV} {b wk : Int} {wt : Bool} {k : Nat} (h : scanV ss b k = some (wk, wt)) (h1 : (recAt ss k).2.1 = b) (h2 : presS (recAt ss k) = true) (h3 : ¬ (recAt ss k).1 = 2) (h4 : ¬ 0 ≤ wk) : scanV ss b (k + 1) = some ((k : Int), wt) := by
  unfold scanV; rw [h]; simp only [if_pos (And.intro h1 h2), if_neg h3, if_neg h4]
theorem smyB_loose {m : SmyV} (h : looseB m = false) : smyB m = false := by unfold smyB; rw [h]; rfl
theorem smyB_bench {m : SmyV} {k : Nat} (hk : k < m.desks.length) (h : benchOkB m k = false) : smyB m = false := by unfold smyB; rw [all_no hk h]; simp
theorem smyB_all {m : SmyV} (h : looseB m = true) (h2 : (List.range m.desks.length).all (benchOkB m) = true) : smyB m = true := by unfold smyB; rw [h, h2]; rfl
theorem benchOkB_none {m : SmyV} {k : Nat} (h : scanV m.smiths k m.smiths.length = none) : benchOkB m k = false := by unfold benchOkB; rw [h]
theorem benchOkB_some {m : SmyV} {k : Nat} {wk : Int} {wt : Bool} (h : scanV m.smiths k m.smiths.length = some (wk, wt)) : benchOkB m k = ((recAt m.desks k).2.1 == wk && !(wt && decide (wk < 0))) := by unfold benchOkB; rw [h]
theorem l11Loose_q {w : World} {v0 v1 v2 v3 v4 : Value} {m : SmyV} {q : Bool} (hq : looseB m = q) (h : Smy w v0 v1 v2 v3 v4 m) :
    cB 67 #[.agg #[v0, v1, v2, v3, v4, .int .i64 m.now]] w (.bool q) := by
  have := l11Loose_any h; rw [hq] at this; exact this
theorem specSmithyOk_any {w : World} {v0 v1 v2 v3 v4 : Value} {m : SmyV} (h : Smy w v0 v1 v2 v3 v4 m) :
    cB 38 #[.agg #[v0, v1, v2, v3, v4, .int .i64 m.now]] w (.bool (smyB m)) := by
  have Hv := hide (h.alloc (.cells #[v0, v1, v2, v3, v4, .int .i64 m.now] 32))
  obtain ⟨h0, h1, h2, h3, h4⟩ := h
  obtain ⟨a0, p0, rfl, hc0, hm0, _⟩ := h0
  obtain ⟨a1, p1, rfl, hc1, hm1, _⟩ := h1
  obtain ⟨a2, p2, rfl, hc2, hm2, r2⟩ := h2
  obtain ⟨a3, p3, rfl, hc3, hm3, r3⟩ := h3
  obtain ⟨a4, p4, rfl, hc4, hm4, _⟩ := h4
  have R2 := hide r2
  have R3 := hide r3
  clear r2 r3
  obtain ⟨ql, QL⟩ := alAn (looseB m)
  go_enter func38, ntmps38
  go_wp2_with fail
  refine ck (l11Loose_q (uh QL) (uh Hv)) fun w1 hb => ?_
  have kb : Hid (Blk w1 w.heap.size 32 (S6 a0 p0 a1 p1 a2 p2 a3 p3 a4 p4 m)) := hide ((Blk.new w _ _).below hb (by simp))
  have BB : Hid (Below w.heap.size w w1) := hide (((ba _ _)).trans (hb.mono (by simp)))
  clear hb Hv
  have c3 := (uh kb).cell (i := 3) (v := .slice a3 m.desks.length p3) rfl
  cases ql
  · go_wp2_with fail
    go_ret
    exact ⟨ret_bool (smyB_loose (uh QL)).symm, uh BB⟩
  go_wp2_with fail
  clear c3
  go_loopw [3] (fun b wr => ∃ k : Nat, k ≤ m.desks.length ∧ b = .int .i64 k ∧ (List.range k).all (benchOkB m) = true ∧ Blk wr w.heap.size 32 (S6 a0 p0 a1 p1 a2 p2 a3 p3 a4 p4 m) ∧ Below w.heap.size w wr) (fun b _ => m.desks.length - (intOf b).toNat)
  case atStart => exact ⟨0, alNzl _, rfl, rfl, uh kb, uh BB⟩
  case round =>
    obtain ⟨j, hj, rfl, hup, kb1, hb1⟩ := hrel
    clear kb BB
    have kb := hide kb1
    have BB := hide hb1
    have Hup := hide hup
    clear kb1 hb1 hup
    have c3 := (uh kb).cell (i := 3) (v := .slice a3 m.desks.length p3) rfl
    by_cases hlt : j < m.desks.length
    · have c2 := (uh kb).cell (i := 2) (v := .slice a2 m.smiths.length p2) rfl
      go_wp2_with fail
      clear c2 c3
      obtain ⟨wo, rfl⟩ : ∃ wo, wo = wr := ⟨wr, rfl⟩
      go_loopw [4, 5, 6] (fun x y i wr => ∃ (k : Nat) (wk : Int) (wt : Bool), k ≤ m.smiths.length ∧ x = .int .i64 wk ∧ y = .bool wt ∧ i = .int .i64 k ∧ -1 ≤ wk ∧ wk ≤ (k : Int) ∧ scanV m.smiths j k = some (wk, wt) ∧ Blk wr w.heap.size 32 (S6 a0 p0 a1 p1 a2 p2 a3 p3 a4 p4 m) ∧ Below w.heap.size w wr) (fun _ _ i _ => m.smiths.length - (intOf i).toNat)
      case atStart => exact ⟨0, -1, false, alNzl _, rfl, rfl, rfl, by omega, by omega, rfl, uh kb, uh BB⟩
      case round =>
        obtain ⟨k, wkk, wt, hk, rfl, rfl, rfl, wk0, wk1, hsc, kb1, hb1⟩ := hrel
        clear kb BB
        have kb := hide kb1
        have BB := hide hb1
        have Hsc := hide hsc
        clear kb1 hb1 hsc
        have c2 := (uh kb).cell (i := 2) (v := .slice a2 m.smiths.length p2) rfl
        by_cases hls : k < m.smiths.length
        · rcases uh R2 with e0 | ⟨b, off, rfl, hbw, hcl⟩
          · rw [e0] at hls; simp at hls
          obtain ⟨d0, d1, d2, d3, d4, d5, d6, d7, d8, d9, d10⟩ := smith_cells hcl hls
          rw [← (uh BB).cell (p := ⟨b, off + k * 11, none⟩) hbw] at d0
          rw [← (uh BB).cell (p := ⟨b, off + k * 11 + 1, none⟩) hbw] at d1
          rw [← (uh BB).cell (p := ⟨b, off + k * 11 + 2, none⟩) hbw] at d2
          rw [← (uh BB).cell (p := ⟨b, off + k * 11 + 3, none⟩) hbw] at d3
          rw [← (uh BB).cell (p := ⟨b, off + k * 11 + 4, none⟩) hbw] at d4
          rw [← (uh BB).cell (p := ⟨b, off + k * 11 + 5, none⟩) hbw] at d5
          rw [← (uh BB).cell (p := ⟨b, off + k * 11 + 6, none⟩) hbw] at d6
          rw [← (uh BB).cell (p := ⟨b, off + k * 11 + 7, none⟩) hbw] at d7
          rw [← (uh BB).cell (p := ⟨b, off + k * 11 + 8, none⟩) hbw] at d8
          rw [← (uh BB).cell (p := ⟨b, off + k * 11 + 9, none⟩) hbw] at d9
          rw [← (uh BB).cell (p := ⟨b, off + k * 11 + 10, none⟩) hbw] at d10
          clear hcl
          have S1 := hide (fun hs => scan_skip (uh Hsc) hs)
          have S2 := hide (fun h1 h2 h3 => scan_wait (uh Hsc) h1 h2 h3)
          have S3 := hide (fun h1 h2 h3 h4 => scan_two (uh Hsc) h1 h2 h3 h4)
          have S4 := hide (fun h1 h2 h3 h4 => scan_work (uh Hsc) h1 h2 h3 h4)
          generalize recAt m.smiths k = ss at *
          obtain ⟨st, be, rk, my, gu, lo, hi, hd, ca, ut, wk⟩ := ss
          simp only at d0 d1 d2 d3 d4 d5 d6 d7 d8 d9 d10
          have hl0 : w.heap.size < wr.heap.size := (uh kb).lt
          by_cases hbe : be = (j : Int)
          rotate_left
          · have hbn : (be != (j : Int)) = true := by simpa using hbe
            go_wp2_with fail
            go_roundw
            case rel => exact ⟨k + 1, wkk, wt, by omega, rfl, rfl, by go_num, by omega, by omega, uh S1 (fun h9 => hbe h9.1), (uh kb).alloc _, (uh BB).alloc (uh BB).size _⟩
            case measure => exact ms
          subst hbe
          have hbn : ((j : Int) != (j : Int)) = false := by simp
          obtain ⟨ps, Hps⟩ := alAn (presS (st, (j : Int), rk, my, gu, lo, hi, hd, ca, ut, wk))
          go_wp2_with fail
          clear c2 d0 d1 d2 d3 d4 d5 d6 d7 d8 d9 d10
          refine ck (l11Present_q (uh Hps) _) fun w2 hb => ?_
          have ks : Hid (Blk w2 wr.heap.size 38 (I11 st (j : Int) rk my gu lo hi hd ca ut wk)) := hide ((Blk.new wr _ _).below hb (by simp))
          replace kb := hide (((uh kb).alloc (.cells (I11 st (j : Int) rk my gu lo hi hd ca ut wk) 38)).below hb (by simp; omega))
          replace BB := hide ((((uh BB).alloc (uh BB).size (.cells (I11 st (j : Int) rk my gu lo hi hd ca ut wk) 38))).trans (hb.mono (by simp; have := (uh BB).size; omega)))
          clear hb hl0
          have d0 := (uh ks).cell (i := 0) (v := .int .i64 st) rfl
          cases ps
          · go_wp2_with fail
            go_roundw
            case rel => exact ⟨k + 1, wkk, wt, by omega, rfl, rfl, by go_num, by omega, by omega, uh S1 (fun h9 => by have h8 := h9.2; rw [uh Hps] at h8; cases h8), uh kb, uh BB⟩
            case measure => exact ms
          by_cases hst : st = 2
          · subst hst
            go_wp2_with fail
            go_roundw
            case rel => exact ⟨k + 1, wkk, true, by omega, rfl, rfl, by go_num, by omega, by omega, uh S2 (by first | rfl | trivial) (uh Hps) (by first | rfl | trivial), uh kb, uh BB⟩
            case measure => exact ms
          have hsn : (st == 2) = false := by simpa using hst
          by_cases hw0 : 0 ≤ wkk
          · go_wp2_with fail
            go_ret
            exact ⟨ret_bool (smyB_bench hlt (benchOkB_none (scan_none (uh S3 (by first | rfl | trivial) (uh Hps) hst hw0) _ (by omega)))).symm, uh BB⟩
          go_wp2_with fail
          go_roundw
          case rel => exact ⟨k + 1, (k : Int), wt, by omega, rfl, rfl, by go_num, by omega, by omega, uh S4 (by first | rfl | trivial) (uh Hps) hst hw0, uh kb, uh BB⟩
          case measure => exact ms
        · obtain rfl : k = m.smiths.length := by omega
          have c3 := (uh kb).cell (i := 3) (v := .slice a3 m.desks.length p3) rfl
          rcases uh R3 with e0 | ⟨b', off', rfl, hbw', hcl'⟩
          · rw [e0] at hlt; simp at hlt
          obtain ⟨_, t1, _⟩ := desk_cells hcl' hlt
          rw [← (uh BB).cell (p := ⟨b', off' + j * 3 + 1, none⟩) hbw'] at t1
          clear hcl'
          have HB := hide (benchOkB_some (uh Hsc))
          have HL := hide (smyB_bench (m := m) hlt)
          have HU := hide (show (List.range (j + 1)).all (benchOkB m) = ((List.range j).all (benchOkB m) && benchOkB m j) from all_up j)
          generalize recAt m.desks j = dd at *
          obtain ⟨op, who, mk⟩ := dd
          simp only at t1
          by_cases hwho : who = wkk
          rotate_left
          · have hwn : (who != wkk) = true := by simpa using hwho
            go_wp2_with fail
            go_ret
            exact ⟨ret_bool (uh HL (by rw [uh HB]; simp [hwho])).symm, uh BB⟩
          have hwn : (who != wkk) = false := by simpa using hwho
          have Hwho := hide hwho
          clear hwho
          cases wt
          · go_wp2_with fail
            go_roundw
            case rel => exact ⟨j + 1, by omega, by go_num, by rw [uh HU, uh Hup, uh HB, uh Hwho]; simp, uh kb, uh BB⟩
            case measure => exact ms
          by_cases hw0 : wkk < 0
          · go_wp2_with fail
            go_ret
            exact ⟨ret_bool (uh HL (by rw [uh HB]; simp [hw0])).symm, uh BB⟩
          go_wp2_with fail
          go_roundw
          case rel => exact ⟨j + 1, by omega, by go_num, by rw [uh HU, uh Hup, uh HB, uh Hwho]; simp; omega, uh kb, uh BB⟩
          case measure => exact ms
    · obtain rfl : j = m.desks.length := by omega
      go_wp2_with fail
      go_ret
      exact ⟨ret_bool (smyB_all (uh QL) (uh Hup)).symm, uh BB⟩
end Go.Proofs.YtgdpaigcmoifbaaGreat
