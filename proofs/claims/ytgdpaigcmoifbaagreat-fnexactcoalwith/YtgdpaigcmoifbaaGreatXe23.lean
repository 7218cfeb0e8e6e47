/- Part 23 of what the proof rests on. No condition but those that a theorem names. -/
import Derived.Test.YtgdpaigcmoifbaaGreatXe17
import Derived.Test.YtgdpaigcmoifbaaGreatXe19
set_option maxHeartbeats 8000000
set_option maxRecDepth 100000
namespace Go.Proofs.YtgdpaigcmoifbaaGreat
open Go.ChangeShapes Go.WideShapes Go.ChangeAt Go.RowKit Go.Sort Go.Proofs.Tryz
set_option linter.unusedVariables false
theorem l11At_any {w : World} {v0 v1 v2 v3 v4 : Value} {m : SmyV} (b : Int) (h : Smy w v0 v1 v2 v3 v4 m) (hl : m.smiths.length ≤ 800) :
  Calls prog 110 #[.agg #[v0, v1, v2, v3, v4, .int .i64 m.now], .int .i64 b] w fun e w' => ∃ v', e = .returned v' ∧ EntsAt w.heap.size w' v' (atV m.smiths b m.smiths.length) ∧ Below w.heap.size w w' := by
 obtain ⟨h0, h1, h2, h3, h4⟩ := h
 obtain ⟨a0, p0, rfl, hc0, hm0, _⟩ := h0
 obtain ⟨a1, p1, rfl, hc1, hm1, _⟩ := h1
 obtain ⟨a2, p2, rfl, hc2, hm2, r2⟩ := h2
 obtain ⟨a3, p3, rfl, hc3, hm3, _⟩ := h3
 obtain ⟨a4, p4, rfl, hc4, hm4, _⟩ := h4
 have R2 := hide r2
 clear r2
 have kb0 : Hid (Blk ((w.alloc (.cells (S6 a0 p0 a1 p1 a2 p2 a3 p3 a4 p4 m) 32)).alloc (.cells #[] 78)) w.heap.size 32 (S6 a0 p0 a1 p1 a2 p2 a3 p3 a4 p4 m)) := hide ((Blk.new w _ _).alloc _)
 have BB0 : Hid (Below w.heap.size w ((w.alloc (.cells (S6 a0 p0 a1 p1 a2 p2 a3 p3 a4 p4 m) 32)).alloc (.cells #[] 78))) := hide (((ba _ _)).alloc (by simp) _)
 have E0 : Hid (EntsAt w.heap.size ((w.alloc (.cells (S6 a0 p0 a1 p1 a2 p2 a3 p3 a4 p4 m) 32)).alloc (.cells #[] 78)) (.slice (some ⟨w.heap.size + 1, 0, none⟩) 0 0) []) := hide (ents_empty (by simp) (by omega))
 go_enter func110, ntmps110
 go_wp2_with fail
 go_loopw [5, 6] (fun q i wr => ∃ k : Nat, k ≤ m.smiths.length ∧ i = .int .i64 k ∧ EntsAt w.heap.size wr q (atV m.smiths b k) ∧ Blk wr w.heap.size 32 (S6 a0 p0 a1 p1 a2 p2 a3 p3 a4 p4 m) ∧ Below w.heap.size w wr) (fun _ i _ => m.smiths.length - (intOf i).toNat)
 case atStart => exact ⟨0, alNzl _, rfl, uh E0, uh kb0, uh BB0⟩
 case round =>
  obtain ⟨k, hk, rfl, he, kb1, hb1⟩ := hrel
  obtain ⟨qa, qcap, rfl⟩ := EntsAt.shape he
  have kb := hide kb1
  have BB := hide hb1
  have He := hide he
  clear kb1 hb1 he kb0 BB0 E0
  have hal := atV_len m.smiths b k
  have c2 := (uh kb).cell (i := 2) (v := .slice a2 m.smiths.length p2) rfl
  by_cases hls : k < m.smiths.length
  ·rcases uh R2 with e0 | ⟨sb, off, rfl, hbw, hcl⟩
   ·rw [e0] at hls; simp at hls
   obtain ⟨d0, d1, d2, d3, d4, d5, d6, d7, d8, d9, d10⟩ := smith_cells hcl hls
   rw [← (uh BB).cell (p := ⟨sb, off + k * 11, none⟩) hbw] at d0
   rw [← (uh BB).cell (p := ⟨sb, off + k * 11 + 1, none⟩) hbw] at d1
   rw [← (uh BB).cell (p := ⟨sb, off + k * 11 + 2, none⟩) hbw] at d2
   rw [← (uh BB).cell (p := ⟨sb, off + k * 11 + 3, none⟩) hbw] at d3
   rw [← (uh BB).cell (p := ⟨sb, off + k * 11 + 4, none⟩) hbw] at d4
   rw [← (uh BB).cell (p := ⟨sb, off + k * 11 + 5, none⟩) hbw] at d5
   rw [← (uh BB).cell (p := ⟨sb, off + k * 11 + 6, none⟩) hbw] at d6
   rw [← (uh BB).cell (p := ⟨sb, off + k * 11 + 7, none⟩) hbw] at d7
   rw [← (uh BB).cell (p := ⟨sb, off + k * 11 + 8, none⟩) hbw] at d8
   rw [← (uh BB).cell (p := ⟨sb, off + k * 11 + 9, none⟩) hbw] at d9
   rw [← (uh BB).cell (p := ⟨sb, off + k * 11 + 10, none⟩) hbw] at d10
   clear hcl
   have S1 := hide (fun hs => atV_no (ss := m.smiths) (b := b) (k := k) hs)
   have S2 := hide (fun h1 h2 => atV_yes (ss := m.smiths) (b := b) (k := k) h1 h2)
   generalize recAt m.smiths k = ss at *
   obtain ⟨st, be, rk, my, gu, lo, hi, hd, ca, ut, wk⟩ := ss
   simp only at d0 d1 d2 d3 d4 d5 d6 d7 d8 d9 d10
   have hl0 : w.heap.size < wr.heap.size := (uh kb).lt
   by_cases hbe : be = b
   rotate_left
   ·have hbn : (be == b) = false := by simpa using hbe
    go_wp2_with fail
    go_roundw
    case rel => exact ⟨k + 1, by omega, by go_num, by rw [uh S1 (fun h9 => hbe h9.1)]; exact EntsAt.later (uh He) ((ba _ _)), (uh kb).alloc _, (uh BB).alloc (uh BB).size _⟩
    case measure => exact ms
   subst hbe
   have hbn : (be == be) = true := by simp
   obtain ⟨ps, Hps⟩ := alAn (presS (st, be, rk, my, gu, lo, hi, hd, ca, ut, wk))
   go_wp2_with fail
   clear c2 d0 d1 d2 d3 d4 d5 d6 d7 d8 d9 d10
   refine ck (l11Present_q (uh Hps) _) fun w2 hb => ?_
   have ks : Hid (Blk w2 wr.heap.size 38 (I11 st be rk my gu lo hi hd ca ut wk)) := hide ((Blk.new wr _ _).below hb (by simp))
   replace kb := hide (((uh kb).alloc (.cells (I11 st be rk my gu lo hi hd ca ut wk) 38)).below hb (by simp; omega))
   have hba := ((alBrf wr.heap.size wr).alloc (alNlr _) (.cells (I11 st be rk my gu lo hi hd ca ut wk) 38)).trans (hb.mono (by simp))
   replace He := hide (EntsAt.later (uh He) hba)
   replace BB := bt BB hba
   clear hb hl0 hba
   have d7 := (uh ks).cell (i := 7) (v := .int .i64 hd) rfl
   cases ps
   ·go_wp2_with fail
    go_roundw
    case rel => exact ⟨k + 1, by omega, by go_num, by rw [uh S1 (fun h9 => by have h8 := h9.2; rw [uh Hps] at h8; cases h8)]; exact uh He, uh kb, uh BB⟩
    case measure => exact ms
   go_wp2_with fail
   refine (l6Put_any hd (k : Int) (EntsAt.paces (uh He)) (by omega)).mono ?_
   rintro e w3 ⟨v3, rfl, he3, hb⟩
   have hsz := (uh BB).size
   have he4 := EntsAt.mono he3 hsz
   replace kb := bl kb hb
   replace BB := hide ((uh BB).trans (hb.mono hsz))
   obtain ⟨qa3, qcap3, rfl⟩ := EntsAt.shape he4
   have He4 := hide he4
   clear hb he3 he4 d7
   go_wp2_with fail
   go_roundw
   case rel => exact ⟨k + 1, by omega, by go_num, by rw [uh S2 (by first | rfl | trivial) (uh Hps)]; exact uh He4, uh kb, uh BB⟩
   case measure => exact ms
  ·obtain rfl : k = m.smiths.length := by omega
   go_wp2_with fail
   go_ret
   exact ⟨_, rfl, uh He, uh BB⟩
structure Guilded (m : SmyV) : Prop where
 guilds : guildsB m.guilds = true
 lo : ∀ i, i < m.smiths.length → (recAt m.smiths i).1 ≠ 0 → -1 ≤ (recAt m.smiths i).2.2.2.2.1
 hi : ∀ i, i < m.smiths.length → (recAt m.smiths i).1 ≠ 0 → (recAt m.smiths i).2.2.2.2.1 < m.guilds.length
theorem pres_ne {s : SmithV} (h : presS s = true) : s.1 ≠ 0 := fun e => by unfold presS at h; rw [e] at h; cases h
theorem l11Want_any {w : World} {v0 v1 v2 v3 v4 : Value} {m : SmyV} {k : Nat} (h : Smy w v0 v1 v2 v3 v4 m) (hg : guildsB m.guilds = true) (hk : k < m.smiths.length) (g0 : -1 ≤ (recAt m.smiths k).2.2.2.2.1) (g1 : (recAt m.smiths k).2.2.2.2.1 < m.guilds.length) :
  cB 76 #[.agg #[v0, v1, v2, v3, v4, .int .i64 m.now], .int .i64 (k : Int)] w (.int .i64 (wantV m (k : Int))) := by
 have hw : wantV m (k : Int) = wantS m.guilds (recAt m.smiths k) := rfl
 rw [hw]
 clear hw
 have Hv := hide h
 obtain ⟨h0, h1, h2, h3, h4⟩ := h
 obtain ⟨a0, p0, rfl, hc0, hm0⟩ := IsRooms.shape h0
 obtain ⟨a1, p1, rfl, hc1, hm1⟩ := IsRec.shape h1
 obtain ⟨a2, p2, rfl, hc2, hm2, r2⟩ := h2
 obtain ⟨a3, p3, rfl, hc3, hm3⟩ := IsRec.shape h3
 obtain ⟨a4, p4, rfl, hc4, hm4⟩ := IsRec.shape h4
 clear h0 h1 h3 h4
 rcases r2 with e0 | ⟨sb, off, rfl, hbw, hcl⟩
 ·rw [e0] at hk; simp at hk
 obtain ⟨d0, d1, d2, d3, d4, d5, d6, d7, d8, d9, d10⟩ := smith_cells hcl hk
 clear hcl
 generalize recAt m.smiths k = ss at *
 obtain ⟨st, be, rk, my, gu, lo, hi, hd, ca, ut, wk⟩ := ss
 simp only at d0 d1 d2 d3 d4 d5 d6 d7 d8 d9 d10 g0 g1
 have Hg := hide hg
 clear hg
 go_enter func76, ntmps76
 go_wp2_with fail
 have BB : Hid (Below w.heap.size w ((w.alloc (.cells #[.slice a0 m.rooms.length p0, .slice a1 m.guilds.length p1, .slice (some ⟨sb, off, none⟩) m.smiths.length p2, .slice a3 m.desks.length p3, .slice a4 m.paces.length p4, .int .i64 m.now] 32)).alloc (.cells (I11 st be rk my gu lo hi hd ca ut wk) 38))) := hide (((ba _ _)).alloc (by simp) _)
 have Hv2 := hide ((uh Hv).below (uh BB)).guilds
 have ks := hide (Blk.new (w.alloc (.cells #[.slice a0 m.rooms.length p0, .slice a1 m.guilds.length p1, .slice (some ⟨sb, off, none⟩) m.smiths.length p2, .slice a3 m.desks.length p3, .slice a4 m.paces.length p4, .int .i64 m.now] 32)) 38 (I11 st be rk my gu lo hi hd ca ut wk))
 simp only [alWsa] at ks
 generalize (w.alloc (.cells #[.slice a0 m.rooms.length p0, .slice a1 m.guilds.length p1, .slice (some ⟨sb, off, none⟩) m.smiths.length p2, .slice a3 m.desks.length p3, .slice a4 m.paces.length p4, .int .i64 m.now] 32)).alloc (.cells (I11 st be rk my gu lo hi hd ca ut wk) 38) = W at *
 refine ck (l8Within_of gu lo hi (uh Hv2) (l8Bounds_any (uh Hg) m.guilds.length gu (uh Hv2) g0 g1 g1)) fun w1 hb => ?_
 replace ks := bl ks hb
 replace BB := bt BB hb
 have x9 := (uh ks).cell (i := 9) (v := .int .i64 ut) rfl
 clear hb d0 d1 d2 d3 d4 d5 d6 d7 d8 d9 d10
 go_wp2_with (go_at_call 144; refine (specClamped_any _ _ _ _).mono ?_; rintro e w' ⟨rfl, h9⟩; subst w')
 go_ret
 exact ⟨rfl, uh BB⟩
theorem usedL_step (m : SmyV) (but : Int) {q : List PaceV} {k : Nat} (hk : k < q.length) : usedL m but (q.take (k + 1)) = if (paceAt q k).2 = but then usedL m but (q.take k) else usedL m but (q.take k) + wantV m (paceAt q k).2 := by
 have : q.take (k + 1) = q.take k ++ [paceAt q k] := by
  rw [List.take_succ_eq_append_getElem hk]; unfold paceAt; simp [List.getD, hk]
 rw [this, usedL_snoc]
theorem l11Used_any {w : World} {v0 v1 v2 v3 v4 : Value} {m : SmyV} (b but : Int) (h : Smy w v0 v1 v2 v3 v4 m) (hG : Guilded m) (hl : m.smiths.length ≤ 800) :
  cB 77 #[.agg #[v0, v1, v2, v3, v4, .int .i64 m.now], .int .i64 b, .int .i64 but] w (.int .i64 (usedV m b but)) := by
 have Hv := hide (h.alloc (.cells #[v0, v1, v2, v3, v4, .int .i64 m.now] 32))
 obtain ⟨a0, p0, a1, p1, a2, p2, a3, p3, a4, p4, rfl, rfl, rfl, rfl, rfl, _, _, _, _, _, _, _, _, _, _⟩ := h.five
 clear h
 have HG := hide hG
 clear hG
 go_enter func77, ntmps77
 go_wp2_with fail
 refine (l11At_any b (uh Hv) hl).mono ?_
 rintro e w1 ⟨v', rfl, he, hb⟩
 have kb : Hid (Blk w1 w.heap.size 32 (S6 a0 p0 a1 p1 a2 p2 a3 p3 a4 p4 m)) := hide ((Blk.new w _ _).below hb (by simp))
 have BB : Hid (Below w.heap.size w w1) := hide (((ba _ _)).trans (hb.mono (by simp)))
 replace Hv := hide ((uh Hv).below hb)
 have hq := atV_len m.smiths b m.smiths.length
 have hmem := atV_mem m.smiths b
 have Hu : Hid (usedV m b but = usedL m but (atV m.smiths b m.smiths.length)) := hide rfl
 have hmq : ∀ x ∈ atV m.smiths b m.smiths.length, ∃ j : Nat, j < m.smiths.length ∧ presS (recAt m.smiths j) = true ∧ x.2 = (j : Int) := fun x hx => by
  obtain ⟨j, hj, _, hp, rfl⟩ := (hmem x m.smiths.length).1 hx
  exact ⟨j, hj, hp, rfl⟩
 have Hm := hide hmq
 clear hmem hmq hb
 have hp := EntsAt.paces he
 clear he
 generalize atV m.smiths b m.smiths.length = q at *
 obtain ⟨qa, qc, rfl, hqc, hqm, hr⟩ := hp
 have Hr := hide hr
 clear hr
 go_wp2_with fail
 go_loopw [7, 9] (fun n i wr => ∃ k : Nat, k ≤ q.length ∧ i = .int .i64 k ∧ n = .int .i64 (usedL m but (q.take k)) ∧ Below w1.heap.size w1 wr) (fun _ i _ => q.length - (intOf i).toNat)
 case atStart => exact ⟨0, alNzl _, rfl, rfl, alBrf _ _⟩
 case round =>
  obtain ⟨k, hk, rfl, rfl, hbr⟩ := hrel
  have hub := usedL_bd m but (q.take k)
  have htl : (q.take k).length ≤ k := by rw [List.length_take]; omega
  by_cases hlt : k < q.length
  ·rcases uh Hr with e0 | ⟨eb, eo, rfl, hbw, hcl⟩
   ·rw [e0] at hlt; simp at hlt
   obtain ⟨c0, c1⟩ := hcl k hlt
   rw [← hbr.cell (p := ⟨eb, eo + k * 2, none⟩) hbw] at c0
   rw [← hbr.cell (p := ⟨eb, eo + k * 2 + 1, none⟩) hbw] at c1
   obtain ⟨j, hj, hjp, hje⟩ := uh Hm _ (paceAt_mem hlt)
   have Hjp := hide (pres_ne hjp)
   clear hjp
   have hst := usedL_step m but hlt
   have hwb := wantV_bd m (j : Int)
   rw [hje] at c1 hst
   clear hje hcl
   generalize (paceAt q k).1 = hd at *
   have Hst := hide hst
   clear hst
   generalize usedL m but (q.take k) = u at *
   have u1 : u ≤ 1024 * 800 := by omega
   have kb1 := (uh kb).below hbr (uh kb).lt
   have Hv1 := hide ((uh Hv).below hbr)
   have Kb1 := hide kb1
   have Hbr := hide hbr
   clear hbr kb1
   obtain ⟨x0, x1, x2, x3, x4, x5⟩ := (uh Kb1).c6
   by_cases hbut : (j : Int) = but
   ·have hbn : ((j : Int) == but) = true := by simpa using hbut
    go_wp2_with fail
    go_roundw
    case rel => exact ⟨k + 1, by omega, by go_num, by rw [uh Hst, if_pos hbut], uh Hbr⟩
    case measure => exact ms
   ·have hbn : ((j : Int) == but) = false := by simpa using hbut
    have Hw := hide (fun (W : World) (hW : Below wr.heap.size wr W) => l11Want_any ((uh Hv1).below hW) (uh HG).guilds hj ((uh HG).lo j hj (uh Hjp)) ((uh HG).hi j hj (uh Hjp)))
    generalize wantV m (j : Int) = wa at *
    have y0 := alCrg x0
    have y1 := alCrg x1
    have y2 := alCrg x2
    have y3 := alCrg x3
    have y4 := alCrg x4
    have y5 := alCrg x5
    have z0 := alCrg c0
    have z1 := alCrg c1
    go_wp2_with fail
    refine wq ?_
    repeat (go_big_quiet_step (exact alCro (uh Hw _ (alBrg _ _ _))))
    refine wpQuiet_nil ?_
    intro _ hw'
    obtain ⟨⟨dq, osq⟩, hw''⟩ := hw'
    subst hw''
    go_wp2_with fail
    go_roundw
    case rel => exact ⟨k + 1, by omega, by go_num, by rw [uh Hst, if_neg hbut], (uh Hbr).trans ((alBrg _ _ _).mono (uh Hbr).size)⟩
    case measure => exact ms
  ·obtain rfl : k = q.length := by omega
   rw [List.take_length]
   go_wp2_with fail
   go_ret
   exact ⟨ret_int (uh Hu).symm, (uh BB).trans (hbr.mono (uh BB).size)⟩
theorem spec_q {w : World} {v0 v1 v2 v3 v4 : Value} {m : SmyV} {q : Bool} (hq : smyB m = q) (h : Smy w v0 v1 v2 v3 v4 m) : cB 38 #[.agg #[v0, v1, v2, v3, v4, .int .i64 m.now]] w (.bool q) := by
 have := specSmithyOk_any h; rw [hq] at this; exact this
theorem l11Bench_q {w : World} {v0 v1 v2 v3 v4 : Value} {m : SmyV} {b : Int} {q : Bool} (hq : isBenchB m b = q) (h : Smy w v0 v1 v2 v3 v4 m) :
  cB 64 #[.agg #[v0, v1, v2, v3, v4, .int .i64 m.now], .int .i64 b] w (.bool q) := by
 have hq2 : inB b 0 ((m.desks.length : Int) - 1) = q := hq
 clear hq
 obtain ⟨a0, p0, rfl, _, _⟩ := IsRooms.shape h.rooms
 obtain ⟨a1, p1, rfl, _, _⟩ := IsRec.shape h.guilds
 obtain ⟨a2, p2, rfl, _, _⟩ := IsRec.shape h.smiths
 obtain ⟨a3, p3, rfl, hc3, hm3⟩ := IsRec.shape h.desks
 obtain ⟨a4, p4, rfl, _, _⟩ := IsRec.shape h.paces
 clear h
 go_enter func64, ntmps64
 go_wp2_with (go_at_call 129; refine (l1In_any _ _ _ _).mono ?_; rw [hq2]; rintro e w' ⟨rfl, h9⟩; subst w')
 go_ret
 exact ⟨rfl, (ba _ _)⟩
end Go.Proofs.YtgdpaigcmoifbaaGreat
