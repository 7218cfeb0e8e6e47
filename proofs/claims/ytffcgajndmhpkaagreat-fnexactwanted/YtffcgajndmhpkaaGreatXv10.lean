/- What the proof rests on, part 10: lists and numbers, how they lie in memory, and contracts of the calls. No condition but those that a theorem names. -/
import Derived.Test.YtffcgajndmhpkaaGreatXv01
import Derived.Test.YtffcgajndmhpkaaGreatXv02
import Derived.Test.YtffcgajndmhpkaaGreatXv03
import Derived.Test.YtffcgajndmhpkaaGreatXv04
import Derived.Test.YtffcgajndmhpkaaGreatXv05
import Derived.Test.YtffcgajndmhpkaaGreatXv06
import Derived.Test.YtffcgajndmhpkaaGreatXv08
import Derived.Test.YtffcgajndmhpkaaGreatXv09
import Derived.BigQuiet
import Derived.Lib.QuietBelow
import Derived.WalkMore
import Derived.Below
import GoSem.Claim
import GoSem.ClaimJoined
import GoSem.ClaimMapViews
import Derived.JoinedTies
import Derived.KernelRfl
import Derived.RowKit
import Derived.WalkKit
import Derived.ProofKit
import Derived.OpenShut
import Derived.Outline
import Derived.Deep.RegionHeld3
import Derived.Deep.DrawnRows
import Derived.BigRegion
import Derived.Deep.RegionLawGrows
import Derived.Deep.RegionWith
import Derived.Deep.QuietTactic
import Derived.Laws.OwnMore
import Derived.OwnWalk
import Derived.Maps.AppendAt
import Derived.Lib.SmallJoins
import Derived.Deep.Fields
import Derived.Deep.Slices
import Derived.OrdersHeld
import Derived.Deep.RegionHeldLaw
import Derived.Laws.StructEq
import Derived.Deep.DeepCutAuto
/- The model's SmithyOk: its contract. Condition: the smithy can be read. -/
namespace Go.Proofs.YtffcgajndmhpkaaGreat
open Go.ChangeShapes Go.WideShapes Go.ChangeAt Go.RowKit Go.Sort
set_option linter.unusedVariables false

theorem scan_none {ss : List SmithV} {b : Int} {k : Nat} (h : scanV ss b k = none) : ∀ n, k ≤ n → scanV ss b n = none
  | 0, hn => by obtain rfl : k = 0 := by omega
                exact h
  | n + 1, hn => by
    by_cases e : k = n + 1
    · rw [← e]; exact h
    · have := scan_none h n (by omega)
      unfold scanV; rw [this]
theorem scan_skip {ss : List SmithV} {b wk : Int} {wt : Bool} {k : Nat} (h : scanV ss b k = some (wk, wt)) (hs : ¬ ((recAt ss k).2.1 = b ∧ presS (recAt ss k) = true)) : scanV ss b (k + 1) = some (wk, wt) := by
  unfold scanV; rw [h]; simp only [if_neg hs]
theorem scan_wait {ss : List SmithV} {b wk : Int} {wt : Bool} {k : Nat} (h : scanV ss b k = some (wk, wt)) (h1 : (recAt ss k).2.1 = b) (h2 : presS (recAt ss k) = true) (h3 : (recAt ss k).1 = 2) : scanV ss b (k + 1) = some (wk, true) := by
  unfold scanV; rw [h]; simp only [if_pos (And.intro h1 h2), if_pos h3]
theorem scan_two {ss : List SmithV} {b wk : Int} {wt : Bool} {k : Nat} (h : scanV ss b k = some (wk, wt)) (h1 : (recAt ss k).2.1 = b) (h2 : presS (recAt ss k) = true) (h3 : ¬ (recAt ss k).1 = 2) (h4 : 0 ≤ wk) : scanV ss b (k + 1) = none := by
  unfold scanV; rw [h]; simp only [if_pos (And.intro h1 h2), if_neg h3, if_pos h4]
theorem scan_work {ss : List SmithV} {b wk : Int} {wt : Bool} {k : Nat} (h : scanV ss b k = some (wk, wt)) (h1 : (recAt ss k).2.1 = b) (h2 : presS (recAt ss k) = true) (h3 : ¬ (recAt ss k).1 = 2) (h4 : ¬ 0 ≤ wk) : scanV ss b (k + 1) = some ((k : Int), wt) := by
  unfold scanV; rw [h]; simp only [if_pos (And.intro h1 h2), if_neg h3, if_neg h4]
theorem smyB_loose {m : SmyV} (h : looseB m = false) : smyB m = false := by unfold smyB; rw [h]; rfl
theorem smyB_bench {m : SmyV} {k : Nat} (hk : k < m.desks.length) (h : benchOkB m k = false) : smyB m = false := by unfold smyB; rw [all_no hk h]; simp
theorem smyB_all {m : SmyV} (h : looseB m = true) (h2 : (List.range m.desks.length).all (benchOkB m) = true) : smyB m = true := by unfold smyB; rw [h, h2]; rfl
theorem benchOkB_none {m : SmyV} {k : Nat} (h : scanV m.smiths k m.smiths.length = none) : benchOkB m k = false := by unfold benchOkB; rw [h]
theorem benchOkB_some {m : SmyV} {k : Nat} {wk : Int} {wt : Bool} (h : scanV m.smiths k m.smiths.length = some (wk, wt)) : benchOkB m k = ((recAt m.desks k).2.1 == wk && !(wt && decide (wk < 0))) := by unfold benchOkB; rw [h]
theorem l11Loose_q {w : World} {v0 v1 v2 v3 v4 : Value} {m : SmyV} {q : Bool} (hq : looseB m = q) (h : Smy w v0 v1 v2 v3 v4 m) :
    Calls Tryz.prog 30 #[.agg #[v0, v1, v2, v3, v4, .int .i64 m.now]] w fun e w' => e = .returned (.bool q) ∧ Below w.heap.size w w' := by
  have := l11Loose_any h; rw [hq] at this; exact this

set_option maxRecDepth 100000 in
set_option maxHeartbeats 8000000 in
theorem specSmithyOk_any {w : World} {v0 v1 v2 v3 v4 : Value} {m : SmyV} (h : Smy w v0 v1 v2 v3 v4 m) :
    Calls Tryz.prog 14 #[.agg #[v0, v1, v2, v3, v4, .int .i64 m.now]] w fun e w' => e = .returned (.bool (smyB m)) ∧ Below w.heap.size w w' := by
  have Hv := hide (h.alloc (.cells #[v0, v1, v2, v3, v4, .int .i64 m.now] 40))
  obtain ⟨h0, h1, h2, h3, h4⟩ := h
  obtain ⟨a0, p0, rfl, hc0, hm0, _⟩ := h0
  obtain ⟨a1, p1, rfl, hc1, hm1, _⟩ := h1
  obtain ⟨a2, p2, rfl, hc2, hm2, r2⟩ := h2
  obtain ⟨a3, p3, rfl, hc3, hm3, r3⟩ := h3
  obtain ⟨a4, p4, rfl, hc4, hm4, _⟩ := h4
  have R2 := hide r2
  have R3 := hide r3
  clear r2 r3
  obtain ⟨ql, hql⟩ : ∃ q, looseB m = q := ⟨_, rfl⟩
  have QL := hide hql
  clear hql
  go_enter Tryz.func14, Tryz.ntmps14
  go_wp2_with fail
  refine (l11Loose_q (unhide QL) (unhide Hv)).mono ?_
  rintro e w1 ⟨rfl, hb⟩
  have kb : Hid (Blk w1 w.heap.size 40 #[.slice a0 m.rooms.length p0, .slice a1 m.guilds.length p1, .slice a2 m.smiths.length p2, .slice a3 m.desks.length p3, .slice a4 m.paces.length p4, .int .i64 m.now]) := hide ((Blk.new w _ _).below hb (by simp))
  have BB : Hid (Below w.heap.size w w1) := hide (((Below.refl _ _).alloc (Nat.le_refl _) _).trans (hb.mono (by simp)))
  clear hb Hv
  have c3 := (unhide kb).cell (i := 3) (v := .slice a3 m.desks.length p3) rfl
  cases ql
  · go_wp2_with fail
    go_ret
    exact ⟨ret_bool (smyB_loose (unhide QL)).symm, unhide BB⟩
  go_wp2_with fail
  clear c3
  go_loopw [3] (fun b wr => ∃ k : Nat, k ≤ m.desks.length ∧ b = .int .i64 k ∧ (List.range k).all (benchOkB m) = true ∧ Blk wr w.heap.size 40 #[.slice a0 m.rooms.length p0, .slice a1 m.guilds.length p1, .slice a2 m.smiths.length p2, .slice a3 m.desks.length p3, .slice a4 m.paces.length p4, .int .i64 m.now] ∧ Below w.heap.size w wr) (fun b _ => m.desks.length - (intOf b).toNat)
  case atStart => exact ⟨0, Nat.zero_le _, rfl, rfl, unhide kb, unhide BB⟩
  case round =>
    obtain ⟨j, hj, rfl, hup, kb1, hb1⟩ := hrel
    clear kb BB
    have kb := hide kb1
    have BB := hide hb1
    have Hup := hide hup
    clear kb1 hb1 hup
    have c3 := (unhide kb).cell (i := 3) (v := .slice a3 m.desks.length p3) rfl
    by_cases hlt : j < m.desks.length
    · have c2 := (unhide kb).cell (i := 2) (v := .slice a2 m.smiths.length p2) rfl
      go_wp2_with fail
      clear c2 c3
      obtain ⟨wo, rfl⟩ : ∃ wo, wo = wr := ⟨wr, rfl⟩
      go_loopw [4, 5, 6] (fun x y i wr => ∃ (k : Nat) (wk : Int) (wt : Bool), k ≤ m.smiths.length ∧ x = .int .i64 wk ∧ y = .bool wt ∧ i = .int .i64 k ∧ -1 ≤ wk ∧ wk ≤ (k : Int) ∧ scanV m.smiths j k = some (wk, wt) ∧ Blk wr w.heap.size 40 #[.slice a0 m.rooms.length p0, .slice a1 m.guilds.length p1, .slice a2 m.smiths.length p2, .slice a3 m.desks.length p3, .slice a4 m.paces.length p4, .int .i64 m.now] ∧ Below w.heap.size w wr) (fun _ _ i _ => m.smiths.length - (intOf i).toNat)
      case atStart => exact ⟨0, -1, false, Nat.zero_le _, rfl, rfl, rfl, by omega, by omega, rfl, unhide kb, unhide BB⟩
      case round =>
        obtain ⟨k, wkk, wt, hk, rfl, rfl, rfl, wk0, wk1, hsc, kb1, hb1⟩ := hrel
        clear kb BB
        have kb := hide kb1
        have BB := hide hb1
        have Hsc := hide hsc
        clear kb1 hb1 hsc
        have c2 := (unhide kb).cell (i := 2) (v := .slice a2 m.smiths.length p2) rfl
        by_cases hls : k < m.smiths.length
        · rcases unhide R2 with e0 | ⟨b, off, rfl, hbw, hcl⟩
          · rw [e0] at hls; simp at hls
          obtain ⟨d0, d1, d2, d3, d4, d5, d6, d7, d8, d9, d10⟩ := smith_cells hcl hls
          rw [← (unhide BB).cell (p := ⟨b, off + k * 11, none⟩) hbw] at d0
          rw [← (unhide BB).cell (p := ⟨b, off + k * 11 + 1, none⟩) hbw] at d1
          rw [← (unhide BB).cell (p := ⟨b, off + k * 11 + 2, none⟩) hbw] at d2
          rw [← (unhide BB).cell (p := ⟨b, off + k * 11 + 3, none⟩) hbw] at d3
          rw [← (unhide BB).cell (p := ⟨b, off + k * 11 + 4, none⟩) hbw] at d4
          rw [← (unhide BB).cell (p := ⟨b, off + k * 11 + 5, none⟩) hbw] at d5
          rw [← (unhide BB).cell (p := ⟨b, off + k * 11 + 6, none⟩) hbw] at d6
          rw [← (unhide BB).cell (p := ⟨b, off + k * 11 + 7, none⟩) hbw] at d7
          rw [← (unhide BB).cell (p := ⟨b, off + k * 11 + 8, none⟩) hbw] at d8
          rw [← (unhide BB).cell (p := ⟨b, off + k * 11 + 9, none⟩) hbw] at d9
          rw [← (unhide BB).cell (p := ⟨b, off + k * 11 + 10, none⟩) hbw] at d10
          clear hcl
          have S1 := hide (fun hs => scan_skip (unhide Hsc) hs)
          have S2 := hide (fun h1 h2 h3 => scan_wait (unhide Hsc) h1 h2 h3)
          have S3 := hide (fun h1 h2 h3 h4 => scan_two (unhide Hsc) h1 h2 h3 h4)
          have S4 := hide (fun h1 h2 h3 h4 => scan_work (unhide Hsc) h1 h2 h3 h4)
          generalize recAt m.smiths k = ss at *
          obtain ⟨st, be, rk, my, gu, lo, hi, hd, ca, ut, wk⟩ := ss
          simp only at d0 d1 d2 d3 d4 d5 d6 d7 d8 d9 d10
          have hl0 : w.heap.size < wr.heap.size := (unhide kb).lt
          by_cases hbe : be = (j : Int)
          rotate_left
          · have hbn : (be != (j : Int)) = true := by simpa using hbe
            go_wp2_with fail
            go_roundw
            case rel => exact ⟨k + 1, wkk, wt, by omega, rfl, rfl, by go_num, by omega, by omega, unhide S1 (fun h9 => hbe h9.1), (unhide kb).alloc _, (unhide BB).alloc (unhide BB).size _⟩
            case measure => simp [intOf]; omega
          subst hbe
          have hbn : ((j : Int) != (j : Int)) = false := by simp
          obtain ⟨ps, hps⟩ : ∃ q, presS (st, (j : Int), rk, my, gu, lo, hi, hd, ca, ut, wk) = q := ⟨_, rfl⟩
          have Hps := hide hps
          clear hps
          go_wp2_with fail
          clear c2 d0 d1 d2 d3 d4 d5 d6 d7 d8 d9 d10
          refine (l11Present_q (unhide Hps) _).mono ?_
          rintro e w2 ⟨rfl, hb⟩
          have ks : Hid (Blk w2 wr.heap.size 67 #[.int .i64 st, .int .i64 (j : Int), .int .i64 rk, .int .i64 my, .int .i64 gu, .int .i64 lo, .int .i64 hi, .int .i64 hd, .int .i64 ca, .int .i64 ut, .int .i64 wk]) := hide ((Blk.new wr _ _).below hb (by simp))
          replace kb := hide (((unhide kb).alloc (.cells #[.int .i64 st, .int .i64 (j : Int), .int .i64 rk, .int .i64 my, .int .i64 gu, .int .i64 lo, .int .i64 hi, .int .i64 hd, .int .i64 ca, .int .i64 ut, .int .i64 wk] 67)).below hb (by simp; omega))
          replace BB := hide ((((unhide BB).alloc (unhide BB).size (.cells #[.int .i64 st, .int .i64 (j : Int), .int .i64 rk, .int .i64 my, .int .i64 gu, .int .i64 lo, .int .i64 hi, .int .i64 hd, .int .i64 ca, .int .i64 ut, .int .i64 wk] 67))).trans (hb.mono (by simp; have := (unhide BB).size; omega)))
          clear hb hl0
          have d0 := (unhide ks).cell (i := 0) (v := .int .i64 st) rfl
          cases ps
          · go_wp2_with fail
            go_roundw
            case rel => exact ⟨k + 1, wkk, wt, by omega, rfl, rfl, by go_num, by omega, by omega, unhide S1 (fun h9 => by have h8 := h9.2; rw [unhide Hps] at h8; cases h8), unhide kb, unhide BB⟩
            case measure => simp [intOf]; omega
          by_cases hst : st = 2
          · subst hst
            go_wp2_with fail
            go_roundw
            case rel => exact ⟨k + 1, wkk, true, by omega, rfl, rfl, by go_num, by omega, by omega, unhide S2 (by first | rfl | trivial) (unhide Hps) (by first | rfl | trivial), unhide kb, unhide BB⟩
            case measure => simp [intOf]; omega
          have hsn : (st == 2) = false := by simpa using hst
          by_cases hw0 : 0 ≤ wkk
          · go_wp2_with fail
            go_ret
            exact ⟨ret_bool (smyB_bench hlt (benchOkB_none (scan_none (unhide S3 (by first | rfl | trivial) (unhide Hps) hst hw0) _ (by omega)))).symm, unhide BB⟩
          go_wp2_with fail
          go_roundw
          case rel => exact ⟨k + 1, (k : Int), wt, by omega, rfl, rfl, by go_num, by omega, by omega, unhide S4 (by first | rfl | trivial) (unhide Hps) hst hw0, unhide kb, unhide BB⟩
          case measure => simp [intOf]; omega
        · obtain rfl : k = m.smiths.length := by omega
          have c3 := (unhide kb).cell (i := 3) (v := .slice a3 m.desks.length p3) rfl
          rcases unhide R3 with e0 | ⟨b', off', rfl, hbw', hcl'⟩
          · rw [e0] at hlt; simp at hlt
          obtain ⟨_, t1, _⟩ := desk_cells hcl' hlt
          rw [← (unhide BB).cell (p := ⟨b', off' + j * 3 + 1, none⟩) hbw'] at t1
          clear hcl'
          have HB := hide (benchOkB_some (unhide Hsc))
          have HL := hide (smyB_bench (m := m) hlt)
          have HU := hide (show (List.range (j + 1)).all (benchOkB m) = ((List.range j).all (benchOkB m) && benchOkB m j) from all_up j)
          generalize recAt m.desks j = dd at *
          obtain ⟨op, who, mk⟩ := dd
          simp only at t1
          by_cases hwho : who = wkk
          rotate_left
          · have hwn : (who != wkk) = true := by simpa using hwho
            go_wp2_with fail
            go_ret
            exact ⟨ret_bool (unhide HL (by rw [unhide HB]; simp [hwho])).symm, unhide BB⟩
          have hwn : (who != wkk) = false := by simpa using hwho
          have Hwho := hide hwho
          clear hwho
          cases wt
          · go_wp2_with fail
            go_roundw
            case rel => exact ⟨j + 1, by omega, by go_num, by rw [unhide HU, unhide Hup, unhide HB, unhide Hwho]; simp, unhide kb, unhide BB⟩
            case measure => simp [intOf]; omega
          by_cases hw0 : wkk < 0
          · go_wp2_with fail
            go_ret
            exact ⟨ret_bool (unhide HL (by rw [unhide HB]; simp [hw0])).symm, unhide BB⟩
          go_wp2_with fail
          go_roundw
          case rel => exact ⟨j + 1, by omega, by go_num, by rw [unhide HU, unhide Hup, unhide HB, unhide Hwho]; simp; omega, unhide kb, unhide BB⟩
          case measure => simp [intOf]; omega
    · obtain rfl : j = m.desks.length := by omega
      go_wp2_with fail
      go_ret
      exact ⟨ret_bool (smyB_all (unhide QL) (unhide Hup)).symm, unhide BB⟩

end Go.Proofs.YtffcgajndmhpkaaGreat

/- Contracts of the model's l6Put: the entry stands where it belongs, in memory of the call's own. Condition: the slice can be read. -/
namespace Go.Proofs.YtffcgajndmhpkaaGreat
open Go.ChangeShapes Go.WideShapes Go.ChangeAt Go.RowKit Go.Sort
set_option linter.unusedVariables false

theorem slice_to (a : Option Addr) (n cap k : Nat) (hk : k ≤ cap) (W : World) : (Instr.slice 113 (.slice a n cap) none (some (.int .i64 k)) none).run Tryz.prog W = .ok (.slice a k cap) W := by
  obtain ⟨i0, hi, hz0, hz1, hz2⟩ := info_parts infoEntry
  have hs : ∀ W, (sizeOf 116).run Tryz.prog W = .ok 2 W := fun W => by simp [sizeOf, typeInfo, hi, hz1]
  have hb : ∀ W, (Instr.sliceBounds true n cap none (some (.int .i64 k)) none).run Tryz.prog W = .ok (0, k, cap) W := fun W => by
    simp [Instr.sliceBounds, Instr.sliceBound, asIntOf]
    intro h; omega
  simp only [Instr.slice, Sem.run_bind, run_underlying Tryz.underlying113, Result.andThen, hb, hs, Sem.run_pure]
  simp
  cases a <;> simp [Addr.add]
def fromV (a : Option Addr) (n cap k : Nat) : Value := .slice (if cap = k then a else a.map (·.add (k * 2))) (n - k) (cap - k)
theorem slice_from (a : Option Addr) (n cap k : Nat) (hk : k ≤ n) (W : World) : (Instr.slice 113 (.slice a n cap) (some (.int .i64 k)) none none).run Tryz.prog W = .ok (fromV a n cap k) W := by
  obtain ⟨i0, hi, hz0, hz1, hz2⟩ := info_parts infoEntry
  have hs : ∀ W, (sizeOf 116).run Tryz.prog W = .ok 2 W := fun W => by simp [sizeOf, typeInfo, hi, hz1]
  have hb : ∀ W, (Instr.sliceBounds true n cap (some (.int .i64 k)) none none).run Tryz.prog W = .ok (k, n, cap) W := fun W => by
    simp [Instr.sliceBounds, Instr.sliceBound, asIntOf]
    intro h; omega
  simp only [Instr.slice, Sem.run_bind, run_underlying Tryz.underlying113, Result.andThen, hb, hs, Sem.run_pure]
  rfl
theorem paceAt_drop (ps : List PaceV) (n k : Nat) : paceAt (ps.drop n) k = paceAt ps (n + k) := by unfold paceAt; simp [List.getD]
theorem IsPaces.from {w : World} {a : Option Addr} {n cap : Nat} {ps : List PaceV} (h : IsPaces w (.slice a n cap) ps) {k : Nat} (hk : k ≤ ps.length) : IsPaces w (fromV a n cap k) (ps.drop k) := by
  obtain ⟨a', cap', he, hc, hm, hr⟩ := h
  cases he
  refine ⟨_, cap - k, by unfold fromV; rw [List.length_drop], by rw [List.length_drop]; omega, by omega, ?_⟩
  rcases hr with hr | ⟨b, off, rfl, hlt, hcl⟩
  · exact .inl (by rw [hr]; simp)
  · by_cases hz : ps.length = k
    · exact .inl (by rw [List.drop_eq_nil_iff]; omega)
    · rw [if_neg (by omega)]
      refine .inr ⟨b, off + k * 2, by simp [addr_at], hlt, fun j hj => ?_⟩
      rw [List.length_drop] at hj
      rw [paceAt_drop]
      have := hcl (k + j) (by omega)
      rw [show off + (k + j) * 2 = off + k * 2 + j * 2 by omega] at this
      exact this
theorem fromV_shape (a : Option Addr) (n cap k : Nat) : ∃ a', fromV a n cap k = .slice a' (n - k) (cap - k) := ⟨_, rfl⟩

set_option maxRecDepth 100000 in
set_option maxHeartbeats 4000000 in
theorem l6Put_any {w : World} {v : Value} {ps : List PaceV} (f z : Int) (h : IsPaces w v ps) (hl : ps.length ≤ 900) :
    Calls Tryz.prog 99 #[v, .agg #[.int .i64 f, .int .i64 z]] w fun e w' => ∃ v', e = .returned v' ∧ EntsAt w.heap.size w' v' (putV ps (f, z)) ∧ Below w.heap.size w w' := by
  have Hv := hide h
  obtain ⟨a, cap, rfl, hc, hm, hr⟩ := h
  have Hr := hide hr
  clear hr
  go_enter Tryz.func99, Tryz.ntmps99
  go_wp2_with fail
  generalize hW : w.alloc (.cells #[.int .i64 f, .int .i64 z] 116) = W0
  have hs0 : W0.heap.size = w.heap.size + 1 := by rw [← hW]; simp
  have d0 : W0.cell? ⟨w.heap.size, 0, none⟩ = some (.int .i64 f) := by rw [← hW]; simp
  have d1 : W0.cell? ⟨w.heap.size, 1, none⟩ = some (.int .i64 z) := by rw [← hW]; simp
  have HB0 : Hid (Below w.heap.size w W0) := hide (by rw [← hW]; exact (Below.refl _ _).alloc (Nat.le_refl _) _)
  have D0 := hide d0
  have D1 := hide d1
  clear hW d0 d1
  go_loopw [5] (fun i wr => ∃ k : Nat, k ≤ ps.length ∧ i = .int .i64 k ∧ (∀ j, j < k → ltB (paceAt ps j) (f, z) = true) ∧ Below W0.heap.size W0 wr) (fun i _ => ps.length - (intOf i).toNat)
  case atStart => exact ⟨0, Nat.zero_le _, rfl, fun j hj => by omega, Below.refl _ _⟩
  case round =>
    obtain ⟨k, hk, rfl, hst, hb⟩ := hrel
    have Hst := hide hst
    have Hb := hide hb
    have hszr := hb.size
    have hlt0 : w.heap.size < W0.heap.size := by omega
    have g0 := (hb.cell (p := ⟨w.heap.size, 0, none⟩) hlt0).trans (unhide D0)
    have g1 := (hb.cell (p := ⟨w.heap.size, 1, none⟩) hlt0).trans (unhide D1)
    have k0 := cell_regrown g0
    have k1 := cell_regrown g1
    clear hst
    by_cases hgo : k < ps.length ∧ ltB (paceAt ps k) (f, z) = true
    · obtain ⟨hlt, hab⟩ := hgo
      rcases unhide Hr with h0 | ⟨b, off, rfl, hbw, hcl⟩
      · rw [h0] at hlt; simp at hlt
      obtain ⟨c0, c1⟩ := hcl k hlt
      have hbB := (unhide HB0).trans (hb.mono (by omega))
      rw [← hbB.cell (p := ⟨b, off + k * 2, none⟩) hbw] at c0
      rw [← hbB.cell (p := ⟨b, off + k * 2 + 1, none⟩) hbw] at c1
      generalize hp : paceAt ps k = p at *
      obtain ⟨f', z'⟩ := p
      simp only at c0 c1
      have Hp := hide hp
      have m0 := cell_regrown c0
      have m1 := cell_regrown c1
      have hd : decide (k < ps.length) = true := decide_eq_true hlt
      clear hp hcl hb hbB g0 g1 c0 c1
      go_wp2_with fail
      refine wp_region_quiet_below (by kernel_rfl) (by kernel_rfl) ?_
      repeat (go_big_quiet_step (exact Calls.regrown_of (specLess_any _ _ _ _ _)))
      refine wpQuiet_nil ?_
      intro _ hw'
      obtain ⟨⟨dq, osq⟩, hw''⟩ := hw'
      subst hw''
      go_wp2_with fail
      go_roundw
      case rel => exact ⟨k + 1, by omega, by go_num, next_all (unhide Hst) (by rw [unhide Hp]; exact hab), (unhide Hb).trans ((below_regrown _ _ _).mono (unhide Hb).size)⟩
      case measure => simp [intOf]; omega
    · have HK : Hid (lessN (f, z) ps = k) := hide (lessN_eq hk (unhide Hst) (by
        by_cases e : k = ps.length
        · exact .inl e
        · right
          cases hq : ltB (paceAt ps k) (f, z)
          · rfl
          · exact absurd ⟨by omega, hq⟩ hgo))
      have HQ : Hid (ps.take k ++ [(f, z)] ++ ps.drop k = putV ps (f, z)) := hide (by unfold putV; rw [unhide HK]; simp)
      have hto := slice_to a ps.length cap k (by omega)
      have hfr := slice_from a ps.length cap k hk
      obtain ⟨ra, hra⟩ := fromV_shape a ps.length cap k
      rw [hra] at hfr
      have Hfrom : Hid (IsPaces w (.slice ra (ps.length - k) (cap - k)) (ps.drop k)) := hide (by rw [← hra]; exact (unhide Hv).from hk)
      have Hcut : Hid (IsPaces w (.slice a k cap) (ps.take k)) := hide ((unhide Hv).cut hk)
      clear hra
      by_cases hlt : k < ps.length
      · have hab : ltB (paceAt ps k) (f, z) = false := by
          cases hq : ltB (paceAt ps k) (f, z)
          · rfl
          · exact absurd ⟨hlt, hq⟩ hgo
        rcases unhide Hr with h0 | ⟨b, off, rfl, hbw, hcl⟩
        · rw [h0] at hlt; simp at hlt
        obtain ⟨c0, c1⟩ := hcl k hlt
        have hbB := (unhide HB0).trans (hb.mono (by omega))
        rw [← hbB.cell (p := ⟨b, off + k * 2, none⟩) hbw] at c0
        rw [← hbB.cell (p := ⟨b, off + k * 2 + 1, none⟩) hbw] at c1
        generalize hp : paceAt ps k = p at *
        obtain ⟨f', z'⟩ := p
        simp only at c0 c1
        have m0 := cell_regrown c0
        have m1 := cell_regrown c1
        have hd : decide (k < ps.length) = true := decide_eq_true hlt
        clear hp hcl hb hbB g0 g1 c0 c1 hgo
        go_wp2_with fail
        refine wp_region_quiet_below (by kernel_rfl) (by kernel_rfl) ?_
        repeat (go_big_quiet_step (exact Calls.regrown_of (specLess_any _ _ _ _ _)))
        refine wpQuiet_nil ?_
        intro w1 hw'
        have Hb1 : Hid (Below W0.heap.size W0 w1) := hide (by obtain ⟨q, rfl⟩ := hw'; exact (unhide Hb).trans ((below_regrown _ _ _).mono (unhide Hb).size))
        clear hw' k0 k1 m0 m1
        go_wp2_with fail
        have B1 : Hid (Below w.heap.size w w1) := hide ((unhide HB0).trans ((unhide Hb1).mono (by omega)))
        refine (l6Copy_any ((unhide Hfrom).below (unhide B1)) (by simp; omega)).mono ?_
        rintro e w2 ⟨v2, rfl, hi2, hb2⟩
        obtain ⟨a2, cap2, hv2⟩ := hi2.shape
        rw [List.length_drop] at hv2
        subst hv2
        have hz1 := (unhide Hb1).size
        have hz2 := hb2.size
        have Hb2 : Hid (Below W0.heap.size W0 w2) := hide ((unhide Hb1).trans (hb2.mono hz1))
        have e0 := ((unhide Hb2).cell (p := ⟨w.heap.size, 0, none⟩) hlt0).trans (unhide D0)
        have e1 := ((unhide Hb2).cell (p := ⟨w.heap.size, 1, none⟩) hlt0).trans (unhide D1)
        have B2 : Hid (Below w.heap.size w w2) := hide ((unhide HB0).trans ((unhide Hb2).mono (by omega)))
        have Hi2 := hide hi2
        have HC := hide ((unhide Hcut).below (unhide B2))
        clear hi2 hb2
        have hlt2 : w.heap.size < w2.heap.size := by omega
        have hkl : (ps.take k).length = k := by simp; omega
        go_wp2_with fail
        go_region_law (first
          | (refine step_append_ents rfl (.tmp 28) (.tmp 30) 113 Tryz.underlying113 rfl w2.heap.size _ _ (ps.take k) [(f, z)] rfl rfl (E3.later ((Below.refl _ _).alloc (Nat.le_refl _) _)) (ents_one rfl (Nat.le_refl _) (by omega)) (by simp; omega) (by simp; omega) ?_; intro v4 w4 hown4 hg4 hat4; have X4 : Below w2.heap.size w2 w4 := (X3.alloc X3.size _).trans ((Below.refl _ _).grown hg4 (by simp; omega) (fun i e => (E3.lt e).1)))
          | (refine step_append_ents rfl (.tmp 28) (.tmp 30) 113 Tryz.underlying113 rfl w2.heap.size _ _ (ps.take k) [(f, z)] rfl rfl E3 ((ents_one (w := w2) rfl (Nat.le_refl _) (by omega)).below (((Below.refl _ _).drew).trans hb3)) (by simp; omega) (by omega) ?_; intro v4 w4 hown4 hg4 hat4; have X4 : Below w2.heap.size w2 w4 := X3.trans ((Below.refl _ _).grown hg4 (by omega) (fun i e => (E3.lt e).1)))
          | (refine step_append_ents rfl (.tmp 31) (.tmp 32) 113 Tryz.underlying113 rfl w2.heap.size _ _ (ps.take k ++ [(f, z)]) (ps.drop k) rfl rfl hown4 ((unhide Hi2).paces.below X4) (by simp; omega) (by have := X4.size; omega) ?_; intro v5 w5 hown5 hg5 hat5)
          | (go_simp; go_at_call 122; refine (l6Copy_any (ps := ps.take k) ?_ (by simp; omega)).mono ?_; (exact (unhide HC).below (by first | exact (Below.refl _ _).drew | exact ((Below.refl _ _).alloc (Nat.le_refl _) _).drew)); rintro e w3 ⟨v3, rfl, hi3, hb3⟩; obtain ⟨a3, cap3, hv3⟩ := hi3.shape; rw [hkl] at hv3; subst hv3; have E3 := hi3.mono (n₁ := w2.heap.size) (by simp); have X3 : Below w2.heap.size w2 w3 := (by first | exact ((Below.refl _ _).drew).trans (hb3.mono (by simp)) | exact (((Below.refl _ _).alloc (Nat.le_refl _) _).drew).trans (hb3.mono (by simp))); have hz3 := X3.size; have q0 := (X3.cell (p := ⟨w.heap.size, 0, none⟩) hlt2).trans e0; have q1 := (X3.cell (p := ⟨w.heap.size, 1, none⟩) hlt2).trans e1))
        all_goals
          have X5 : Below w2.heap.size w2 w5 := X4.trans ((Below.refl _ _).grown hg5 X4.size (fun i e => (hown4.lt e).1))
          rw [unhide HQ] at hown5
          have HX5 := hide X5
          have HO5 := hide hown5
          clear hown5 hg5 hat5 X4 X5 hown4 hg4 hat4 X3 E3 hi3 hb3 q0 q1
          go_wp2_with fail
          go_ret
          exact ⟨_, rfl, (unhide HO5).mono (unhide B2).size, (unhide B2).trans ((unhide HX5).mono (unhide B2).size)⟩
      · have hd : decide (k < ps.length) = false := decide_eq_false hlt
        clear hb g0 g1 hgo
        go_wp2_with fail
        refine wp_region_quiet_below (by kernel_rfl) (by kernel_rfl) ?_
        repeat (go_big_quiet_step (exact Calls.regrown_of (specLess_any _ _ _ _ _)))
        refine wpQuiet_nil ?_
        intro w1 hw'
        have Hb1 : Hid (Below W0.heap.size W0 w1) := hide (by obtain ⟨q, rfl⟩ := hw'; exact (unhide Hb).trans ((below_regrown _ _ _).mono (unhide Hb).size))
        clear hw' k0 k1
        go_wp2_with fail
        have B1 : Hid (Below w.heap.size w w1) := hide ((unhide HB0).trans ((unhide Hb1).mono (by omega)))
        refine (l6Copy_any ((unhide Hfrom).below (unhide B1)) (by simp; omega)).mono ?_
        rintro e w2 ⟨v2, rfl, hi2, hb2⟩
        obtain ⟨a2, cap2, hv2⟩ := hi2.shape
        rw [List.length_drop] at hv2
        subst hv2
        have hz1 := (unhide Hb1).size
        have hz2 := hb2.size
        have Hb2 : Hid (Below W0.heap.size W0 w2) := hide ((unhide Hb1).trans (hb2.mono hz1))
        have e0 := ((unhide Hb2).cell (p := ⟨w.heap.size, 0, none⟩) hlt0).trans (unhide D0)
        have e1 := ((unhide Hb2).cell (p := ⟨w.heap.size, 1, none⟩) hlt0).trans (unhide D1)
        have B2 : Hid (Below w.heap.size w w2) := hide ((unhide HB0).trans ((unhide Hb2).mono (by omega)))
        have Hi2 := hide hi2
        have HC := hide ((unhide Hcut).below (unhide B2))
        clear hi2 hb2
        have hlt2 : w.heap.size < w2.heap.size := by omega
        have hkl : (ps.take k).length = k := by simp; omega
        go_wp2_with fail
        go_region_law (first
          | (refine step_append_ents rfl (.tmp 28) (.tmp 30) 113 Tryz.underlying113 rfl w2.heap.size _ _ (ps.take k) [(f, z)] rfl rfl (E3.later ((Below.refl _ _).alloc (Nat.le_refl _) _)) (ents_one rfl (Nat.le_refl _) (by omega)) (by simp; omega) (by simp; omega) ?_; intro v4 w4 hown4 hg4 hat4; have X4 : Below w2.heap.size w2 w4 := (X3.alloc X3.size _).trans ((Below.refl _ _).grown hg4 (by simp; omega) (fun i e => (E3.lt e).1)))
          | (refine step_append_ents rfl (.tmp 28) (.tmp 30) 113 Tryz.underlying113 rfl w2.heap.size _ _ (ps.take k) [(f, z)] rfl rfl E3 ((ents_one (w := w2) rfl (Nat.le_refl _) (by omega)).below (((Below.refl _ _).drew).trans hb3)) (by simp; omega) (by omega) ?_; intro v4 w4 hown4 hg4 hat4; have X4 : Below w2.heap.size w2 w4 := X3.trans ((Below.refl _ _).grown hg4 (by omega) (fun i e => (E3.lt e).1)))
          | (refine step_append_ents rfl (.tmp 31) (.tmp 32) 113 Tryz.underlying113 rfl w2.heap.size _ _ (ps.take k ++ [(f, z)]) (ps.drop k) rfl rfl hown4 ((unhide Hi2).paces.below X4) (by simp; omega) (by have := X4.size; omega) ?_; intro v5 w5 hown5 hg5 hat5)
          | (go_simp; go_at_call 122; refine (l6Copy_any (ps := ps.take k) ?_ (by simp; omega)).mono ?_; (exact (unhide HC).below (by first | exact (Below.refl _ _).drew | exact ((Below.refl _ _).alloc (Nat.le_refl _) _).drew)); rintro e w3 ⟨v3, rfl, hi3, hb3⟩; obtain ⟨a3, cap3, hv3⟩ := hi3.shape; rw [hkl] at hv3; subst hv3; have E3 := hi3.mono (n₁ := w2.heap.size) (by simp); have X3 : Below w2.heap.size w2 w3 := (by first | exact ((Below.refl _ _).drew).trans (hb3.mono (by simp)) | exact (((Below.refl _ _).alloc (Nat.le_refl _) _).drew).trans (hb3.mono (by simp))); have hz3 := X3.size; have q0 := (X3.cell (p := ⟨w.heap.size, 0, none⟩) hlt2).trans e0; have q1 := (X3.cell (p := ⟨w.heap.size, 1, none⟩) hlt2).trans e1))
        all_goals
          have X5 : Below w2.heap.size w2 w5 := X4.trans ((Below.refl _ _).grown hg5 X4.size (fun i e => (hown4.lt e).1))
          rw [unhide HQ] at hown5
          have HX5 := hide X5
          have HO5 := hide hown5
          clear hown5 hg5 hat5 X4 X5 hown4 hg4 hat4 X3 E3 hi3 hb3 q0 q1
          go_wp2_with fail
          go_ret
          exact ⟨_, rfl, (unhide HO5).mono (unhide B2).size, (unhide B2).trans ((unhide HX5).mono (unhide B2).size)⟩

end Go.Proofs.YtffcgajndmhpkaaGreat

/- Who is at a bench: the model's l11At and At. Conditions: the smithy can be read; what each theorem names. -/
namespace Go.Proofs.YtffcgajndmhpkaaGreat
open Go.ChangeShapes Go.WideShapes Go.ChangeAt Go.RowKit Go.Sort
set_option linter.unusedVariables false

set_option maxRecDepth 100000 in
set_option maxHeartbeats 8000000 in
theorem l11At_any {w : World} {v0 v1 v2 v3 v4 : Value} {m : SmyV} (b : Int) (h : Smy w v0 v1 v2 v3 v4 m) (hl : m.smiths.length ≤ 800) :
    Calls Tryz.prog 78 #[.agg #[v0, v1, v2, v3, v4, .int .i64 m.now], .int .i64 b] w fun e w' => ∃ v', e = .returned v' ∧ EntsAt w.heap.size w' v' (atV m.smiths b m.smiths.length) ∧ Below w.heap.size w w' := by
  obtain ⟨h0, h1, h2, h3, h4⟩ := h
  obtain ⟨a0, p0, rfl, hc0, hm0, _⟩ := h0
  obtain ⟨a1, p1, rfl, hc1, hm1, _⟩ := h1
  obtain ⟨a2, p2, rfl, hc2, hm2, r2⟩ := h2
  obtain ⟨a3, p3, rfl, hc3, hm3, _⟩ := h3
  obtain ⟨a4, p4, rfl, hc4, hm4, _⟩ := h4
  have R2 := hide r2
  clear r2
  have kb0 : Hid (Blk ((w.alloc (.cells #[.slice a0 m.rooms.length p0, .slice a1 m.guilds.length p1, .slice a2 m.smiths.length p2, .slice a3 m.desks.length p3, .slice a4 m.paces.length p4, .int .i64 m.now] 40)).alloc (.cells #[] 116)) w.heap.size 40 #[.slice a0 m.rooms.length p0, .slice a1 m.guilds.length p1, .slice a2 m.smiths.length p2, .slice a3 m.desks.length p3, .slice a4 m.paces.length p4, .int .i64 m.now]) := hide ((Blk.new w _ _).alloc _)
  have BB0 : Hid (Below w.heap.size w ((w.alloc (.cells #[.slice a0 m.rooms.length p0, .slice a1 m.guilds.length p1, .slice a2 m.smiths.length p2, .slice a3 m.desks.length p3, .slice a4 m.paces.length p4, .int .i64 m.now] 40)).alloc (.cells #[] 116))) := hide (((Below.refl _ _).alloc (Nat.le_refl _) _).alloc (by simp) _)
  have E0 : Hid (EntsAt w.heap.size ((w.alloc (.cells #[.slice a0 m.rooms.length p0, .slice a1 m.guilds.length p1, .slice a2 m.smiths.length p2, .slice a3 m.desks.length p3, .slice a4 m.paces.length p4, .int .i64 m.now] 40)).alloc (.cells #[] 116)) (.slice (some ⟨w.heap.size + 1, 0, none⟩) 0 0) []) := hide (ents_empty (by simp) (by omega))
  go_enter Tryz.func78, Tryz.ntmps78
  go_wp2_with fail
  go_loopw [5, 6] (fun q i wr => ∃ k : Nat, k ≤ m.smiths.length ∧ i = .int .i64 k ∧ EntsAt w.heap.size wr q (atV m.smiths b k) ∧ Blk wr w.heap.size 40 #[.slice a0 m.rooms.length p0, .slice a1 m.guilds.length p1, .slice a2 m.smiths.length p2, .slice a3 m.desks.length p3, .slice a4 m.paces.length p4, .int .i64 m.now] ∧ Below w.heap.size w wr) (fun _ i _ => m.smiths.length - (intOf i).toNat)
  case atStart => exact ⟨0, Nat.zero_le _, rfl, unhide E0, unhide kb0, unhide BB0⟩
  case round =>
    obtain ⟨k, hk, rfl, he, kb1, hb1⟩ := hrel
    obtain ⟨qa, qcap, rfl⟩ := EntsAt.shape he
    have kb := hide kb1
    have BB := hide hb1
    have He := hide he
    clear kb1 hb1 he kb0 BB0 E0
    have hal := atV_len m.smiths b k
    have c2 := (unhide kb).cell (i := 2) (v := .slice a2 m.smiths.length p2) rfl
    by_cases hls : k < m.smiths.length
    · rcases unhide R2 with e0 | ⟨sb, off, rfl, hbw, hcl⟩
      · rw [e0] at hls; simp at hls
      obtain ⟨d0, d1, d2, d3, d4, d5, d6, d7, d8, d9, d10⟩ := smith_cells hcl hls
      rw [← (unhide BB).cell (p := ⟨sb, off + k * 11, none⟩) hbw] at d0
      rw [← (unhide BB).cell (p := ⟨sb, off + k * 11 + 1, none⟩) hbw] at d1
      rw [← (unhide BB).cell (p := ⟨sb, off + k * 11 + 2, none⟩) hbw] at d2
      rw [← (unhide BB).cell (p := ⟨sb, off + k * 11 + 3, none⟩) hbw] at d3
      rw [← (unhide BB).cell (p := ⟨sb, off + k * 11 + 4, none⟩) hbw] at d4
      rw [← (unhide BB).cell (p := ⟨sb, off + k * 11 + 5, none⟩) hbw] at d5
      rw [← (unhide BB).cell (p := ⟨sb, off + k * 11 + 6, none⟩) hbw] at d6
      rw [← (unhide BB).cell (p := ⟨sb, off + k * 11 + 7, none⟩) hbw] at d7
      rw [← (unhide BB).cell (p := ⟨sb, off + k * 11 + 8, none⟩) hbw] at d8
      rw [← (unhide BB).cell (p := ⟨sb, off + k * 11 + 9, none⟩) hbw] at d9
      rw [← (unhide BB).cell (p := ⟨sb, off + k * 11 + 10, none⟩) hbw] at d10
      clear hcl
      have S1 := hide (fun hs => atV_no (ss := m.smiths) (b := b) (k := k) hs)
      have S2 := hide (fun h1 h2 => atV_yes (ss := m.smiths) (b := b) (k := k) h1 h2)
      generalize recAt m.smiths k = ss at *
      obtain ⟨st, be, rk, my, gu, lo, hi, hd, ca, ut, wk⟩ := ss
      simp only at d0 d1 d2 d3 d4 d5 d6 d7 d8 d9 d10
      have hl0 : w.heap.size < wr.heap.size := (unhide kb).lt
      by_cases hbe : be = b
      rotate_left
      · have hbn : (be == b) = false := by simpa using hbe
        go_wp2_with fail
        go_roundw
        case rel => exact ⟨k + 1, by omega, by go_num, by rw [unhide S1 (fun h9 => hbe h9.1)]; exact EntsAt.later (unhide He) ((Below.refl _ _).alloc (Nat.le_refl _) _), (unhide kb).alloc _, (unhide BB).alloc (unhide BB).size _⟩
        case measure => simp [intOf]; omega
      subst hbe
      have hbn : (be == be) = true := by simp
      obtain ⟨ps, hps⟩ : ∃ q, presS (st, be, rk, my, gu, lo, hi, hd, ca, ut, wk) = q := ⟨_, rfl⟩
      have Hps := hide hps
      clear hps
      go_wp2_with fail
      clear c2 d0 d1 d2 d3 d4 d5 d6 d7 d8 d9 d10
      refine (l11Present_q (unhide Hps) _).mono ?_
      rintro e w2 ⟨rfl, hb⟩
      have ks : Hid (Blk w2 wr.heap.size 67 #[.int .i64 st, .int .i64 be, .int .i64 rk, .int .i64 my, .int .i64 gu, .int .i64 lo, .int .i64 hi, .int .i64 hd, .int .i64 ca, .int .i64 ut, .int .i64 wk]) := hide ((Blk.new wr _ _).below hb (by simp))
      replace kb := hide (((unhide kb).alloc (.cells #[.int .i64 st, .int .i64 be, .int .i64 rk, .int .i64 my, .int .i64 gu, .int .i64 lo, .int .i64 hi, .int .i64 hd, .int .i64 ca, .int .i64 ut, .int .i64 wk] 67)).below hb (by simp; omega))
      have hba := ((Below.refl wr.heap.size wr).alloc (Nat.le_refl _) (.cells #[.int .i64 st, .int .i64 be, .int .i64 rk, .int .i64 my, .int .i64 gu, .int .i64 lo, .int .i64 hi, .int .i64 hd, .int .i64 ca, .int .i64 ut, .int .i64 wk] 67)).trans (hb.mono (by simp))
      replace He := hide (EntsAt.later (unhide He) hba)
      replace BB := hide ((unhide BB).trans (hba.mono (unhide BB).size))
      clear hb hl0 hba
      have d7 := (unhide ks).cell (i := 7) (v := .int .i64 hd) rfl
      cases ps
      · go_wp2_with fail
        go_roundw
        case rel => exact ⟨k + 1, by omega, by go_num, by rw [unhide S1 (fun h9 => by have h8 := h9.2; rw [unhide Hps] at h8; cases h8)]; exact unhide He, unhide kb, unhide BB⟩
        case measure => simp [intOf]; omega
      go_wp2_with fail
      refine (l6Put_any hd (k : Int) (EntsAt.paces (unhide He)) (by omega)).mono ?_
      rintro e w3 ⟨v3, rfl, he3, hb⟩
      have hsz := (unhide BB).size
      have he4 := EntsAt.mono he3 hsz
      replace kb := hide ((unhide kb).below hb (unhide kb).lt)
      replace BB := hide ((unhide BB).trans (hb.mono hsz))
      obtain ⟨qa3, qcap3, rfl⟩ := EntsAt.shape he4
      have He4 := hide he4
      clear hb he3 he4 d7
      go_wp2_with fail
      go_roundw
      case rel => exact ⟨k + 1, by omega, by go_num, by rw [unhide S2 (by first | rfl | trivial) (unhide Hps)]; exact unhide He4, unhide kb, unhide BB⟩
      case measure => simp [intOf]; omega
    · obtain rfl : k = m.smiths.length := by omega
      go_wp2_with fail
      go_ret
      exact ⟨_, rfl, unhide He, unhide BB⟩

end Go.Proofs.YtffcgajndmhpkaaGreat

/- What one wants, and what is used at a bench: the model's l11Want, l11Who, l11Used. Conditions: the smithy can be read; what each theorem names. -/
namespace Go.Proofs.YtffcgajndmhpkaaGreat
open Go.ChangeShapes Go.WideShapes Go.ChangeAt Go.RowKit Go.Sort
set_option linter.unusedVariables false

/-- Right guilds, and each smith's is there who is not gone. -/
structure Guilded (m : SmyV) : Prop where
  guilds : guildsB m.guilds = true
  lo : ∀ i, i < m.smiths.length → (recAt m.smiths i).1 ≠ 0 → -1 ≤ (recAt m.smiths i).2.2.2.2.1
  hi : ∀ i, i < m.smiths.length → (recAt m.smiths i).1 ≠ 0 → (recAt m.smiths i).2.2.2.2.1 < m.guilds.length
theorem pres_ne {s : SmithV} (h : presS s = true) : s.1 ≠ 0 := fun e => by unfold presS at h; rw [e] at h; cases h

set_option maxHeartbeats 2000000 in
theorem l11Want_any {w : World} {v0 v1 v2 v3 v4 : Value} {m : SmyV} {k : Nat} (h : Smy w v0 v1 v2 v3 v4 m) (hg : guildsB m.guilds = true) (hk : k < m.smiths.length) (g0 : -1 ≤ (recAt m.smiths k).2.2.2.2.1) (g1 : (recAt m.smiths k).2.2.2.2.1 < m.guilds.length) :
    Calls Tryz.prog 79 #[.agg #[v0, v1, v2, v3, v4, .int .i64 m.now], .int .i64 (k : Int)] w fun e w' => e = .returned (.int .i64 (wantV m (k : Int))) ∧ Below w.heap.size w w' := by
  have hw : wantV m (k : Int) = wantS m.guilds (recAt m.smiths k) := rfl
  rw [hw]
  clear hw
  have Hv := hide h
  obtain ⟨h0, h1, h2, h3, h4⟩ := h
  obtain ⟨a0, p0, rfl, hc0, hm0⟩ := IsRooms.shape h0
  obtain ⟨a1, p1, rfl, hc1, hm1⟩ := IsRec.shape h1
  obtain ⟨a2, p2, rfl, hc2, hm2, r2⟩ := h2
  obtain ⟨a3, p3, rfl, hc3, hm3⟩ := IsRec.shape h3
  obtain ⟨a4, p4, rfl, hc4, hm4⟩ := IsRec.shape h4
  clear h0 h1 h3 h4
  rcases r2 with e0 | ⟨sb, off, rfl, hbw, hcl⟩
  · rw [e0] at hk; simp at hk
  obtain ⟨d0, d1, d2, d3, d4, d5, d6, d7, d8, d9, d10⟩ := smith_cells hcl hk
  clear hcl
  generalize recAt m.smiths k = ss at *
  obtain ⟨st, be, rk, my, gu, lo, hi, hd, ca, ut, wk⟩ := ss
  simp only at d0 d1 d2 d3 d4 d5 d6 d7 d8 d9 d10 g0 g1
  have Hg := hide hg
  clear hg
  go_enter Tryz.func79, Tryz.ntmps79
  go_wp2_with fail
  have BB : Hid (Below w.heap.size w ((w.alloc (.cells #[.slice a0 m.rooms.length p0, .slice a1 m.guilds.length p1, .slice (some ⟨sb, off, none⟩) m.smiths.length p2, .slice a3 m.desks.length p3, .slice a4 m.paces.length p4, .int .i64 m.now] 40)).alloc (.cells #[.int .i64 st, .int .i64 be, .int .i64 rk, .int .i64 my, .int .i64 gu, .int .i64 lo, .int .i64 hi, .int .i64 hd, .int .i64 ca, .int .i64 ut, .int .i64 wk] 67))) := hide (((Below.refl _ _).alloc (Nat.le_refl _) _).alloc (by simp) _)
  have Hv2 := hide ((unhide Hv).below (unhide BB)).guilds
  have ks := hide (Blk.new (w.alloc (.cells #[.slice a0 m.rooms.length p0, .slice a1 m.guilds.length p1, .slice (some ⟨sb, off, none⟩) m.smiths.length p2, .slice a3 m.desks.length p3, .slice a4 m.paces.length p4, .int .i64 m.now] 40)) 67 #[.int .i64 st, .int .i64 be, .int .i64 rk, .int .i64 my, .int .i64 gu, .int .i64 lo, .int .i64 hi, .int .i64 hd, .int .i64 ca, .int .i64 ut, .int .i64 wk])
  simp only [World.size_alloc] at ks
  generalize (w.alloc (.cells #[.slice a0 m.rooms.length p0, .slice a1 m.guilds.length p1, .slice (some ⟨sb, off, none⟩) m.smiths.length p2, .slice a3 m.desks.length p3, .slice a4 m.paces.length p4, .int .i64 m.now] 40)).alloc (.cells #[.int .i64 st, .int .i64 be, .int .i64 rk, .int .i64 my, .int .i64 gu, .int .i64 lo, .int .i64 hi, .int .i64 hd, .int .i64 ca, .int .i64 ut, .int .i64 wk] 67) = W at *
  refine (l8Within_of gu lo hi (unhide Hv2) (l8Bounds_any (unhide Hg) m.guilds.length gu (unhide Hv2) g0 g1 g1)).mono ?_
  rintro e w1 ⟨rfl, hb⟩
  replace ks := hide ((unhide ks).below hb (unhide ks).lt)
  replace BB := hide ((unhide BB).trans (hb.mono (unhide BB).size))
  have x9 := (unhide ks).cell (i := 9) (v := .int .i64 ut) rfl
  clear hb d0 d1 d2 d3 d4 d5 d6 d7 d8 d9 d10
  go_wp2_with (go_at_call 101; refine (specClamped_any _ _ _ _).mono ?_; rintro e w' ⟨rfl, h9⟩; subst w')
  go_ret
  exact ⟨rfl, unhide BB⟩

theorem usedL_step (m : SmyV) (but : Int) {q : List PaceV} {k : Nat} (hk : k < q.length) : usedL m but (q.take (k + 1)) = if (paceAt q k).2 = but then usedL m but (q.take k) else usedL m but (q.take k) + wantV m (paceAt q k).2 := by
  have : q.take (k + 1) = q.take k ++ [paceAt q k] := by
    rw [List.take_succ_eq_append_getElem hk]; unfold paceAt; simp [List.getD, hk]
  rw [this, usedL_snoc]

set_option maxRecDepth 100000 in
set_option maxHeartbeats 4000000 in
theorem l11Used_any {w : World} {v0 v1 v2 v3 v4 : Value} {m : SmyV} (b but : Int) (h : Smy w v0 v1 v2 v3 v4 m) (hG : Guilded m) (hl : m.smiths.length ≤ 800) :
    Calls Tryz.prog 57 #[.agg #[v0, v1, v2, v3, v4, .int .i64 m.now], .int .i64 b, .int .i64 but] w fun e w' => e = .returned (.int .i64 (usedV m b but)) ∧ Below w.heap.size w w' := by
  have Hv := hide (h.alloc (.cells #[v0, v1, v2, v3, v4, .int .i64 m.now] 40))
  obtain ⟨a0, p0, rfl, _, _⟩ := IsRooms.shape h.rooms
  obtain ⟨a1, p1, rfl, _, _⟩ := IsRec.shape h.guilds
  obtain ⟨a2, p2, rfl, _, _⟩ := IsRec.shape h.smiths
  obtain ⟨a3, p3, rfl, _, _⟩ := IsRec.shape h.desks
  obtain ⟨a4, p4, rfl, _, _⟩ := IsRec.shape h.paces
  clear h
  have HG := hide hG
  clear hG
  go_enter Tryz.func57, Tryz.ntmps57
  go_wp2_with fail
  refine (l11At_any b (unhide Hv) hl).mono ?_
  rintro e w1 ⟨v', rfl, he, hb⟩
  have kb : Hid (Blk w1 w.heap.size 40 #[.slice a0 m.rooms.length p0, .slice a1 m.guilds.length p1, .slice a2 m.smiths.length p2, .slice a3 m.desks.length p3, .slice a4 m.paces.length p4, .int .i64 m.now]) := hide ((Blk.new w _ _).below hb (by simp))
  have BB : Hid (Below w.heap.size w w1) := hide (((Below.refl _ _).alloc (Nat.le_refl _) _).trans (hb.mono (by simp)))
  replace Hv := hide ((unhide Hv).below hb)
  have hq := atV_len m.smiths b m.smiths.length
  have hmem := atV_mem m.smiths b
  have Hu : Hid (usedV m b but = usedL m but (atV m.smiths b m.smiths.length)) := hide rfl
  have hmq : ∀ x ∈ atV m.smiths b m.smiths.length, ∃ j : Nat, j < m.smiths.length ∧ presS (recAt m.smiths j) = true ∧ x.2 = (j : Int) := fun x hx => by
    obtain ⟨j, hj, _, hp, rfl⟩ := (hmem x m.smiths.length).1 hx
    exact ⟨j, hj, hp, rfl⟩
  have Hm := hide hmq
  clear hmem hmq hb
  have hp := EntsAt.paces he
  clear he
  generalize atV m.smiths b m.smiths.length = q at *
  obtain ⟨qa, qc, rfl, hqc, hqm, hr⟩ := hp
  have Hr := hide hr
  clear hr
  go_wp2_with fail
  go_loopw [7, 9] (fun n i wr => ∃ k : Nat, k ≤ q.length ∧ i = .int .i64 k ∧ n = .int .i64 (usedL m but (q.take k)) ∧ Below w1.heap.size w1 wr) (fun _ i _ => q.length - (intOf i).toNat)
  case atStart => exact ⟨0, Nat.zero_le _, rfl, rfl, Below.refl _ _⟩
  case round =>
    obtain ⟨k, hk, rfl, rfl, hbr⟩ := hrel
    have hub := usedL_bd m but (q.take k)
    have htl : (q.take k).length ≤ k := by rw [List.length_take]; omega
    by_cases hlt : k < q.length
    · rcases unhide Hr with e0 | ⟨eb, eo, rfl, hbw, hcl⟩
      · rw [e0] at hlt; simp at hlt
      obtain ⟨c0, c1⟩ := hcl k hlt
      rw [← hbr.cell (p := ⟨eb, eo + k * 2, none⟩) hbw] at c0
      rw [← hbr.cell (p := ⟨eb, eo + k * 2 + 1, none⟩) hbw] at c1
      obtain ⟨j, hj, hjp, hje⟩ := unhide Hm _ (paceAt_mem hlt)
      have Hjp := hide (pres_ne hjp)
      clear hjp
      have hst := usedL_step m but hlt
      have hwb := wantV_bd m (j : Int)
      rw [hje] at c1 hst
      clear hje hcl
      generalize (paceAt q k).1 = hd at *
      have Hst := hide hst
      clear hst
      generalize usedL m but (q.take k) = u at *
      have u1 : u ≤ 1024 * 800 := by omega
      have kb1 := (unhide kb).below hbr (unhide kb).lt
      have Hv1 := hide ((unhide Hv).below hbr)
      have Kb1 := hide kb1
      have Hbr := hide hbr
      clear hbr kb1
      have x0 := (unhide Kb1).cell (i := 0) (v := .slice a0 m.rooms.length p0) rfl
      have x1 := (unhide Kb1).cell (i := 1) (v := .slice a1 m.guilds.length p1) rfl
      have x2 := (unhide Kb1).cell (i := 2) (v := .slice a2 m.smiths.length p2) rfl
      have x3 := (unhide Kb1).cell (i := 3) (v := .slice a3 m.desks.length p3) rfl
      have x4 := (unhide Kb1).cell (i := 4) (v := .slice a4 m.paces.length p4) rfl
      have x5 := (unhide Kb1).cell (i := 5) (v := .int .i64 m.now) rfl
      by_cases hbut : (j : Int) = but
      · have hbn : ((j : Int) == but) = true := by simpa using hbut
        go_wp2_with fail
        go_roundw
        case rel => exact ⟨k + 1, by omega, by go_num, by rw [unhide Hst, if_pos hbut], unhide Hbr⟩
        case measure => simp [intOf]; omega
      · have hbn : ((j : Int) == but) = false := by simpa using hbut
        have Hw := hide (fun (W : World) (hW : Below wr.heap.size wr W) => l11Want_any ((unhide Hv1).below hW) (unhide HG).guilds hj ((unhide HG).lo j hj (unhide Hjp)) ((unhide HG).hi j hj (unhide Hjp)))
        generalize wantV m (j : Int) = wa at *
        have y0 := cell_regrown x0
        have y1 := cell_regrown x1
        have y2 := cell_regrown x2
        have y3 := cell_regrown x3
        have y4 := cell_regrown x4
        have y5 := cell_regrown x5
        have z0 := cell_regrown c0
        have z1 := cell_regrown c1
        go_wp2_with fail
        refine wp_region_quiet_below (by kernel_rfl) (by kernel_rfl) ?_
        repeat (go_big_quiet_step (exact Calls.regrown_of (unhide Hw _ (below_regrown _ _ _))))
        refine wpQuiet_nil ?_
        intro _ hw'
        obtain ⟨⟨dq, osq⟩, hw''⟩ := hw'
        subst hw''
        go_wp2_with fail
        go_roundw
        case rel => exact ⟨k + 1, by omega, by go_num, by rw [unhide Hst, if_neg hbut], (unhide Hbr).trans ((below_regrown _ _ _).mono (unhide Hbr).size)⟩
        case measure => simp [intOf]; omega
    · obtain rfl : k = q.length := by omega
      rw [List.take_length]
      go_wp2_with fail
      go_ret
      exact ⟨ret_int (unhide Hu).symm, (unhide BB).trans (hbr.mono (unhide BB).size)⟩

end Go.Proofs.YtffcgajndmhpkaaGreat

/- What a smithy must be for what it costs and which bench is chosen to be told: lists alone. No condition but those that a theorem names. -/
namespace Go.Proofs.YtffcgajndmhpkaaGreat
open Go.ChangeShapes Go.WideShapes Go.ChangeAt Go.RowKit Go.Sort
set_option linter.unusedVariables false

structure Sane (m : SmyV) : Prop where
  hall : hallB m.rooms = true
  desks : (m.desks.length : Int) = benchSum m.rooms
  guilded : Guilded m
  few : m.smiths.length ≤ 12
theorem Sane.bench {m : SmyV} (h : Sane m) {b : Nat} (hb : b < m.desks.length) : isBench m.rooms (b : Int) = true := isBench_t h.hall (by omega) (by have := h.desks; omega)
theorem Sane.eight {m : SmyV} (h : Sane m) : m.desks.length ≤ 8 := by have := (hallB_of h.hall).2.2.2; have := h.desks; omega
theorem Loose.sane {m : SmyV} (h : Loose m) : Sane m := by
  have hd := h.head
  unfold headB at hd
  simp only [Bool.and_eq_true, decide_eq_true_eq] at hd
  obtain ⟨h1, h2, h3, h4, _⟩ := hd
  refine ⟨h1, h4, ⟨h2, fun i hi hs => ?_, fun i hi hs => (h.limits hi hs).2.1⟩, h3⟩
  have hp := (h.limits hi hs).1
  generalize recAt m.smiths i = s at *
  obtain ⟨st, be, rk, my, gu, lo', hi', hd, ca, ut, wk⟩ := s
  exact (presB_of hp).2.2.2.2.1.1
end Go.Proofs.YtffcgajndmhpkaaGreat

/- Contracts of the model's RoomOf and ForceOf and of the program's ForceOf, at whatever hall can be read and whatever bench. No other condition. -/
namespace Go.Proofs.YtffcgajndmhpkaaGreat
open Go.ChangeShapes Go.WideShapes Go.ChangeAt Go.RowKit Go.Sort
set_option linter.unusedVariables false

set_option maxHeartbeats 1000000 in
theorem l4Room_any {w : World} {v : Value} {rs : List RoomV} (n : Int) (h : IsRooms w v rs) (hbn : isBench rs n = true) :
    Calls Tryz.prog 56 #[.agg #[v], .int .i64 n] w fun e w' => e = .returned (.int .i64 (roomN rs n)) ∧ Below w.heap.size w w' := by
  obtain ⟨a, cap, rfl, hc, hm, hr⟩ := h
  have Hr := hide hr
  have H := hide hbn
  have hh := (isBench_of hbn).1
  have hn0 := (isBench_of hbn).2.1
  have hn1 : n < 12 := by have h1 := (isBench_of hbn).2.2; have := (hallB_of hh).2.2.2; omega
  have Hh := hide hh
  have hl3 : rs.length ≤ 3 := (hallB_of hh).2.1
  clear hr hbn hh
  go_enter Tryz.func56, Tryz.ntmps56
  go_wp2_with fail
  go_loop [1, 5] (fun q i => ∃ r : Nat, r ≤ rs.length ∧ i = .int .i64 r ∧ q = .int .i64 (n - benchSum (rs.take r)) ∧ (∀ j, j < r → benchSum (rs.take (j + 1)) ≤ n)) (fun _ i => rs.length - (intOf i).toNat)
  case atStart => exact ⟨0, Nat.zero_le _, rfl, by simp [benchSum], fun j hj => by omega⟩
  case round =>
    obtain ⟨r, hr, rfl, rfl, hl⟩ := hrel
    have hlt := room_more (unhide H) hr hl
    rcases unhide Hr with e0 | ⟨b, off, rfl, hbw, hcl⟩
    · rw [e0] at hlt; simp at hlt
    obtain ⟨c0, pv, c1, hip⟩ := hcl r hlt
    have hne : b ≠ w.heap.size := Nat.ne_of_lt hbw
    have Hl := hide hl
    have hb0 := benches_hall (unhide Hh) r hr
    have hb1 := benches_hall (unhide Hh) (r + 1) hlt
    have Hs := hide (benchSum_take rs hlt)
    have HN : Hid (n < benchSum (rs.take (r + 1)) → roomN rs n = r) := hide (fun hx => roomN_eq hlt hx (unhide Hl))
    have HM : Hid (benchSum (rs.take (r + 1)) ≤ n → ∀ j, j < r + 1 → benchSum (rs.take (j + 1)) ≤ n) := hide (fun hx => next_all (unhide Hl) hx)
    rw [benchSum_take rs hlt] at hb1 HN HM
    generalize benchSum (rs.take r) = s at *
    generalize (roomAt rs r).1 = rb at *
    clear hcl hip hl
    by_cases hq : rb ≤ n - s
    · go_wp2_with fail
      go_round
      case rel => exact ⟨r + 1, by omega, by go_num, by rw [unhide Hs]; congr 1; omega, unhide HM (by omega)⟩
      case measure => simp [intOf]; omega
    · go_wp2_with fail
      go_ret
      exact ⟨ret_int (by rw [unhide HN (by omega)]), (Below.refl _ _).alloc (Nat.le_refl _) _⟩

end Go.Proofs.YtffcgajndmhpkaaGreat

/- Contracts of BenchSet, the program's and the model's, at whatever hall can be read and whatever room. No other condition. -/
namespace Go.Proofs.YtffcgajndmhpkaaGreat
open Go.ChangeShapes Go.WideShapes Go.ChangeAt Go.RowKit Go.Sort
set_option linter.unusedVariables false

def isRoom (rs : List RoomV) (n : Int) : Bool := hallB rs && inB n 0 ((rs.length : Int) - 1)
/-- The benches from lo to hi less 1, as a set. -/
def bitsV (lo hi : Int) : Int := (2 : Int) ^ hi.toNat - 2 ^ lo.toNat
def setV (rs : List RoomV) (n : Int) : Int := if isRoom rs n = true then bitsV (benchSum (rs.take n.toNat)) (benchSum (rs.take (n.toNat + 1))) else -1
theorem setV_t {rs : List RoomV} {n : Int} (h : isRoom rs n = true) : setV rs n = bitsV (benchSum (rs.take n.toNat)) (benchSum (rs.take (n.toNat + 1))) := by unfold setV; rw [if_pos h]
theorem setV_f {rs : List RoomV} {n : Int} (h : isRoom rs n = false) : setV rs n = -1 := by unfold setV; rw [h]; rfl
theorem isRoom_f1 {rs : List RoomV} {n : Int} (h : hallB rs = false) : isRoom rs n = false := by unfold isRoom; rw [h]; rfl
theorem isRoom_f2 {rs : List RoomV} {n : Int} (h : n < 0 ∨ rs.length ≤ n) : isRoom rs n = false := by unfold isRoom; rw [inB_f (by omega)]; simp

theorem pow_small {s : Int} (h0 : 0 ≤ s) (h1 : s ≤ 12) : 1 ≤ (2 : Int) ^ s.toNat ∧ (2 : Int) ^ s.toNat ≤ 4096 := by
  have key : ∀ k : Fin 13, 1 ≤ (2 : Int) ^ k.val ∧ (2 : Int) ^ k.val ≤ 4096 := by decide
  exact key ⟨s.toNat, by omega⟩
theorem wrap_small {x : Int} (h0 : -100000 ≤ x) (h1 : x ≤ 100000) : wrap64 x = x := by unfold wrap64; omega

set_option maxHeartbeats 2000000 in
theorem implBenchSet_any {w : World} {v : Value} {rs : List RoomV} (n : Int) (h : IsRooms w v rs) :
    Calls Tryz.prog 66 #[.agg #[v], .int .i64 n] w fun e w' => e = .returned (.int .i64 (setV rs n)) ∧ Below w.heap.size w w' := by
  have Hv := hide h
  obtain ⟨a, cap, rfl, hc, hm⟩ : ∃ a cap, v = .slice a rs.length cap ∧ rs.length ≤ cap ∧ cap ≤ 9223372036854775807 := by obtain ⟨a, cap, rfl, hc, hm, _⟩ := h; exact ⟨a, cap, rfl, hc, hm⟩
  clear h
  have Hb0 : Hid (Below w.heap.size w (w.alloc (.cells #[.slice a rs.length cap] 35))) := hide ((Below.refl _ _).alloc (Nat.le_refl _) _)
  cases h1 : hallB rs
  · have H2 := hide (setV_f (isRoom_f1 (n := n) h1))
    go_enter Tryz.func66, Tryz.ntmps66
    go_wp2_with fail
    refine (implHallOk_any ((unhide Hv).alloc _)).mono ?_
    rintro e w1 ⟨rfl, hb⟩
    have Hb := hide hb
    clear hb
    go_wp2_with fail
    go_ret
    exact ⟨ret_int (unhide H2).symm, (unhide Hb0).trans ((unhide Hb).mono (by simp))⟩
  by_cases h2 : n < 0
  · have H2 := hide (setV_f (isRoom_f2 (rs := rs) (.inl h2)))
    go_enter Tryz.func66, Tryz.ntmps66
    go_wp2_with fail
    refine (implHallOk_any ((unhide Hv).alloc _)).mono ?_
    rintro e w1 ⟨rfl, hb⟩
    have Hb := hide hb
    clear hb
    go_wp2_with fail
    go_ret
    exact ⟨ret_int (unhide H2).symm, (unhide Hb0).trans ((unhide Hb).mono (by simp))⟩
  by_cases h3 : (rs.length : Int) ≤ n
  · have H2 := hide (setV_f (isRoom_f2 (rs := rs) (.inr h3)))
    go_enter Tryz.func66, Tryz.ntmps66
    go_wp2_with fail
    refine (implHallOk_any ((unhide Hv).alloc _)).mono ?_
    rintro e w1 ⟨rfl, hb⟩
    have hbox : w1.cell? ⟨w.heap.size, 0, none⟩ = some (.slice a rs.length cap) := by rw [hb.cell (p := ⟨w.heap.size, 0, none⟩) (by simp)]; simp
    have Hb := hide hb
    clear hb
    go_wp2_with fail
    go_ret
    exact ⟨ret_int (unhide H2).symm, (unhide Hb0).trans ((unhide Hb).mono (by simp))⟩
  have h4 : isRoom rs n = true := by unfold isRoom; rw [h1, inB_t (by omega) (by omega)]; rfl
  have H2 := hide (setV_t h4)
  obtain ⟨r, rfl⟩ := Int.eq_ofNat_of_zero_le (show 0 ≤ n by omega)
  have H1 := hide h1
  have Ha := hide (adds_hall h1)
  have hl3 : rs.length ≤ 3 := (hallB_of h1).2.1
  have hb0 := benches_hall h1 r (by omega)
  have hb1 := benches_hall h1 (r + 1) (by omega)
  go_enter Tryz.func66, Tryz.ntmps66
  go_wp2_with fail
  refine (implHallOk_any ((unhide Hv).alloc _)).mono ?_
  rintro e w1 ⟨rfl, hb⟩
  have hbox : w1.cell? ⟨w.heap.size, 0, none⟩ = some (.slice a rs.length cap) := by rw [hb.cell (p := ⟨w.heap.size, 0, none⟩) (by simp)]; simp
  have k0 := cell_regrown hbox
  have Hb := hide hb
  have Hw := hide (((unhide Hv).alloc _).below hb)
  clear hb h4
  go_wp2_with fail
  refine wp_region_quiet_below (by kernel_rfl) (by kernel_rfl) ?_
  repeat (go_big_quiet_step (first | exact Calls.regrown_of (benchesOf_any (((unhide Hw).below (below_regrown _ _ _)).taken (n := r) (by omega)) ((unhide Ha).taken _)) | exact Calls.regrown_of (benchesOf_any (((unhide Hw).below (below_regrown _ _ _)).taken (n := r + 1) (by omega)) ((unhide Ha).taken _))))
  refine wpQuiet_nil ?_
  intro _ hw'
  obtain ⟨⟨dq, osq⟩, hw''⟩ := hw'
  subst hw''
  rw [Int.toNat_natCast] at H2
  generalize benchSum (rs.take r) = s0 at *
  generalize benchSum (rs.take (r + 1)) = s1 at *
  obtain ⟨x0, x1⟩ := hb0
  obtain ⟨y0, y1⟩ := hb1
  go_wp2_with fail
  go_quiet (fail)
  go_wp2_with fail
  go_ret
  refine ⟨ret_int ?_, (unhide Hb0).trans (((unhide Hb).trans (below_drewN ((below_regrown _ _ _).mono (unhide Hb).size) _)).mono (by simp))⟩
  have p0 := pow_small x0 x1
  have p1 := pow_small y0 y1
  rw [unhide H2, wrap_small (x := 2 ^ s1.toNat) (by omega) (by omega), wrap_small (x := 2 ^ s0.toNat) (by omega) (by omega), wrap_small (x := 2 ^ s1.toNat - 2 ^ s0.toNat) (by omega) (by omega)]
  rfl

theorem benchSum_mono {rs : List RoomV} (h : rs.all roomB = true) {i : Nat} : ∀ d, i + d ≤ rs.length → benchSum (rs.take i) ≤ benchSum (rs.take (i + d))
  | 0, _ => Int.le_refl _
  | d + 1, hd => by
    have ih := benchSum_mono h (i := i) d (by omega)
    have hb := room_bd (allRooms_of h (j := i + d) (by omega))
    rw [← Nat.add_assoc, benchSum_take rs (by omega)]; omega
/-- Where a bench stands. -/
theorem room_is {rs : List RoomV} {n : Int} (h : isBench rs n = true) {r : Nat} (hr : r < rs.length) : roomN rs n = r ↔ benchSum (rs.take r) ≤ n ∧ n < benchSum (rs.take (r + 1)) := by
  have hb := isBench_of h
  have ha := (hallB_of hb.1).2.2.1
  have key : ∀ d q : Nat, q + d = rs.length → (∀ j, j < q → benchSum (rs.take (j + 1)) ≤ n) → benchSum (rs.take (roomN rs n)) ≤ n ∧ n < benchSum (rs.take (roomN rs n + 1)) := by
    intro d
    induction d with
    | zero => intro q hq hl; have := room_more h (by omega) hl; omega
    | succ d ih =>
      intro q hq hl
      have hlt := room_more h (r := q) (by omega) hl
      by_cases hc : n < benchSum (rs.take (q + 1))
      · rw [roomN_eq hlt hc hl]
        refine ⟨?_, hc⟩
        cases q with
        | zero => simp [benchSum]; omega
        | succ q => exact hl q (by omega)
      · exact ih (q + 1) (by omega) (next_all hl (by omega))
  constructor
  · intro e; have := key rs.length 0 (by omega) (fun j hj => by omega); rwa [e] at this
  · intro hx
    refine roomN_eq hr hx.2 (fun j hj => ?_)
    have := benchSum_mono ha (i := j + 1) (r - (j + 1)) (by omega)
    rw [show j + 1 + (r - (j + 1)) = r by omega] at this
    omega

end Go.Proofs.YtffcgajndmhpkaaGreat

/- Sets of benches that stand one behind the other: how two of them are joined, how many members one has, and which. No condition but those that a theorem names. -/
namespace Go.Proofs.YtffcgajndmhpkaaGreat
open Go.ChangeShapes Go.WideShapes Go.ChangeAt Go.RowKit Go.Sort
set_option linter.unusedVariables false

theorem bits_mem {lo hi b : Int} (h0 : 0 ≤ lo) (h1 : lo ≤ hi) (h2 : hi ≤ 8) (hb0 : -1 ≤ b) (hb1 : b ≤ 8) : memB (bitsV lo hi) b = decide (lo ≤ b ∧ b < hi) := by
  have key : ∀ b : Fin 10, ∀ hi : Fin 9, ∀ lo : Fin 9, lo.val ≤ hi.val → memB (bitsV lo.val hi.val) ((b.val : Int) - 1) = decide ((lo.val : Int) ≤ (b.val : Int) - 1 ∧ (b.val : Int) - 1 < hi.val) := by decide +kernel
  have := key ⟨(b + 1).toNat, by omega⟩ ⟨hi.toNat, by omega⟩ ⟨lo.toNat, by omega⟩ (by show lo.toNat ≤ hi.toNat; omega)
  simp only [show ((lo.toNat : Nat) : Int) = lo by omega, show ((hi.toNat : Nat) : Int) = hi by omega, show (((b + 1).toNat : Nat) : Int) - 1 = b by omega] at this
  exact this

end Go.Proofs.YtffcgajndmhpkaaGreat

/- The model's At: who waits or works at a bench. Condition: the smithy can be read. -/
namespace Go.Proofs.YtffcgajndmhpkaaGreat
open Go.ChangeShapes Go.WideShapes Go.ChangeAt Go.RowKit Go.Sort
set_option linter.unusedVariables false

theorem spec_q {w : World} {v0 v1 v2 v3 v4 : Value} {m : SmyV} {q : Bool} (hq : smyB m = q) (h : Smy w v0 v1 v2 v3 v4 m) : Calls Tryz.prog 14 #[.agg #[v0, v1, v2, v3, v4, .int .i64 m.now]] w fun e w' => e = .returned (.bool q) ∧ Below w.heap.size w w' := by
  have := specSmithyOk_any h; rw [hq] at this; exact this

end Go.Proofs.YtffcgajndmhpkaaGreat

/- Is there such a room: as plain lists, and the model's l13Room. Condition: the smithy can be read. -/
namespace Go.Proofs.YtffcgajndmhpkaaGreat
open Go.ChangeShapes Go.WideShapes Go.ChangeAt Go.RowKit Go.Sort
set_option linter.unusedVariables false

def isRoomB (m : SmyV) (r : Int) : Bool := inB r 0 ((m.rooms.length : Int) - 1)
theorem room_of {m : SmyV} {b : Int} (h : isRoomB m b = true) : ∃ k : Nat, b = (k : Int) ∧ k < m.rooms.length := by
  have := inB_of (show inB b 0 ((m.rooms.length : Int) - 1) = true from h)
  exact ⟨b.toNat, by omega, by omega⟩

set_option maxHeartbeats 1000000 in
theorem l13Room_q {w : World} {v0 v1 v2 v3 v4 : Value} {m : SmyV} {b : Int} {q : Bool} (hq : isRoomB m b = q) (h : Smy w v0 v1 v2 v3 v4 m) :
    Calls Tryz.prog 15 #[.agg #[v0, v1, v2, v3, v4, .int .i64 m.now], .int .i64 b] w fun e w' => e = .returned (.bool q) ∧ Below w.heap.size w w' := by
  have hq2 : inB b 0 ((m.rooms.length : Int) - 1) = q := hq
  clear hq
  obtain ⟨a0, p0, rfl, hc3, hm3⟩ := IsRooms.shape h.rooms
  obtain ⟨a1, p1, rfl, _, _⟩ := IsRec.shape h.guilds
  obtain ⟨a2, p2, rfl, _, _⟩ := IsRec.shape h.smiths
  obtain ⟨a3, p3, rfl, _, _⟩ := IsRec.shape h.desks
  obtain ⟨a4, p4, rfl, _, _⟩ := IsRec.shape h.paces
  clear h
  go_enter Tryz.func15, Tryz.ntmps15
  go_wp2_with (go_at_call 32; refine (l1In_any _ _ _ _).mono ?_; rw [hq2]; rintro e w' ⟨rfl, h9⟩; subst w')
  go_ret
  exact ⟨rfl, (Below.refl _ _).alloc (Nat.le_refl _) _⟩

end Go.Proofs.YtffcgajndmhpkaaGreat

