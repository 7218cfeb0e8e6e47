/- What the proof rests on, part 17: lists and numbers, how they lie in memory, and contracts of the calls. No condition but those that a theorem names. -/
import Derived.Test.YtifolooecfebfaaGreatXe01
import Derived.Test.YtifolooecfebfaaGreatXe02
import Derived.Test.YtifolooecfebfaaGreatXe03
import Derived.Test.YtifolooecfebfaaGreatXe04
import Derived.Test.YtifolooecfebfaaGreatXe05
import Derived.Test.YtifolooecfebfaaGreatXe06
import Derived.Test.YtifolooecfebfaaGreatXe07
import Derived.Test.YtifolooecfebfaaGreatXe08
import Derived.Test.YtifolooecfebfaaGreatXe09
import Derived.Test.YtifolooecfebfaaGreatXe12
import Derived.Test.YtifolooecfebfaaGreatXe14
import GoSem.Claim
import GoSem.ClaimJoined
import GoSem.ClaimMapViews
import Derived.JoinedTies
import Derived.KernelRfl
import Derived.RowKit
import Derived.WalkKit
import Derived.ProofKit
import Derived.OpenShut
import Derived.Outline
import Derived.Lib.QuietBelow
import Derived.Deep.RegionHeld3
import Derived.Deep.DrawnRows
import Derived.BigRegion
import Derived.Deep.RegionLawGrows
import Derived.Deep.RegionWith
import Derived.Deep.QuietTactic
import Derived.BigQuiet
import Derived.Laws.OwnMore
import Derived.OwnWalk
import Derived.Maps.AppendAt
import Derived.Lib.SmallJoins
import Derived.Deep.Fields
import Derived.Deep.Slices
import Derived.Laws.StructEq
/- The model's SmithyOk: its contract. Condition: the smithy can be read. -/
namespace Go.Proofs.YtifolooecfebfaaGreat
open Go.ChangeShapes Go.WideShapes Go.ChangeAt Go.RowKit Go.Sort
set_option linter.unusedVariables false

theorem scan_none {ss : List SmithV} {b : Int} {k : Nat} (h : scanV ss b k = none) : ∀ n, k ≤ n → scanV ss b n = none
  | 0, hn => by obtain rfl : k = 0 := by omega
                exact h
  | n + 1, hn => by
    by_cases e : k = n + 1
    · rw [← e]; exact h
    · have := scan_none h n (by omega)
      unfold scanV; rw [this]
theorem scan_skip {ss : List SmithV} {b wk : Int} {wt : Bool} {k : Nat} (h : scanV ss b k = some (wk, wt)) (hs : ¬ ((recAt ss k).2.1 = b ∧ presS (recAt ss k) = true)) : scanV ss b (k + 1) = some (wk, wt) := by
  unfold scanV; rw [h]; simp only [if_neg hs]
theorem scan_wait {ss : List SmithV} {b wk : Int} {wt : Bool} {k : Nat} (h : scanV ss b k = some (wk, wt)) (h1 : (recAt ss k).2.1 = b) (h2 : presS (recAt ss k) = true) (h3 : (recAt ss k).1 = 2) : scanV ss b (k + 1) = some (wk, true) := by
  unfold scanV; rw [h]; simp only [if_pos (And.intro h1 h2), if_pos h3]
theorem scan_two {ss : List SmithV} {b wk : Int} {wt : Bool} {k : Nat} (h : scanV ss b k = some (wk, wt)) (h1 : (recAt ss k).2.1 = b) (h2 : presS (recAt ss k) = true) (h3 : ¬ (recAt ss k).1 = 2) (h4 : 0 ≤ wk) : scanV ss b (k + 1) = none := by
  unfold scanV; rw [h]; simp only [if_pos (And.intro h1 h2), if_neg h3, if_pos h4]
theorem scan_work {ss : List SmithV} {b wk : Int} {wt : Bool} {k : Nat} (h : scanV ss b k = some (wk, wt)) (h1 : (recAt ss k).2.1 = b) (h2 : presS (recAt ss k) = true) (h3 : ¬ (recAt ss k).1 = 2) (h4 : ¬ 0 ≤ wk) : scanV ss b (k + 1) = some ((k : Int), wt) := by
  unfold scanV; rw [h]; simp only [if_pos (And.intro h1 h2), if_neg h3, if_neg h4]
theorem smyB_loose {m : SmyV} (h : looseB m = false) : smyB m = false := by unfold smyB; rw [h]; rfl
theorem smyB_bench {m : SmyV} {k : Nat} (hk : k < m.desks.length) (h : benchOkB m k = false) : smyB m = false := by unfold smyB; rw [all_no hk h]; simp
theorem smyB_all {m : SmyV} (h : looseB m = true) (h2 : (List.range m.desks.length).all (benchOkB m) = true) : smyB m = true := by unfold smyB; rw [h, h2]; rfl
theorem benchOkB_none {m : SmyV} {k : Nat} (h : scanV m.smiths k m.smiths.length = none) : benchOkB m k = false := by unfold benchOkB; rw [h]
theorem benchOkB_some {m : SmyV} {k : Nat} {wk : Int} {wt : Bool} (h : scanV m.smiths k m.smiths.length = some (wk, wt)) : benchOkB m k = ((recAt m.desks k).2.1 == wk && !(wt && decide (wk < 0))) := by unfold benchOkB; rw [h]
theorem l11Loose_q {w : World} {v0 v1 v2 v3 v4 : Value} {m : SmyV} {q : Bool} (hq : looseB m = q) (h : Smy w v0 v1 v2 v3 v4 m) :
    Calls Tryz.prog 56 #[.agg #[v0, v1, v2, v3, v4, .int .i64 m.now]] w fun e w' => e = .returned (.bool q) ∧ Below w.heap.size w w' := by
  have := l11Loose_any h; rw [hq] at this; exact this

set_option maxRecDepth 100000 in
set_option maxHeartbeats 8000000 in
theorem specSmithyOk_any {w : World} {v0 v1 v2 v3 v4 : Value} {m : SmyV} (h : Smy w v0 v1 v2 v3 v4 m) :
    Calls Tryz.prog 22 #[.agg #[v0, v1, v2, v3, v4, .int .i64 m.now]] w fun e w' => e = .returned (.bool (smyB m)) ∧ Below w.heap.size w w' := by
  have Hv := hide (h.alloc (.cells #[v0, v1, v2, v3, v4, .int .i64 m.now] 32))
  obtain ⟨h0, h1, h2, h3, h4⟩ := h
  obtain ⟨a0, p0, rfl, hc0, hm0, _⟩ := h0
  obtain ⟨a1, p1, rfl, hc1, hm1, _⟩ := h1
  obtain ⟨a2, p2, rfl, hc2, hm2, r2⟩ := h2
  obtain ⟨a3, p3, rfl, hc3, hm3, r3⟩ := h3
  obtain ⟨a4, p4, rfl, hc4, hm4, _⟩ := h4
  have R2 := hide r2
  have R3 := hide r3
  clear r2 r3
  obtain ⟨ql, hql⟩ : ∃ q, looseB m = q := ⟨_, rfl⟩
  have QL := hide hql
  clear hql
  go_enter Tryz.func22, Tryz.ntmps22
  go_wp2_with fail
  refine (l11Loose_q (unhide QL) (unhide Hv)).mono ?_
  rintro e w1 ⟨rfl, hb⟩
  have kb : Hid (Blk w1 w.heap.size 32 #[.slice a0 m.rooms.length p0, .slice a1 m.guilds.length p1, .slice a2 m.smiths.length p2, .slice a3 m.desks.length p3, .slice a4 m.paces.length p4, .int .i64 m.now]) := hide ((Blk.new w _ _).below hb (by simp))
  have BB : Hid (Below w.heap.size w w1) := hide (((Below.refl _ _).alloc (Nat.le_refl _) _).trans (hb.mono (by simp)))
  clear hb Hv
  have c3 := (unhide kb).cell (i := 3) (v := .slice a3 m.desks.length p3) rfl
  cases ql
  · go_wp2_with fail
    go_ret
    exact ⟨ret_bool (smyB_loose (unhide QL)).symm, unhide BB⟩
  go_wp2_with fail
  clear c3
  go_loopw [3] (fun b wr => ∃ k : Nat, k ≤ m.desks.length ∧ b = .int .i64 k ∧ (List.range k).all (benchOkB m) = true ∧ Blk wr w.heap.size 32 #[.slice a0 m.rooms.length p0, .slice a1 m.guilds.length p1, .slice a2 m.smiths.length p2, .slice a3 m.desks.length p3, .slice a4 m.paces.length p4, .int .i64 m.now] ∧ Below w.heap.size w wr) (fun b _ => m.desks.length - (intOf b).toNat)
  case atStart => exact ⟨0, Nat.zero_le _, rfl, rfl, unhide kb, unhide BB⟩
  case round =>
    obtain ⟨j, hj, rfl, hup, kb1, hb1⟩ := hrel
    clear kb BB
    have kb := hide kb1
    have BB := hide hb1
    have Hup := hide hup
    clear kb1 hb1 hup
    have c3 := (unhide kb).cell (i := 3) (v := .slice a3 m.desks.length p3) rfl
    by_cases hlt : j < m.desks.length
    · have c2 := (unhide kb).cell (i := 2) (v := .slice a2 m.smiths.length p2) rfl
      go_wp2_with fail
      clear c2 c3
      obtain ⟨wo, rfl⟩ : ∃ wo, wo = wr := ⟨wr, rfl⟩
      go_loopw [4, 5, 6] (fun x y i wr => ∃ (k : Nat) (wk : Int) (wt : Bool), k ≤ m.smiths.length ∧ x = .int .i64 wk ∧ y = .bool wt ∧ i = .int .i64 k ∧ -1 ≤ wk ∧ wk ≤ (k : Int) ∧ scanV m.smiths j k = some (wk, wt) ∧ Blk wr w.heap.size 32 #[.slice a0 m.rooms.length p0, .slice a1 m.guilds.length p1, .slice a2 m.smiths.length p2, .slice a3 m.desks.length p3, .slice a4 m.paces.length p4, .int .i64 m.now] ∧ Below w.heap.size w wr) (fun _ _ i _ => m.smiths.length - (intOf i).toNat)
      case atStart => exact ⟨0, -1, false, Nat.zero_le _, rfl, rfl, rfl, by omega, by omega, rfl, unhide kb, unhide BB⟩
      case round =>
        obtain ⟨k, wkk, wt, hk, rfl, rfl, rfl, wk0, wk1, hsc, kb1, hb1⟩ := hrel
        clear kb BB
        have kb := hide kb1
        have BB := hide hb1
        have Hsc := hide hsc
        clear kb1 hb1 hsc
        have c2 := (unhide kb).cell (i := 2) (v := .slice a2 m.smiths.length p2) rfl
        by_cases hls : k < m.smiths.length
        · rcases unhide R2 with e0 | ⟨b, off, rfl, hbw, hcl⟩
          · rw [e0] at hls; simp at hls
          obtain ⟨d0, d1, d2, d3, d4, d5, d6, d7, d8, d9, d10⟩ := smith_cells hcl hls
          rw [← (unhide BB).cell (p := ⟨b, off + k * 11, none⟩) hbw] at d0
          rw [← (unhide BB).cell (p := ⟨b, off + k * 11 + 1, none⟩) hbw] at d1
          rw [← (unhide BB).cell (p := ⟨b, off + k * 11 + 2, none⟩) hbw] at d2
          rw [← (unhide BB).cell (p := ⟨b, off + k * 11 + 3, none⟩) hbw] at d3
          rw [← (unhide BB).cell (p := ⟨b, off + k * 11 + 4, none⟩) hbw] at d4
          rw [← (unhide BB).cell (p := ⟨b, off + k * 11 + 5, none⟩) hbw] at d5
          rw [← (unhide BB).cell (p := ⟨b, off + k * 11 + 6, none⟩) hbw] at d6
          rw [← (unhide BB).cell (p := ⟨b, off + k * 11 + 7, none⟩) hbw] at d7
          rw [← (unhide BB).cell (p := ⟨b, off + k * 11 + 8, none⟩) hbw] at d8
          rw [← (unhide BB).cell (p := ⟨b, off + k * 11 + 9, none⟩) hbw] at d9
          rw [← (unhide BB).cell (p := ⟨b, off + k * 11 + 10, none⟩) hbw] at d10
          clear hcl
          have S1 := hide (fun hs => scan_skip (unhide Hsc) hs)
          have S2 := hide (fun h1 h2 h3 => scan_wait (unhide Hsc) h1 h2 h3)
          have S3 := hide (fun h1 h2 h3 h4 => scan_two (unhide Hsc) h1 h2 h3 h4)
          have S4 := hide (fun h1 h2 h3 h4 => scan_work (unhide Hsc) h1 h2 h3 h4)
          generalize recAt m.smiths k = ss at *
          obtain ⟨st, be, rk, my, gu, lo, hi, hd, ca, ut, wk⟩ := ss
          simp only at d0 d1 d2 d3 d4 d5 d6 d7 d8 d9 d10
          have hl0 : w.heap.size < wr.heap.size := (unhide kb).lt
          by_cases hbe : be = (j : Int)
          rotate_left
          · have hbn : (be != (j : Int)) = true := by simpa using hbe
            go_wp2_with fail
            go_roundw
            case rel => exact ⟨k + 1, wkk, wt, by omega, rfl, rfl, by go_num, by omega, by omega, unhide S1 (fun h9 => hbe h9.1), (unhide kb).alloc _, (unhide BB).alloc (unhide BB).size _⟩
            case measure => simp [intOf]; omega
          subst hbe
          have hbn : ((j : Int) != (j : Int)) = false := by simp
          obtain ⟨ps, hps⟩ : ∃ q, presS (st, (j : Int), rk, my, gu, lo, hi, hd, ca, ut, wk) = q := ⟨_, rfl⟩
          have Hps := hide hps
          clear hps
          go_wp2_with fail
          clear c2 d0 d1 d2 d3 d4 d5 d6 d7 d8 d9 d10
          refine (l11Present_q (unhide Hps) _).mono ?_
          rintro e w2 ⟨rfl, hb⟩
          have ks : Hid (Blk w2 wr.heap.size 42 #[.int .i64 st, .int .i64 (j : Int), .int .i64 rk, .int .i64 my, .int .i64 gu, .int .i64 lo, .int .i64 hi, .int .i64 hd, .int .i64 ca, .int .i64 ut, .int .i64 wk]) := hide ((Blk.new wr _ _).below hb (by simp))
          replace kb := hide (((unhide kb).alloc (.cells #[.int .i64 st, .int .i64 (j : Int), .int .i64 rk, .int .i64 my, .int .i64 gu, .int .i64 lo, .int .i64 hi, .int .i64 hd, .int .i64 ca, .int .i64 ut, .int .i64 wk] 42)).below hb (by simp; omega))
          replace BB := hide ((((unhide BB).alloc (unhide BB).size (.cells #[.int .i64 st, .int .i64 (j : Int), .int .i64 rk, .int .i64 my, .int .i64 gu, .int .i64 lo, .int .i64 hi, .int .i64 hd, .int .i64 ca, .int .i64 ut, .int .i64 wk] 42))).trans (hb.mono (by simp; have := (unhide BB).size; omega)))
          clear hb hl0
          have d0 := (unhide ks).cell (i := 0) (v := .int .i64 st) rfl
          cases ps
          · go_wp2_with fail
            go_roundw
            case rel => exact ⟨k + 1, wkk, wt, by omega, rfl, rfl, by go_num, by omega, by omega, unhide S1 (fun h9 => by have h8 := h9.2; rw [unhide Hps] at h8; cases h8), unhide kb, unhide BB⟩
            case measure => simp [intOf]; omega
          by_cases hst : st = 2
          · subst hst
            go_wp2_with fail
            go_roundw
            case rel => exact ⟨k + 1, wkk, true, by omega, rfl, rfl, by go_num, by omega, by omega, unhide S2 (by first | rfl | trivial) (unhide Hps) (by first | rfl | trivial), unhide kb, unhide BB⟩
            case measure => simp [intOf]; omega
          have hsn : (st == 2) = false := by simpa using hst
          by_cases hw0 : 0 ≤ wkk
          · go_wp2_with fail
            go_ret
            exact ⟨ret_bool (smyB_bench hlt (benchOkB_none (scan_none (unhide S3 (by first | rfl | trivial) (unhide Hps) hst hw0) _ (by omega)))).symm, unhide BB⟩
          go_wp2_with fail
          go_roundw
          case rel => exact ⟨k + 1, (k : Int), wt, by omega, rfl, rfl, by go_num, by omega, by omega, unhide S4 (by first | rfl | trivial) (unhide Hps) hst hw0, unhide kb, unhide BB⟩
          case measure => simp [intOf]; omega
        · obtain rfl : k = m.smiths.length := by omega
          have c3 := (unhide kb).cell (i := 3) (v := .slice a3 m.desks.length p3) rfl
          rcases unhide R3 with e0 | ⟨b', off', rfl, hbw', hcl'⟩
          · rw [e0] at hlt; simp at hlt
          obtain ⟨_, t1, _⟩ := desk_cells hcl' hlt
          rw [← (unhide BB).cell (p := ⟨b', off' + j * 3 + 1, none⟩) hbw'] at t1
          clear hcl'
          have HB := hide (benchOkB_some (unhide Hsc))
          have HL := hide (smyB_bench (m := m) hlt)
          have HU := hide (show (List.range (j + 1)).all (benchOkB m) = ((List.range j).all (benchOkB m) && benchOkB m j) from all_up j)
          generalize recAt m.desks j = dd at *
          obtain ⟨op, who, mk⟩ := dd
          simp only at t1
          by_cases hwho : who = wkk
          rotate_left
          · have hwn : (who != wkk) = true := by simpa using hwho
            go_wp2_with fail
            go_ret
            exact ⟨ret_bool (unhide HL (by rw [unhide HB]; simp [hwho])).symm, unhide BB⟩
          have hwn : (who != wkk) = false := by simpa using hwho
          have Hwho := hide hwho
          clear hwho
          cases wt
          · go_wp2_with fail
            go_roundw
            case rel => exact ⟨j + 1, by omega, by go_num, by rw [unhide HU, unhide Hup, unhide HB, unhide Hwho]; simp, unhide kb, unhide BB⟩
            case measure => simp [intOf]; omega
          by_cases hw0 : wkk < 0
          · go_wp2_with fail
            go_ret
            exact ⟨ret_bool (unhide HL (by rw [unhide HB]; simp [hw0])).symm, unhide BB⟩
          go_wp2_with fail
          go_roundw
          case rel => exact ⟨j + 1, by omega, by go_num, by rw [unhide HU, unhide Hup, unhide HB, unhide Hwho]; simp; omega, unhide kb, unhide BB⟩
          case measure => simp [intOf]; omega
    · obtain rfl : j = m.desks.length := by omega
      go_wp2_with fail
      go_ret
      exact ⟨ret_bool (smyB_all (unhide QL) (unhide Hup)).symm, unhide BB⟩

end Go.Proofs.YtifolooecfebfaaGreat

/- Who is at a bench: the model's l11At and At. Conditions: the smithy can be read; what each theorem names. -/
namespace Go.Proofs.YtifolooecfebfaaGreat
open Go.ChangeShapes Go.WideShapes Go.ChangeAt Go.RowKit Go.Sort
set_option linter.unusedVariables false

set_option maxRecDepth 100000 in
set_option maxHeartbeats 8000000 in
theorem l11At_any {w : World} {v0 v1 v2 v3 v4 : Value} {m : SmyV} (b : Int) (h : Smy w v0 v1 v2 v3 v4 m) (hl : m.smiths.length ≤ 800) :
    Calls Tryz.prog 60 #[.agg #[v0, v1, v2, v3, v4, .int .i64 m.now], .int .i64 b] w fun e w' => ∃ v', e = .returned v' ∧ EntsAt w.heap.size w' v' (atV m.smiths b m.smiths.length) ∧ Below w.heap.size w w' := by
  obtain ⟨h0, h1, h2, h3, h4⟩ := h
  obtain ⟨a0, p0, rfl, hc0, hm0, _⟩ := h0
  obtain ⟨a1, p1, rfl, hc1, hm1, _⟩ := h1
  obtain ⟨a2, p2, rfl, hc2, hm2, r2⟩ := h2
  obtain ⟨a3, p3, rfl, hc3, hm3, _⟩ := h3
  obtain ⟨a4, p4, rfl, hc4, hm4, _⟩ := h4
  have R2 := hide r2
  clear r2
  have kb0 : Hid (Blk ((w.alloc (.cells #[.slice a0 m.rooms.length p0, .slice a1 m.guilds.length p1, .slice a2 m.smiths.length p2, .slice a3 m.desks.length p3, .slice a4 m.paces.length p4, .int .i64 m.now] 32)).alloc (.cells #[] 129)) w.heap.size 32 #[.slice a0 m.rooms.length p0, .slice a1 m.guilds.length p1, .slice a2 m.smiths.length p2, .slice a3 m.desks.length p3, .slice a4 m.paces.length p4, .int .i64 m.now]) := hide ((Blk.new w _ _).alloc _)
  have BB0 : Hid (Below w.heap.size w ((w.alloc (.cells #[.slice a0 m.rooms.length p0, .slice a1 m.guilds.length p1, .slice a2 m.smiths.length p2, .slice a3 m.desks.length p3, .slice a4 m.paces.length p4, .int .i64 m.now] 32)).alloc (.cells #[] 129))) := hide (((Below.refl _ _).alloc (Nat.le_refl _) _).alloc (by simp) _)
  have E0 : Hid (EntsAt w.heap.size ((w.alloc (.cells #[.slice a0 m.rooms.length p0, .slice a1 m.guilds.length p1, .slice a2 m.smiths.length p2, .slice a3 m.desks.length p3, .slice a4 m.paces.length p4, .int .i64 m.now] 32)).alloc (.cells #[] 129)) (.slice (some ⟨w.heap.size + 1, 0, none⟩) 0 0) []) := hide (ents_empty (by simp) (by omega))
  go_enter Tryz.func60, Tryz.ntmps60
  go_wp2_with fail
  go_loopw [5, 6] (fun q i wr => ∃ k : Nat, k ≤ m.smiths.length ∧ i = .int .i64 k ∧ EntsAt w.heap.size wr q (atV m.smiths b k) ∧ Blk wr w.heap.size 32 #[.slice a0 m.rooms.length p0, .slice a1 m.guilds.length p1, .slice a2 m.smiths.length p2, .slice a3 m.desks.length p3, .slice a4 m.paces.length p4, .int .i64 m.now] ∧ Below w.heap.size w wr) (fun _ i _ => m.smiths.length - (intOf i).toNat)
  case atStart => exact ⟨0, Nat.zero_le _, rfl, unhide E0, unhide kb0, unhide BB0⟩
  case round =>
    obtain ⟨k, hk, rfl, he, kb1, hb1⟩ := hrel
    obtain ⟨qa, qcap, rfl⟩ := EntsAt.shape he
    have kb := hide kb1
    have BB := hide hb1
    have He := hide he
    clear kb1 hb1 he kb0 BB0 E0
    have hal := atV_len m.smiths b k
    have c2 := (unhide kb).cell (i := 2) (v := .slice a2 m.smiths.length p2) rfl
    by_cases hls : k < m.smiths.length
    · rcases unhide R2 with e0 | ⟨sb, off, rfl, hbw, hcl⟩
      · rw [e0] at hls; simp at hls
      obtain ⟨d0, d1, d2, d3, d4, d5, d6, d7, d8, d9, d10⟩ := smith_cells hcl hls
      rw [← (unhide BB).cell (p := ⟨sb, off + k * 11, none⟩) hbw] at d0
      rw [← (unhide BB).cell (p := ⟨sb, off + k * 11 + 1, none⟩) hbw] at d1
      rw [← (unhide BB).cell (p := ⟨sb, off + k * 11 + 2, none⟩) hbw] at d2
      rw [← (unhide BB).cell (p := ⟨sb, off + k * 11 + 3, none⟩) hbw] at d3
      rw [← (unhide BB).cell (p := ⟨sb, off + k * 11 + 4, none⟩) hbw] at d4
      rw [← (unhide BB).cell (p := ⟨sb, off + k * 11 + 5, none⟩) hbw] at d5
      rw [← (unhide BB).cell (p := ⟨sb, off + k * 11 + 6, none⟩) hbw] at d6
      rw [← (unhide BB).cell (p := ⟨sb, off + k * 11 + 7, none⟩) hbw] at d7
      rw [← (unhide BB).cell (p := ⟨sb, off + k * 11 + 8, none⟩) hbw] at d8
      rw [← (unhide BB).cell (p := ⟨sb, off + k * 11 + 9, none⟩) hbw] at d9
      rw [← (unhide BB).cell (p := ⟨sb, off + k * 11 + 10, none⟩) hbw] at d10
      clear hcl
      have S1 := hide (fun hs => atV_no (ss := m.smiths) (b := b) (k := k) hs)
      have S2 := hide (fun h1 h2 => atV_yes (ss := m.smiths) (b := b) (k := k) h1 h2)
      generalize recAt m.smiths k = ss at *
      obtain ⟨st, be, rk, my, gu, lo, hi, hd, ca, ut, wk⟩ := ss
      simp only at d0 d1 d2 d3 d4 d5 d6 d7 d8 d9 d10
      have hl0 : w.heap.size < wr.heap.size := (unhide kb).lt
      by_cases hbe : be = b
      rotate_left
      · have hbn : (be == b) = false := by simpa using hbe
        go_wp2_with fail
        go_roundw
        case rel => exact ⟨k + 1, by omega, by go_num, by rw [unhide S1 (fun h9 => hbe h9.1)]; exact EntsAt.later (unhide He) ((Below.refl _ _).alloc (Nat.le_refl _) _), (unhide kb).alloc _, (unhide BB).alloc (unhide BB).size _⟩
        case measure => simp [intOf]; omega
      subst hbe
      have hbn : (be == be) = true := by simp
      obtain ⟨ps, hps⟩ : ∃ q, presS (st, be, rk, my, gu, lo, hi, hd, ca, ut, wk) = q := ⟨_, rfl⟩
      have Hps := hide hps
      clear hps
      go_wp2_with fail
      clear c2 d0 d1 d2 d3 d4 d5 d6 d7 d8 d9 d10
      refine (l11Present_q (unhide Hps) _).mono ?_
      rintro e w2 ⟨rfl, hb⟩
      have ks : Hid (Blk w2 wr.heap.size 42 #[.int .i64 st, .int .i64 be, .int .i64 rk, .int .i64 my, .int .i64 gu, .int .i64 lo, .int .i64 hi, .int .i64 hd, .int .i64 ca, .int .i64 ut, .int .i64 wk]) := hide ((Blk.new wr _ _).below hb (by simp))
      replace kb := hide (((unhide kb).alloc (.cells #[.int .i64 st, .int .i64 be, .int .i64 rk, .int .i64 my, .int .i64 gu, .int .i64 lo, .int .i64 hi, .int .i64 hd, .int .i64 ca, .int .i64 ut, .int .i64 wk] 42)).below hb (by simp; omega))
      have hba := ((Below.refl wr.heap.size wr).alloc (Nat.le_refl _) (.cells #[.int .i64 st, .int .i64 be, .int .i64 rk, .int .i64 my, .int .i64 gu, .int .i64 lo, .int .i64 hi, .int .i64 hd, .int .i64 ca, .int .i64 ut, .int .i64 wk] 42)).trans (hb.mono (by simp))
      replace He := hide (EntsAt.later (unhide He) hba)
      replace BB := hide ((unhide BB).trans (hba.mono (unhide BB).size))
      clear hb hl0 hba
      have d7 := (unhide ks).cell (i := 7) (v := .int .i64 hd) rfl
      cases ps
      · go_wp2_with fail
        go_roundw
        case rel => exact ⟨k + 1, by omega, by go_num, by rw [unhide S1 (fun h9 => by have h8 := h9.2; rw [unhide Hps] at h8; cases h8)]; exact unhide He, unhide kb, unhide BB⟩
        case measure => simp [intOf]; omega
      go_wp2_with fail
      refine (l6Put_any hd (k : Int) (EntsAt.paces (unhide He)) (by omega)).mono ?_
      rintro e w3 ⟨v3, rfl, he3, hb⟩
      have hsz := (unhide BB).size
      have he4 := EntsAt.mono he3 hsz
      replace kb := hide ((unhide kb).below hb (unhide kb).lt)
      replace BB := hide ((unhide BB).trans (hb.mono hsz))
      obtain ⟨qa3, qcap3, rfl⟩ := EntsAt.shape he4
      have He4 := hide he4
      clear hb he3 he4 d7
      go_wp2_with fail
      go_roundw
      case rel => exact ⟨k + 1, by omega, by go_num, by rw [unhide S2 (by first | rfl | trivial) (unhide Hps)]; exact unhide He4, unhide kb, unhide BB⟩
      case measure => simp [intOf]; omega
    · obtain rfl : k = m.smiths.length := by omega
      go_wp2_with fail
      go_ret
      exact ⟨_, rfl, unhide He, unhide BB⟩

end Go.Proofs.YtifolooecfebfaaGreat

/- The model's At: who waits or works at a bench. Condition: the smithy can be read. -/
namespace Go.Proofs.YtifolooecfebfaaGreat
open Go.ChangeShapes Go.WideShapes Go.ChangeAt Go.RowKit Go.Sort
set_option linter.unusedVariables false

theorem spec_q {w : World} {v0 v1 v2 v3 v4 : Value} {m : SmyV} {q : Bool} (hq : smyB m = q) (h : Smy w v0 v1 v2 v3 v4 m) : Calls Tryz.prog 22 #[.agg #[v0, v1, v2, v3, v4, .int .i64 m.now]] w fun e w' => e = .returned (.bool q) ∧ Below w.heap.size w w' := by
  have := specSmithyOk_any h; rw [hq] at this; exact this

set_option maxHeartbeats 1000000 in
theorem l11Bench_q {w : World} {v0 v1 v2 v3 v4 : Value} {m : SmyV} {b : Int} {q : Bool} (hq : isBenchB m b = q) (h : Smy w v0 v1 v2 v3 v4 m) :
    Calls Tryz.prog 53 #[.agg #[v0, v1, v2, v3, v4, .int .i64 m.now], .int .i64 b] w fun e w' => e = .returned (.bool q) ∧ Below w.heap.size w w' := by
  have hq2 : inB b 0 ((m.desks.length : Int) - 1) = q := hq
  clear hq
  obtain ⟨a0, p0, rfl, _, _⟩ := IsRooms.shape h.rooms
  obtain ⟨a1, p1, rfl, _, _⟩ := IsRec.shape h.guilds
  obtain ⟨a2, p2, rfl, _, _⟩ := IsRec.shape h.smiths
  obtain ⟨a3, p3, rfl, hc3, hm3⟩ := IsRec.shape h.desks
  obtain ⟨a4, p4, rfl, _, _⟩ := IsRec.shape h.paces
  clear h
  go_enter Tryz.func53, Tryz.ntmps53
  go_wp2_with (go_at_call 113; refine (l1In_any _ _ _ _).mono ?_; rw [hq2]; rintro e w' ⟨rfl, h9⟩; subst w')
  go_ret
  exact ⟨rfl, (Below.refl _ _).alloc (Nat.le_refl _) _⟩

end Go.Proofs.YtifolooecfebfaaGreat

