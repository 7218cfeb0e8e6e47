/- What the proof rests on, part 19: lists and numbers, how they lie in memory, and contracts of the calls. No condition but those that a theorem names. -/
import Derived.Test.YtmhagllddhjgmaaGreatXw01
import Derived.Test.YtmhagllddhjgmaaGreatXw02
import Derived.Test.YtmhagllddhjgmaaGreatXw03
import Derived.Test.YtmhagllddhjgmaaGreatXw04
import Derived.Test.YtmhagllddhjgmaaGreatXw07
import Derived.Test.YtmhagllddhjgmaaGreatXw08
import Derived.Test.YtmhagllddhjgmaaGreatXw12
import Derived.Test.YtmhagllddhjgmaaGreatXw13
import Derived.Test.YtmhagllddhjgmaaGreatXw14
import Derived.Test.YtmhagllddhjgmaaGreatXw15
import Derived.Test.YtmhagllddhjgmaaGreatXw16
import Derived.Test.YtmhagllddhjgmaaGreatXw17
import Derived.Test.YtmhagllddhjgmaaGreatXw18
import Derived.Laws.StructEq
import Derived.WalkKit
import Derived.ProofKit
import Derived.OpenShut
import Derived.Outline
import Derived.Deep.QuietTactic
import Derived.BigQuiet
import Derived.Lib.QuietBelow
import Derived.Deep.RegionWith
import Derived.Deep.DeepMust
import Derived.Deep.DeepCutAuto
import Derived.Laws.OwnMore
import Derived.OwnWalk
import Derived.Maps.AppendAt
import Derived.Lib.ItoaNum
import Derived.Lib.ItoaLen
import Derived.Lib.AtoiTie
import Derived.Lib.ParseIntBTie
import Derived.Lib.SplitLaws
import Derived.Lib.Join
import Derived.Lib.SmallJoins
import Derived.Deep.Fields
import Derived.Deep.Slices
/- Contracts of the draws of chapter 4's arguments: each returns halls and rooms that can be read, and numbers within bounds, and writes into no memory that was there. Condition: the bytes of the draw can be read and are at most 4096. -/
namespace Go.Proofs.YtmhagllddhjgmaaGreat
open Go.ChangeShapes Go.WideShapes Go.ChangeAt Go.RowKit Go.Sort
open Draw (St Off Row Cur)
set_option linter.unusedVariables false

set_option maxRecDepth 100000 in
set_option maxHeartbeats 4000000 in
theorem drawHallOk_any (a : Option Addr) (len cap : Nat) (w : World) (hr : Row w.heap.size w a len) :
    Calls Tryz.prog 62 #[.slice a len cap] w fun e w' => ∃ (v : Value) (rs : List RoomV), e = .returned (.agg #[v]) ∧ FewR rs ∧ RoomsFrom w.heap.size w' v rs ∧ Below w.heap.size w w' := by
  have Hr := hide hr
  clear hr
  have Ba : Hid (∀ o, Below w.heap.size w (w.alloc o)) := hide (fun o => (Below.refl _ _).alloc (Nat.le_refl _) _)
  go_enter Tryz.func62, Tryz.ntmps62
  go_wp2_with fail
  refine (Draw.new_any a len cap _ (Draw.row_later (unhide Hr) (unhide Ba _))).mono ?_
  rintro e w1 ⟨rfl, hs1, ho1⟩
  simp only [World.size_alloc] at hs1 ho1 ⊢
  have hz1 : w.heap.size + 2 ≤ w1.heap.size := by have := st_lt hs1; omega
  have x0 : w1.cell? ⟨w.heap.size, 0, none⟩ = some (.slice none 0 0) := (ho1.cell (p := ⟨w.heap.size, 0, none⟩) (by simp) (show w.heap.size ≠ w.heap.size + 1 by omega)).trans (by simp)
  have x1 : w1.frozen? ⟨w.heap.size, 0, none⟩ = false := (World.frozen?_of_block (w := w.alloc _) (w' := w1) (ho1.block w.heap.size (by simp) (by omega))).trans (by rw [frozen?_alloc_cells]; exact frozen_far (Nat.le_refl _))
  have B1 : Hid (Below w.heap.size w w1) := hide ((unhide Ba _).trans (ho1.below (by omega) (by simp)))
  have Hs1 := hide hs1
  clear hs1 ho1
  go_wp2_with fail
  refine (l4DrawAny_any a len cap (w.heap.size + 1) _ (unhide Hs1)).mono ?_
  rintro e w2 ⟨v, rs, rfl, hrs, hir, hs2, ho2⟩
  have hz2 := ho2.size
  obtain ⟨va, vcap, rfl, _, _⟩ := hir.rooms.shape
  have y0 := (ho2.cell (p := ⟨w.heap.size, 0, none⟩) (show w.heap.size < w1.heap.size by omega) (show w.heap.size ≠ w.heap.size + 1 by omega)).trans x0
  have y1 : w2.frozen? ⟨w.heap.size, 0, none⟩ = false := (World.frozen?_of_block (w := w1) (w' := w2) (ho2.block w.heap.size (by omega) (by omega))).trans x1
  have B2 : Hid (Below w.heap.size w w2) := hide ((unhide B1).trans (ho2.below (by omega) (by omega)))
  have Hrs := hide hrs
  have Hir := hide hir
  have hN2 : w.heap.size < w2.heap.size := by omega
  clear hrs hir hs2 ho2 x0 x1
  go_wp2_with fail
  exact bodyPost_ret (v := .agg #[.slice va rs.length vcap]) (by simp [results, Tryz.results62, go_sem, *]) rfl ⟨_, rs, rfl, unhide Hrs, ((unhide Hir).set _ _ _ (by omega)).mono (by omega), (unhide B2).setCell (Nat.le_refl w.heap.size) _⟩

end Go.Proofs.YtmhagllddhjgmaaGreat

/- The draw of a new smithy's hall: it can be read. Condition: the bytes of the draw can be read and are at most 4096. -/
namespace Go.Proofs.YtmhagllddhjgmaaGreat
open Go.ChangeShapes Go.WideShapes Go.ChangeAt Go.RowKit Go.Sort
open Draw (St Off Row Cur)
set_option linter.unusedVariables false

set_option maxHeartbeats 2000000 in
theorem drawNewSmithy_any (a : Option Addr) (len cap : Nat) (w : World) (hr : Row w.heap.size w a len) :
    Calls Tryz.prog 23 #[.slice a len cap] w fun e w' => ∃ (v : Value) (rs : List RoomV), e = .returned (.agg #[v]) ∧ IsRooms w' v rs ∧ Below w.heap.size w w' := by
  have Hr := hide (Draw.row_later hr ((Below.refl _ _).alloc (Nat.le_refl _) (.cells #[.slice none 0 0] 26)))
  clear hr
  go_enter Tryz.func23, Tryz.ntmps23
  go_wp2_with fail
  refine (drawHallOk_any _ _ _ _ (unhide Hr)).mono ?_
  rintro e w1 ⟨v, rs, rfl, hf, hro, hb⟩
  have HF := hide hro
  obtain ⟨ra, rc, rfl, hrc, hrm, _⟩ := hro
  have kr : Hid (Blk w1 w.heap.size 26 #[.slice none 0 0]) := hide ((Blk.new w _ _).below hb (by simp))
  have BB : Hid (Below w.heap.size w w1) := hide (((Below.refl _ _).alloc (Nat.le_refl _) _).trans (hb.mono (by simp)))
  have x0 := (unhide kr).cell (i := 0) (v := .slice none 0 0) rfl
  have f0 := (unhide kr).free 0
  clear hb
  go_wp2_with fail
  refine bodyPost_ret (v := .agg #[.slice ra rs.length rc]) (by simp [results, Tryz.results23, go_sem, *]) rfl ⟨_, rs, rfl, ?_, ?_⟩
  · exact (RoomsFrom.set (unhide HF) _ _ _ (by simp)).rooms
  · exact (unhide BB).setCell (Nat.le_refl _) _

end Go.Proofs.YtmhagllddhjgmaaGreat

/- The law's own comparison of two halls: at two that read alike it answers true and writes into no memory that was there. No other condition. -/
namespace Go.Proofs.YtmhagllddhjgmaaGreat
open Go.ChangeShapes Go.WideShapes Go.ChangeAt Go.RowKit
set_option linter.unusedVariables false

set_option maxRecDepth 100000 in
set_option maxHeartbeats 8000000 in
theorem likeHall_yes {w : World} {v u : Value} {rs : List RoomV} (hv : IsRooms w v rs) (hu : IsRooms w u rs) :
    Calls Tryz.prog 68 #[.agg #[v], .agg #[u]] w fun e w' => e = .returned (.bool true) ∧ Below w.heap.size w w' := by
  have Hv := hide hv
  have Hu := hide hu
  obtain ⟨a, cap, rfl, hc, hm, hr⟩ := hv
  obtain ⟨a', cap', rfl, hc', hm', hr'⟩ := hu
  clear hr hr'
  go_enter Tryz.func68, Tryz.ntmps68
  go_wp2_with fail
  have B0 : Hid (Below w.heap.size w ((w.alloc (.cells #[.slice a rs.length cap] 26)).alloc (.cells #[.slice a' rs.length cap'] 26))) := hide (((Below.refl _ _).alloc (Nat.le_refl _) _).alloc (by simp) _)
  go_loopw [5] (fun i wr => ∃ k : Nat, k ≤ rs.length ∧ i = .int .i64 k ∧ Below (w.heap.size + 2) ((w.alloc (.cells #[.slice a rs.length cap] 26)).alloc (.cells #[.slice a' rs.length cap'] 26)) wr) (fun i _ => rs.length - (intOf i).toNat)
  case atStart => exact ⟨0, Nat.zero_le _, rfl, Below.refl _ _⟩
  case round =>
    obtain ⟨k, hk, rfl, hb⟩ := hrel
    have Hb := hide hb
    have hzr : w.heap.size + 2 ≤ wr.heap.size := by have := hb.size; simpa using this
    have c0 : wr.cell? ⟨w.heap.size, 0, none⟩ = some (.slice a rs.length cap) := (hb.cell (p := ⟨w.heap.size, 0, none⟩) (by show w.heap.size < w.heap.size + 2; omega)).trans (by simp)
    have c1 : wr.cell? ⟨w.heap.size + 1, 0, none⟩ = some (.slice a' rs.length cap') := (hb.cell (p := ⟨w.heap.size + 1, 0, none⟩) (by show w.heap.size + 1 < w.heap.size + 2; omega)).trans (by simp)
    have BW : Hid (Below w.heap.size w wr) := hide ((unhide B0).trans (hb.mono (by omega)))
    clear hb
    by_cases hlt : k < rs.length
    · obtain ⟨_, _, e1, _, _, hr⟩ := unhide Hv
      obtain ⟨_, _, e2, _, _, hr'⟩ := unhide Hu
      cases e1
      cases e2
      rcases hr with h0 | ⟨b, off, rfl, hbw, hcl⟩
      · rw [h0] at hlt; simp at hlt
      rcases hr' with h0 | ⟨b', off', rfl, hbw', hcl'⟩
      · rw [h0] at hlt; simp at hlt
      obtain ⟨d0, pv, d1, hip⟩ := hcl k hlt
      obtain ⟨d2, pu, d3, hiu⟩ := hcl' k hlt
      rw [← (unhide BW).cell (p := ⟨b, off + k * 2, none⟩) hbw] at d0
      rw [← (unhide BW).cell (p := ⟨b, off + k * 2 + 1, none⟩) hbw] at d1
      rw [← (unhide BW).cell (p := ⟨b', off' + k * 2, none⟩) hbw'] at d2
      rw [← (unhide BW).cell (p := ⟨b', off' + k * 2 + 1, none⟩) hbw'] at d3
      have Hip := hide (hip.below (unhide BW))
      have Hiu := hide (hiu.below (unhide BW))
      obtain ⟨pa, pcap, rfl, hpc, hpm, _⟩ := hip
      obtain ⟨pa', pcap', rfl, hpc', hpm', _⟩ := hiu
      generalize (roomAt rs k).1 = f at *
      generalize (roomAt rs k).2 = ps at *
      clear hcl hcl'
      have k0 := cell_regrown c0
      have k1 := cell_regrown c1
      have k2 := cell_regrown d0
      have k3 := cell_regrown d1
      have k4 := cell_regrown d2
      have k5 := cell_regrown d3
      go_wp2_with fail
      refine wp_region_quiet_below (by kernel_rfl) (by kernel_rfl) ?_
      repeat (go_big_quiet_step (fail))
      refine wpQuiet_nil ?_
      intro _ hw'
      obtain ⟨⟨dq, osq⟩, hw''⟩ := hw'
      subst hw''
      have Hbq := hide (below_regrown wr dq osq)
      have e0 := k0 dq osq
      have e1 := k1 dq osq
      have e2 := k2 dq osq
      have e3 := k3 dq osq
      have e4 := k4 dq osq
      have e5 := k5 dq osq
      clear k0 k1 k2 k3 k4 k5 c0 c1 d0 d1 d2 d3
      obtain ⟨w1, hw1⟩ : ∃ w1, w1 = Go.Sort.grow (Go.redrawn wr dq) osq := ⟨_, rfl⟩
      rw [← hw1] at Hbq e0 e1 e2 e3 e4 e5 ⊢
      clear hw1
      have HB1 := hide ((unhide BW).trans ((unhide Hbq).mono (unhide BW).size))
      go_wp2_with fail
      obtain ⟨wo, hwo⟩ : ∃ wo, wo = wr := ⟨wr, rfl⟩
      rw [← hwo] at *
      clear hwo
      go_loopw [6] (fun i wr => ∃ j : Nat, j ≤ ps.length ∧ i = .int .i64 j ∧ Below w1.heap.size w1 wr) (fun i _ => ps.length - (intOf i).toNat)
      case atStart => exact ⟨0, Nat.zero_le _, rfl, Below.refl _ _⟩
      case round =>
        obtain ⟨j, hj, rfl, hbr⟩ := hrel
        have Hbr := hide hbr
        have HBr := hide ((unhide HB1).trans (hbr.mono (unhide HB1).size))
        have hz1 := (unhide Hbq).size
        have f0 := (hbr.cell (World.block_lt_of_cell? _ _ e0)).trans e0
        have f1 := (hbr.cell (World.block_lt_of_cell? _ _ e1)).trans e1
        have f3 := (hbr.cell (World.block_lt_of_cell? _ _ e3)).trans e3
        have f5 := (hbr.cell (World.block_lt_of_cell? _ _ e5)).trans e5
        clear hbr
        by_cases hjl : j < ps.length
        · obtain ⟨_, _, g1, _, _, hr⟩ := (unhide Hip).below ((unhide Hbq).trans ((unhide Hbr).mono hz1))
          obtain ⟨_, _, g2, _, _, hr'⟩ := (unhide Hiu).below ((unhide Hbq).trans ((unhide Hbr).mono hz1))
          cases g1
          cases g2
          rcases hr with h0 | ⟨pb, poff, rfl, hpbw, hpl⟩
          · rw [h0] at hjl; simp at hjl
          rcases hr' with h0 | ⟨pb', poff', rfl, hpbw', hpl'⟩
          · rw [h0] at hjl; simp at hjl
          obtain ⟨c0, c1⟩ := hpl j hjl
          obtain ⟨d0, d1⟩ := hpl' j hjl
          generalize (paceAt ps j).1 = x at *
          generalize (paceAt ps j).2 = y at *
          have k0 := cell_regrown f0
          have k1 := cell_regrown f1
          have k3 := cell_regrown f3
          have k5 := cell_regrown f5
          have k6 := cell_regrown c0
          have k7 := cell_regrown c1
          have k8 := cell_regrown d0
          have k9 := cell_regrown d1
          clear hpl hpl' e0 e1 e2 e3 e4 e5
          go_wp2_with fail
          refine wp_region_quiet_below (by kernel_rfl) (by kernel_rfl) ?_
          repeat (go_big_quiet_step (fail))
          refine wpQuiet_nil ?_
          intro _ hw'
          obtain ⟨⟨dr, osr⟩, hw''⟩ := hw'
          subst hw''
          go_wp2_with fail
          go_roundw
          case rel => exact ⟨j + 1, by omega, by go_num, (unhide Hbr).trans ((below_regrown _ _ _).mono (unhide Hbr).size)⟩
          case measure => simp [intOf]; omega
        · go_wp2_with fail
          go_roundw
          case rel => exact ⟨k + 1, by omega, by go_num, (unhide Hb).trans (((unhide Hbq).trans ((unhide Hbr).mono hz1)).mono hzr)⟩
          case measure => simp [intOf]; omega
    · go_wp2_with fail
      go_ret
      exact ⟨rfl, unhide BW⟩

end Go.Proofs.YtmhagllddhjgmaaGreat

/- Smiths that are compared: two are alike where all their numbers are; and the weights as letters. No condition. -/
namespace Go.Proofs.YtmhagllddhjgmaaGreat
open Go.ChangeShapes Go.WideShapes Go.ChangeAt Go.RowKit Go.Sort
set_option linter.unusedVariables false

set_option maxHeartbeats 1000000 in
theorem smith_equal (x0 x1 x2 x3 x4 x5 x6 x7 x8 x9 x10 y0 y1 y2 y3 y4 y5 y6 y7 y8 y9 y10 : Int) (w : World) : (Op.equalIn 10000 41 (.agg #[.int .i64 x0, .int .i64 x1, .int .i64 x2, .int .i64 x3, .int .i64 x4, .int .i64 x5, .int .i64 x6, .int .i64 x7, .int .i64 x8, .int .i64 x9, .int .i64 x10]) (.agg #[.int .i64 y0, .int .i64 y1, .int .i64 y2, .int .i64 y3, .int .i64 y4, .int .i64 y5, .int .i64 y6, .int .i64 y7, .int .i64 y8, .int .i64 y9, .int .i64 y10])).run Tryz.prog w = .ok (sameB (x0, x1, x2, x3, x4, x5, x6, x7, x8, x9, x10) (y0, y1, y2, y3, y4, y5, y6, y7, y8, y9, y10)) w := by
  have u := Tryz.underlying2
  have a := Tryz.isAgg2
  have z := Tryz.sizeOf2
  have hS : Tryz.prog.underlying 41 = some (.struct (Tryz.prog.fieldsOf 41)) := by kernel_rfl
  have hp : Tryz.prog.stoodInHeld 41 = false := by kernel_rfl
  rw [show (10000 : Nat) = 9999 + 1 from rfl, run_equalIn_agg w 9999 41 _ _ hS hp]
  simp only [Program.fieldsOf, Tryz.underlying41]
  go_simp
  unfold sameB
  by_cases h0 : x0 = y0
  rotate_left
  · simp [h0]
  subst h0
  by_cases h1 : x1 = y1
  rotate_left
  · simp [h1]
  subst h1
  by_cases h2 : x2 = y2
  rotate_left
  · simp [h2]
  subst h2
  by_cases h3 : x3 = y3
  rotate_left
  · simp [h3]
  subst h3
  by_cases h4 : x4 = y4
  rotate_left
  · simp [h4]
  subst h4
  by_cases h5 : x5 = y5
  rotate_left
  · simp [h5]
  subst h5
  by_cases h6 : x6 = y6
  rotate_left
  · simp [h6]
  subst h6
  by_cases h7 : x7 = y7
  rotate_left
  · simp [h7]
  subst h7
  by_cases h8 : x8 = y8
  rotate_left
  · simp [h8]
  subst h8
  by_cases h9 : x9 = y9
  rotate_left
  · simp [h9]
  subst h9
  by_cases h10 : x10 = y10
  rotate_left
  · simp [h10]
  subst h10
  simp
theorem smith_eql (x0 x1 x2 x3 x4 x5 x6 x7 x8 x9 x10 y0 y1 y2 y3 y4 y5 y6 y7 y8 y9 y10 : Int) (w : World) : (binOp .eql 41 (.agg #[.int .i64 x0, .int .i64 x1, .int .i64 x2, .int .i64 x3, .int .i64 x4, .int .i64 x5, .int .i64 x6, .int .i64 x7, .int .i64 x8, .int .i64 x9, .int .i64 x10]) (.agg #[.int .i64 y0, .int .i64 y1, .int .i64 y2, .int .i64 y3, .int .i64 y4, .int .i64 y5, .int .i64 y6, .int .i64 y7, .int .i64 y8, .int .i64 y9, .int .i64 y10])).run Tryz.prog w = .ok (.bool (sameB (x0, x1, x2, x3, x4, x5, x6, x7, x8, x9, x10) (y0, y1, y2, y3, y4, y5, y6, y7, y8, y9, y10))) w := by
  rw [run_eql_struct, smith_equal]; rfl
theorem smith_neq (x0 x1 x2 x3 x4 x5 x6 x7 x8 x9 x10 y0 y1 y2 y3 y4 y5 y6 y7 y8 y9 y10 : Int) (w : World) : (binOp .neq 41 (.agg #[.int .i64 x0, .int .i64 x1, .int .i64 x2, .int .i64 x3, .int .i64 x4, .int .i64 x5, .int .i64 x6, .int .i64 x7, .int .i64 x8, .int .i64 x9, .int .i64 x10]) (.agg #[.int .i64 y0, .int .i64 y1, .int .i64 y2, .int .i64 y3, .int .i64 y4, .int .i64 y5, .int .i64 y6, .int .i64 y7, .int .i64 y8, .int .i64 y9, .int .i64 y10])).run Tryz.prog w = .ok (.bool (!sameB (x0, x1, x2, x3, x4, x5, x6, x7, x8, x9, x10) (y0, y1, y2, y3, y4, y5, y6, y7, y8, y9, y10))) w := by
  rw [run_neq_struct, smith_equal]; rfl

theorem implWeightOf_v {r x : Int} (h : weightV r = x) (w : World) : Calls Tryz.prog 267 #[.int .i64 r] w fun e w' => e = .returned (.int .i64 x) ∧ w' = w := by
  have := implWeightOf_any r w; rw [h] at this; exact this
end Go.Proofs.YtmhagllddhjgmaaGreat

