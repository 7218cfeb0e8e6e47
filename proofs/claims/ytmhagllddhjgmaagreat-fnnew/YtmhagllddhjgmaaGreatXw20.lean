/- What the proof rests on, part 20: lists and numbers, how they lie in memory, and contracts of the calls. No condition but those that a theorem names. -/
import Derived.Test.YtmhagllddhjgmaaGreatXw01
import Derived.Test.YtmhagllddhjgmaaGreatXw02
import Derived.Test.YtmhagllddhjgmaaGreatXw03
import Derived.Test.YtmhagllddhjgmaaGreatXw04
import Derived.Test.YtmhagllddhjgmaaGreatXw07
import Derived.Test.YtmhagllddhjgmaaGreatXw08
import Derived.Test.YtmhagllddhjgmaaGreatXw19
import Derived.Lib.QuietBelow
import Derived.WalkKit
import Derived.ProofKit
import Derived.OpenShut
import Derived.Outline
import Derived.Deep.RegionWith
import Derived.Deep.QuietTactic
import Derived.BigQuiet
import Derived.Laws.OwnMore
import Derived.OwnWalk
import Derived.Maps.AppendAt
import Derived.Lib.SmallJoins
import Derived.Deep.Fields
import Derived.Deep.Slices
import Derived.Laws.StructEq
/- Contracts of the laws' likeInts and likeSmithy: two that read alike are alike. Condition: both can be read. -/
namespace Go.Proofs.YtmhagllddhjgmaaGreat
open Go.ChangeShapes Go.WideShapes Go.ChangeAt Go.RowKit Go.Sort
set_option linter.unusedVariables false
set_option maxRecDepth 100000

theorem guild_equal (a b c : Int) (w : World) : (Op.equalIn 10000 91 (.agg #[.int .i64 a, .int .i64 b, .int .i64 c]) (.agg #[.int .i64 a, .int .i64 b, .int .i64 c])).run Tryz.prog w = .ok true w := by
  have u := Tryz.underlying2
  have g := Tryz.isAgg2
  have z := Tryz.sizeOf2
  have hS : Tryz.prog.underlying 91 = some (.struct (Tryz.prog.fieldsOf 91)) := by kernel_rfl
  have hp : Tryz.prog.stoodInHeld 91 = false := by kernel_rfl
  rw [show (10000 : Nat) = 9999 + 1 from rfl, run_equalIn_agg w 9999 91 _ _ hS hp]
  simp only [Program.fieldsOf, Tryz.underlying91]
  go_simp
theorem guild_neq (a b c : Int) (w : World) : (binOp .neq 91 (.agg #[.int .i64 a, .int .i64 b, .int .i64 c]) (.agg #[.int .i64 a, .int .i64 b, .int .i64 c])).run Tryz.prog w = .ok (.bool false) w := by
  rw [run_neq_struct, guild_equal]; rfl
theorem desk_equal (o : Bool) (b c : Int) (w : World) : (Op.equalIn 10000 54 (.agg #[.bool o, .int .i64 b, .int .i64 c]) (.agg #[.bool o, .int .i64 b, .int .i64 c])).run Tryz.prog w = .ok true w := by
  have u := Tryz.underlying2
  have g := Tryz.isAgg2
  have z := Tryz.sizeOf2
  have u2 := Tryz.underlying4
  have g2 := Tryz.isAgg4
  have z2 := Tryz.sizeOf4
  have hS : Tryz.prog.underlying 54 = some (.struct (Tryz.prog.fieldsOf 54)) := by kernel_rfl
  have hp : Tryz.prog.stoodInHeld 54 = false := by kernel_rfl
  rw [show (10000 : Nat) = 9999 + 1 from rfl, run_equalIn_agg w 9999 54 _ _ hS hp]
  simp only [Program.fieldsOf, Tryz.underlying54]
  go_simp
theorem desk_neq (o : Bool) (b c : Int) (w : World) : (binOp .neq 54 (.agg #[.bool o, .int .i64 b, .int .i64 c]) (.agg #[.bool o, .int .i64 b, .int .i64 c])).run Tryz.prog w = .ok (.bool false) w := by
  rw [run_neq_struct, desk_equal]; rfl
theorem smith_same_neq (st be rk my gu lo hi hd ca ut wk : Int) (w : World) : (binOp .neq 41 (.agg #[.int .i64 st, .int .i64 be, .int .i64 rk, .int .i64 my, .int .i64 gu, .int .i64 lo, .int .i64 hi, .int .i64 hd, .int .i64 ca, .int .i64 ut, .int .i64 wk]) (.agg #[.int .i64 st, .int .i64 be, .int .i64 rk, .int .i64 my, .int .i64 gu, .int .i64 lo, .int .i64 hi, .int .i64 hd, .int .i64 ca, .int .i64 ut, .int .i64 wk])).run Tryz.prog w = .ok (.bool false) w := by
  rw [smith_neq, sameB_refl]; rfl

set_option maxHeartbeats 1000000 in
theorem likeNums_yes {w : World} {v u : Value} {zs : List Int} (hv : IsNums w v zs) (hu : IsNums w u zs) :
    Calls Tryz.prog 69 #[v, u] w fun e w' => e = .returned (.bool true) ∧ Below w.heap.size w w' := by
  obtain ⟨a, cap, rfl, hc, hm, hr⟩ := hv
  obtain ⟨a', cap', rfl, hc', hm', hr'⟩ := hu
  have Hr := hide hr
  have Hr' := hide hr'
  clear hr hr'
  go_enter Tryz.func69, Tryz.ntmps69
  go_wp2_with fail
  go_loopw [5] (fun i wr => ∃ k : Nat, k ≤ zs.length ∧ i = .int .i64 k ∧ Below w.heap.size w wr) (fun i _ => zs.length - (intOf i).toNat)
  case atStart => exact ⟨0, Nat.zero_le _, rfl, Below.refl _ _⟩
  case round =>
    obtain ⟨k, hk, rfl, hb⟩ := hrel
    have Hb := hide hb
    by_cases hlt : k < zs.length
    · rcases unhide Hr with h0 | ⟨b, off, rfl, hbw, hcl⟩
      · rw [h0] at hlt; simp at hlt
      rcases unhide Hr' with h0 | ⟨b', off', rfl, hbw', hcl'⟩
      · rw [h0] at hlt; simp at hlt
      have c0 := num_cell hcl hlt
      have d0 := num_cell hcl' hlt
      rw [← hb.cell (p := ⟨b, off + k, none⟩) hbw] at c0
      rw [← hb.cell (p := ⟨b', off' + k, none⟩) hbw'] at d0
      generalize recAt zs k = z at *
      clear hcl hcl' hb
      go_wp2_with fail
      go_quiet (fail)
      go_wp2_with fail
      go_roundw
      case rel => exact ⟨k + 1, by omega, by go_num, ⟨(unhide Hb).os, (unhide Hb).tape, (unhide Hb).output, (unhide Hb).size, (unhide Hb).block⟩⟩
      case measure => simp [intOf]; omega
    · go_wp2_with fail
      go_ret
      exact ⟨rfl, hb⟩

attribute [local go_sem ↓] guild_neq desk_neq smith_same_neq
set_option maxHeartbeats 8000000 in
theorem likeSmithy_yes {w : World} {v0 v1 v2 v3 v4 u0 u1 u2 u3 u4 : Value} {m : SmyV} (h : Smy w v0 v1 v2 v3 v4 m) (g : Smy w u0 u1 u2 u3 u4 m) :
    Calls Tryz.prog 26 #[.agg #[v0, v1, v2, v3, v4, .int .i64 m.now], .agg #[u0, u1, u2, u3, u4, .int .i64 m.now]] w fun e w' => e = .returned (.bool true) ∧ Below w.heap.size w w' := by
  have Hv := hide h
  have Hu := hide g
  obtain ⟨a0, p0, rfl, _, _⟩ := IsRooms.shape h.rooms
  obtain ⟨b0, q0, rfl, _, _⟩ := IsRooms.shape g.rooms
  obtain ⟨a1, p1, rfl, _, _⟩ := IsRec.shape h.guilds
  obtain ⟨b1, q1, rfl, _, _⟩ := IsRec.shape g.guilds
  obtain ⟨a2, p2, rfl, _, _⟩ := IsRec.shape h.smiths
  obtain ⟨b2, q2, rfl, _, _⟩ := IsRec.shape g.smiths
  obtain ⟨a3, p3, rfl, _, _⟩ := IsRec.shape h.desks
  obtain ⟨b3, q3, rfl, _, _⟩ := IsRec.shape g.desks
  obtain ⟨a4, p4, rfl, _, _⟩ := IsRec.shape h.paces
  obtain ⟨b4, q4, rfl, _, _⟩ := IsRec.shape g.paces
  clear h g
  have ka : Hid (Blk ((w.alloc (.cells #[.slice a0 m.rooms.length p0, .slice a1 m.guilds.length p1, .slice a2 m.smiths.length p2, .slice a3 m.desks.length p3, .slice a4 m.paces.length p4, .int .i64 m.now] 32)).alloc (.cells #[.slice b0 m.rooms.length q0, .slice b1 m.guilds.length q1, .slice b2 m.smiths.length q2, .slice b3 m.desks.length q3, .slice b4 m.paces.length q4, .int .i64 m.now] 32)) w.heap.size 32 #[.slice a0 m.rooms.length p0, .slice a1 m.guilds.length p1, .slice a2 m.smiths.length p2, .slice a3 m.desks.length p3, .slice a4 m.paces.length p4, .int .i64 m.now]) := hide ((Blk.new w _ _).alloc _)
  have kb : Hid (Blk ((w.alloc (.cells #[.slice a0 m.rooms.length p0, .slice a1 m.guilds.length p1, .slice a2 m.smiths.length p2, .slice a3 m.desks.length p3, .slice a4 m.paces.length p4, .int .i64 m.now] 32)).alloc (.cells #[.slice b0 m.rooms.length q0, .slice b1 m.guilds.length q1, .slice b2 m.smiths.length q2, .slice b3 m.desks.length q3, .slice b4 m.paces.length q4, .int .i64 m.now] 32)) (w.heap.size + 1) 32 #[.slice b0 m.rooms.length q0, .slice b1 m.guilds.length q1, .slice b2 m.smiths.length q2, .slice b3 m.desks.length q3, .slice b4 m.paces.length q4, .int .i64 m.now]) := hide (by
    have k := Blk.new (w.alloc (.cells #[.slice a0 m.rooms.length p0, .slice a1 m.guilds.length p1, .slice a2 m.smiths.length p2, .slice a3 m.desks.length p3, .slice a4 m.paces.length p4, .int .i64 m.now] 32)) 32 #[.slice b0 m.rooms.length q0, .slice b1 m.guilds.length q1, .slice b2 m.smiths.length q2, .slice b3 m.desks.length q3, .slice b4 m.paces.length q4, .int .i64 m.now]
    rw [World.size_alloc] at k
    exact k)
  have BB : Hid (Below w.heap.size w ((w.alloc (.cells #[.slice a0 m.rooms.length p0, .slice a1 m.guilds.length p1, .slice a2 m.smiths.length p2, .slice a3 m.desks.length p3, .slice a4 m.paces.length p4, .int .i64 m.now] 32)).alloc (.cells #[.slice b0 m.rooms.length q0, .slice b1 m.guilds.length q1, .slice b2 m.smiths.length q2, .slice b3 m.desks.length q3, .slice b4 m.paces.length q4, .int .i64 m.now] 32))) := hide (((Below.refl _ _).alloc (Nat.le_refl _) _).alloc (by simp) _)
  go_enter Tryz.func26, Tryz.ntmps26
  go_wp2_with fail
  generalize ((w.alloc (.cells #[.slice a0 m.rooms.length p0, .slice a1 m.guilds.length p1, .slice a2 m.smiths.length p2, .slice a3 m.desks.length p3, .slice a4 m.paces.length p4, .int .i64 m.now] 32)).alloc (.cells #[.slice b0 m.rooms.length q0, .slice b1 m.guilds.length q1, .slice b2 m.smiths.length q2, .slice b3 m.desks.length q3, .slice b4 m.paces.length q4, .int .i64 m.now] 32)) = W at *
  refine (likeHall_yes ((unhide Hv).below (unhide BB)).rooms ((unhide Hu).below (unhide BB)).rooms).mono ?_
  rintro e w1 ⟨rfl, hb⟩
  replace ka := hide ((unhide ka).below hb (unhide ka).lt)
  replace kb := hide ((unhide kb).below hb (unhide kb).lt)
  replace BB := hide ((unhide BB).trans (hb.mono (unhide BB).size))
  clear hb
  have c0 := (unhide ka).cell (i := 0) (v := .slice a0 m.rooms.length p0) rfl
  have c1 := (unhide ka).cell (i := 1) (v := .slice a1 m.guilds.length p1) rfl
  have c2 := (unhide ka).cell (i := 2) (v := .slice a2 m.smiths.length p2) rfl
  have c3 := (unhide ka).cell (i := 3) (v := .slice a3 m.desks.length p3) rfl
  have c4 := (unhide ka).cell (i := 4) (v := .slice a4 m.paces.length p4) rfl
  have c5 := (unhide ka).cell (i := 5) (v := .int .i64 m.now) rfl
  have d0 := (unhide kb).cell (i := 0) (v := .slice b0 m.rooms.length q0) rfl
  have d1 := (unhide kb).cell (i := 1) (v := .slice b1 m.guilds.length q1) rfl
  have d2 := (unhide kb).cell (i := 2) (v := .slice b2 m.smiths.length q2) rfl
  have d3 := (unhide kb).cell (i := 3) (v := .slice b3 m.desks.length q3) rfl
  have d4 := (unhide kb).cell (i := 4) (v := .slice b4 m.paces.length q4) rfl
  have d5 := (unhide kb).cell (i := 5) (v := .int .i64 m.now) rfl
  go_wp2_with fail
  refine (likeNums_yes ((unhide Hv).below (unhide BB)).paces ((unhide Hu).below (unhide BB)).paces).mono ?_
  rintro e w2 ⟨rfl, hb⟩
  replace ka := hide ((unhide ka).below hb (unhide ka).lt)
  replace kb := hide ((unhide kb).below hb (unhide kb).lt)
  replace BB := hide ((unhide BB).trans (hb.mono (unhide BB).size))
  clear hb c0 c1 c2 c3 c4 c5 d0 d1 d2 d3 d4 d5
  have c0 := (unhide ka).cell (i := 0) (v := .slice a0 m.rooms.length p0) rfl
  have c1 := (unhide ka).cell (i := 1) (v := .slice a1 m.guilds.length p1) rfl
  have c2 := (unhide ka).cell (i := 2) (v := .slice a2 m.smiths.length p2) rfl
  have c3 := (unhide ka).cell (i := 3) (v := .slice a3 m.desks.length p3) rfl
  have c4 := (unhide ka).cell (i := 4) (v := .slice a4 m.paces.length p4) rfl
  have c5 := (unhide ka).cell (i := 5) (v := .int .i64 m.now) rfl
  have d0 := (unhide kb).cell (i := 0) (v := .slice b0 m.rooms.length q0) rfl
  have d1 := (unhide kb).cell (i := 1) (v := .slice b1 m.guilds.length q1) rfl
  have d2 := (unhide kb).cell (i := 2) (v := .slice b2 m.smiths.length q2) rfl
  have d3 := (unhide kb).cell (i := 3) (v := .slice b3 m.desks.length q3) rfl
  have d4 := (unhide kb).cell (i := 4) (v := .slice b4 m.paces.length q4) rfl
  have d5 := (unhide kb).cell (i := 5) (v := .int .i64 m.now) rfl
  go_wp2_with fail
  clear c0 c1 c2 c3 c4 c5 d0 d1 d2 d3 d4 d5
  go_loopw [5] (fun i wr => ∃ k : Nat, k ≤ m.guilds.length ∧ i = .int .i64 k ∧ Blk wr w.heap.size 32 #[.slice a0 m.rooms.length p0, .slice a1 m.guilds.length p1, .slice a2 m.smiths.length p2, .slice a3 m.desks.length p3, .slice a4 m.paces.length p4, .int .i64 m.now] ∧ Blk wr (w.heap.size + 1) 32 #[.slice b0 m.rooms.length q0, .slice b1 m.guilds.length q1, .slice b2 m.smiths.length q2, .slice b3 m.desks.length q3, .slice b4 m.paces.length q4, .int .i64 m.now] ∧ Below w.heap.size w wr) (fun i _ => m.guilds.length - (intOf i).toNat)
  case atStart => exact ⟨0, Nat.zero_le _, rfl, unhide ka, unhide kb, unhide BB⟩
  case round =>
    obtain ⟨k, hk, rfl, hka, hkb, hb⟩ := hrel
    have c1 := hka.cell (i := 1) rfl
    have d1 := hkb.cell (i := 1) rfl
    by_cases hlt : k < m.guilds.length
    · have hlt1 : (k : Int) < (m.guilds.length : Int) := by omega
      obtain ⟨_, _, he, _, hmx, r1⟩ := (unhide Hv).guilds
      cases he
      obtain ⟨_, _, he, _, hmy, r2⟩ := (unhide Hu).guilds
      cases he
      rcases r1 with e0 | ⟨b, off, rfl, hbw, hcl⟩
      · rw [e0] at hlt; simp at hlt
      rcases r2 with e0 | ⟨b', off', rfl, hbw', hcl'⟩
      · rw [e0] at hlt; simp at hlt
      obtain ⟨x0, x1, x2⟩ := guild_cells hcl hlt
      obtain ⟨y0, y1, y2⟩ := guild_cells hcl' hlt
      rw [← hb.cell (p := ⟨b, off + k * 3, none⟩) hbw] at x0
      rw [← hb.cell (p := ⟨b', off' + k * 3, none⟩) hbw'] at y0
      rw [← hb.cell (p := ⟨b, off + k * 3 + 1, none⟩) hbw] at x1
      rw [← hb.cell (p := ⟨b', off' + k * 3 + 1, none⟩) hbw'] at y1
      rw [← hb.cell (p := ⟨b, off + k * 3 + 2, none⟩) hbw] at x2
      rw [← hb.cell (p := ⟨b', off' + k * 3 + 2, none⟩) hbw'] at y2
      generalize recAt m.guilds k = rr at *
      obtain ⟨ga, gb, gc⟩ := rr
      simp only at x0 x1 x2 y0 y1 y2
      have Ka := hide hka
      have Kb := hide hkb
      have Hb := hide hb
      clear hcl hcl' hka hkb hb
      go_wp2_with fail
      go_quiet (fail)
      go_wp2_with fail
      go_roundw
      case rel => exact ⟨k + 1, by omega, by go_num, (unhide Ka).same rfl, (unhide Kb).same rfl, ⟨(unhide Hb).os, (unhide Hb).tape, (unhide Hb).output, (unhide Hb).size, (unhide Hb).block⟩⟩
      case measure => simp [intOf]; omega
    · obtain rfl : k = m.guilds.length := by omega
      replace ka := hide hka
      replace kb := hide hkb
      replace BB := hide hb
      clear hka hkb hb
      go_wp2_with fail
      go_loopw [6] (fun i wr => ∃ k : Nat, k ≤ m.smiths.length ∧ i = .int .i64 k ∧ Blk wr w.heap.size 32 #[.slice a0 m.rooms.length p0, .slice a1 m.guilds.length p1, .slice a2 m.smiths.length p2, .slice a3 m.desks.length p3, .slice a4 m.paces.length p4, .int .i64 m.now] ∧ Blk wr (w.heap.size + 1) 32 #[.slice b0 m.rooms.length q0, .slice b1 m.guilds.length q1, .slice b2 m.smiths.length q2, .slice b3 m.desks.length q3, .slice b4 m.paces.length q4, .int .i64 m.now] ∧ Below w.heap.size w wr) (fun i _ => m.smiths.length - (intOf i).toNat)
      case atStart => exact ⟨0, Nat.zero_le _, rfl, unhide ka, unhide kb, unhide BB⟩
      case round =>
        obtain ⟨k, hk, rfl, hka, hkb, hb⟩ := hrel
        have c2 := hka.cell (i := 2) rfl
        have d2 := hkb.cell (i := 2) rfl
        by_cases hlt : k < m.smiths.length
        · have hlt1 : (k : Int) < (m.smiths.length : Int) := by omega
          obtain ⟨_, _, he, _, hmx, r1⟩ := (unhide Hv).smiths
          cases he
          obtain ⟨_, _, he, _, hmy, r2⟩ := (unhide Hu).smiths
          cases he
          rcases r1 with e0 | ⟨b, off, rfl, hbw, hcl⟩
          · rw [e0] at hlt; simp at hlt
          rcases r2 with e0 | ⟨b', off', rfl, hbw', hcl'⟩
          · rw [e0] at hlt; simp at hlt
          obtain ⟨x0, x1, x2, x3, x4, x5, x6, x7, x8, x9, x10⟩ := smith_cells hcl hlt
          obtain ⟨y0, y1, y2, y3, y4, y5, y6, y7, y8, y9, y10⟩ := smith_cells hcl' hlt
          rw [← hb.cell (p := ⟨b, off + k * 11, none⟩) hbw] at x0
          rw [← hb.cell (p := ⟨b', off' + k * 11, none⟩) hbw'] at y0
          rw [← hb.cell (p := ⟨b, off + k * 11 + 1, none⟩) hbw] at x1
          rw [← hb.cell (p := ⟨b', off' + k * 11 + 1, none⟩) hbw'] at y1
          rw [← hb.cell (p := ⟨b, off + k * 11 + 2, none⟩) hbw] at x2
          rw [← hb.cell (p := ⟨b', off' + k * 11 + 2, none⟩) hbw'] at y2
          rw [← hb.cell (p := ⟨b, off + k * 11 + 3, none⟩) hbw] at x3
          rw [← hb.cell (p := ⟨b', off' + k * 11 + 3, none⟩) hbw'] at y3
          rw [← hb.cell (p := ⟨b, off + k * 11 + 4, none⟩) hbw] at x4
          rw [← hb.cell (p := ⟨b', off' + k * 11 + 4, none⟩) hbw'] at y4
          rw [← hb.cell (p := ⟨b, off + k * 11 + 5, none⟩) hbw] at x5
          rw [← hb.cell (p := ⟨b', off' + k * 11 + 5, none⟩) hbw'] at y5
          rw [← hb.cell (p := ⟨b, off + k * 11 + 6, none⟩) hbw] at x6
          rw [← hb.cell (p := ⟨b', off' + k * 11 + 6, none⟩) hbw'] at y6
          rw [← hb.cell (p := ⟨b, off + k * 11 + 7, none⟩) hbw] at x7
          rw [← hb.cell (p := ⟨b', off' + k * 11 + 7, none⟩) hbw'] at y7
          rw [← hb.cell (p := ⟨b, off + k * 11 + 8, none⟩) hbw] at x8
          rw [← hb.cell (p := ⟨b', off' + k * 11 + 8, none⟩) hbw'] at y8
          rw [← hb.cell (p := ⟨b, off + k * 11 + 9, none⟩) hbw] at x9
          rw [← hb.cell (p := ⟨b', off' + k * 11 + 9, none⟩) hbw'] at y9
          rw [← hb.cell (p := ⟨b, off + k * 11 + 10, none⟩) hbw] at x10
          rw [← hb.cell (p := ⟨b', off' + k * 11 + 10, none⟩) hbw'] at y10
          generalize recAt m.smiths k = rr at *
          obtain ⟨st, be, rk, my, gu, lo, hi, hd, ca, ut, wk⟩ := rr
          simp only at x0 x1 x2 x3 x4 x5 x6 x7 x8 x9 x10 y0 y1 y2 y3 y4 y5 y6 y7 y8 y9 y10
          have Ka := hide hka
          have Kb := hide hkb
          have Hb := hide hb
          clear hcl hcl' hka hkb hb
          go_wp2_with fail
          go_quiet (fail)
          go_wp2_with fail
          go_roundw
          case rel => exact ⟨k + 1, by omega, by go_num, (unhide Ka).same rfl, (unhide Kb).same rfl, ⟨(unhide Hb).os, (unhide Hb).tape, (unhide Hb).output, (unhide Hb).size, (unhide Hb).block⟩⟩
          case measure => simp [intOf]; omega
        · obtain rfl : k = m.smiths.length := by omega
          replace ka := hide hka
          replace kb := hide hkb
          replace BB := hide hb
          clear hka hkb hb
          go_wp2_with fail
          go_loopw [7] (fun i wr => ∃ k : Nat, k ≤ m.desks.length ∧ i = .int .i64 k ∧ Blk wr w.heap.size 32 #[.slice a0 m.rooms.length p0, .slice a1 m.guilds.length p1, .slice a2 m.smiths.length p2, .slice a3 m.desks.length p3, .slice a4 m.paces.length p4, .int .i64 m.now] ∧ Blk wr (w.heap.size + 1) 32 #[.slice b0 m.rooms.length q0, .slice b1 m.guilds.length q1, .slice b2 m.smiths.length q2, .slice b3 m.desks.length q3, .slice b4 m.paces.length q4, .int .i64 m.now] ∧ Below w.heap.size w wr) (fun i _ => m.desks.length - (intOf i).toNat)
          case atStart => exact ⟨0, Nat.zero_le _, rfl, unhide ka, unhide kb, unhide BB⟩
          case round =>
            obtain ⟨k, hk, rfl, hka, hkb, hb⟩ := hrel
            have c3 := hka.cell (i := 3) rfl
            have d3 := hkb.cell (i := 3) rfl
            by_cases hlt : k < m.desks.length
            · have hlt1 : (k : Int) < (m.desks.length : Int) := by omega
              obtain ⟨_, _, he, _, hmx, r1⟩ := (unhide Hv).desks
              cases he
              obtain ⟨_, _, he, _, hmy, r2⟩ := (unhide Hu).desks
              cases he
              rcases r1 with e0 | ⟨b, off, rfl, hbw, hcl⟩
              · rw [e0] at hlt; simp at hlt
              rcases r2 with e0 | ⟨b', off', rfl, hbw', hcl'⟩
              · rw [e0] at hlt; simp at hlt
              obtain ⟨x0, x1, x2⟩ := desk_cells hcl hlt
              obtain ⟨y0, y1, y2⟩ := desk_cells hcl' hlt
              rw [← hb.cell (p := ⟨b, off + k * 3, none⟩) hbw] at x0
              rw [← hb.cell (p := ⟨b', off' + k * 3, none⟩) hbw'] at y0
              rw [← hb.cell (p := ⟨b, off + k * 3 + 1, none⟩) hbw] at x1
              rw [← hb.cell (p := ⟨b', off' + k * 3 + 1, none⟩) hbw'] at y1
              rw [← hb.cell (p := ⟨b, off + k * 3 + 2, none⟩) hbw] at x2
              rw [← hb.cell (p := ⟨b', off' + k * 3 + 2, none⟩) hbw'] at y2
              generalize recAt m.desks k = rr at *
              obtain ⟨op, who, mk⟩ := rr
              simp only at x0 x1 x2 y0 y1 y2
              have Ka := hide hka
              have Kb := hide hkb
              have Hb := hide hb
              clear hcl hcl' hka hkb hb
              go_wp2_with fail
              go_quiet (fail)
              go_wp2_with fail
              go_roundw
              case rel => exact ⟨k + 1, by omega, by go_num, (unhide Ka).same rfl, (unhide Kb).same rfl, ⟨(unhide Hb).os, (unhide Hb).tape, (unhide Hb).output, (unhide Hb).size, (unhide Hb).block⟩⟩
              case measure => simp [intOf]; omega
            · obtain rfl : k = m.desks.length := by omega
              replace ka := hide hka
              replace kb := hide hkb
              replace BB := hide hb
              clear hka hkb hb
              go_wp2_with fail
              go_ret
              exact ⟨rfl, unhide BB⟩

end Go.Proofs.YtmhagllddhjgmaaGreat

