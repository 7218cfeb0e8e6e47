/- What the proof rests on, part 29: lists and numbers, how they lie in memory, and contracts of the calls. No condition but those that a theorem names. -/
import Derived.Test.YtifolooecfebfaaGreatXe01
import Derived.Test.YtifolooecfebfaaGreatXe02
import Derived.Test.YtifolooecfebfaaGreatXe03
import Derived.Test.YtifolooecfebfaaGreatXe04
import Derived.Test.YtifolooecfebfaaGreatXe05
import Derived.Test.YtifolooecfebfaaGreatXe06
import Derived.Test.YtifolooecfebfaaGreatXe07
import Derived.Test.YtifolooecfebfaaGreatXe08
import Derived.Test.YtifolooecfebfaaGreatXe09
import Derived.Test.YtifolooecfebfaaGreatXe10
import Derived.Test.YtifolooecfebfaaGreatXe11
import Derived.Test.YtifolooecfebfaaGreatXe12
import Derived.Test.YtifolooecfebfaaGreatXe13
import Derived.Test.YtifolooecfebfaaGreatXe14
import Derived.Test.YtifolooecfebfaaGreatXe16
import Derived.Test.YtifolooecfebfaaGreatXe17
import Derived.Test.YtifolooecfebfaaGreatXe18
import Derived.Test.YtifolooecfebfaaGreatXe19
import Derived.Test.YtifolooecfebfaaGreatXe20
import Derived.Test.YtifolooecfebfaaGreatXe21
import Derived.Test.YtifolooecfebfaaGreatXe22
import Derived.Test.YtifolooecfebfaaGreatXe23
import Derived.Test.YtifolooecfebfaaGreatXe24
import Derived.Test.YtifolooecfebfaaGreatXe26
import Derived.Test.YtifolooecfebfaaGreatXe27
import Derived.Test.YtifolooecfebfaaGreatXe28
import Derived.Lib.QuietBelow
import Derived.Shelf.RegionOpen
import Derived.Deep.RegionWith
import Derived.BigFrame
import Derived.Deep.DeepCutAuto
import Derived.WalkMore
import Derived.Below
import Derived.ChangeKeysEq
import Derived.Laws.StructEq
import GoSem.Claim
import GoSem.ClaimJoined
import GoSem.ClaimMapViews
import Derived.JoinedTies
import Derived.KernelRfl
import Derived.RowKit
import Derived.WalkKit
import Derived.ProofKit
import Derived.OpenShut
import Derived.Outline
import Derived.Deep.RegionHeld3
import Derived.Deep.DrawnRows
import Derived.BigRegion
import Derived.Deep.RegionLawGrows
import Derived.Deep.LoopGhost
import Derived.Deep.QuietTactic
import Derived.BigQuiet
import Derived.Laws.OwnMore
import Derived.OwnWalk
import Derived.Maps.AppendAt
import Derived.Maps.OwnSet
import Derived.Maps.OwnOps
import Derived.RangeFuncNested
import Derived.RangeFuncBound
import Derived.RangeFuncCalls
import Derived.RangeFuncLeaves
import Derived.RangeFuncBox
import Derived.Shelf.Abstract
import Derived.OwnWalkIn
import Derived.TacticsInMore
import Derived.LoopNIn
import Derived.LoopIn
import Derived.Lib.SmallJoins
import Derived.Deep.Fields
import Derived.Deep.Slices
import Derived.OrdersHeld
import Derived.Deep.RegionHeldLaw
/- Contracts of the program's isIdle, idleIn, isStrongEnough, told and strongerFor: each answers what the plain lists say. Conditions: the smithy can be read; what each theorem names. -/
namespace Go.Proofs.YtifolooecfebfaaGreat
open Go.ChangeShapes Go.WideShapes Go.ChangeAt Go.RowKit Go.Sort Go.Shelf
set_option linter.unusedVariables false
set_option linter.unusedSimpArgs false
set_option maxRecDepth 100000

def idleW (m : SmyV) (b : Int) : Bool := openB m b && decide ((atV m.smiths b m.smiths.length).length = 0)
theorem idleW_nat {m : SmyV} {k : Nat} (hk : k < m.desks.length) : idleW m (k : Int) = idleB m k := by
  unfold idleW idleB openB hasB
  rw [Int.toNat_natCast]
  have h1 : (0 : Int) ≤ (k : Int) := by omega
  have h2 : (k : Int) < (m.desks.length : Int) := by omega
  simp [h1, hk]
theorem queueOf_lenL (ss : List SmithV) (ps : List Int) : (queueOf ss ps).length = ps.length := by
  have key : ∀ (ps : List Int) (q : List PaceV), (ps.foldl (fun q i => putV q (hadS (recAt ss i.toNat), i)) q).length = q.length + ps.length := by
    intro ps
    induction ps with
    | nil => intro q; simp
    | cons i ps ih => intro q; rw [List.foldl_cons, ih, putV_len]; simp; omega
  have := key ps []
  unfold queueOf
  simpa using this
set_option maxHeartbeats 4000000 in
theorem isIdle_any {w : World} {v0 v1 v2 v3 v4 : Value} {m : SmyV} {b : Int} {q : Bool} (hq : idleW m b = q) (h : Smy w v0 v1 v2 v3 v4 m) (hl : m.smiths.length ≤ 1000) : Calls Tryz.prog 71 #[.agg #[v0, v1, v2, v3, v4, .int .i64 m.now], .int .i64 b] w fun e w' => e = .returned (.bool q) ∧ Below w.heap.size w w' := by
  have Hq := hide hq
  clear hq
  obtain ⟨a0, p0, a1, p1, a2, p2, a3, p3, a4, p4, rfl, rfl, rfl, rfl, rfl, K⟩ := Bx.new h
  clear h
  obtain ⟨ob, hob⟩ : ∃ q, openB m b = q := ⟨_, rfl⟩
  have Hob := hide hob
  clear hob
  go_enter Tryz.func71, Tryz.ntmps71
  go_wp2_with fail
  generalize w.alloc (.cells #[.slice a0 m.rooms.length p0, .slice a1 m.guilds.length p1, .slice a2 m.smiths.length p2, .slice a3 m.desks.length p3, .slice a4 m.paces.length p4, .int .i64 m.now] 32) = W at *
  refine (hasOpen_any (unhide Hob) K.smy).mono ?_
  rintro e w2 ⟨rfl, hb⟩
  replace K := K.next hb
  clear hb
  cases ob
  · obtain rfl : q = false := by rw [← unhide Hq]; unfold idleW; rw [unhide Hob]; rfl
    go_wp2_with fail
    go_ret
    exact ⟨rfl, K.bb⟩
  obtain ⟨c0, c1, c2, c3, c4, c5⟩ := K.cells
  go_wp2_with fail
  clear c0 c1 c2 c3 c4 c5
  refine (whoIsAt_any b K.smy hl).mono ?_
  rintro e w5 ⟨v', rfl, he, hb⟩
  obtain ⟨ua, uc, rfl⟩ := RecAt.shape he
  clear he
  replace K := K.next hb
  clear hb
  have HQ : Hid (q = decide ((whereTo (atB b) m.smiths m.smiths.length).length = 0)) := hide (by
    rw [← unhide Hq]; unfold idleW; rw [unhide Hob, Bool.true_and, ← queueOf_at, queueOf_lenL])
  generalize whereTo (atB b) m.smiths m.smiths.length = ws at *
  go_wp2_with fail
  go_ret
  exact ⟨ret_bool (by rw [unhide HQ, Bool.eq_iff_iff]; simp only [beq_iff_eq, decide_eq_true_eq]; omega), K.bb⟩
set_option maxHeartbeats 4000000 in
theorem idleIn_any {w : World} {v0 v1 v2 v3 v4 : Value} {m : SmyV} (h : Smy w v0 v1 v2 v3 v4 m) (hl : m.smiths.length ≤ 1000) (hd : m.desks.length ≤ 1000) : Calls Tryz.prog 100 #[.agg #[v0, v1, v2, v3, v4, .int .i64 m.now]] w fun e w' => ∃ v', e = .returned v' ∧ NumsAt w.heap.size w' v' (idleTo m m.desks.length) ∧ Below w.heap.size w w' := by
  have Hs := hide h
  obtain ⟨a0, p0, a1, p1, a2, p2, a3, p3, a4, p4, rfl, rfl, rfl, rfl, rfl, K⟩ := Bx.new h
  clear h
  go_enter Tryz.func100, Tryz.ntmps100
  go_wp2_with fail
  go_loopw [3, 9] (fun l i wr => ∃ k : Nat, k ≤ m.desks.length ∧ i = .int .i64 k ∧ NumsAt (w.heap.size + 1) wr l (idleTo m k) ∧ Bx w wr w.heap.size a0 p0 a1 p1 a2 p2 a3 p3 a4 p4 m) (fun _ i _ => m.desks.length - (intOf i).toNat)
  case atStart => exact ⟨0, Nat.zero_le _, rfl, recs_empty (by simp) (Nat.le_refl _), K.alloc _⟩
  case round =>
    obtain ⟨k, hk, rfl, hln, hK⟩ := hrel
    clear K
    have K := hK
    clear hK
    obtain ⟨la, lc, rfl⟩ := RecAt.shape hln
    have HL := hide hln
    have hfl := idleTo_len m k
    clear hln
    by_cases hlt : k < m.desks.length
    · have hlt1 : (k : Int) < (m.desks.length : Int) := by omega
      obtain ⟨q, hq⟩ : ∃ q, idleB m k = q := ⟨_, rfl⟩
      have HY := hide (fun hh : idleB m k = true => idleTo_yes hh)
      have HN := hide (fun hh : idleB m k = false => idleTo_no hh)
      have HB := hide (fun (X : World) (hX : Smy X (.slice a0 m.rooms.length p0) (.slice a1 m.guilds.length p1) (.slice a2 m.smiths.length p2) (.slice a3 m.desks.length p3) (.slice a4 m.paces.length p4) m) => isIdle_any (b := (k : Int)) ((idleW_nat hlt).trans hq) hX hl)
      have Hq := hide hq
      clear hq
      obtain ⟨c0, c1, c2, c3, c4, c5⟩ := K.cells
      go_wp2_with fail
      refine (unhide HB _ K.smy).mono ?_
      rintro e w1 ⟨rfl, hb⟩
      replace K := K.next hb
      replace HL := hide (RecAt.later (unhide HL) hb)
      clear hb c0 c1 c2 c3 c4 c5 HB
      cases q
      · go_wp2_with fail
        go_roundw
        case rel => exact ⟨k + 1, by omega, by go_num, by rw [unhide HN (unhide Hq)]; exact unhide HL, K⟩
        case measure => simp [intOf]; omega
      · have hsx := K.blk.lt
        go_wp2_with (at_builtin; refine wpList_append_recs tyN rfl (.tmp 15) (.tmp 17) 30 Tryz.underlying30 rfl (w.heap.size + 1) _ _ (idleTo m k) [(k : Int)] rfl rfl (RecAt.later (unhide HL) ((Below.refl _ _).alloc (Nat.le_refl _) _)) (recs_one (k : Int) rfl (Nat.le_refl _) (by omega)) (by simp; omega) (by simp; omega) ?_; intro u9 w9 hp9 hg9 hat9; have HP9 := hide hp9; have HG9 := hide hg9; clear hp9 hg9 hat9)
        have hgo : ∀ i, (Value.slice la (idleTo m k).length lc).ownBlock = some i → w.heap.size ≤ i ∧ i ≠ w.heap.size := fun i e => by have := (RecAt.lt (unhide HL) e).1; omega
        replace K := (K.alloc _).grown (unhide Hs) (unhide HG9) hgo
        go_wp2_with fail
        go_roundw
        case rel => exact ⟨k + 1, by omega, by go_num, by rw [unhide HY (unhide Hq)]; exact unhide HP9, K⟩
        case measure => simp [intOf]; omega
    · obtain rfl : k = m.desks.length := by omega
      go_wp2_with fail
      go_ret
      exact ⟨_, rfl, RecAt.mono (unhide HL) (Nat.le_succ _), K.bb⟩
set_option maxHeartbeats 4000000 in
theorem isStrong_any {w : World} {v0 v1 v2 v3 v4 : Value} {m : SmyV} {k : Nat} {b : Int} {q : Bool} (hq : fitsB (wantV m (k : Int)) 0 (forceV m.rooms b) = q) (h : Smy w v0 v1 v2 v3 v4 m) (hL : Wants m) (hk : k < m.smiths.length) (hs : (recAt m.smiths k).1 ≠ 0) : Calls Tryz.prog 102 #[.agg #[v0, v1, v2, v3, v4, .int .i64 m.now], .int .i64 (k : Int), .int .i64 b] w fun e w' => e = .returned (.bool q) ∧ Below w.heap.size w w' := by
  obtain ⟨a0, p0, a1, p1, a2, p2, a3, p3, a4, p4, rfl, rfl, rfl, rfl, rfl, K⟩ := Bx.new h
  clear h
  go_enter Tryz.func102, Tryz.ntmps102
  go_upto_region 1 with fail
  generalize w.alloc (.cells #[.slice a0 m.rooms.length p0, .slice a1 m.guilds.length p1, .slice a2 m.smiths.length p2, .slice a3 m.desks.length p3, .slice a4 m.paces.length p4, .int .i64 m.now] 32) = W at *
  have HN := hide (fun (X : World) (hX : Below W.heap.size W X) => wantOf_w (k := k) (K.smy.below hX) hL hk hs)
  have HF := hide (fun (X : World) (hX : Below W.heap.size W X) => implForceOf_any b (K.smy.below hX).rooms)
  generalize wantV m (k : Int) = wt at *
  generalize forceV m.rooms b = fo at *
  have HQ := hide (fun (X : World) => Calls.bool_of (implFitsIn_any wt 0 fo X) hq)
  clear hq hs hL
  obtain ⟨c0, c1, c2, c3, c4, c5⟩ := K.cells
  have k0 := cell_regrown c0
  have k1 := cell_regrown c1
  have k2 := cell_regrown c2
  have k3 := cell_regrown c3
  have k4 := cell_regrown c4
  have k5 := cell_regrown c5
  refine wp_region_quiet_below (by kernel_rfl) (by kernel_rfl) ?_
  repeat (go_big_quiet_step (first | exact Calls.regrown_of (unhide HN _ (below_regrown _ _ _)) | exact Calls.regrown_of (unhide HF _ (below_regrown _ _ _)) | exact Calls.regrown_of (unhide HQ _)))
  refine wpQuiet_nil ?_
  intro _ hw'
  obtain ⟨⟨dq, osq⟩, hw''⟩ := hw'
  subst hw''
  go_wp2_with fail
  go_ret
  exact ⟨rfl, K.bb.trans ((below_regrown _ _ _).mono K.bb.size)⟩
theorem seat_equal (x y : Int) (f : Bool) (w : World) : (Op.equalIn 10000 64 (.agg #[.int .i64 x, .int .i64 y, .bool f]) (.agg #[.int .i64 0, .int .i64 0, .bool false])).run Tryz.prog w = .ok (x == 0 && (y == 0 && !f)) w := by
  have u := Tryz.underlying2
  have a := Tryz.isAgg2
  have z := Tryz.sizeOf2
  have u4 := Tryz.underlying4
  have a4 := Tryz.isAgg4
  have z4 := Tryz.sizeOf4
  have hS : Tryz.prog.underlying 64 = some (.struct (Tryz.prog.fieldsOf 64)) := by kernel_rfl
  have hp : Tryz.prog.stoodInHeld 64 = false := by kernel_rfl
  rw [show (10000 : Nat) = 9999 + 1 from rfl, run_equalIn_agg w 9999 64 _ _ hS hp]
  simp only [Program.fieldsOf, Tryz.underlying64]
  go_simp
  by_cases h0 : x = 0
  rotate_left
  · simp [h0]
  subst h0
  by_cases h1 : y = 0
  rotate_left
  · simp [h1]
  subst h1
  cases f <;> simp
theorem seat_none (w : World) : (binOp .neq 64 (.agg #[.int .i64 0, .int .i64 0, .bool false]) (.agg #[.int .i64 0, .int .i64 0, .bool false])).run Tryz.prog w = .ok (.bool false) w := by
  rw [run_neq_struct, seat_equal]; rfl
theorem seat_some (x y : Int) (w : World) : (binOp .neq 64 (.agg #[.int .i64 x, .int .i64 y, .bool true]) (.agg #[.int .i64 0, .int .i64 0, .bool false])).run Tryz.prog w = .ok (.bool true) w := by
  rw [run_neq_struct, seat_equal]; simp
abbrev Z3 : Array Value := #[.int .i64 0, .int .i64 0, .bool false]
theorem seat_bb {w W : World} {R : Nat} (h : Below w.heap.size w W) (hR : w.heap.size ≤ R) (a b c : Value) : Below w.heap.size w (((W.setCell ⟨R, 0, none⟩ a).setCell ⟨R, 1, none⟩ b).setCell ⟨R, 2, none⟩ c) := ((h.setCell (p := ⟨R, 0, none⟩) hR a).setCell (p := ⟨R, 1, none⟩) hR b).setCell (p := ⟨R, 2, none⟩) hR c
theorem told_any (x y : Int) (f : Bool) (w : World) : Calls Tryz.prog 40 #[.agg #[.int .i64 x, .int .i64 y, .bool f]] w fun e w' => e = .returned (.tuple #[.int .i64 x, .int .i64 y, .bool f]) ∧ Below w.heap.size w w' := by
  go_enter Tryz.func40, Tryz.ntmps40
  go_upto_region 1 with fail
  have kb := hide (Blk.new w 64 #[.int .i64 x, .int .i64 y, .bool f])
  have BB : Hid (Below w.heap.size w (w.alloc (.cells #[.int .i64 x, .int .i64 y, .bool f] 64))) := hide ((Below.refl _ _).alloc (Nat.le_refl _) _)
  generalize w.alloc (.cells #[.int .i64 x, .int .i64 y, .bool f] 64) = W at *
  obtain ⟨c0, c1, c2⟩ := (unhide kb).c3
  have k0 := cell_regrown c0
  have k1 := cell_regrown c1
  have k2 := cell_regrown c2
  refine wp_region_quiet_below (by kernel_rfl) (by kernel_rfl) ?_
  repeat (go_big_quiet_step (fail))
  refine wpQuiet_nil ?_
  intro _ hw'
  obtain ⟨⟨dq, osq⟩, hw''⟩ := hw'
  subst hw''
  go_wp2_with fail
  refine bodyPost_ret (v := .tuple #[.int .i64 x, .int .i64 y, .bool f]) (by simp [results, Tryz.results40, go_sem]) rfl ⟨rfl, (unhide BB).trans ((below_regrown _ _ _).mono (unhide BB).size)⟩
set_option maxHeartbeats 8000000 in
theorem stronger_any {w : World} {v0 v1 v2 v3 v4 v : Value} {m : SmyV} {k n0 : Nat} {bs : List Int} {r : Option (Nat × Int)} (hr : goodZ m k bs = r) (h : Smy w v0 v1 v2 v3 v4 m) (hL : Wants m) (hk : k < m.smiths.length) (hs : (recAt m.smiths k).1 ≠ 0) (hf : NumsAt n0 w v bs) (hl : bs.length ≤ 1000) : Calls Tryz.prog 103 #[.agg #[v0, v1, v2, v3, v4, .int .i64 m.now], .int .i64 (k : Int), v] w fun e w' => e = .returned (seatZ r) ∧ Below w.heap.size w w' := by
  obtain ⟨ua, uc, rfl⟩ := RecAt.shape hf
  have Hr := hide hr
  clear hr
  obtain ⟨a0, p0, a1, p1, a2, p2, a3, p3, a4, p4, rfl, rfl, rfl, rfl, rfl, K⟩ := Bx.new h
  clear h
  have HW := hide (fun (X : World) (b : Int) (q : Bool) (hq : fitsB (wantV m (k : Int)) 0 (forceV m.rooms b) = q) (hX : Smy X (.slice a0 m.rooms.length p0) (.slice a1 m.guilds.length p1) (.slice a2 m.smiths.length p2) (.slice a3 m.desks.length p3) (.slice a4 m.paces.length p4) m) => isStrong_any hq hX hL hk hs)
  clear hL hs
  go_enter Tryz.func103, Tryz.ntmps103
  go_upto_region 1 with fail
  replace K := K.alloc (.cells Z3 64)
  have kr : Hid (Blk ((w.alloc (.cells #[.slice a0 m.rooms.length p0, .slice a1 m.guilds.length p1, .slice a2 m.smiths.length p2, .slice a3 m.desks.length p3, .slice a4 m.paces.length p4, .int .i64 m.now] 32)).alloc (.cells Z3 64)) (w.heap.size + 1) 64 Z3) := hide (by
    have k := Blk.new (w.alloc (.cells #[.slice a0 m.rooms.length p0, .slice a1 m.guilds.length p1, .slice a2 m.smiths.length p2, .slice a3 m.desks.length p3, .slice a4 m.paces.length p4, .int .i64 m.now] 32)) 64 Z3
    rw [World.size_alloc] at k
    exact k)
  have H0 : Hid (NumsAt n0 ((w.alloc (.cells #[.slice a0 m.rooms.length p0, .slice a1 m.guilds.length p1, .slice a2 m.smiths.length p2, .slice a3 m.desks.length p3, .slice a4 m.paces.length p4, .int .i64 m.now] 32)).alloc (.cells Z3 64)) (.slice ua bs.length uc) bs) := hide (RecAt.later hf (((Below.refl _ _).alloc (Nat.le_refl _) _).alloc (by simp) _))
  clear hf
  generalize (w.alloc (.cells #[.slice a0 m.rooms.length p0, .slice a1 m.guilds.length p1, .slice a2 m.smiths.length p2, .slice a3 m.desks.length p3, .slice a4 m.paces.length p4, .int .i64 m.now] 32)).alloc (.cells Z3 64) = W at *
  go_wp2_with fail
  go_loopw [11] (fun i wr => ∃ j : Nat, j ≤ bs.length ∧ i = .int .i64 j ∧ (bs.take j).find? (strP m k) = none ∧ Bx w wr w.heap.size a0 p0 a1 p1 a2 p2 a3 p3 a4 p4 m ∧ Blk wr (w.heap.size + 1) 64 Z3 ∧ Below W.heap.size W wr) (fun i _ => bs.length - (intOf i).toNat)
  case atStart => exact ⟨0, Nat.zero_le _, rfl, rfl, K, unhide kr, Below.refl _ _⟩
  case round =>
    obtain ⟨j, hj, rfl, hno, hK, hkr, hb⟩ := hrel
    clear K kr
    have K := hK
    have kr := hide hkr
    have HU := hide (RecAt.later (unhide H0) hb)
    have BB := hide hb
    have Hno := hide hno
    clear hb hK hkr hno
    by_cases hlt : j < bs.length
    rotate_left
    · obtain rfl : j = bs.length := by omega
      obtain rfl : r = none := by rw [← unhide Hr]; unfold goodZ; have := unhide Hno; rw [List.take_length] at this; rw [this]; rfl
      obtain ⟨o0, o1, o2⟩ := (unhide kr).c3
      obtain ⟨f0, f1, f2⟩ := (unhide kr).f3
      go_wp2_with fail
      refine bodyPost_ret (v := .agg #[.int .i64 0, .int .i64 0, .bool false]) (by simp [results, Tryz.results103, go_sem, *]) rfl ⟨rfl, seat_bb K.bb (Nat.le_succ _) _ _ _⟩
    have hlt1 : (j : Int) < (bs.length : Int) := by omega
    have HNo := hide (fun hh : strP m k (recAt bs j) = false => find_no hlt (unhide Hno) hh)
    have HYe := hide (fun hh : strP m k (recAt bs j) = true => find_yes hlt (unhide Hno) hh)
    clear Hno
    obtain ⟨g, rfl, hgl, hgw, hcl, _⟩ := RecAt.view encNum_len (by omega) (unhide HU) rfl (by omega)
    have z0 := hcl j hlt 0 _ rfl
    simp only [Nat.mul_one, Nat.add_zero] at z0
    clear hcl
    generalize hx : recAt bs j = bx at *
    clear hx
    obtain ⟨_, _, hse, _, _, r2⟩ := K.smy.smiths
    cases hse
    rcases r2 with e0 | ⟨sb, off, rfl, hbw, hcs⟩
    · rw [e0] at hk; simp at hk
    obtain ⟨d0, d1, d2, d3, d4, d5, d6, d7, d8, d9, d10⟩ := smith_cells hcs hk
    clear hcs d0 d1 d2 d4 d5 d6 d7 d8 d9 d10
    have hk1 : (k : Int) < (m.smiths.length : Int) := by omega
    obtain ⟨mb, hmb⟩ : ∃ x, memB (recAt m.smiths k).2.2.2.1 bx = x := ⟨_, rfl⟩
    obtain ⟨fb, hfb⟩ : ∃ x, fitsB (wantV m (k : Int)) 0 (forceV m.rooms bx) = x := ⟨_, rfl⟩
    have hst : strP m k bx = (mb && fb) := by unfold strP; rw [hmb, hfb]
    rw [hst] at HNo HYe
    clear hst
    have Hmb := hide hmb
    have Hfb := hide hfb
    clear hmb hfb
    generalize hmy : (recAt m.smiths k).2.2.2.1 = my at *
    clear hmy
    obtain ⟨c0, c1, c2, c3, c4, c5⟩ := K.cells
    go_wp2_with fail
    refine (implInSet_any my bx _).mono ?_
    rw [unhide Hmb]
    rintro e w1 ⟨rfl, h9⟩
    subst w1
    cases mb
    · go_wp2_with fail
      go_roundw
      case rel => exact ⟨j + 1, by omega, by go_num, unhide HNo rfl, K, unhide kr, unhide BB⟩
      case measure => simp [intOf]; omega
    go_wp2_with fail
    refine (unhide HW _ bx fb (unhide Hfb) K.smy).mono ?_
    rintro e w2 ⟨rfl, hb⟩
    replace K := K.next hb
    replace kr := bl kr hb
    replace BB := bt BB hb
    clear hb c0 c1 c2 c3 c4 c5 z0 HU d3
    cases fb
    · go_wp2_with fail
      go_roundw
      case rel => exact ⟨j + 1, by omega, by go_num, unhide HNo rfl, K, unhide kr, unhide BB⟩
      case measure => simp [intOf]; omega
    obtain rfl : r = some (k, bx) := by rw [← unhide Hr]; unfold goodZ; rw [unhide HYe rfl]; rfl
    obtain ⟨o0, o1, o2⟩ := (unhide kr).c3
    obtain ⟨f0, f1, f2⟩ := (unhide kr).f3
    go_wp2_with fail
    refine bodyPost_ret (v := .agg #[.int .i64 (k : Int), .int .i64 bx, .bool true]) (by simp [results, Tryz.results103, go_sem, *]) rfl ⟨rfl, seat_bb K.bb (Nat.le_succ _) _ _ _⟩

end Go.Proofs.YtifolooecfebfaaGreat

/- Contracts of the program's misfitIn, waiterIn, Misfit and Waiting: each answers what the plain lists say. Conditions: the smithy can be read; what each theorem names. -/
namespace Go.Proofs.YtifolooecfebfaaGreat
open Go.ChangeShapes Go.WideShapes Go.ChangeAt Go.RowKit Go.Sort Go.Shelf
set_option linter.unusedVariables false
set_option linter.unusedSimpArgs false
set_option maxRecDepth 100000

theorem at_own (st be rk my gu lo hi hd ca ut wk : Int) : atB be (st, be, rk, my, gu, lo, hi, hd, ca, ut, wk) = presS (st, be, rk, my, gu, lo, hi, hd, ca, ut, wk) := by unfold atB presS; simp
attribute [local go_sem ↓] seat_none seat_some
set_option maxHeartbeats 16000000 in
theorem misfitIn_any {w : World} {v0 v1 v2 v3 v4 mv : Value} {m : SmyV} {S : Nat → Bool} {r : Option (Nat × Nat)} (hr : misfitV m = r) (h : Smy w v0 v1 v2 v3 v4 m) (hm : smyB m = true) (hM : Mv w mv S) (hS : ∀ i, S i = true → Suits m i) : Calls Tryz.prog 41 #[.agg #[v0, v1, v2, v3, v4, .int .i64 m.now], mv] w fun e w' => e = .returned (seatZ (r.map castP)) ∧ Below w.heap.size w w' := by
  have Hr := hide hr
  clear hr
  have hlo := smy_loose hm
  have Hm := hide hm
  have HLo := hide hlo
  have hmay := may_ok hlo
  have h12 := smy_twelve hlo
  have h8 : m.desks.length ≤ 8 := hlo.sane.eight
  have HS := hide hS
  have hMr : ∀ X, Below w.heap.size w X → Mv X mv S := fun X hX => hM.below hX
  have HMr := hide hMr
  clear hS hM hm hMr
  obtain ⟨a0, p0, a1, p1, a2, p2, a3, p3, a4, p4, rfl, rfl, rfl, rfl, rfl, K⟩ := Bx.new h
  clear h
  have HId := hide (fun (X : World) (hX : Smy X (.slice a0 m.rooms.length p0) (.slice a1 m.guilds.length p1) (.slice a2 m.smiths.length p2) (.slice a3 m.desks.length p3) (.slice a4 m.paces.length p4) m) => idleIn_any hX (by omega) (by omega))
  have HSg := hide (fun (X : World) (k : Nat) (b : Int) (q : Bool) (hq : fitsB (wantV m (k : Int)) 0 (forceV m.rooms b) = q) (hk : k < m.smiths.length) (hs : (recAt m.smiths k).1 ≠ 0) (hX : Smy X (.slice a0 m.rooms.length p0) (.slice a1 m.guilds.length p1) (.slice a2 m.smiths.length p2) (.slice a3 m.desks.length p3) (.slice a4 m.paces.length p4) m) => isStrong_any hq hX hlo.wants hk hs)
  have HSt := hide (fun (X : World) (v : Value) (n0 k : Nat) (bs : List Int) (rr : Option (Nat × Int)) (hr : goodZ m k bs = rr) (hk : k < m.smiths.length) (hs : (recAt m.smiths k).1 ≠ 0) (hf : NumsAt n0 X v bs) (hl : bs.length ≤ 1000) (hX : Smy X (.slice a0 m.rooms.length p0) (.slice a1 m.guilds.length p1) (.slice a2 m.smiths.length p2) (.slice a3 m.desks.length p3) (.slice a4 m.paces.length p4) m) => stronger_any hr hX hlo.wants hk hs hf hl)
  have HMis := hide (fun (k : Nat) (hk : k < m.smiths.length) (hp : presS (recAt m.smiths k) = true) (hh : misB m k = true) => good_mis (m := m) (w := k) (hmay k hk (pres_ne hp)) hh)
  clear hlo hmay
  go_enter Tryz.func41, Tryz.ntmps41
  go_upto_region 1 with fail
  replace K := K.alloc (.cells Z3 64)
  have kr : Hid (Blk ((w.alloc (.cells #[.slice a0 m.rooms.length p0, .slice a1 m.guilds.length p1, .slice a2 m.smiths.length p2, .slice a3 m.desks.length p3, .slice a4 m.paces.length p4, .int .i64 m.now] 32)).alloc (.cells Z3 64)) (w.heap.size + 1) 64 Z3) := hide (by
    have k := Blk.new (w.alloc (.cells #[.slice a0 m.rooms.length p0, .slice a1 m.guilds.length p1, .slice a2 m.smiths.length p2, .slice a3 m.desks.length p3, .slice a4 m.paces.length p4, .int .i64 m.now] 32)) 64 Z3
    rw [World.size_alloc] at k
    exact k)
  generalize (w.alloc (.cells #[.slice a0 m.rooms.length p0, .slice a1 m.guilds.length p1, .slice a2 m.smiths.length p2, .slice a3 m.desks.length p3, .slice a4 m.paces.length p4, .int .i64 m.now] 32)).alloc (.cells Z3 64) = W at *
  obtain ⟨c0, c1, c2, c3, c4, c5⟩ := K.cells
  go_wp2_with fail
  refine (unhide HId _ K.smy).mono ?_
  rintro e w1 ⟨vi, rfl, hidl, hb⟩
  obtain ⟨ia, ic, rfl⟩ := RecAt.shape hidl
  have hil := idleTo_len m m.desks.length
  replace K := K.next hb
  replace kr := bl kr hb
  have HI := hide hidl
  clear hb hidl c0 c1 c2 c3 c4 c5 HId
  generalize hids : idleTo m m.desks.length = ids at *
  have Hids := hide hids
  clear hids
  obtain ⟨_, _, hse, _, _, r2⟩ := K.smy.smiths
  cases hse
  clear r2
  have c2 := K.blk.cell (i := 2) (v := .slice a2 m.smiths.length p2) rfl
  go_wp2_with fail
  clear c2
  go_loopw [16] (fun i wr => ∃ k : Nat, k ≤ m.smiths.length ∧ i = .int .i64 k ∧ misTo m k = none ∧ Bx w wr w.heap.size a0 p0 a1 p1 a2 p2 a3 p3 a4 p4 m ∧ Blk wr (w.heap.size + 1) 64 Z3 ∧ Below w1.heap.size w1 wr) (fun i _ => m.smiths.length - (intOf i).toNat)
  case atStart => exact ⟨0, Nat.zero_le _, rfl, rfl, K, unhide kr, Below.refl _ _⟩
  case round =>
    obtain ⟨k, hk, rfl, hno, hK, hkr, hb⟩ := hrel
    clear K kr
    have K := hK
    have kr := hide hkr
    have BB := hide hb
    have HU := hide (RecAt.later (unhide HI) hb)
    have Hno := hide hno
    clear hb hK hkr hno
    by_cases hlt : k < m.smiths.length
    rotate_left
    · obtain rfl : k = m.smiths.length := by omega
      obtain rfl : r = none := by rw [← unhide Hr]; exact mis_of (unhide Hm) rfl (unhide Hno)
      obtain ⟨o0, o1, o2⟩ := (unhide kr).c3
      obtain ⟨f0, f1, f2⟩ := (unhide kr).f3
      go_wp2_with fail
      refine bodyPost_ret (v := .agg #[.int .i64 0, .int .i64 0, .bool false]) (by simp [results, Tryz.results41, go_sem, *]) rfl ⟨rfl, seat_bb K.bb (Nat.le_succ _) _ _ _⟩
    have hlt1 : (k : Int) < (m.smiths.length : Int) := by omega
    obtain ⟨sk, hsk⟩ : ∃ x, S k = x := ⟨_, rfl⟩
    have Hsk := hide hsk
    clear hsk
    obtain ⟨_, _, hse, _, _, r2⟩ := K.smy.smiths
    cases hse
    rcases r2 with e0 | ⟨sb, off, rfl, hbw, hcs⟩
    · rw [e0] at hlt; simp at hlt
    obtain ⟨d0, d1, d2, d3, d4, d5, d6, d7, d8, d9, d10⟩ := smith_cells hcs hlt
    clear hcs
    have HSk := hide (fun hh : misB m k = false => mis_skip (unhide Hno) hh)
    have HNn := hide (fun hh : misAt m k = none => mis_none (unhide Hno) hh)
    have HYe := hide (fun (b : Nat) (hh : misAt m k = some b) => mis_of (unhide Hm) rfl (mis_some (unhide Hno) hh hlt))
    have HMk : Hid (misB m k = (presS (recAt m.smiths k) && !fitsB (wantV m (k : Int)) 0 (forceV m.rooms (recAt m.smiths k).2.1))) := hide rfl
    have HG := hide (fun (X : World) (v : Value) (n0 : Nat) (bs : List Int) (rr : Option (Nat × Int)) (hr : goodZ m k bs = rr) (hp : presS (recAt m.smiths k) = true) (hf : NumsAt n0 X v bs) (hl : bs.length ≤ 1000) (hX : Smy X (.slice a0 m.rooms.length p0) (.slice a1 m.guilds.length p1) (.slice (some ⟨sb, off, none⟩) m.smiths.length p2) (.slice a3 m.desks.length p3) (.slice a4 m.paces.length p4) m) => unhide HSt X v n0 k bs rr hr hlt (pres_ne hp) hf hl hX)
    have HE := hide (fun (X : World) (q : Bool) (hq : fitsB (wantV m (k : Int)) 0 (forceV m.rooms (recAt m.smiths k).2.1) = q) (hp : presS (recAt m.smiths k) = true) (hX : Smy X (.slice a0 m.rooms.length p0) (.slice a1 m.guilds.length p1) (.slice (some ⟨sb, off, none⟩) m.smiths.length p2) (.slice a3 m.desks.length p3) (.slice a4 m.paces.length p4) m) => unhide HSg X k _ q hq hlt (pres_ne hp) hX)
    have HMi := hide (fun (hp : presS (recAt m.smiths k) = true) (hh : misB m k = true) => (unhide HMis k hlt hp hh))
    clear Hno
    generalize recAt m.smiths k = sm at *
    obtain ⟨st, be, rk, my, gu, lo, hi, hd, ca, ut, wk⟩ := sm
    simp only at d0 d1 d2 d3 d4 d5 d6 d7 d8 d9 d10
    go_upto_region 5 with fail
    clear d0 d1 d2 d3 d4 d5 d6 d7 d8 d9 d10
    have ks : Hid (Blk (wr.alloc (.cells (I11 st be rk my gu lo hi hd ca ut wk) 42)) wr.heap.size 42 (I11 st be rk my gu lo hi hd ca ut wk)) := hide (Blk.new _ _ _)
    have hb : Below wr.heap.size wr (wr.alloc (.cells (I11 st be rk my gu lo hi hd ca ut wk) 42)) := (Below.refl _ _).alloc (Nat.le_refl _) _
    replace K := K.next hb
    replace kr := bl kr hb
    replace BB := bt BB hb
    replace HU := hide (RecAt.later (unhide HU) hb)
    clear hb
    generalize wr.alloc (.cells (I11 st be rk my gu lo hi hd ca ut wk) 42) = X at *
    generalize wr.heap.size = sx at *
    have HMv := hide (unhide HMr _ K.bb)
    have hk1000 : k ≤ 1000 := by omega
    cases sk
    rotate_left
    · -- it was moved
      have hs2 := hide (unhide HS k (unhide Hsk)).2
      go_wp2_with (at_lookup; refine wpList_look _ rfl _ _ rfl (v := mv) rfl (unhide HMv) k hk1000 rfl ?_; intro lc; rw [unhide Hsk])
      go_roundw
      case rel => exact ⟨k + 1, by omega, by go_num, unhide HSk (unhide hs2), K, unhide kr, unhide BB⟩
      case measure => simp [intOf]; omega
    obtain ⟨ps, hps⟩ : ∃ x, presS (st, be, rk, my, gu, lo, hi, hd, ca, ut, wk) = x := ⟨_, rfl⟩
    obtain ⟨fi, hfi⟩ : ∃ x, fitsB (wantV m (k : Int)) 0 (forceV m.rooms be) = x := ⟨_, rfl⟩
    have Hps := hide hps
    have Hfi := hide hfi
    clear hps hfi
    obtain ⟨s0, s1, s2, s3, s4, s5, s6, s7, s8, s9, s10⟩ := (unhide ks).c11
    go_wp2_with (at_lookup; refine wpList_look _ rfl _ _ rfl (v := mv) rfl (unhide HMv) k hk1000 rfl ?_; intro lc; rw [unhide Hsk])
    refine (isAt_any st be rk my gu lo hi hd ca ut wk be _).mono ?_
    rw [at_own, unhide Hps]
    rintro e w2 ⟨rfl, hb⟩
    replace K := K.next hb
    replace kr := bl kr hb
    replace BB := bt BB hb
    replace ks := bl ks hb
    replace HU := hide (RecAt.later (unhide HU) hb)
    clear hb s0 s1 s2 s3 s4 s5 s6 s7 s8 s9 s10
    cases ps
    · go_wp2_with fail
      go_roundw
      case rel => exact ⟨k + 1, by omega, by go_num, unhide HSk (by rw [unhide HMk, unhide Hps]; rfl), K, unhide kr, unhide BB⟩
      case measure => simp [intOf]; omega
    have s1 := (unhide ks).cell (i := 1) (v := .int .i64 be) rfl
    obtain ⟨c0, c1, c2, c3, c4, c5⟩ := K.cells
    go_wp2_with fail
    refine (unhide HE _ fi (unhide Hfi) (unhide Hps) K.smy).mono ?_
    rintro e w3 ⟨rfl, hb⟩
    replace K := K.next hb
    replace kr := bl kr hb
    replace BB := bt BB hb
    replace HU := hide (RecAt.later (unhide HU) hb)
    clear hb s1 c0 c1 c2 c3 c4 c5
    cases fi
    rotate_left
    · go_wp2_with fail
      go_roundw
      case rel => exact ⟨k + 1, by omega, by go_num, unhide HSk (by rw [unhide HMk]; show (_ && !fitsB (wantV m (k : Int)) 0 (forceV m.rooms be)) = false; rw [unhide Hfi]; simp), K, unhide kr, unhide BB⟩
      case measure => simp [intOf]; omega
    have hmk : misB m k = true := by rw [unhide HMk]; show (_ && !fitsB (wantV m (k : Int)) 0 (forceV m.rooms be)) = true; rw [unhide Hfi, unhide Hps]; rfl
    obtain ⟨rr, hrr⟩ : ∃ x, misAt m k = x := ⟨_, rfl⟩
    have hgz := unhide HMi (unhide Hps) hmk
    rw [hrr] at hgz
    have Hrr := hide hrr
    have Hgz := hide hgz
    clear hrr hgz hmk
    obtain ⟨c0, c1, c2, c3, c4, c5⟩ := K.cells
    have hil2 : ids.length ≤ 1000 := by omega
    go_wp2_with fail
    refine (unhide HG _ _ _ ids _ (unhide Hgz) (unhide Hps) (unhide HU) hil2 K.smy).mono ?_
    rintro e w4 ⟨rfl, hb⟩
    replace K := K.next hb
    replace kr := bl kr hb
    replace BB := bt BB hb
    clear hb c0 c1 c2 c3 c4 c5
    cases rr with
    | none =>
      simp only [Option.map_none, seatZ]
      go_wp2_with fail
      go_roundw
      case rel => exact ⟨k + 1, by omega, by go_num, unhide HNn (unhide Hrr), K.alloc _, (unhide kr).alloc _, (unhide BB).alloc (unhide BB).size _⟩
      case measure => simp [intOf]; omega
    | some b =>
      simp only [Option.map_some, seatZ]
      obtain rfl : r = some (k, b) := by rw [← unhide Hr]; exact unhide HYe b (unhide Hrr)
      replace K := K.alloc (.cells #[.int .i64 (k : Int), .int .i64 (b : Int), .bool true] 64)
      obtain ⟨o0, o1, o2⟩ := ((unhide kr).alloc (.cells #[.int .i64 (k : Int), .int .i64 (b : Int), .bool true] 64)).c3
      obtain ⟨f0, f1, f2⟩ := ((unhide kr).alloc (.cells #[.int .i64 (k : Int), .int .i64 (b : Int), .bool true] 64)).f3
      go_wp2_with fail
      refine bodyPost_ret (v := .agg #[.int .i64 (k : Int), .int .i64 (b : Int), .bool true]) (by simp [results, Tryz.results41, go_sem, *]) rfl ⟨rfl, seat_bb K.bb (Nat.le_succ _) _ _ _⟩
set_option maxHeartbeats 16000000 in
theorem waiterIn_any {w : World} {v0 v1 v2 v3 v4 : Value} {m : SmyV} {r : Option (Nat × Nat)} (hr : waitingV m = r) (h : Smy w v0 v1 v2 v3 v4 m) (hm : smyB m = true) : Calls Tryz.prog 42 #[.agg #[v0, v1, v2, v3, v4, .int .i64 m.now]] w fun e w' => e = .returned (seatZ (r.map castP)) ∧ Below w.heap.size w w' := by
  have hlo := smy_loose hm
  have h12 := smy_twelve hlo
  have h8 : m.desks.length ≤ 8 := hlo.sane.eight
  have Hr : Hid ((idleTo m m.desks.length).findSome? (wtOf m) = r.map castP) := hide (by
    rw [wts_eq (may_ok hlo) _ (Nat.le_refl _), ← hr]; unfold waitingV; rw [if_pos hm])
  clear hr hlo
  obtain ⟨z, hz⟩ : ∃ z, r.map castP = z := ⟨_, rfl⟩
  rw [hz] at Hr ⊢
  clear hz
  obtain ⟨a0, p0, a1, p1, a2, p2, a3, p3, a4, p4, rfl, rfl, rfl, rfl, rfl, K⟩ := Bx.new h
  clear h
  have HId := hide (fun (X : World) (hX : Smy X (.slice a0 m.rooms.length p0) (.slice a1 m.guilds.length p1) (.slice a2 m.smiths.length p2) (.slice a3 m.desks.length p3) (.slice a4 m.paces.length p4) m) => idleIn_any hX (by omega) (by omega))
  go_enter Tryz.func42, Tryz.ntmps42
  go_upto_region 1 with fail
  replace K := K.alloc (.cells Z3 64)
  have kr : Hid (Blk ((w.alloc (.cells #[.slice a0 m.rooms.length p0, .slice a1 m.guilds.length p1, .slice a2 m.smiths.length p2, .slice a3 m.desks.length p3, .slice a4 m.paces.length p4, .int .i64 m.now] 32)).alloc (.cells Z3 64)) (w.heap.size + 1) 64 Z3) := hide (by
    have k := Blk.new (w.alloc (.cells #[.slice a0 m.rooms.length p0, .slice a1 m.guilds.length p1, .slice a2 m.smiths.length p2, .slice a3 m.desks.length p3, .slice a4 m.paces.length p4, .int .i64 m.now] 32)) 64 Z3
    rw [World.size_alloc] at k
    exact k)
  generalize (w.alloc (.cells #[.slice a0 m.rooms.length p0, .slice a1 m.guilds.length p1, .slice a2 m.smiths.length p2, .slice a3 m.desks.length p3, .slice a4 m.paces.length p4, .int .i64 m.now] 32)).alloc (.cells Z3 64) = W at *
  obtain ⟨c0, c1, c2, c3, c4, c5⟩ := K.cells
  go_wp2_with fail
  refine (unhide HId _ K.smy).mono ?_
  rintro e w1 ⟨vi, rfl, hidl, hb⟩
  obtain ⟨ia, ic, rfl⟩ := RecAt.shape hidl
  have hil := idleTo_len m m.desks.length
  replace K := K.next hb
  replace kr := bl kr hb
  have HI := hide hidl
  clear hb hidl c0 c1 c2 c3 c4 c5 HId
  generalize idleTo m m.desks.length = ids at *
  go_wp2_with fail
  go_loopw [10] (fun i wr => ∃ j : Nat, j ≤ ids.length ∧ i = .int .i64 j ∧ (ids.take j).findSome? (wtOf m) = none ∧ Bx w wr w.heap.size a0 p0 a1 p1 a2 p2 a3 p3 a4 p4 m ∧ Blk wr (w.heap.size + 1) 64 Z3 ∧ Below w1.heap.size w1 wr) (fun i _ => ids.length - (intOf i).toNat)
  case atStart => exact ⟨0, Nat.zero_le _, rfl, rfl, K, unhide kr, Below.refl _ _⟩
  case round =>
    obtain ⟨j, hj, rfl, hno, hK, hkr, hb⟩ := hrel
    clear K kr
    have K := hK
    have kr := hide hkr
    have BB := hide hb
    have HU := hide (RecAt.later (unhide HI) hb)
    have Hno := hide hno
    clear hb hK hkr hno
    by_cases hlt : j < ids.length
    rotate_left
    · obtain rfl : j = ids.length := by omega
      obtain rfl : z = none := by rw [← unhide Hr]; have := unhide Hno; rw [List.take_length] at this; exact this
      obtain ⟨o0, o1, o2⟩ := (unhide kr).c3
      obtain ⟨f0, f1, f2⟩ := (unhide kr).f3
      go_wp2_with fail
      refine bodyPost_ret (v := .agg #[.int .i64 0, .int .i64 0, .bool false]) (by simp [results, Tryz.results42, go_sem, *]) rfl ⟨rfl, seat_bb K.bb (Nat.le_succ _) _ _ _⟩
    have hlt1 : (j : Int) < (ids.length : Int) := by omega
    have HNo := hide (fun hh : wtOf m (recAt ids j) = none => some_no hlt (unhide Hno) hh)
    have HYe := hide (fun (rr : Nat × Int) (hh : wtOf m (recAt ids j) = some rr) => some_yes hlt (unhide Hno) hh)
    clear Hno
    obtain ⟨g, rfl, hgl, hgw, hcl, _⟩ := RecAt.view encNum_len (by omega) (unhide HU) rfl (by omega)
    have z0 := hcl j hlt 0 _ rfl
    simp only [Nat.mul_one, Nat.add_zero] at z0
    clear hcl HU
    generalize hx : recAt ids j = bx at *
    clear hx
    have c2 := K.blk.cell (i := 2) (v := .slice a2 m.smiths.length p2) rfl
    go_wp2_with fail
    clear c2 z0
    go_loopw [17] (fun i wr => ∃ k : Nat, k ≤ m.smiths.length ∧ i = .int .i64 k ∧ wtTo m bx k = none ∧ Bx w wr w.heap.size a0 p0 a1 p1 a2 p2 a3 p3 a4 p4 m ∧ Blk wr (w.heap.size + 1) 64 Z3 ∧ Below w1.heap.size w1 wr) (fun i _ => m.smiths.length - (intOf i).toNat)
    case atStart => exact ⟨0, Nat.zero_le _, rfl, rfl, K, unhide kr, unhide BB⟩
    case round =>
      obtain ⟨k, hk, rfl, hno, hK, hkr, hb⟩ := hrel
      clear K kr BB
      have K := hK
      have kr := hide hkr
      have BB := hide hb
      have Hno := hide hno
      clear hb hK hkr hno
      by_cases hlk : k < m.smiths.length
      rotate_left
      · obtain rfl : k = m.smiths.length := by omega
        go_wp2_with fail
        go_roundw
        case rel => exact ⟨j + 1, by omega, by go_num, unhide HNo (by unfold wtOf; rw [unhide Hno]; rfl), K, unhide kr, unhide BB⟩
        case measure => simp [intOf]; omega
      have hlk1 : (k : Int) < (m.smiths.length : Int) := by omega
      obtain ⟨_, _, hse, _, _, r2⟩ := K.smy.smiths
      cases hse
      rcases r2 with e0 | ⟨sb, off, rfl, hbw, hcs⟩
      · rw [e0] at hlk; simp at hlk
      obtain ⟨d0, d1, d2, d3, d4, d5, d6, d7, d8, d9, d10⟩ := smith_cells hcs hlk
      clear hcs
      have HWn := hide (fun hh : wtP m bx k = false => wt_next (unhide Hno) hh)
      have HWy := hide (fun hh : wtP m bx k = true => unhide HYe (k, bx) (by unfold wtOf; rw [wt_hit (unhide Hno) hh hlk]; rfl))
      have HWp : Hid (wtP m bx k = ((recAt m.smiths k).1 == 2 && memB (recAt m.smiths k).2.2.2.1 bx)) := hide rfl
      clear Hno
      generalize recAt m.smiths k = sm at *
      obtain ⟨st, be, rk, my, gu, lo, hi, hd, ca, ut, wk⟩ := sm
      simp only at d0 d1 d2 d3 d4 d5 d6 d7 d8 d9 d10
      go_upto_region 7 with fail
      clear d0 d1 d2 d3 d4 d5 d6 d7 d8 d9 d10
      have ks : Hid (Blk (wr.alloc (.cells (I11 st be rk my gu lo hi hd ca ut wk) 42)) wr.heap.size 42 (I11 st be rk my gu lo hi hd ca ut wk)) := hide (Blk.new _ _ _)
      have hb : Below wr.heap.size wr (wr.alloc (.cells (I11 st be rk my gu lo hi hd ca ut wk) 42)) := (Below.refl _ _).alloc (Nat.le_refl _) _
      replace K := K.next hb
      replace kr := bl kr hb
      replace BB := bt BB hb
      clear hb
      generalize wr.alloc (.cells (I11 st be rk my gu lo hi hd ca ut wk) 42) = X at *
      generalize wr.heap.size = sx at *
      have s0 := (unhide ks).cell (i := 0) (v := .int .i64 st) rfl
      have s3 := (unhide ks).cell (i := 3) (v := .int .i64 my) rfl
      by_cases h2 : st = 2
      rotate_left
      · have h2b : (st == 2) = false := beq_eq_false_iff_ne.mpr h2
        go_wp2_with fail
        go_roundw
        case rel => exact ⟨k + 1, by omega, by go_num, unhide HWn (by rw [unhide HWp]; show ((st == 2) && _) = false; rw [h2b]; rfl), K, unhide kr, unhide BB⟩
        case measure => simp [intOf]; omega
      subst h2
      obtain ⟨mb, hmb⟩ : ∃ x, memB my bx = x := ⟨_, rfl⟩
      have Hmb := hide hmb
      clear hmb
      go_wp2_with fail
      refine (implInSet_any my bx _).mono ?_
      rw [unhide Hmb]
      rintro e w2 ⟨rfl, h9⟩
      subst w2
      clear s0 s3
      cases mb
      · go_wp2_with fail
        go_roundw
        case rel => exact ⟨k + 1, by omega, by go_num, unhide HWn (by rw [unhide HWp]; show (_ && memB my bx) = false; rw [unhide Hmb]; simp), K, unhide kr, unhide BB⟩
        case measure => simp [intOf]; omega
      obtain rfl : z = some (k, bx) := by rw [← unhide Hr]; exact unhide HWy (by rw [unhide HWp]; show (_ && memB my bx) = true; rw [unhide Hmb]; rfl)
      obtain ⟨o0, o1, o2⟩ := (unhide kr).c3
      obtain ⟨f0, f1, f2⟩ := (unhide kr).f3
      go_wp2_with fail
      refine bodyPost_ret (v := .agg #[.int .i64 (k : Int), .int .i64 bx, .bool true]) (by simp [results, Tryz.results42, go_sem, *]) rfl ⟨rfl, seat_bb K.bb (Nat.le_succ _) _ _ _⟩
set_option maxHeartbeats 8000000 in
theorem implMisfit_any {w : World} {v0 v1 v2 v3 v4 : Value} {m : SmyV} (h : Smy w v0 v1 v2 v3 v4 m) : Calls Tryz.prog 13 #[.agg #[v0, v1, v2, v3, v4, .int .i64 m.now]] w fun e w' => e = .returned (triV (misfitV m)) ∧ Below w.heap.size w w' := by
  obtain ⟨r, hr⟩ : ∃ x, misfitV m = x := ⟨_, rfl⟩
  rw [hr]
  have Hr := hide hr
  clear hr
  obtain ⟨ok, hok⟩ : ∃ q, smyB m = q := ⟨_, rfl⟩
  have Hok := hide hok
  clear hok
  obtain ⟨a0, p0, a1, p1, a2, p2, a3, p3, a4, p4, rfl, rfl, rfl, rfl, rfl, K⟩ := Bx.new h
  clear h
  go_enter Tryz.func13, Tryz.ntmps13
  go_wp2_with fail
  generalize w.alloc (.cells #[.slice a0 m.rooms.length p0, .slice a1 m.guilds.length p1, .slice a2 m.smiths.length p2, .slice a3 m.desks.length p3, .slice a4 m.paces.length p4, .int .i64 m.now] 32) = W at *
  refine (implSmithyOk_q _ _ _ _ _ _ _ _ (unhide Hok) K.smy).mono ?_
  rintro e w1 ⟨rfl, hb⟩
  replace K := K.next hb
  clear hb
  cases ok
  · obtain rfl : r = none := by rw [← unhide Hr]; unfold misfitV; rw [unhide Hok]; rfl
    go_wp2_with fail
    refine (told_any 0 0 false _).mono ?_
    rintro e w2 ⟨rfl, hb⟩
    replace K := K.next hb
    clear hb
    go_wp2_with fail
    refine bodyPost_ret (v := .tuple #[.int .i64 0, .int .i64 0, .bool false]) (by simp [results, Tryz.results13, go_sem]) rfl ⟨rfl, K.bb⟩
  obtain ⟨c0, c1, c2, c3, c4, c5⟩ := K.cells
  go_wp2_with fail
  refine (misfitIn_any (mv := .map none) (S := fun _ => false) (unhide Hr) K.smy (unhide Hok) (.inl ⟨rfl, fun _ => rfl⟩) (fun i e => by cases e)).mono ?_
  rintro e w2 ⟨rfl, hb⟩
  replace K := K.next hb
  clear hb c0 c1 c2 c3 c4 c5
  cases r with
  | none =>
    simp only [Option.map_none, seatZ]
    go_wp2_with fail
    refine (told_any 0 0 false _).mono ?_
    rintro e w3 ⟨rfl, hb⟩
    replace K := K.next hb
    clear hb
    go_wp2_with fail
    refine bodyPost_ret (v := .tuple #[.int .i64 0, .int .i64 0, .bool false]) (by simp [results, Tryz.results13, go_sem]) rfl ⟨rfl, K.bb⟩
  | some x =>
    obtain ⟨wh, bb⟩ := x
    simp only [Option.map_some, castP, seatZ]
    go_wp2_with fail
    refine (told_any (wh : Int) (bb : Int) true _).mono ?_
    rintro e w3 ⟨rfl, hb⟩
    replace K := K.next hb
    clear hb
    go_wp2_with fail
    refine bodyPost_ret (v := .tuple #[.int .i64 (wh : Int), .int .i64 (bb : Int), .bool true]) (by simp [results, Tryz.results13, go_sem]) rfl ⟨rfl, K.bb⟩
set_option maxHeartbeats 8000000 in
theorem implWaiting_any {w : World} {v0 v1 v2 v3 v4 : Value} {m : SmyV} (h : Smy w v0 v1 v2 v3 v4 m) : Calls Tryz.prog 14 #[.agg #[v0, v1, v2, v3, v4, .int .i64 m.now]] w fun e w' => e = .returned (triV (waitingV m)) ∧ Below w.heap.size w w' := by
  obtain ⟨r, hr⟩ : ∃ x, waitingV m = x := ⟨_, rfl⟩
  rw [hr]
  have Hr := hide hr
  clear hr
  obtain ⟨ok, hok⟩ : ∃ q, smyB m = q := ⟨_, rfl⟩
  have Hok := hide hok
  clear hok
  obtain ⟨a0, p0, a1, p1, a2, p2, a3, p3, a4, p4, rfl, rfl, rfl, rfl, rfl, K⟩ := Bx.new h
  clear h
  go_enter Tryz.func14, Tryz.ntmps14
  go_wp2_with fail
  generalize w.alloc (.cells #[.slice a0 m.rooms.length p0, .slice a1 m.guilds.length p1, .slice a2 m.smiths.length p2, .slice a3 m.desks.length p3, .slice a4 m.paces.length p4, .int .i64 m.now] 32) = W at *
  refine (implSmithyOk_q _ _ _ _ _ _ _ _ (unhide Hok) K.smy).mono ?_
  rintro e w1 ⟨rfl, hb⟩
  replace K := K.next hb
  clear hb
  cases ok
  · obtain rfl : r = none := by rw [← unhide Hr]; unfold waitingV; rw [unhide Hok]; rfl
    go_wp2_with fail
    refine (told_any 0 0 false _).mono ?_
    rintro e w2 ⟨rfl, hb⟩
    replace K := K.next hb
    clear hb
    go_wp2_with fail
    refine bodyPost_ret (v := .tuple #[.int .i64 0, .int .i64 0, .bool false]) (by simp [results, Tryz.results14, go_sem]) rfl ⟨rfl, K.bb⟩
  obtain ⟨c0, c1, c2, c3, c4, c5⟩ := K.cells
  go_wp2_with fail
  refine (waiterIn_any (unhide Hr) K.smy (unhide Hok)).mono ?_
  rintro e w2 ⟨rfl, hb⟩
  replace K := K.next hb
  clear hb c0 c1 c2 c3 c4 c5
  cases r with
  | none =>
    simp only [Option.map_none, seatZ]
    go_wp2_with fail
    refine (told_any 0 0 false _).mono ?_
    rintro e w3 ⟨rfl, hb⟩
    replace K := K.next hb
    clear hb
    go_wp2_with fail
    refine bodyPost_ret (v := .tuple #[.int .i64 0, .int .i64 0, .bool false]) (by simp [results, Tryz.results14, go_sem]) rfl ⟨rfl, K.bb⟩
  | some x =>
    obtain ⟨wh, bb⟩ := x
    simp only [Option.map_some, castP, seatZ]
    go_wp2_with fail
    refine (told_any (wh : Int) (bb : Int) true _).mono ?_
    rintro e w3 ⟨rfl, hb⟩
    replace K := K.next hb
    clear hb
    go_wp2_with fail
    refine bodyPost_ret (v := .tuple #[.int .i64 (wh : Int), .int .i64 (bb : Int), .bool true]) (by simp [results, Tryz.results14, go_sem]) rfl ⟨rfl, K.bb⟩

end Go.Proofs.YtifolooecfebfaaGreat

/- Who is to be put elsewhere next, by the program: what it answers, and what it remembers. Conditions: those that the theorem names. -/
namespace Go.Proofs.YtifolooecfebfaaGreat
open Go.ChangeShapes Go.WideShapes Go.ChangeAt Go.RowKit Go.Sort Go.Shelf
set_option linter.unusedVariables false
set_option linter.unusedSimpArgs false
set_option maxRecDepth 100000

/-- A seat as three letters. -/
def SeatIs (r : Option (Nat × Nat)) (x y : Int) (f : Bool) : Prop := match r with
  | none => x = 0 ∧ y = 0 ∧ f = false
  | some (a, b) => x = (a : Int) ∧ y = (b : Int) ∧ f = true
attribute [local go_sem ↓] seat_none seat_some
set_option maxHeartbeats 16000000 in
theorem nextSeat_any {n₀ n B : Nat} {w : World} {v0 v1 v2 v3 v4 : Value} {m : SmyV} {qs : List (RoomV × Value)} {D : DataW Unit} (h : FullSmy n₀ w v0 v1 v2 v3 v4 m qs) (hoB : ∀ k, OwnB v0 v1 v2 v3 v4 qs k → k ≠ B) (hm : smyB m = true) (hM : Mp w B n D) (hn : n ≤ 500) (hS : ∀ l, Maps.has D l = true → ∃ i : Nat, l = .int .i64 (i : Int) ∧ Suits m i) :
    Calls Tryz.prog 35 #[.agg #[v0, v1, v2, v3, v4, .int .i64 m.now], .map (some B)] w fun e w' => (∃ x y f, e = .returned (.agg #[.int .i64 x, .int .i64 y, .bool f]) ∧ SeatIs (moveV m) x y f) ∧ Two (some B) none w w' ∧ ∃ n' D', Mp w' B n' D' ∧ n' ≤ n + 1 ∧ ∀ l, Maps.has D' l = true → ∃ i : Nat, l = .int .i64 (i : Int) ∧ Seen m (Suits m) i := by
  have hBl := hM.lt
  have hlo := smy_loose hm
  have h12 := smy_twelve hlo
  have h8 : m.desks.length ≤ 8 := hlo.sane.eight
  clear hlo
  have HF := hide (fun (X : World) (T : Two (some B) none w X) => h.two T (fun k e => ⟨fun e2 => hoB k e (by cases e2; rfl), fun e2 => by cases e2⟩))
  clear hoB
  obtain ⟨r, hr⟩ : ∃ x, misfitV m = x := ⟨_, rfl⟩
  have Hr := hide hr
  clear hr
  obtain ⟨a0, p0, a1, p1, a2, p2, a3, p3, a4, p4, rfl, rfl, rfl, rfl, rfl, K⟩ := Bx.new h.smy
  clear h
  go_enter Tryz.func35, Tryz.ntmps35
  go_upto_region 1 with fail
  replace K := K.alloc (.cells Z3 64)
  have kr : Hid (Blk ((w.alloc (.cells #[.slice a0 m.rooms.length p0, .slice a1 m.guilds.length p1, .slice a2 m.smiths.length p2, .slice a3 m.desks.length p3, .slice a4 m.paces.length p4, .int .i64 m.now] 32)).alloc (.cells Z3 64)) (w.heap.size + 1) 64 Z3) := hide (by
    have k := Blk.new (w.alloc (.cells #[.slice a0 m.rooms.length p0, .slice a1 m.guilds.length p1, .slice a2 m.smiths.length p2, .slice a3 m.desks.length p3, .slice a4 m.paces.length p4, .int .i64 m.now] 32)) 64 Z3
    rw [World.size_alloc] at k
    exact k)
  generalize (w.alloc (.cells #[.slice a0 m.rooms.length p0, .slice a1 m.guilds.length p1, .slice a2 m.smiths.length p2, .slice a3 m.desks.length p3, .slice a4 m.paces.length p4, .int .i64 m.now] 32)).alloc (.cells Z3 64) = W at *
  have HM : Hid (Mp W B n D) := hide (hM.same (K.bb.block B hBl))
  clear hM
  obtain ⟨c0, c1, c2, c3, c4, c5⟩ := K.cells
  go_wp2_with fail
  refine (misfitIn_any (mv := .map (some B)) (S := fun i => Maps.has D (.int .i64 (i : Int))) (unhide Hr) K.smy hm (.inr ⟨B, n, D, rfl, unhide HM, fun _ => rfl⟩) (fun i e => by
    obtain ⟨j, ej, hj⟩ := hS _ e
    have e9 : (i : Int) = (j : Int) := by injection ej
    rw [show i = j by omega]
    exact hj)).mono ?_
  rintro e w1 ⟨rfl, hb⟩
  replace K := K.next hb
  replace kr := bl kr hb
  replace HM := hide ((unhide HM).below hb)
  clear hb c0 c1 c2 c3 c4 c5
  cases r with
  | some q =>
    obtain ⟨wh, bb⟩ := q
    have mv := moves_mis (unhide Hr)
    have hw1 : wh ≤ 1000 := by have := mv.who; omega
    have hb1 : bb ≤ 1000 := by have := mv.bench; omega
    have hn1 : n ≤ 1000 := by omega
    clear mv
    simp only [Option.map_some, castP, seatZ]
    go_upto_region 3 with fail
    have kt : Hid (Blk (w1.alloc (.cells #[.int .i64 (wh : Int), .int .i64 (bb : Int), .bool true] 64)) w1.heap.size 64 #[.int .i64 (wh : Int), .int .i64 (bb : Int), .bool true]) := hide (Blk.new _ _ _)
    have hb : Below w1.heap.size w1 (w1.alloc (.cells #[.int .i64 (wh : Int), .int .i64 (bb : Int), .bool true] 64)) := (Below.refl _ _).alloc (Nat.le_refl _) _
    have hwx : w.heap.size + 1 < w1.heap.size := (unhide kr).lt
    replace K := K.next hb
    replace kr := bl kr hb
    replace HM := hide ((unhide HM).below hb)
    clear hb
    generalize w1.alloc (.cells #[.int .i64 (wh : Int), .int .i64 (bb : Int), .bool true] 64) = X at *
    generalize w1.heap.size = sx at *
    obtain ⟨t0, t1, t2⟩ := (unhide kt).c3
    go_upto_region 4 with (at_mapUpdate; refine wpList_note _ rfl _ _ _ rfl (b := B) (n := n) (D := D) rfl (unhide HM) hn1 wh bb hw1 hb1 rfl rfl ?_; intro w3 D3 hm3 hk3 ht3; have HM3 := hide hm3; have HK3 := hide hk3; have HT3 := hide ht3; clear hm3 hk3 ht3)
    clear t0 t1 t2
    have hne : some B ≠ some (w.heap.size + 1) := fun e => by cases e; omega
    have hne2 : some B ≠ some sx := fun e => by cases e; omega
    replace kr := hide ((unhide kr).two (unhide HT3) hne (fun e => by cases e))
    replace kt := hide ((unhide kt).two (unhide HT3) hne2 (fun e => by cases e))
    have HT : Hid (Two (some B) none w w3) := hide ((Two.of_below K.bb).trans (unhide HT3))
    obtain ⟨t0, t1, t2⟩ := (unhide kt).c3
    obtain ⟨o0, o1, o2⟩ := (unhide kr).c3
    obtain ⟨f0, f1, f2⟩ := (unhide kr).f3
    go_wp2_with fail
    have HT4 := two_set3 w3 (w.heap.size + 1) (.int .i64 (wh : Int)) (.int .i64 (bb : Int)) (.bool true)
    refine bodyPost_ret (v := .agg #[.int .i64 (wh : Int), .int .i64 (bb : Int), .bool true]) (by simp [results, Tryz.results35, go_sem, *]) rfl ⟨⟨_, _, _, rfl, by rw [move_mis (unhide Hr)]; exact ⟨rfl, rfl, rfl⟩⟩, ?_, n + 1, D3, (unhide HM3).two HT4 (fun e => hne e.symm) (fun e => by cases e), Nat.le_refl _, fun l hl => ?_⟩
    · exact two_over (unhide HT) HT4 (Nat.le_succ _)
    · rcases unhide HK3 l hl with rfl | hl
      · exact ⟨wh, rfl, _, unhide Hr, .inl rfl⟩
      · obtain ⟨i, rfl, hi⟩ := hS l hl
        exact ⟨i, rfl, _, unhide Hr, .inr hi⟩
  | none =>
    obtain ⟨r2, hr2⟩ : ∃ x, waitingV m = x := ⟨_, rfl⟩
    have Hr2 := hide hr2
    have Hmv : Hid (moveV m = r2) := hide (by rw [move_wait (unhide Hr), hr2])
    clear hr2
    simp only [Option.map_none, seatZ]
    go_upto_region 5 with fail
    replace K := K.next ((Below.refl _ _).alloc (Nat.le_refl _) (.cells #[.int .i64 0, .int .i64 0, .bool false] 64))
    replace HM := hide ((unhide HM).below ((Below.refl _ _).alloc (Nat.le_refl _) (.cells #[.int .i64 0, .int .i64 0, .bool false] 64)))
    replace kr := hide ((unhide kr).alloc (.cells #[.int .i64 0, .int .i64 0, .bool false] 64))
    generalize w1.alloc (.cells #[.int .i64 0, .int .i64 0, .bool false] 64) = X at *
    obtain ⟨w3, hrun, hm3, ht3⟩ := clear_run (unhide HM)
    have HM3 := hide hm3
    have HT3 := hide ht3
    clear hm3 ht3
    go_upto_region 6 with fail
    clear hrun
    have hne : some B ≠ some (w.heap.size + 1) := fun e => by cases e; omega
    have hne0 : some B ≠ some w.heap.size := fun e => by cases e; omega
    replace kr := hide ((unhide kr).two (unhide HT3) hne (fun e => by cases e))
    have kb := hide (K.blk.two (unhide HT3) hne0 (fun e => by cases e))
    have HT : Hid (Two (some B) none w w3) := hide ((Two.of_below K.bb).trans (unhide HT3))
    have HS3 := hide (unhide HF _ (unhide HT)).smy
    clear K HM HT3
    obtain ⟨c0, c1, c2, c3, c4, c5⟩ := (unhide kb).c6
    go_wp2_with fail
    refine (waiterIn_any (unhide Hr2) (unhide HS3) hm).mono ?_
    rintro e w4 ⟨rfl, hb⟩
    replace kr := bl kr hb
    replace HT := hide ((unhide HT).trans (Two.of_below hb))
    have HM4 : Hid (Mp w4 B 0 (.map [])) := hide ((unhide HM3).below hb)
    clear hb c0 c1 c2 c3 c4 c5 HM3 kb
    obtain ⟨o0, o1, o2⟩ := (unhide kr).c3
    obtain ⟨f0, f1, f2⟩ := (unhide kr).f3
    cases r2 with
    | none =>
      simp only [Option.map_none, seatZ]
      go_wp2_with fail
      have HT4 := two_set3 w4 (w.heap.size + 1) (.int .i64 0) (.int .i64 0) (.bool false)
      refine bodyPost_ret (v := .agg #[.int .i64 0, .int .i64 0, .bool false]) (by simp [results, Tryz.results35, go_sem, *]) rfl ⟨⟨_, _, _, rfl, by rw [unhide Hmv]; exact ⟨rfl, rfl, rfl⟩⟩, two_over (unhide HT) HT4 (Nat.le_succ _), 0, .map [], (unhide HM4).two HT4 (fun e => hne e.symm) (fun e => by cases e), Nat.zero_le _, fun l hl => by simp [Maps.has] at hl⟩
    | some q =>
      obtain ⟨wh, bb⟩ := q
      simp only [Option.map_some, castP, seatZ]
      go_wp2_with fail
      have HT4 := two_set3 w4 (w.heap.size + 1) (.int .i64 (wh : Int)) (.int .i64 (bb : Int)) (.bool true)
      refine bodyPost_ret (v := .agg #[.int .i64 (wh : Int), .int .i64 (bb : Int), .bool true]) (by simp [results, Tryz.results35, go_sem, *]) rfl ⟨⟨_, _, _, rfl, by rw [unhide Hmv]; exact ⟨rfl, rfl, rfl⟩⟩, two_over (unhide HT) HT4 (Nat.le_succ _), 0, .map [], (unhide HM4).two HT4 (fun e => hne e.symm) (fun e => by cases e), Nat.zero_le _, fun l hl => by simp [Maps.has] at hl⟩

end Go.Proofs.YtifolooecfebfaaGreat

/- The walk of the exact law on Misfit. Condition: the smithy can be read. -/
namespace Go.Proofs.YtifolooecfebfaaGreat
open Go.ChangeShapes Go.WideShapes Go.ChangeAt Go.RowKit Go.Sort
set_option linter.unusedVariables false
set_option linter.unusedSimpArgs false
set_option maxRecDepth 100000

theorem tri_is (r : Option (Nat × Nat)) : ∃ (x y : Int) (f : Bool), triV r = .tuple #[.int .i64 x, .int .i64 y, .bool f] := by
  cases r with
  | none => exact ⟨_, _, _, rfl⟩
  | some r => obtain ⟨a, b⟩ := r; exact ⟨_, _, _, rfl⟩
theorem specMisfit_t {w : World} {v0 v1 v2 v3 v4 : Value} {m : SmyV} {x y : Int} {f : Bool} (hq : triV (misfitV m) = .tuple #[.int .i64 x, .int .i64 y, .bool f]) (h : Smy w v0 v1 v2 v3 v4 m) : Calls Tryz.prog 17 #[.agg #[v0, v1, v2, v3, v4, .int .i64 m.now]] w fun e w' => e = .returned (.tuple #[.int .i64 x, .int .i64 y, .bool f]) ∧ Below w.heap.size w w' := by
  have hc := specMisfit_any h
  rw [hq] at hc
  exact hc
theorem implMisfit_t {w : World} {v0 v1 v2 v3 v4 : Value} {m : SmyV} {x y : Int} {f : Bool} (hq : triV (misfitV m) = .tuple #[.int .i64 x, .int .i64 y, .bool f]) (h : Smy w v0 v1 v2 v3 v4 m) : Calls Tryz.prog 13 #[.agg #[v0, v1, v2, v3, v4, .int .i64 m.now]] w fun e w' => e = .returned (.tuple #[.int .i64 x, .int .i64 y, .bool f]) ∧ Below w.heap.size w w' := by
  have hc := implMisfit_any h
  rw [hq] at hc
  exact hc
set_option maxRecDepth 100000 in
set_option maxHeartbeats 8000000 in
theorem walkFnExactMisfit (v0 v1 v2 v3 v4 : Value) (m : SmyV) (w : World) (h : Smy w v0 v1 v2 v3 v4 m) :
    Calls Tryz.prog 6 #[.agg #[v0, v1, v2, v3, v4, .int .i64 m.now]] w fun e w' => e = .returned (.bool true) ∧ Below w.heap.size w w' := by
  obtain ⟨xq, yq, q, hq⟩ := tri_is (misfitV m)
  have Hq := hide hq
  clear hq
  have Hv := hide h
  obtain ⟨a0, p0, rfl, _, _⟩ := IsRooms.shape h.rooms
  obtain ⟨a1, p1, rfl, _, _⟩ := IsRec.shape h.guilds
  obtain ⟨a2, p2, rfl, _, _⟩ := IsRec.shape h.smiths
  obtain ⟨a3, p3, rfl, _, _⟩ := IsRec.shape h.desks
  obtain ⟨a4, p4, rfl, _, _⟩ := IsRec.shape h.paces
  clear h
  go_enter Tryz.func6, Tryz.ntmps6
  go_wp2_with fail
  refine (szSmithy_any ((unhide Hv).alloc _)).mono ?_
  rintro e w1 ⟨x, rfl, hx, hb⟩
  have ka : Hid (Blk w1 w.heap.size 56 #[.slice a0 m.rooms.length p0, .slice a1 m.guilds.length p1, .slice a2 m.smiths.length p2, .slice a3 m.desks.length p3, .slice a4 m.paces.length p4, .int .i64 m.now]) := hide ((Blk.new w _ _).below hb (by simp))
  have BB : Hid (Below w.heap.size w w1) := hide (((Below.refl _ _).alloc (Nat.le_refl _) _).trans (hb.mono (by simp)))
  have Hx := hide hx
  clear hx hb
  by_cases hx0 : x < 0
  · go_wp2_with fail
    go_ret
    exact ⟨rfl, unhide BB⟩
  have Hs := hide (unhide Hx (by omega))
  clear Hx
  have c0 := (unhide ka).cell (i := 0) (v := .slice a0 m.rooms.length p0) rfl
  have c1 := (unhide ka).cell (i := 1) (v := .slice a1 m.guilds.length p1) rfl
  have c2 := (unhide ka).cell (i := 2) (v := .slice a2 m.smiths.length p2) rfl
  have c3 := (unhide ka).cell (i := 3) (v := .slice a3 m.desks.length p3) rfl
  have c4 := (unhide ka).cell (i := 4) (v := .slice a4 m.paces.length p4) rfl
  have c5 := (unhide ka).cell (i := 5) (v := .int .i64 m.now) rfl
  go_wp2_with fail
  refine (toSmithy_any ((unhide Hv).below (unhide BB)) (unhide Hs)).mono ?_
  rintro e w2 ⟨u0, u1, u2, u3, u4, rfl, ho, hb⟩
  clear c0 c1 c2 c3 c4 c5
  have k2 := ho.smy
  obtain ⟨b0, q0, rfl, _, _⟩ := IsRooms.shape k2.rooms
  obtain ⟨b1, q1, rfl, _, _⟩ := IsRec.shape k2.guilds
  obtain ⟨b2, q2, rfl, _, _⟩ := IsRec.shape k2.smiths
  obtain ⟨b3, q3, rfl, _, _⟩ := IsRec.shape k2.desks
  obtain ⟨b4, q4, rfl, _, _⟩ := IsRec.shape k2.paces
  have K2 := hide k2
  clear k2 ho
  replace ka := hide ((unhide ka).below hb (unhide ka).lt)
  replace BB := hide ((unhide BB).trans (hb.mono (unhide BB).size))
  clear hb
  go_wp2_with fail
  refine (specMisfit_t (unhide Hq) (unhide K2)).mono ?_
  rintro e w3 ⟨rfl, hb⟩
  replace ka := hide ((unhide ka).below hb (unhide ka).lt)
  replace BB := hide ((unhide BB).trans (hb.mono (unhide BB).size))
  clear hb K2
  have c0 := (unhide ka).cell (i := 0) (v := .slice a0 m.rooms.length p0) rfl
  have c1 := (unhide ka).cell (i := 1) (v := .slice a1 m.guilds.length p1) rfl
  have c2 := (unhide ka).cell (i := 2) (v := .slice a2 m.smiths.length p2) rfl
  have c3 := (unhide ka).cell (i := 3) (v := .slice a3 m.desks.length p3) rfl
  have c4 := (unhide ka).cell (i := 4) (v := .slice a4 m.paces.length p4) rfl
  have c5 := (unhide ka).cell (i := 5) (v := .int .i64 m.now) rfl
  go_wp2_with fail
  refine (toSmithy_any ((unhide Hv).below (unhide BB)) (unhide Hs)).mono ?_
  rintro e w4 ⟨u0, u1, u2, u3, u4, rfl, ho, hb⟩
  clear c0 c1 c2 c3 c4 c5
  have k4 := ho.smy
  obtain ⟨d0, r0, rfl, _, _⟩ := IsRooms.shape k4.rooms
  obtain ⟨d1, r1, rfl, _, _⟩ := IsRec.shape k4.guilds
  obtain ⟨d2, r2, rfl, _, _⟩ := IsRec.shape k4.smiths
  obtain ⟨d3, r3, rfl, _, _⟩ := IsRec.shape k4.desks
  obtain ⟨d4, r4, rfl, _, _⟩ := IsRec.shape k4.paces
  have K4 := hide (k4.alloc (.cells #[.slice d0 m.rooms.length r0, .slice d1 m.guilds.length r1, .slice d2 m.smiths.length r2, .slice d3 m.desks.length r3, .slice d4 m.paces.length r4, .int .i64 m.now] 32))
  clear k4 ho
  replace ka := hide ((unhide ka).below hb (unhide ka).lt)
  replace BB := hide ((unhide BB).trans (hb.mono (unhide BB).size))
  clear hb
  go_wp2_with fail
  replace ka := hide ((unhide ka).alloc (.cells #[.slice d0 m.rooms.length r0, .slice d1 m.guilds.length r1, .slice d2 m.smiths.length r2, .slice d3 m.desks.length r3, .slice d4 m.paces.length r4, .int .i64 m.now] 32))
  replace BB := hide ((unhide BB).alloc (unhide BB).size (.cells #[.slice d0 m.rooms.length r0, .slice d1 m.guilds.length r1, .slice d2 m.smiths.length r2, .slice d3 m.desks.length r3, .slice d4 m.paces.length r4, .int .i64 m.now] 32))
  have kx : Hid (Blk (w4.alloc (.cells #[.slice d0 m.rooms.length r0, .slice d1 m.guilds.length r1, .slice d2 m.smiths.length r2, .slice d3 m.desks.length r3, .slice d4 m.paces.length r4, .int .i64 m.now] 32)) w4.heap.size 32 #[.slice d0 m.rooms.length r0, .slice d1 m.guilds.length r1, .slice d2 m.smiths.length r2, .slice d3 m.desks.length r3, .slice d4 m.paces.length r4, .int .i64 m.now]) := hide (Blk.new _ _ _)
  generalize w4.alloc (.cells #[.slice d0 m.rooms.length r0, .slice d1 m.guilds.length r1, .slice d2 m.smiths.length r2, .slice d3 m.desks.length r3, .slice d4 m.paces.length r4, .int .i64 m.now] 32) = W at *
  generalize w4.heap.size = xb at *
  refine (implMisfit_t (unhide Hq) (unhide K4)).mono ?_
  rintro e w5 ⟨rfl, hb⟩
  replace K4 := hide ((unhide K4).below hb)
  replace ka := hide ((unhide ka).below hb (unhide ka).lt)
  replace kx := hide ((unhide kx).below hb (unhide kx).lt)
  replace BB := hide ((unhide BB).trans (hb.mono (unhide BB).size))
  clear hb
  have V5 := hide ((unhide Hv).below (unhide BB))
  have c0 := (unhide ka).cell (i := 0) (v := .slice a0 m.rooms.length p0) rfl
  have c1 := (unhide ka).cell (i := 1) (v := .slice a1 m.guilds.length p1) rfl
  have c2 := (unhide ka).cell (i := 2) (v := .slice a2 m.smiths.length p2) rfl
  have c3 := (unhide ka).cell (i := 3) (v := .slice a3 m.desks.length p3) rfl
  have c4 := (unhide ka).cell (i := 4) (v := .slice a4 m.paces.length p4) rfl
  have c5 := (unhide ka).cell (i := 5) (v := .int .i64 m.now) rfl
  have x0 := (unhide kx).cell (i := 0) (v := .slice d0 m.rooms.length r0) rfl
  have x1 := (unhide kx).cell (i := 1) (v := .slice d1 m.guilds.length r1) rfl
  have x2 := (unhide kx).cell (i := 2) (v := .slice d2 m.smiths.length r2) rfl
  have x3 := (unhide kx).cell (i := 3) (v := .slice d3 m.desks.length r3) rfl
  have x4 := (unhide kx).cell (i := 4) (v := .slice d4 m.paces.length r4) rfl
  have x5 := (unhide kx).cell (i := 5) (v := .int .i64 m.now) rfl
  cases q
  all_goals
    go_wp2_with fail
    go_region_with (first
      | (go_at_call 29; refine (toSmithy_any (m := m) ?_ (unhide Hs)).mono ?_; exact (unhide V5).below (Below.refl _ _).drew; rintro e w6 ⟨u0, u1, u2, u3, u4, rfl, ho, hb⟩; have k6 := ho.smy; obtain ⟨f0, t0, rfl, _, _⟩ := IsRooms.shape k6.rooms; obtain ⟨f1, t1, rfl, _, _⟩ := IsRec.shape k6.guilds; obtain ⟨f2, t2, rfl, _, _⟩ := IsRec.shape k6.smiths; obtain ⟨f3, t3, rfl, _, _⟩ := IsRec.shape k6.desks; obtain ⟨f4, t4, rfl, _, _⟩ := IsRec.shape k6.paces; have K6 := hide k6; have Hb6 : Hid (Below w5.heap.size w5 w6) := hide ⟨hb.os, hb.tape, hb.output, hb.size, hb.block⟩; have kx6 := (unhide kx).below (unhide Hb6) (unhide kx).lt; have y0 := kx6.cell (i := 0) (v := .slice d0 m.rooms.length r0) rfl; have y1 := kx6.cell (i := 1) (v := .slice d1 m.guilds.length r1) rfl; have y2 := kx6.cell (i := 2) (v := .slice d2 m.smiths.length r2) rfl; have y3 := kx6.cell (i := 3) (v := .slice d3 m.desks.length r3) rfl; have y4 := kx6.cell (i := 4) (v := .slice d4 m.paces.length r4) rfl; have y5 := kx6.cell (i := 5) (v := .int .i64 m.now) rfl; clear k6 ho hb kx6)
      | (go_at_call 31; refine (eqSmithy_yes (m := m) ?_ ?_).mono ?_; exact (unhide K4).below (unhide Hb6); exact unhide K6; rintro e w7 ⟨rfl, hb⟩; have Hb7 := hide hb; clear hb))
    all_goals
      go_wp2_with fail
      go_ret
      exact ⟨rfl, (unhide BB).trans (((unhide Hb6).trans ((unhide Hb7).mono (unhide Hb6).size)).mono (unhide BB).size)⟩

end Go.Proofs.YtifolooecfebfaaGreat

/- The program's IsIdle, where it asks isIdle. Condition: the smithy can be read. -/
namespace Go.Proofs.YtifolooecfebfaaGreat
open Go.ChangeShapes Go.WideShapes Go.ChangeAt Go.RowKit Go.Sort
set_option linter.unusedVariables false
set_option linter.unusedSimpArgs false
set_option maxRecDepth 100000

theorem idleV_w {m : SmyV} (h : smyB m = true) (b : Int) : idleW m b = isIdleV m b := by
  unfold idleW isIdleV openB isBenchB
  rw [h, ← has_in, Bool.true_and, Bool.and_assoc]
set_option maxHeartbeats 8000000 in
theorem implIsIdle_any {w : World} {v0 v1 v2 v3 v4 : Value} {m : SmyV} {b : Int} {q : Bool} (hq : isIdleV m b = q) (h : Smy w v0 v1 v2 v3 v4 m) :
    Calls Tryz.prog 30 #[.agg #[v0, v1, v2, v3, v4, .int .i64 m.now], .int .i64 b] w fun e w' => e = .returned (.bool q) ∧ Below w.heap.size w w' := by
  have Hq := hide hq
  clear hq
  obtain ⟨a0, p0, a1, p1, a2, p2, a3, p3, a4, p4, rfl, rfl, rfl, rfl, rfl, K⟩ := Bx.new h
  clear h
  obtain ⟨ok, hok⟩ : ∃ q, smyB m = q := ⟨_, rfl⟩
  have Hok := hide hok
  clear hok
  go_enter Tryz.func30, Tryz.ntmps30
  go_wp2_with fail
  generalize w.alloc (.cells #[.slice a0 m.rooms.length p0, .slice a1 m.guilds.length p1, .slice a2 m.smiths.length p2, .slice a3 m.desks.length p3, .slice a4 m.paces.length p4, .int .i64 m.now] 32) = W at *
  refine (implSmithyOk_q _ _ _ _ _ _ _ _ (unhide Hok) K.smy).mono ?_
  rintro e w1 ⟨rfl, hb⟩
  replace K := K.next hb
  clear hb
  cases ok
  · obtain rfl : q = false := by rw [← unhide Hq]; unfold isIdleV; rw [unhide Hok]; rfl
    go_wp2_with fail
    go_ret
    exact ⟨rfl, K.bb⟩
  have h12 := smy_twelve (smy_loose (unhide Hok))
  obtain ⟨c0, c1, c2, c3, c4, c5⟩ := K.cells
  go_wp2_with fail
  refine (isIdle_any ((idleV_w (unhide Hok) b).trans (unhide Hq)) K.smy (by omega)).mono ?_
  rintro e w2 ⟨rfl, hb⟩
  replace K := K.next hb
  clear hb c0 c1 c2 c3 c4 c5
  go_wp2_with fail
  go_ret
  exact ⟨rfl, K.bb⟩

end Go.Proofs.YtifolooecfebfaaGreat

/- The walk of the exact law on Waiting. Condition: the smithy can be read. -/
namespace Go.Proofs.YtifolooecfebfaaGreat
open Go.ChangeShapes Go.WideShapes Go.ChangeAt Go.RowKit Go.Sort
set_option linter.unusedVariables false
set_option linter.unusedSimpArgs false
set_option maxRecDepth 100000

theorem specWaiting_t {w : World} {v0 v1 v2 v3 v4 : Value} {m : SmyV} {x y : Int} {f : Bool} (hq : triV (waitingV m) = .tuple #[.int .i64 x, .int .i64 y, .bool f]) (h : Smy w v0 v1 v2 v3 v4 m) : Calls Tryz.prog 18 #[.agg #[v0, v1, v2, v3, v4, .int .i64 m.now]] w fun e w' => e = .returned (.tuple #[.int .i64 x, .int .i64 y, .bool f]) ∧ Below w.heap.size w w' := by
  have hc := specWaiting_any h
  rw [hq] at hc
  exact hc
theorem implWaiting_t {w : World} {v0 v1 v2 v3 v4 : Value} {m : SmyV} {x y : Int} {f : Bool} (hq : triV (waitingV m) = .tuple #[.int .i64 x, .int .i64 y, .bool f]) (h : Smy w v0 v1 v2 v3 v4 m) : Calls Tryz.prog 14 #[.agg #[v0, v1, v2, v3, v4, .int .i64 m.now]] w fun e w' => e = .returned (.tuple #[.int .i64 x, .int .i64 y, .bool f]) ∧ Below w.heap.size w w' := by
  have hc := implWaiting_any h
  rw [hq] at hc
  exact hc
set_option maxRecDepth 100000 in
set_option maxHeartbeats 8000000 in
theorem walkFnExactWaiting (v0 v1 v2 v3 v4 : Value) (m : SmyV) (w : World) (h : Smy w v0 v1 v2 v3 v4 m) :
    Calls Tryz.prog 7 #[.agg #[v0, v1, v2, v3, v4, .int .i64 m.now]] w fun e w' => e = .returned (.bool true) ∧ Below w.heap.size w w' := by
  obtain ⟨xq, yq, q, hq⟩ := tri_is (waitingV m)
  have Hq := hide hq
  clear hq
  have Hv := hide h
  obtain ⟨a0, p0, rfl, _, _⟩ := IsRooms.shape h.rooms
  obtain ⟨a1, p1, rfl, _, _⟩ := IsRec.shape h.guilds
  obtain ⟨a2, p2, rfl, _, _⟩ := IsRec.shape h.smiths
  obtain ⟨a3, p3, rfl, _, _⟩ := IsRec.shape h.desks
  obtain ⟨a4, p4, rfl, _, _⟩ := IsRec.shape h.paces
  clear h
  go_enter Tryz.func7, Tryz.ntmps7
  go_wp2_with fail
  refine (szSmithy_any ((unhide Hv).alloc _)).mono ?_
  rintro e w1 ⟨x, rfl, hx, hb⟩
  have ka : Hid (Blk w1 w.heap.size 56 #[.slice a0 m.rooms.length p0, .slice a1 m.guilds.length p1, .slice a2 m.smiths.length p2, .slice a3 m.desks.length p3, .slice a4 m.paces.length p4, .int .i64 m.now]) := hide ((Blk.new w _ _).below hb (by simp))
  have BB : Hid (Below w.heap.size w w1) := hide (((Below.refl _ _).alloc (Nat.le_refl _) _).trans (hb.mono (by simp)))
  have Hx := hide hx
  clear hx hb
  by_cases hx0 : x < 0
  · go_wp2_with fail
    go_ret
    exact ⟨rfl, unhide BB⟩
  have Hs := hide (unhide Hx (by omega))
  clear Hx
  have c0 := (unhide ka).cell (i := 0) (v := .slice a0 m.rooms.length p0) rfl
  have c1 := (unhide ka).cell (i := 1) (v := .slice a1 m.guilds.length p1) rfl
  have c2 := (unhide ka).cell (i := 2) (v := .slice a2 m.smiths.length p2) rfl
  have c3 := (unhide ka).cell (i := 3) (v := .slice a3 m.desks.length p3) rfl
  have c4 := (unhide ka).cell (i := 4) (v := .slice a4 m.paces.length p4) rfl
  have c5 := (unhide ka).cell (i := 5) (v := .int .i64 m.now) rfl
  go_wp2_with fail
  refine (toSmithy_any ((unhide Hv).below (unhide BB)) (unhide Hs)).mono ?_
  rintro e w2 ⟨u0, u1, u2, u3, u4, rfl, ho, hb⟩
  clear c0 c1 c2 c3 c4 c5
  have k2 := ho.smy
  obtain ⟨b0, q0, rfl, _, _⟩ := IsRooms.shape k2.rooms
  obtain ⟨b1, q1, rfl, _, _⟩ := IsRec.shape k2.guilds
  obtain ⟨b2, q2, rfl, _, _⟩ := IsRec.shape k2.smiths
  obtain ⟨b3, q3, rfl, _, _⟩ := IsRec.shape k2.desks
  obtain ⟨b4, q4, rfl, _, _⟩ := IsRec.shape k2.paces
  have K2 := hide k2
  clear k2 ho
  replace ka := hide ((unhide ka).below hb (unhide ka).lt)
  replace BB := hide ((unhide BB).trans (hb.mono (unhide BB).size))
  clear hb
  go_wp2_with fail
  refine (specWaiting_t (unhide Hq) (unhide K2)).mono ?_
  rintro e w3 ⟨rfl, hb⟩
  replace ka := hide ((unhide ka).below hb (unhide ka).lt)
  replace BB := hide ((unhide BB).trans (hb.mono (unhide BB).size))
  clear hb K2
  have c0 := (unhide ka).cell (i := 0) (v := .slice a0 m.rooms.length p0) rfl
  have c1 := (unhide ka).cell (i := 1) (v := .slice a1 m.guilds.length p1) rfl
  have c2 := (unhide ka).cell (i := 2) (v := .slice a2 m.smiths.length p2) rfl
  have c3 := (unhide ka).cell (i := 3) (v := .slice a3 m.desks.length p3) rfl
  have c4 := (unhide ka).cell (i := 4) (v := .slice a4 m.paces.length p4) rfl
  have c5 := (unhide ka).cell (i := 5) (v := .int .i64 m.now) rfl
  go_wp2_with fail
  refine (toSmithy_any ((unhide Hv).below (unhide BB)) (unhide Hs)).mono ?_
  rintro e w4 ⟨u0, u1, u2, u3, u4, rfl, ho, hb⟩
  clear c0 c1 c2 c3 c4 c5
  have k4 := ho.smy
  obtain ⟨d0, r0, rfl, _, _⟩ := IsRooms.shape k4.rooms
  obtain ⟨d1, r1, rfl, _, _⟩ := IsRec.shape k4.guilds
  obtain ⟨d2, r2, rfl, _, _⟩ := IsRec.shape k4.smiths
  obtain ⟨d3, r3, rfl, _, _⟩ := IsRec.shape k4.desks
  obtain ⟨d4, r4, rfl, _, _⟩ := IsRec.shape k4.paces
  have K4 := hide (k4.alloc (.cells #[.slice d0 m.rooms.length r0, .slice d1 m.guilds.length r1, .slice d2 m.smiths.length r2, .slice d3 m.desks.length r3, .slice d4 m.paces.length r4, .int .i64 m.now] 32))
  clear k4 ho
  replace ka := hide ((unhide ka).below hb (unhide ka).lt)
  replace BB := hide ((unhide BB).trans (hb.mono (unhide BB).size))
  clear hb
  go_wp2_with fail
  replace ka := hide ((unhide ka).alloc (.cells #[.slice d0 m.rooms.length r0, .slice d1 m.guilds.length r1, .slice d2 m.smiths.length r2, .slice d3 m.desks.length r3, .slice d4 m.paces.length r4, .int .i64 m.now] 32))
  replace BB := hide ((unhide BB).alloc (unhide BB).size (.cells #[.slice d0 m.rooms.length r0, .slice d1 m.guilds.length r1, .slice d2 m.smiths.length r2, .slice d3 m.desks.length r3, .slice d4 m.paces.length r4, .int .i64 m.now] 32))
  have kx : Hid (Blk (w4.alloc (.cells #[.slice d0 m.rooms.length r0, .slice d1 m.guilds.length r1, .slice d2 m.smiths.length r2, .slice d3 m.desks.length r3, .slice d4 m.paces.length r4, .int .i64 m.now] 32)) w4.heap.size 32 #[.slice d0 m.rooms.length r0, .slice d1 m.guilds.length r1, .slice d2 m.smiths.length r2, .slice d3 m.desks.length r3, .slice d4 m.paces.length r4, .int .i64 m.now]) := hide (Blk.new _ _ _)
  generalize w4.alloc (.cells #[.slice d0 m.rooms.length r0, .slice d1 m.guilds.length r1, .slice d2 m.smiths.length r2, .slice d3 m.desks.length r3, .slice d4 m.paces.length r4, .int .i64 m.now] 32) = W at *
  generalize w4.heap.size = xb at *
  refine (implWaiting_t (unhide Hq) (unhide K4)).mono ?_
  rintro e w5 ⟨rfl, hb⟩
  replace K4 := hide ((unhide K4).below hb)
  replace ka := hide ((unhide ka).below hb (unhide ka).lt)
  replace kx := hide ((unhide kx).below hb (unhide kx).lt)
  replace BB := hide ((unhide BB).trans (hb.mono (unhide BB).size))
  clear hb
  have V5 := hide ((unhide Hv).below (unhide BB))
  have c0 := (unhide ka).cell (i := 0) (v := .slice a0 m.rooms.length p0) rfl
  have c1 := (unhide ka).cell (i := 1) (v := .slice a1 m.guilds.length p1) rfl
  have c2 := (unhide ka).cell (i := 2) (v := .slice a2 m.smiths.length p2) rfl
  have c3 := (unhide ka).cell (i := 3) (v := .slice a3 m.desks.length p3) rfl
  have c4 := (unhide ka).cell (i := 4) (v := .slice a4 m.paces.length p4) rfl
  have c5 := (unhide ka).cell (i := 5) (v := .int .i64 m.now) rfl
  have x0 := (unhide kx).cell (i := 0) (v := .slice d0 m.rooms.length r0) rfl
  have x1 := (unhide kx).cell (i := 1) (v := .slice d1 m.guilds.length r1) rfl
  have x2 := (unhide kx).cell (i := 2) (v := .slice d2 m.smiths.length r2) rfl
  have x3 := (unhide kx).cell (i := 3) (v := .slice d3 m.desks.length r3) rfl
  have x4 := (unhide kx).cell (i := 4) (v := .slice d4 m.paces.length r4) rfl
  have x5 := (unhide kx).cell (i := 5) (v := .int .i64 m.now) rfl
  cases q
  all_goals
    go_wp2_with fail
    go_region_with (first
      | (go_at_call 29; refine (toSmithy_any (m := m) ?_ (unhide Hs)).mono ?_; exact (unhide V5).below (Below.refl _ _).drew; rintro e w6 ⟨u0, u1, u2, u3, u4, rfl, ho, hb⟩; have k6 := ho.smy; obtain ⟨f0, t0, rfl, _, _⟩ := IsRooms.shape k6.rooms; obtain ⟨f1, t1, rfl, _, _⟩ := IsRec.shape k6.guilds; obtain ⟨f2, t2, rfl, _, _⟩ := IsRec.shape k6.smiths; obtain ⟨f3, t3, rfl, _, _⟩ := IsRec.shape k6.desks; obtain ⟨f4, t4, rfl, _, _⟩ := IsRec.shape k6.paces; have K6 := hide k6; have Hb6 : Hid (Below w5.heap.size w5 w6) := hide ⟨hb.os, hb.tape, hb.output, hb.size, hb.block⟩; have kx6 := (unhide kx).below (unhide Hb6) (unhide kx).lt; have y0 := kx6.cell (i := 0) (v := .slice d0 m.rooms.length r0) rfl; have y1 := kx6.cell (i := 1) (v := .slice d1 m.guilds.length r1) rfl; have y2 := kx6.cell (i := 2) (v := .slice d2 m.smiths.length r2) rfl; have y3 := kx6.cell (i := 3) (v := .slice d3 m.desks.length r3) rfl; have y4 := kx6.cell (i := 4) (v := .slice d4 m.paces.length r4) rfl; have y5 := kx6.cell (i := 5) (v := .int .i64 m.now) rfl; clear k6 ho hb kx6)
      | (go_at_call 31; refine (eqSmithy_yes (m := m) ?_ ?_).mono ?_; exact (unhide K4).below (unhide Hb6); exact unhide K6; rintro e w7 ⟨rfl, hb⟩; have Hb7 := hide hb; clear hb))
    all_goals
      go_wp2_with fail
      go_ret
      exact ⟨rfl, (unhide BB).trans (((unhide Hb6).trans ((unhide Hb7).mono (unhide Hb6).size)).mono (unhide BB).size)⟩

end Go.Proofs.YtifolooecfebfaaGreat

/- The walk of the exact law on IsIdle. Condition: the smithy can be read. -/
namespace Go.Proofs.YtifolooecfebfaaGreat
open Go.ChangeShapes Go.WideShapes Go.ChangeAt Go.RowKit Go.Sort
set_option linter.unusedVariables false
set_option linter.unusedSimpArgs false
set_option maxRecDepth 100000

set_option maxRecDepth 100000 in
set_option maxHeartbeats 8000000 in
theorem walkFnExactIsIdle (v0 v1 v2 v3 v4 : Value) (m : SmyV) (bench : Int) (w : World) (h : Smy w v0 v1 v2 v3 v4 m) :
    Calls Tryz.prog 5 #[.agg #[v0, v1, v2, v3, v4, .int .i64 m.now], .int .i64 bench] w fun e w' => e = .returned (.bool true) ∧ Below w.heap.size w w' := by
  obtain ⟨q, hq⟩ : ∃ q, isIdleV m bench = q := ⟨_, rfl⟩
  have Hq := hide hq
  clear hq
  have Hv := hide h
  obtain ⟨a0, p0, rfl, _, _⟩ := IsRooms.shape h.rooms
  obtain ⟨a1, p1, rfl, _, _⟩ := IsRec.shape h.guilds
  obtain ⟨a2, p2, rfl, _, _⟩ := IsRec.shape h.smiths
  obtain ⟨a3, p3, rfl, _, _⟩ := IsRec.shape h.desks
  obtain ⟨a4, p4, rfl, _, _⟩ := IsRec.shape h.paces
  clear h
  go_enter Tryz.func5, Tryz.ntmps5
  go_wp2_with fail
  refine (szSmithy_any ((unhide Hv).alloc _)).mono ?_
  rintro e w1 ⟨x, rfl, hx, hb⟩
  have ka : Hid (Blk w1 w.heap.size 56 #[.slice a0 m.rooms.length p0, .slice a1 m.guilds.length p1, .slice a2 m.smiths.length p2, .slice a3 m.desks.length p3, .slice a4 m.paces.length p4, .int .i64 m.now]) := hide ((Blk.new w _ _).below hb (by simp))
  have BB : Hid (Below w.heap.size w w1) := hide (((Below.refl _ _).alloc (Nat.le_refl _) _).trans (hb.mono (by simp)))
  have Hx := hide hx
  clear hx hb
  by_cases hx0 : x < 0
  · go_wp2_with fail
    go_ret
    exact ⟨rfl, unhide BB⟩
  have Hs := hide (unhide Hx (by omega))
  clear Hx
  have c0 := (unhide ka).cell (i := 0) (v := .slice a0 m.rooms.length p0) rfl
  have c1 := (unhide ka).cell (i := 1) (v := .slice a1 m.guilds.length p1) rfl
  have c2 := (unhide ka).cell (i := 2) (v := .slice a2 m.smiths.length p2) rfl
  have c3 := (unhide ka).cell (i := 3) (v := .slice a3 m.desks.length p3) rfl
  have c4 := (unhide ka).cell (i := 4) (v := .slice a4 m.paces.length p4) rfl
  have c5 := (unhide ka).cell (i := 5) (v := .int .i64 m.now) rfl
  go_wp2_with fail
  refine (toSmithy_any ((unhide Hv).below (unhide BB)) (unhide Hs)).mono ?_
  rintro e w2 ⟨u0, u1, u2, u3, u4, rfl, ho, hb⟩
  clear c0 c1 c2 c3 c4 c5
  have k2 := ho.smy
  obtain ⟨b0, q0, rfl, _, _⟩ := IsRooms.shape k2.rooms
  obtain ⟨b1, q1, rfl, _, _⟩ := IsRec.shape k2.guilds
  obtain ⟨b2, q2, rfl, _, _⟩ := IsRec.shape k2.smiths
  obtain ⟨b3, q3, rfl, _, _⟩ := IsRec.shape k2.desks
  obtain ⟨b4, q4, rfl, _, _⟩ := IsRec.shape k2.paces
  have K2 := hide k2
  clear k2 ho
  replace ka := hide ((unhide ka).below hb (unhide ka).lt)
  replace BB := hide ((unhide BB).trans (hb.mono (unhide BB).size))
  clear hb
  go_wp2_with fail
  refine (specIsIdle_any (unhide Hq) (unhide K2)).mono ?_
  rintro e w3 ⟨rfl, hb⟩
  replace ka := hide ((unhide ka).below hb (unhide ka).lt)
  replace BB := hide ((unhide BB).trans (hb.mono (unhide BB).size))
  clear hb K2
  have c0 := (unhide ka).cell (i := 0) (v := .slice a0 m.rooms.length p0) rfl
  have c1 := (unhide ka).cell (i := 1) (v := .slice a1 m.guilds.length p1) rfl
  have c2 := (unhide ka).cell (i := 2) (v := .slice a2 m.smiths.length p2) rfl
  have c3 := (unhide ka).cell (i := 3) (v := .slice a3 m.desks.length p3) rfl
  have c4 := (unhide ka).cell (i := 4) (v := .slice a4 m.paces.length p4) rfl
  have c5 := (unhide ka).cell (i := 5) (v := .int .i64 m.now) rfl
  go_wp2_with fail
  refine (toSmithy_any ((unhide Hv).below (unhide BB)) (unhide Hs)).mono ?_
  rintro e w4 ⟨u0, u1, u2, u3, u4, rfl, ho, hb⟩
  clear c0 c1 c2 c3 c4 c5
  have k4 := ho.smy
  obtain ⟨d0, r0, rfl, _, _⟩ := IsRooms.shape k4.rooms
  obtain ⟨d1, r1, rfl, _, _⟩ := IsRec.shape k4.guilds
  obtain ⟨d2, r2, rfl, _, _⟩ := IsRec.shape k4.smiths
  obtain ⟨d3, r3, rfl, _, _⟩ := IsRec.shape k4.desks
  obtain ⟨d4, r4, rfl, _, _⟩ := IsRec.shape k4.paces
  have K4 := hide (k4.alloc (.cells #[.slice d0 m.rooms.length r0, .slice d1 m.guilds.length r1, .slice d2 m.smiths.length r2, .slice d3 m.desks.length r3, .slice d4 m.paces.length r4, .int .i64 m.now] 32))
  clear k4 ho
  replace ka := hide ((unhide ka).below hb (unhide ka).lt)
  replace BB := hide ((unhide BB).trans (hb.mono (unhide BB).size))
  clear hb
  go_wp2_with fail
  replace ka := hide ((unhide ka).alloc (.cells #[.slice d0 m.rooms.length r0, .slice d1 m.guilds.length r1, .slice d2 m.smiths.length r2, .slice d3 m.desks.length r3, .slice d4 m.paces.length r4, .int .i64 m.now] 32))
  replace BB := hide ((unhide BB).alloc (unhide BB).size (.cells #[.slice d0 m.rooms.length r0, .slice d1 m.guilds.length r1, .slice d2 m.smiths.length r2, .slice d3 m.desks.length r3, .slice d4 m.paces.length r4, .int .i64 m.now] 32))
  have kx : Hid (Blk (w4.alloc (.cells #[.slice d0 m.rooms.length r0, .slice d1 m.guilds.length r1, .slice d2 m.smiths.length r2, .slice d3 m.desks.length r3, .slice d4 m.paces.length r4, .int .i64 m.now] 32)) w4.heap.size 32 #[.slice d0 m.rooms.length r0, .slice d1 m.guilds.length r1, .slice d2 m.smiths.length r2, .slice d3 m.desks.length r3, .slice d4 m.paces.length r4, .int .i64 m.now]) := hide (Blk.new _ _ _)
  generalize w4.alloc (.cells #[.slice d0 m.rooms.length r0, .slice d1 m.guilds.length r1, .slice d2 m.smiths.length r2, .slice d3 m.desks.length r3, .slice d4 m.paces.length r4, .int .i64 m.now] 32) = W at *
  generalize w4.heap.size = xb at *
  refine (implIsIdle_any (unhide Hq) (unhide K4)).mono ?_
  rintro e w5 ⟨rfl, hb⟩
  replace K4 := hide ((unhide K4).below hb)
  replace ka := hide ((unhide ka).below hb (unhide ka).lt)
  replace kx := hide ((unhide kx).below hb (unhide kx).lt)
  replace BB := hide ((unhide BB).trans (hb.mono (unhide BB).size))
  clear hb
  have V5 := hide ((unhide Hv).below (unhide BB))
  have c0 := (unhide ka).cell (i := 0) (v := .slice a0 m.rooms.length p0) rfl
  have c1 := (unhide ka).cell (i := 1) (v := .slice a1 m.guilds.length p1) rfl
  have c2 := (unhide ka).cell (i := 2) (v := .slice a2 m.smiths.length p2) rfl
  have c3 := (unhide ka).cell (i := 3) (v := .slice a3 m.desks.length p3) rfl
  have c4 := (unhide ka).cell (i := 4) (v := .slice a4 m.paces.length p4) rfl
  have c5 := (unhide ka).cell (i := 5) (v := .int .i64 m.now) rfl
  have x0 := (unhide kx).cell (i := 0) (v := .slice d0 m.rooms.length r0) rfl
  have x1 := (unhide kx).cell (i := 1) (v := .slice d1 m.guilds.length r1) rfl
  have x2 := (unhide kx).cell (i := 2) (v := .slice d2 m.smiths.length r2) rfl
  have x3 := (unhide kx).cell (i := 3) (v := .slice d3 m.desks.length r3) rfl
  have x4 := (unhide kx).cell (i := 4) (v := .slice d4 m.paces.length r4) rfl
  have x5 := (unhide kx).cell (i := 5) (v := .int .i64 m.now) rfl
  cases q
  all_goals
    go_wp2_with fail
    go_region_with (first
      | (go_at_call 29; refine (toSmithy_any (m := m) ?_ (unhide Hs)).mono ?_; exact (unhide V5).below (Below.refl _ _).drew; rintro e w6 ⟨u0, u1, u2, u3, u4, rfl, ho, hb⟩; have k6 := ho.smy; obtain ⟨f0, t0, rfl, _, _⟩ := IsRooms.shape k6.rooms; obtain ⟨f1, t1, rfl, _, _⟩ := IsRec.shape k6.guilds; obtain ⟨f2, t2, rfl, _, _⟩ := IsRec.shape k6.smiths; obtain ⟨f3, t3, rfl, _, _⟩ := IsRec.shape k6.desks; obtain ⟨f4, t4, rfl, _, _⟩ := IsRec.shape k6.paces; have K6 := hide k6; have Hb6 : Hid (Below w5.heap.size w5 w6) := hide ⟨hb.os, hb.tape, hb.output, hb.size, hb.block⟩; have kx6 := (unhide kx).below (unhide Hb6) (unhide kx).lt; have y0 := kx6.cell (i := 0) (v := .slice d0 m.rooms.length r0) rfl; have y1 := kx6.cell (i := 1) (v := .slice d1 m.guilds.length r1) rfl; have y2 := kx6.cell (i := 2) (v := .slice d2 m.smiths.length r2) rfl; have y3 := kx6.cell (i := 3) (v := .slice d3 m.desks.length r3) rfl; have y4 := kx6.cell (i := 4) (v := .slice d4 m.paces.length r4) rfl; have y5 := kx6.cell (i := 5) (v := .int .i64 m.now) rfl; clear k6 ho hb kx6)
      | (go_at_call 31; refine (eqSmithy_yes (m := m) ?_ ?_).mono ?_; exact (unhide K4).below (unhide Hb6); exact unhide K6; rintro e w7 ⟨rfl, hb⟩; have Hb7 := hide hb; clear hb))
    all_goals
      go_wp2_with fail
      go_ret
      exact ⟨rfl, (unhide BB).trans (((unhide Hb6).trans ((unhide Hb7).mono (unhide Hb6).size)).mono (unhide BB).size)⟩

end Go.Proofs.YtifolooecfebfaaGreat

