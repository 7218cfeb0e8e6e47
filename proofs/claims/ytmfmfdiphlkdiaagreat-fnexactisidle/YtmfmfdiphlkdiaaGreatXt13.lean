/- What the proof rests on, part 13: lists and numbers, how they lie in memory, and contracts of the calls. No condition but those that a theorem names. -/
import Derived.Test.YtmfmfdiphlkdiaaGreatXt01
import Derived.Test.YtmfmfdiphlkdiaaGreatXt02
import Derived.Test.YtmfmfdiphlkdiaaGreatXt03
import Derived.Test.YtmfmfdiphlkdiaaGreatXt04
import Derived.Test.YtmfmfdiphlkdiaaGreatXt05
import Derived.Test.YtmfmfdiphlkdiaaGreatXt06
import Derived.Test.YtmfmfdiphlkdiaaGreatXt07
import Derived.Test.YtmfmfdiphlkdiaaGreatXt08
import Derived.Test.YtmfmfdiphlkdiaaGreatXt09
import Derived.Test.YtmfmfdiphlkdiaaGreatXt10
import Derived.Test.YtmfmfdiphlkdiaaGreatXt11
import Derived.Test.YtmfmfdiphlkdiaaGreatXt12
import Derived.Deep.RegionWith
import Derived.Deep.DeepCutAuto
import Derived.WalkMore
import Derived.Below
import Derived.ChangeKeysEq
import Derived.Laws.StructEq
import Derived.WalkKit
import Derived.ProofKit
import Derived.OpenShut
import Derived.Outline
import Derived.Deep.RegionHeld3
import Derived.Deep.DrawnRows
import Derived.BigRegion
import Derived.Deep.RegionLawGrows
import Derived.Deep.LoopGhost
import Derived.Lib.QuietBelow
import Derived.Deep.QuietTactic
import Derived.BigQuiet
import Derived.Laws.OwnMore
import Derived.OwnWalk
import Derived.Maps.AppendAt
import Derived.RangeFuncNested
import Derived.RangeFuncBound
import Derived.RangeFuncCalls
import Derived.RangeFuncLeaves
import Derived.RangeFuncBox
import Derived.Shelf.Abstract
import Derived.Shelf.RegionOpen
import Derived.OwnWalkIn
import Derived.TacticsInMore
import Derived.LoopNIn
import Derived.LoopIn
import Derived.Lib.SmallJoins
import Derived.Deep.Fields
import Derived.Deep.Slices
import Derived.OrdersHeld
import Derived.Deep.RegionHeldLaw
/- The program's IsIdle, Working. Condition: the smithy can be read. -/
namespace Go.Proofs.YtmfmfdiphlkdiaaGreat
open Go.ChangeShapes Go.WideShapes Go.ChangeAt Go.RowKit Go.Sort
set_option linter.unusedVariables false
set_option linter.unusedSimpArgs false
set_option maxRecDepth 100000

theorem queueOf_len (ss : List SmithV) (ps : List Int) : (queueOf ss ps).length = ps.length := by
  have key : ∀ (ps : List Int) (q : List PaceV), (ps.foldl (fun q i => putV q (hadS (recAt ss i.toNat), i)) q).length = q.length + ps.length := by
    intro ps
    induction ps with
    | nil => intro q; simp
    | cons i ps ih => intro q; rw [List.foldl_cons, ih, putV_len]; simp; omega
  have := key ps []
  unfold queueOf
  simpa using this
set_option maxHeartbeats 8000000 in
theorem implIsIdle_any {w : World} {v0 v1 v2 v3 v4 : Value} {m : SmyV} {b : Int} {q : Bool} (hq : isIdleV m b = q) (h : Smy w v0 v1 v2 v3 v4 m) :
    Calls Tryz.prog 31 #[.agg #[v0, v1, v2, v3, v4, .int .i64 m.now], .int .i64 b] w fun e w' => e = .returned (.bool q) ∧ Below w.heap.size w w' := by
  have Hq := hide hq
  clear hq
  have Hv := hide (h.alloc (.cells #[v0, v1, v2, v3, v4, .int .i64 m.now] 32))
  obtain ⟨a0, p0, rfl, _, _⟩ := IsRooms.shape h.rooms
  obtain ⟨a1, p1, rfl, _, _⟩ := IsRec.shape h.guilds
  obtain ⟨a2, p2, rfl, _, _⟩ := IsRec.shape h.smiths
  obtain ⟨a3, p3, rfl, _, _⟩ := IsRec.shape h.desks
  obtain ⟨a4, p4, rfl, _, _⟩ := IsRec.shape h.paces
  clear h
  have kb : Hid (Blk (w.alloc (.cells #[.slice a0 m.rooms.length p0, .slice a1 m.guilds.length p1, .slice a2 m.smiths.length p2, .slice a3 m.desks.length p3, .slice a4 m.paces.length p4, .int .i64 m.now] 32)) w.heap.size 32 #[.slice a0 m.rooms.length p0, .slice a1 m.guilds.length p1, .slice a2 m.smiths.length p2, .slice a3 m.desks.length p3, .slice a4 m.paces.length p4, .int .i64 m.now]) := hide (Blk.new w _ _)
  have BB : Hid (Below w.heap.size w (w.alloc (.cells #[.slice a0 m.rooms.length p0, .slice a1 m.guilds.length p1, .slice a2 m.smiths.length p2, .slice a3 m.desks.length p3, .slice a4 m.paces.length p4, .int .i64 m.now] 32))) := hide ((Below.refl _ _).alloc (Nat.le_refl _) _)
  obtain ⟨ok, hok⟩ : ∃ q, smyB m = q := ⟨_, rfl⟩
  have Hok := hide hok
  clear hok
  go_enter Tryz.func31, Tryz.ntmps31
  go_wp2_with fail
  generalize w.alloc (.cells #[.slice a0 m.rooms.length p0, .slice a1 m.guilds.length p1, .slice a2 m.smiths.length p2, .slice a3 m.desks.length p3, .slice a4 m.paces.length p4, .int .i64 m.now] 32) = W at *
  refine (implSmithyOk_q _ _ _ _ _ _ _ _ (unhide Hok) (unhide Hv)).mono ?_
  rintro e w1 ⟨rfl, hb⟩
  replace Hv := hide ((unhide Hv).below hb)
  replace kb := hide ((unhide kb).below hb (unhide kb).lt)
  replace BB := hide ((unhide BB).trans (hb.mono (unhide BB).size))
  clear hb
  cases ok
  · obtain rfl : q = false := by rw [← unhide Hq]; unfold isIdleV; rw [unhide Hok]; rfl
    go_wp2_with fail
    go_ret
    exact ⟨rfl, unhide BB⟩
  obtain ⟨qb, hqb⟩ : ∃ q, isBenchB m b = q := ⟨_, rfl⟩
  have Hqb := hide hqb
  clear hqb
  have c0 := (unhide kb).cell (i := 0) (v := .slice a0 m.rooms.length p0) rfl
  have c1 := (unhide kb).cell (i := 1) (v := .slice a1 m.guilds.length p1) rfl
  have c2 := (unhide kb).cell (i := 2) (v := .slice a2 m.smiths.length p2) rfl
  have c3 := (unhide kb).cell (i := 3) (v := .slice a3 m.desks.length p3) rfl
  have c4 := (unhide kb).cell (i := 4) (v := .slice a4 m.paces.length p4) rfl
  have c5 := (unhide kb).cell (i := 5) (v := .int .i64 m.now) rfl
  go_wp2_with fail
  clear c0 c1 c2 c3 c4 c5
  refine (desksOf_any _ _ _ _ _ _ _ _ _ _ _ _ _ _ _ _ _).mono ?_
  rintro e w2 ⟨rfl, hb⟩
  replace Hv := hide ((unhide Hv).below hb)
  replace kb := hide ((unhide kb).below hb (unhide kb).lt)
  replace BB := hide ((unhide BB).trans (hb.mono (unhide BB).size))
  clear hb
  have Hqh : Hid (hasB m.desks.length b = qb) := hide (by rw [has_in]; exact unhide Hqb)
  go_wp2_with fail
  refine (hasDesk_any _ _ _ _ _).mono ?_
  rw [unhide Hqh]
  rintro e w3 ⟨rfl, h9⟩
  subst w3
  cases qb
  · obtain rfl : q = false := by rw [← unhide Hq]; unfold isIdleV; rw [unhide Hqb]; simp
    go_wp2_with fail
    go_ret
    exact ⟨rfl, unhide BB⟩
  obtain ⟨bn, hbn, rfl⟩ : ∃ k : Nat, k < m.desks.length ∧ b = (k : Int) := by
    have := inB_of (unhide Hqb)
    exact ⟨b.toNat, by omega, by omega⟩
  have h12 := smy_twelve (smy_loose (unhide Hok))
  have HI : Hid (isIdleV m (bn : Int) = idleB m bn) := hide (by unfold isIdleV; rw [unhide Hok, unhide Hqb]; rfl)
  obtain ⟨_, _, hde, _, _, r3⟩ := (unhide Hv).desks
  cases hde
  rcases r3 with e0 | ⟨db, off, rfl, hbw, hcl⟩
  · rw [e0] at hbn; simp at hbn
  obtain ⟨d0, d1, d2⟩ := desk_cells hcl hbn
  obtain ⟨⟨op, wh, mk⟩, hrk⟩ : ∃ d, recAt m.desks bn = d := ⟨_, rfl⟩
  rw [hrk] at d0 d1 d2
  simp only at d0 d1 d2
  have HI2 : Hid (idleB m bn = (op && decide ((atV m.smiths (bn : Int) m.smiths.length).length = 0))) := hide (by unfold idleB; rw [hrk])
  clear hcl hrk
  have hbn1 : (bn : Int) < (m.desks.length : Int) := by omega
  have c3 := (unhide kb).cell (i := 3) (v := .slice (some ⟨db, off, none⟩) m.desks.length p3) rfl
  go_wp2_with fail
  clear d0 d1 d2 c3
  refine (isOpen_any op wh mk _).mono ?_
  rintro e w4 ⟨rfl, hb⟩
  replace Hv := hide ((unhide Hv).below hb)
  replace kb := hide ((unhide kb).below hb (unhide kb).lt)
  replace BB := hide ((unhide BB).trans (hb.mono (unhide BB).size))
  clear hb
  cases op
  · obtain rfl : q = false := by rw [← unhide Hq, unhide HI, unhide HI2]; rfl
    go_wp2_with fail
    go_ret
    exact ⟨rfl, unhide BB⟩
  have c0 := (unhide kb).cell (i := 0) (v := .slice a0 m.rooms.length p0) rfl
  have c1 := (unhide kb).cell (i := 1) (v := .slice a1 m.guilds.length p1) rfl
  have c2 := (unhide kb).cell (i := 2) (v := .slice a2 m.smiths.length p2) rfl
  have c3 := (unhide kb).cell (i := 3) (v := .slice (some ⟨db, off, none⟩) m.desks.length p3) rfl
  have c4 := (unhide kb).cell (i := 4) (v := .slice a4 m.paces.length p4) rfl
  have c5 := (unhide kb).cell (i := 5) (v := .int .i64 m.now) rfl
  go_wp2_with fail
  clear c0 c1 c2 c3 c4 c5
  refine (whoIsAt_any (bn : Int) (unhide Hv) (by omega)).mono ?_
  rintro e w5 ⟨v', rfl, he, hb⟩
  obtain ⟨ua, uc, rfl⟩ := RecAt.shape he
  clear he
  replace Hv := hide ((unhide Hv).below hb)
  replace kb := hide ((unhide kb).below hb (unhide kb).lt)
  replace BB := hide ((unhide BB).trans (hb.mono (unhide BB).size))
  clear hb
  have HQ : Hid (q = decide ((whereTo (atB (bn : Int)) m.smiths m.smiths.length).length = 0)) := hide (by
    rw [← unhide Hq, unhide HI, unhide HI2, Bool.true_and, ← queueOf_at, queueOf_len])
  generalize whereTo (atB (bn : Int)) m.smiths m.smiths.length = ws at *
  go_wp2_with fail
  go_ret
  exact ⟨ret_bool (by rw [unhide HQ, Bool.eq_iff_iff]; simp only [beq_iff_eq, decide_eq_true_eq]; omega), unhide BB⟩

set_option maxHeartbeats 8000000 in
theorem implWorking_any (w : World) (v0 v1 v2 v3 v4 : Value) (m : SmyV) (h : Smy w v0 v1 v2 v3 v4 m) :
    Calls Tryz.prog 29 #[.agg #[v0, v1, v2, v3, v4, .int .i64 m.now]] w fun e w' => ∃ v', e = .returned v' ∧ NumsAt w.heap.size w' v' (workingV m) ∧ Below w.heap.size w w' := by
  obtain ⟨M, hM⟩ : ∃ x, workingV m = x := ⟨_, rfl⟩
  rw [hM]
  have HM := hide hM
  clear hM
  have HW := hide h
  have Hv0 := hide ((h.alloc (.cells #[v0, v1, v2, v3, v4, .int .i64 m.now] 32)).alloc (.cells #[] 2))
  obtain ⟨a0, p0, rfl, _, _⟩ := IsRooms.shape h.rooms
  obtain ⟨a1, p1, rfl, _, _⟩ := IsRec.shape h.guilds
  obtain ⟨a2, p2, rfl, _, _⟩ := IsRec.shape h.smiths
  obtain ⟨a3, p3, rfl, _, _⟩ := IsRec.shape h.desks
  obtain ⟨a4, p4, rfl, _, _⟩ := IsRec.shape h.paces
  clear h
  have kb1 : Hid (Blk ((w.alloc (.cells #[.slice a0 m.rooms.length p0, .slice a1 m.guilds.length p1, .slice a2 m.smiths.length p2, .slice a3 m.desks.length p3, .slice a4 m.paces.length p4, .int .i64 m.now] 32)).alloc (.cells #[] 2)) w.heap.size 32 #[.slice a0 m.rooms.length p0, .slice a1 m.guilds.length p1, .slice a2 m.smiths.length p2, .slice a3 m.desks.length p3, .slice a4 m.paces.length p4, .int .i64 m.now]) := hide ((Blk.new w _ _).alloc _)
  have BB1 : Hid (Below w.heap.size w ((w.alloc (.cells #[.slice a0 m.rooms.length p0, .slice a1 m.guilds.length p1, .slice a2 m.smiths.length p2, .slice a3 m.desks.length p3, .slice a4 m.paces.length p4, .int .i64 m.now] 32)).alloc (.cells #[] 2))) := hide (((Below.refl _ _).alloc (Nat.le_refl _) _).alloc (by simp) _)
  have E0 : Hid (NumsAt (w.heap.size + 1) ((w.alloc (.cells #[.slice a0 m.rooms.length p0, .slice a1 m.guilds.length p1, .slice a2 m.smiths.length p2, .slice a3 m.desks.length p3, .slice a4 m.paces.length p4, .int .i64 m.now] 32)).alloc (.cells #[] 2)) (.slice (some ⟨w.heap.size + 1, 0, none⟩) 0 0) []) := hide (recs_empty (by simp) (by simp))
  obtain ⟨ok, hok⟩ : ∃ q, smyB m = q := ⟨_, rfl⟩
  have Hok := hide hok
  clear hok
  go_enter Tryz.func29, Tryz.ntmps29
  go_wp2_with fail
  generalize (w.alloc (.cells #[.slice a0 m.rooms.length p0, .slice a1 m.guilds.length p1, .slice a2 m.smiths.length p2, .slice a3 m.desks.length p3, .slice a4 m.paces.length p4, .int .i64 m.now] 32)).alloc (.cells #[] 2) = W at *
  refine (implSmithyOk_q _ _ _ _ _ _ _ _ (unhide Hok) (unhide Hv0)).mono ?_
  rintro e w1 ⟨rfl, hb⟩
  replace kb1 := hide ((unhide kb1).below hb (unhide kb1).lt)
  replace BB1 := hide ((unhide BB1).trans (hb.mono (unhide BB1).size))
  replace E0 := hide (RecAt.later (unhide E0) hb)
  clear hb Hv0
  cases ok
  · obtain rfl : M = [] := by rw [← unhide HM]; unfold workingV; rw [unhide Hok]; rfl
    go_wp2_with fail
    go_ret
    exact ⟨_, rfl, RecAt.mono (unhide E0) (Nat.le_succ _), unhide BB1⟩
  obtain rfl : M = whos m.desks := by rw [← unhide HM]; unfold workingV; rw [unhide Hok]; rfl
  have c3 := (unhide kb1).cell (i := 3) (v := .slice a3 m.desks.length p3) rfl
  go_wp2_with fail
  clear c3
  go_loopw [3, 14] (fun l i wr => ∃ k : Nat, k ≤ m.desks.length ∧ i = .int .i64 k ∧ NumsAt (w.heap.size + 1) wr l (whos (m.desks.take k)) ∧ Blk wr w.heap.size 32 #[.slice a0 m.rooms.length p0, .slice a1 m.guilds.length p1, .slice a2 m.smiths.length p2, .slice a3 m.desks.length p3, .slice a4 m.paces.length p4, .int .i64 m.now] ∧ Below w.heap.size w wr) (fun _ i _ => m.desks.length - (intOf i).toNat)
  case atStart => exact ⟨0, Nat.zero_le _, rfl, unhide E0, unhide kb1, unhide BB1⟩
  case round =>
    obtain ⟨k, hk, rfl, hl, hkb, hb0⟩ := hrel
    obtain ⟨la, lc, rfl⟩ := RecAt.shape hl
    have HL := hide hl
    have kb := hide hkb
    have BB := hide hb0
    have Hv := hide ((unhide HW).below hb0)
    have hfl : (whos (m.desks.take k)).length = k := by rw [whos_len, List.length_take]; omega
    have Hfl := hide hfl
    clear hl hkb hb0 hfl
    by_cases hlt : k < m.desks.length
    · -- one more
      have hlt1 : (k : Int) < (m.desks.length : Int) := by omega
      obtain ⟨_, _, hde, _, _, r3⟩ := (unhide Hv).desks
      cases hde
      rcases r3 with e0 | ⟨db, off, rfl, hbw, hcl⟩
      · rw [e0] at hlt; simp at hlt
      obtain ⟨d0, d1, d2⟩ := desk_cells hcl hlt
      have HT : Hid (whos (m.desks.take (k + 1)) = whos (m.desks.take k) ++ [(recAt m.desks k).2.1]) := hide (whos_take hlt)
      generalize recAt m.desks k = d at *
      obtain ⟨op, wh, mk⟩ := d
      simp only at d0 d1 d2 HT
      clear hcl
      go_upto_region 7 with fail
      clear d0 d1 d2
      have kd : Hid (Blk (wr.alloc (.cells #[.bool op, .int .i64 wh, .int .i64 mk] 55)) wr.heap.size 55 #[.bool op, .int .i64 wh, .int .i64 mk]) := hide (Blk.new _ _ _)
      have hb : Below wr.heap.size wr (wr.alloc (.cells #[.bool op, .int .i64 wh, .int .i64 mk] 55)) := (Below.refl _ _).alloc (Nat.le_refl _) _
      replace HL := hide (RecAt.later (unhide HL) hb)
      replace Hv := hide ((unhide Hv).below hb)
      replace kb := hide ((unhide kb).below hb (unhide kb).lt)
      replace BB := hide ((unhide BB).trans (hb.mono (unhide BB).size))
      clear hb
      generalize wr.alloc (.cells #[.bool op, .int .i64 wh, .int .i64 mk] 55) = X at *
      have d1 := (unhide kd).cell (i := 1) (v := .int .i64 wh) rfl
      have hsx := (unhide BB).size
      have hlx := (unhide kb).lt
      have hfw : m.desks.length ≤ 8 := (smy_loose (unhide Hok)).sane.eight
      have hfl : (whos (m.desks.take k)).length ≤ 8 := by rw [unhide Hfl]; omega
      go_wp2_with (at_builtin; refine wpList_append_recs tyN rfl (.tmp 18) (.tmp 21) 30 Tryz.underlying30 rfl (w.heap.size + 1) _ _ (whos (m.desks.take k)) [wh] rfl rfl (RecAt.later (unhide HL) ((Below.refl _ _).alloc (Nat.le_refl _) _)) (recs_one wh rfl (Nat.le_refl _) (by omega)) (by simp; omega) (by simp; omega) ?_; intro u9 w9 hp9 hg9 hat9; have HP9 := hide hp9; have HG9 := hide hg9; clear hp9 hg9 hat9)
      have hgo : ∀ i, (Value.slice la (whos (m.desks.take k)).length lc).ownBlock = some i → w.heap.size + 1 ≤ i := fun i e => (RecAt.lt (unhide HL) e).1
      have hb9 : Below (w.heap.size + 1) X w9 := ((Below.refl _ _).alloc hlx _).trans ((Below.refl _ _).grown (unhide HG9) (by simp; omega) hgo)
      have hb8 := (unhide BB).trans (hb9.mono (Nat.le_succ _))
      go_wp2_with fail
      go_roundw
      case rel => exact ⟨k + 1, by omega, by go_num, by rw [unhide HT]; exact unhide HP9, (unhide kb).below hb9 (Nat.lt_succ_self _), hb8⟩
      case measure => simp [intOf]; omega
    · -- all
      obtain rfl : k = m.desks.length := by omega
      have HL9 : Hid (NumsAt (w.heap.size + 1) wr (.slice la (whos (m.desks.take m.desks.length)).length lc) (whos m.desks)) := hide (by have h9 := unhide HL; rw [List.take_length] at h9 ⊢; exact h9)
      go_wp2_with fail
      go_ret
      exact ⟨_, rfl, RecAt.mono (unhide HL9) (Nat.le_succ _), unhide BB⟩

end Go.Proofs.YtmfmfdiphlkdiaaGreat

/- The walk of the exact law on IsIdle. Condition: the smithy can be read. -/
namespace Go.Proofs.YtmfmfdiphlkdiaaGreat
open Go.ChangeShapes Go.WideShapes Go.ChangeAt Go.RowKit Go.Sort
set_option linter.unusedVariables false
set_option linter.unusedSimpArgs false
set_option maxRecDepth 100000

set_option maxRecDepth 100000 in
set_option maxHeartbeats 8000000 in
theorem walkFnExactIsIdle (v0 v1 v2 v3 v4 : Value) (m : SmyV) (bench : Int) (w : World) (h : Smy w v0 v1 v2 v3 v4 m) :
    Calls Tryz.prog 7 #[.agg #[v0, v1, v2, v3, v4, .int .i64 m.now], .int .i64 bench] w fun e w' => e = .returned (.bool true) ∧ Below w.heap.size w w' := by
  obtain ⟨q, hq⟩ : ∃ q, isIdleV m bench = q := ⟨_, rfl⟩
  have Hq := hide hq
  clear hq
  have Hv := hide h
  obtain ⟨a0, p0, rfl, _, _⟩ := IsRooms.shape h.rooms
  obtain ⟨a1, p1, rfl, _, _⟩ := IsRec.shape h.guilds
  obtain ⟨a2, p2, rfl, _, _⟩ := IsRec.shape h.smiths
  obtain ⟨a3, p3, rfl, _, _⟩ := IsRec.shape h.desks
  obtain ⟨a4, p4, rfl, _, _⟩ := IsRec.shape h.paces
  clear h
  go_enter Tryz.func7, Tryz.ntmps7
  go_wp2_with fail
  refine (szSmithy_any ((unhide Hv).alloc _)).mono ?_
  rintro e w1 ⟨x, rfl, hx, hb⟩
  have ka : Hid (Blk w1 w.heap.size 63 #[.slice a0 m.rooms.length p0, .slice a1 m.guilds.length p1, .slice a2 m.smiths.length p2, .slice a3 m.desks.length p3, .slice a4 m.paces.length p4, .int .i64 m.now]) := hide ((Blk.new w _ _).below hb (by simp))
  have BB : Hid (Below w.heap.size w w1) := hide (((Below.refl _ _).alloc (Nat.le_refl _) _).trans (hb.mono (by simp)))
  have Hx := hide hx
  clear hx hb
  by_cases hx0 : x < 0
  · go_wp2_with fail
    go_ret
    exact ⟨rfl, unhide BB⟩
  have Hs := hide (unhide Hx (by omega))
  clear Hx
  have c0 := (unhide ka).cell (i := 0) (v := .slice a0 m.rooms.length p0) rfl
  have c1 := (unhide ka).cell (i := 1) (v := .slice a1 m.guilds.length p1) rfl
  have c2 := (unhide ka).cell (i := 2) (v := .slice a2 m.smiths.length p2) rfl
  have c3 := (unhide ka).cell (i := 3) (v := .slice a3 m.desks.length p3) rfl
  have c4 := (unhide ka).cell (i := 4) (v := .slice a4 m.paces.length p4) rfl
  have c5 := (unhide ka).cell (i := 5) (v := .int .i64 m.now) rfl
  go_wp2_with fail
  refine (toSmithy_any ((unhide Hv).below (unhide BB)) (unhide Hs)).mono ?_
  rintro e w2 ⟨u0, u1, u2, u3, u4, rfl, ho, hb⟩
  clear c0 c1 c2 c3 c4 c5
  have k2 := ho.smy
  obtain ⟨b0, q0, rfl, _, _⟩ := IsRooms.shape k2.rooms
  obtain ⟨b1, q1, rfl, _, _⟩ := IsRec.shape k2.guilds
  obtain ⟨b2, q2, rfl, _, _⟩ := IsRec.shape k2.smiths
  obtain ⟨b3, q3, rfl, _, _⟩ := IsRec.shape k2.desks
  obtain ⟨b4, q4, rfl, _, _⟩ := IsRec.shape k2.paces
  have K2 := hide k2
  clear k2 ho
  replace ka := hide ((unhide ka).below hb (unhide ka).lt)
  replace BB := hide ((unhide BB).trans (hb.mono (unhide BB).size))
  clear hb
  go_wp2_with fail
  refine (specIsIdle_any (unhide Hq) (unhide K2)).mono ?_
  rintro e w3 ⟨rfl, hb⟩
  replace ka := hide ((unhide ka).below hb (unhide ka).lt)
  replace BB := hide ((unhide BB).trans (hb.mono (unhide BB).size))
  clear hb K2
  have c0 := (unhide ka).cell (i := 0) (v := .slice a0 m.rooms.length p0) rfl
  have c1 := (unhide ka).cell (i := 1) (v := .slice a1 m.guilds.length p1) rfl
  have c2 := (unhide ka).cell (i := 2) (v := .slice a2 m.smiths.length p2) rfl
  have c3 := (unhide ka).cell (i := 3) (v := .slice a3 m.desks.length p3) rfl
  have c4 := (unhide ka).cell (i := 4) (v := .slice a4 m.paces.length p4) rfl
  have c5 := (unhide ka).cell (i := 5) (v := .int .i64 m.now) rfl
  go_wp2_with fail
  refine (toSmithy_any ((unhide Hv).below (unhide BB)) (unhide Hs)).mono ?_
  rintro e w4 ⟨u0, u1, u2, u3, u4, rfl, ho, hb⟩
  clear c0 c1 c2 c3 c4 c5
  have k4 := ho.smy
  obtain ⟨d0, r0, rfl, _, _⟩ := IsRooms.shape k4.rooms
  obtain ⟨d1, r1, rfl, _, _⟩ := IsRec.shape k4.guilds
  obtain ⟨d2, r2, rfl, _, _⟩ := IsRec.shape k4.smiths
  obtain ⟨d3, r3, rfl, _, _⟩ := IsRec.shape k4.desks
  obtain ⟨d4, r4, rfl, _, _⟩ := IsRec.shape k4.paces
  have K4 := hide (k4.alloc (.cells #[.slice d0 m.rooms.length r0, .slice d1 m.guilds.length r1, .slice d2 m.smiths.length r2, .slice d3 m.desks.length r3, .slice d4 m.paces.length r4, .int .i64 m.now] 32))
  clear k4 ho
  replace ka := hide ((unhide ka).below hb (unhide ka).lt)
  replace BB := hide ((unhide BB).trans (hb.mono (unhide BB).size))
  clear hb
  go_wp2_with fail
  replace ka := hide ((unhide ka).alloc (.cells #[.slice d0 m.rooms.length r0, .slice d1 m.guilds.length r1, .slice d2 m.smiths.length r2, .slice d3 m.desks.length r3, .slice d4 m.paces.length r4, .int .i64 m.now] 32))
  replace BB := hide ((unhide BB).alloc (unhide BB).size (.cells #[.slice d0 m.rooms.length r0, .slice d1 m.guilds.length r1, .slice d2 m.smiths.length r2, .slice d3 m.desks.length r3, .slice d4 m.paces.length r4, .int .i64 m.now] 32))
  have kx : Hid (Blk (w4.alloc (.cells #[.slice d0 m.rooms.length r0, .slice d1 m.guilds.length r1, .slice d2 m.smiths.length r2, .slice d3 m.desks.length r3, .slice d4 m.paces.length r4, .int .i64 m.now] 32)) w4.heap.size 32 #[.slice d0 m.rooms.length r0, .slice d1 m.guilds.length r1, .slice d2 m.smiths.length r2, .slice d3 m.desks.length r3, .slice d4 m.paces.length r4, .int .i64 m.now]) := hide (Blk.new _ _ _)
  generalize w4.alloc (.cells #[.slice d0 m.rooms.length r0, .slice d1 m.guilds.length r1, .slice d2 m.smiths.length r2, .slice d3 m.desks.length r3, .slice d4 m.paces.length r4, .int .i64 m.now] 32) = W at *
  generalize w4.heap.size = xb at *
  refine (implIsIdle_any (unhide Hq) (unhide K4)).mono ?_
  rintro e w5 ⟨rfl, hb⟩
  replace K4 := hide ((unhide K4).below hb)
  replace ka := hide ((unhide ka).below hb (unhide ka).lt)
  replace kx := hide ((unhide kx).below hb (unhide kx).lt)
  replace BB := hide ((unhide BB).trans (hb.mono (unhide BB).size))
  clear hb
  have V5 := hide ((unhide Hv).below (unhide BB))
  have c0 := (unhide ka).cell (i := 0) (v := .slice a0 m.rooms.length p0) rfl
  have c1 := (unhide ka).cell (i := 1) (v := .slice a1 m.guilds.length p1) rfl
  have c2 := (unhide ka).cell (i := 2) (v := .slice a2 m.smiths.length p2) rfl
  have c3 := (unhide ka).cell (i := 3) (v := .slice a3 m.desks.length p3) rfl
  have c4 := (unhide ka).cell (i := 4) (v := .slice a4 m.paces.length p4) rfl
  have c5 := (unhide ka).cell (i := 5) (v := .int .i64 m.now) rfl
  have x0 := (unhide kx).cell (i := 0) (v := .slice d0 m.rooms.length r0) rfl
  have x1 := (unhide kx).cell (i := 1) (v := .slice d1 m.guilds.length r1) rfl
  have x2 := (unhide kx).cell (i := 2) (v := .slice d2 m.smiths.length r2) rfl
  have x3 := (unhide kx).cell (i := 3) (v := .slice d3 m.desks.length r3) rfl
  have x4 := (unhide kx).cell (i := 4) (v := .slice d4 m.paces.length r4) rfl
  have x5 := (unhide kx).cell (i := 5) (v := .int .i64 m.now) rfl
  cases q
  all_goals
    go_wp2_with fail
    go_region_with (first
      | (go_at_call 36; refine (toSmithy_any (m := m) ?_ (unhide Hs)).mono ?_; exact (unhide V5).below (Below.refl _ _).drew; rintro e w6 ⟨u0, u1, u2, u3, u4, rfl, ho, hb⟩; have k6 := ho.smy; obtain ⟨f0, t0, rfl, _, _⟩ := IsRooms.shape k6.rooms; obtain ⟨f1, t1, rfl, _, _⟩ := IsRec.shape k6.guilds; obtain ⟨f2, t2, rfl, _, _⟩ := IsRec.shape k6.smiths; obtain ⟨f3, t3, rfl, _, _⟩ := IsRec.shape k6.desks; obtain ⟨f4, t4, rfl, _, _⟩ := IsRec.shape k6.paces; have K6 := hide k6; have Hb6 : Hid (Below w5.heap.size w5 w6) := hide ⟨hb.os, hb.tape, hb.output, hb.size, hb.block⟩; have kx6 := (unhide kx).below (unhide Hb6) (unhide kx).lt; have y0 := kx6.cell (i := 0) (v := .slice d0 m.rooms.length r0) rfl; have y1 := kx6.cell (i := 1) (v := .slice d1 m.guilds.length r1) rfl; have y2 := kx6.cell (i := 2) (v := .slice d2 m.smiths.length r2) rfl; have y3 := kx6.cell (i := 3) (v := .slice d3 m.desks.length r3) rfl; have y4 := kx6.cell (i := 4) (v := .slice d4 m.paces.length r4) rfl; have y5 := kx6.cell (i := 5) (v := .int .i64 m.now) rfl; clear k6 ho hb kx6)
      | (go_at_call 37; refine (eqSmithy_yes (m := m) ?_ ?_).mono ?_; exact (unhide K4).below (unhide Hb6); exact unhide K6; rintro e w7 ⟨rfl, hb⟩; have Hb7 := hide hb; clear hb))
    all_goals
      go_wp2_with fail
      go_ret
      exact ⟨rfl, (unhide BB).trans (((unhide Hb6).trans ((unhide Hb7).mono (unhide Hb6).size)).mono (unhide BB).size)⟩

end Go.Proofs.YtmfmfdiphlkdiaaGreat

/- The walk of the exact law on Working. Condition: the smithy can be read. -/
namespace Go.Proofs.YtmfmfdiphlkdiaaGreat
open Go.ChangeShapes Go.WideShapes Go.ChangeAt Go.RowKit Go.Sort
set_option linter.unusedVariables false
set_option linter.unusedSimpArgs false
set_option maxRecDepth 100000

set_option maxRecDepth 100000 in
set_option maxHeartbeats 16000000 in
theorem walkFnExactWorking_of (hS : (∀ (w : World) (v0 v1 v2 v3 v4 : Value) (m : SmyV), Smy w v0 v1 v2 v3 v4 m → Calls Tryz.prog 33 #[.agg #[v0, v1, v2, v3, v4, .int .i64 m.now]] w fun e w' => ∃ v', e = .returned v' ∧ NumsAt w.heap.size w' v' (workingV m) ∧ Below w.heap.size w w')) (hI : (∀ (w : World) (v0 v1 v2 v3 v4 : Value) (m : SmyV), Smy w v0 v1 v2 v3 v4 m → Calls Tryz.prog 29 #[.agg #[v0, v1, v2, v3, v4, .int .i64 m.now]] w fun e w' => ∃ v', e = .returned v' ∧ NumsAt w.heap.size w' v' (workingV m) ∧ Below w.heap.size w w')) (hlen : ∀ (m : SmyV), (workingV m).length ≤ 1000) (v0 v1 v2 v3 v4 : Value) (m : SmyV) (w : World) (h : Smy w v0 v1 v2 v3 v4 m) :
    Calls Tryz.prog 8 #[.agg #[v0, v1, v2, v3, v4, .int .i64 m.now]] w fun e w' => e = .returned (.bool true) ∧ Below w.heap.size w w' := by
  have HS := hide hS
  have HI := hide hI
  clear hS hI
  have Hv := hide h
  obtain ⟨a0, p0, rfl, _, _⟩ := IsRooms.shape h.rooms
  obtain ⟨a1, p1, rfl, _, _⟩ := IsRec.shape h.guilds
  obtain ⟨a2, p2, rfl, _, _⟩ := IsRec.shape h.smiths
  obtain ⟨a3, p3, rfl, _, _⟩ := IsRec.shape h.desks
  obtain ⟨a4, p4, rfl, _, _⟩ := IsRec.shape h.paces
  clear h
  have hL := hlen m
  have HS1 := hide (fun W u0 u1 u2 u3 u4 => unhide HS W u0 u1 u2 u3 u4 m)
  have HI1 := hide (fun W u0 u1 u2 u3 u4 => unhide HI W u0 u1 u2 u3 u4 m)
  clear HS HI hlen
  generalize workingV m = L at *
  go_enter Tryz.func8, Tryz.ntmps8
  go_wp2_with fail
  refine (szSmithy_any ((unhide Hv).alloc _)).mono ?_
  rintro e w1 ⟨x, rfl, hx, hb⟩
  have ka : Hid (Blk w1 w.heap.size 63 #[.slice a0 m.rooms.length p0, .slice a1 m.guilds.length p1, .slice a2 m.smiths.length p2, .slice a3 m.desks.length p3, .slice a4 m.paces.length p4, .int .i64 m.now]) := hide ((Blk.new w _ _).below hb (by simp))
  have BB : Hid (Below w.heap.size w w1) := hide (((Below.refl _ _).alloc (Nat.le_refl _) _).trans (hb.mono (by simp)))
  have Hx := hide hx
  clear hx hb
  by_cases hx0 : x < 0
  · go_wp2_with fail
    go_ret
    exact ⟨rfl, unhide BB⟩
  have Hs := hide (unhide Hx (by omega))
  clear Hx
  have c0 := (unhide ka).cell (i := 0) (v := .slice a0 m.rooms.length p0) rfl
  have c1 := (unhide ka).cell (i := 1) (v := .slice a1 m.guilds.length p1) rfl
  have c2 := (unhide ka).cell (i := 2) (v := .slice a2 m.smiths.length p2) rfl
  have c3 := (unhide ka).cell (i := 3) (v := .slice a3 m.desks.length p3) rfl
  have c4 := (unhide ka).cell (i := 4) (v := .slice a4 m.paces.length p4) rfl
  have c5 := (unhide ka).cell (i := 5) (v := .int .i64 m.now) rfl
  go_wp2_with fail
  refine (toSmithy_any ((unhide Hv).below (unhide BB)) (unhide Hs)).mono ?_
  rintro e w2 ⟨u0, u1, u2, u3, u4, rfl, ho, hb⟩
  clear c0 c1 c2 c3 c4 c5
  have k2 := ho.smy
  obtain ⟨b0, q0, rfl, _, _⟩ := IsRooms.shape k2.rooms
  obtain ⟨b1, q1, rfl, _, _⟩ := IsRec.shape k2.guilds
  obtain ⟨b2, q2, rfl, _, _⟩ := IsRec.shape k2.smiths
  obtain ⟨b3, q3, rfl, _, _⟩ := IsRec.shape k2.desks
  obtain ⟨b4, q4, rfl, _, _⟩ := IsRec.shape k2.paces
  have K2 := hide k2
  clear k2 ho
  replace ka := hide ((unhide ka).below hb (unhide ka).lt)
  replace BB := hide ((unhide BB).trans (hb.mono (unhide BB).size))
  clear hb
  go_wp2_with fail
  refine (unhide HS1 _ _ _ _ _ _ (unhide K2)).mono ?_
  rintro e w3 ⟨v9, rfl, ho9, hb⟩
  obtain ⟨ua, uc, rfl⟩ := RecAt.shape ho9
  have hsz2 := (unhide BB).size
  replace ka := hide ((unhide ka).below hb (unhide ka).lt)
  replace BB := hide ((unhide BB).trans (hb.mono (unhide BB).size))
  have HU := hide (RecAt.mono ho9 hsz2)
  have hw3 : w.heap.size < w3.heap.size := (unhide ka).lt
  clear hb ho9 K2 hsz2
  have LU : Hid (∀ k, (Value.slice ua L.length uc).ownBlock = some k → k < w3.heap.size) := hide (fun k e => (RecAt.lt (unhide HU) e).2)
  have c0 := (unhide ka).cell (i := 0) (v := .slice a0 m.rooms.length p0) rfl
  have c1 := (unhide ka).cell (i := 1) (v := .slice a1 m.guilds.length p1) rfl
  have c2 := (unhide ka).cell (i := 2) (v := .slice a2 m.smiths.length p2) rfl
  have c3 := (unhide ka).cell (i := 3) (v := .slice a3 m.desks.length p3) rfl
  have c4 := (unhide ka).cell (i := 4) (v := .slice a4 m.paces.length p4) rfl
  have c5 := (unhide ka).cell (i := 5) (v := .int .i64 m.now) rfl
  go_wp2_with fail
  have hn3 : w3.heap.size ≤ w3.heap.size := Nat.le_refl _
  refine (toSmithy_full ((unhide Hv).below (unhide BB)) (unhide Hs)).mono ?_
  rintro e w4 ⟨z0, z1, z2, z3, z4, xq, rfl, ho, hb⟩
  clear c0 c1 c2 c3 c4 c5
  have k4 := ho.smy
  obtain ⟨d0, r0, rfl, _, _⟩ := IsRooms.shape k4.rooms
  obtain ⟨d1, r1, rfl, _, _⟩ := IsRec.shape k4.guilds
  obtain ⟨d2, r2, rfl, _, _⟩ := IsRec.shape k4.smiths
  obtain ⟨d3, r3, rfl, _, _⟩ := IsRec.shape k4.desks
  obtain ⟨d4, r4, rfl, _, _⟩ := IsRec.shape k4.paces
  clear k4
  replace ka := hide ((unhide ka).below hb (unhide ka).lt)
  replace HU := hide (RecAt.later (unhide HU) hb)
  replace BB := hide ((unhide BB).trans (hb.mono (unhide BB).size))
  have HX := hide ho
  have LX : Hid (∀ k, OwnB (.slice d0 m.rooms.length r0) (.slice d1 m.guilds.length r1) (.slice d2 m.smiths.length r2) (.slice d3 m.desks.length r3) (.slice d4 m.paces.length r4) xq k → w3.heap.size ≤ k ∧ k < w4.heap.size) := hide (fun k e => ho.own e)
  have hsz4 := hb.size
  clear hb ho hn3
  go_wp2_with fail
  have hba : Below w4.heap.size w4 (w4.alloc (.cells #[.slice d0 m.rooms.length r0, .slice d1 m.guilds.length r1, .slice d2 m.smiths.length r2, .slice d3 m.desks.length r3, .slice d4 m.paces.length r4, .int .i64 m.now] 32)) := (Below.refl _ _).alloc (Nat.le_refl _) _
  replace ka := hide ((unhide ka).below hba (unhide ka).lt)
  replace HU := hide (RecAt.later (unhide HU) hba)
  replace HX := hide ((unhide HX).below hba)
  replace BB := hide ((unhide BB).trans (hba.mono (unhide BB).size))
  have kx : Hid (Blk (w4.alloc (.cells #[.slice d0 m.rooms.length r0, .slice d1 m.guilds.length r1, .slice d2 m.smiths.length r2, .slice d3 m.desks.length r3, .slice d4 m.paces.length r4, .int .i64 m.now] 32)) w4.heap.size 32 #[.slice d0 m.rooms.length r0, .slice d1 m.guilds.length r1, .slice d2 m.smiths.length r2, .slice d3 m.desks.length r3, .slice d4 m.paces.length r4, .int .i64 m.now]) := hide (Blk.new _ _ _)
  have hszW : w4.heap.size + 1 ≤ (w4.alloc (.cells #[.slice d0 m.rooms.length r0, .slice d1 m.guilds.length r1, .slice d2 m.smiths.length r2, .slice d3 m.desks.length r3, .slice d4 m.paces.length r4, .int .i64 m.now] 32)).heap.size := by simp
  clear hba
  generalize w4.alloc (.cells #[.slice d0 m.rooms.length r0, .slice d1 m.guilds.length r1, .slice d2 m.smiths.length r2, .slice d3 m.desks.length r3, .slice d4 m.paces.length r4, .int .i64 m.now] 32) = W at *
  refine (unhide HI1 _ _ _ _ _ _ (unhide HX).smy).mono ?_
  rintro e w5 ⟨v9, rfl, ho9, hb⟩
  obtain ⟨ga, gc, rfl⟩ := RecAt.shape ho9
  replace ka := hide ((unhide ka).below hb (unhide ka).lt)
  replace HU := hide (RecAt.later (unhide HU) hb)
  replace HX := hide ((unhide HX).below hb)
  replace kx := hide ((unhide kx).below hb (unhide kx).lt)
  replace BB := hide ((unhide BB).trans (hb.mono (unhide BB).size))
  have HG := hide (RecAt.mono (n₁ := w4.heap.size + 1) ho9 hszW)
  have hsz5 : w4.heap.size + 1 ≤ w5.heap.size := Nat.le_trans hszW hb.size
  clear hb ho9 hszW
  have LG : Hid (∀ k, (Value.slice ga L.length gc).ownBlock = some k → w4.heap.size < k) := hide (fun k e => Nat.lt_of_succ_le (RecAt.lt (unhide HG) e).1)
  generalize w4.heap.size = xb at *
  go_wp2_with fail
  refine (eqNums_yes (NumsAt.list (unhide HG)) (NumsAt.list (unhide HU))).mono ?_
  rintro e w6 ⟨rfl, hb⟩
  replace ka := hide ((unhide ka).below hb (unhide ka).lt)
  replace HU := hide (RecAt.later (unhide HU) hb)
  replace HX := hide ((unhide HX).below hb)
  replace kx := hide ((unhide kx).below hb (unhide kx).lt)
  replace HG := hide (RecAt.later (unhide HG) hb)
  replace BB := hide ((unhide BB).trans (hb.mono (unhide BB).size))
  have hsz6 : xb + 1 ≤ w6.heap.size := Nat.le_trans hsz5 hb.size
  clear hb hsz5
  have c0 := (unhide ka).cell (i := 0) (v := .slice a0 m.rooms.length p0) rfl
  have c1 := (unhide ka).cell (i := 1) (v := .slice a1 m.guilds.length p1) rfl
  have c2 := (unhide ka).cell (i := 2) (v := .slice a2 m.smiths.length p2) rfl
  have c3 := (unhide ka).cell (i := 3) (v := .slice a3 m.desks.length p3) rfl
  have c4 := (unhide ka).cell (i := 4) (v := .slice a4 m.paces.length p4) rfl
  have c5 := (unhide ka).cell (i := 5) (v := .int .i64 m.now) rfl
  have x0 := (unhide kx).cell (i := 0) (v := .slice d0 m.rooms.length r0) rfl
  have x1 := (unhide kx).cell (i := 1) (v := .slice d1 m.guilds.length r1) rfl
  have x2 := (unhide kx).cell (i := 2) (v := .slice d2 m.smiths.length r2) rfl
  have x3 := (unhide kx).cell (i := 3) (v := .slice d3 m.desks.length r3) rfl
  have x4 := (unhide kx).cell (i := 4) (v := .slice d4 m.paces.length r4) rfl
  have x5 := (unhide kx).cell (i := 5) (v := .int .i64 m.now) rfl
  have V6 := hide ((unhide Hv).below (unhide BB))
  go_wp2_with fail
  go_upto_region 10 with fail
  go_cut [31] (fun s wc => s = .bool false ∧ Below w6.heap.size w6 wc)
  case first =>
    go_region_with (first
      | (go_at_call 36; refine (toSmithy_any (m := m) ?_ (unhide Hs)).mono ?_; exact (unhide V6).below (Below.refl _ _).drew; rintro e w7 ⟨t0, t1, t2, t3, t4, rfl, ho, hb⟩; have k7 := ho.smy; obtain ⟨f0, j0, rfl, _, _⟩ := IsRooms.shape k7.rooms; obtain ⟨f1, j1, rfl, _, _⟩ := IsRec.shape k7.guilds; obtain ⟨f2, j2, rfl, _, _⟩ := IsRec.shape k7.smiths; obtain ⟨f3, j3, rfl, _, _⟩ := IsRec.shape k7.desks; obtain ⟨f4, j4, rfl, _, _⟩ := IsRec.shape k7.paces; have K7 := hide k7; have Hb7 : Hid (Below w6.heap.size w6 w7) := hide ⟨hb.os, hb.tape, hb.output, hb.size, hb.block⟩; have kx7 := (unhide kx).below (unhide Hb7) (unhide kx).lt; have y0 := kx7.cell (i := 0) (v := .slice d0 m.rooms.length r0) rfl; have y1 := kx7.cell (i := 1) (v := .slice d1 m.guilds.length r1) rfl; have y2 := kx7.cell (i := 2) (v := .slice d2 m.smiths.length r2) rfl; have y3 := kx7.cell (i := 3) (v := .slice d3 m.desks.length r3) rfl; have y4 := kx7.cell (i := 4) (v := .slice d4 m.paces.length r4) rfl; have y5 := kx7.cell (i := 5) (v := .int .i64 m.now) rfl; clear k7 ho hb kx7)
      | (go_at_call 37; refine (eqSmithy_yes (m := m) ?_ ?_).mono ?_; exact ((unhide HX).below (unhide Hb7)).smy; exact unhide K7; rintro e w8 ⟨rfl, hb⟩; have Hb8 := hide hb; clear hb))
    all_goals
      go_wp2_with fail
      go_meet
      exact ⟨rfl, (unhide Hb7).trans ((unhide Hb8).mono (unhide Hb7).size)⟩
  case rest =>
    obtain ⟨rfl, hb⟩ := hcut
    obtain ⟨w8, rfl⟩ : ∃ x, x = wc := ⟨wc, rfl⟩
    clear c0 c1 c2 c3 c4 c5
    clear x0 x1 x2 x3 x4 x5
    replace ka := hide ((unhide ka).below hb (unhide ka).lt)
    replace HU := hide (RecAt.later (unhide HU) hb)
    replace HX := hide ((unhide HX).below hb)
    replace kx := hide ((unhide kx).below hb (unhide kx).lt)
    replace HG := hide (RecAt.later (unhide HG) hb)
    replace BB := hide ((unhide BB).trans (hb.mono (unhide BB).size))
    have hsz8 : xb + 1 ≤ w8.heap.size := Nat.le_trans hsz6 hb.size
    clear hb hsz6 V6
    have x0 := (unhide kx).cell (i := 0) (v := .slice d0 m.rooms.length r0) rfl
    have x1 := (unhide kx).cell (i := 1) (v := .slice d1 m.guilds.length r1) rfl
    have x2 := (unhide kx).cell (i := 2) (v := .slice d2 m.smiths.length r2) rfl
    have x3 := (unhide kx).cell (i := 3) (v := .slice d3 m.desks.length r3) rfl
    have x4 := (unhide kx).cell (i := 4) (v := .slice d4 m.paces.length r4) rfl
    have x5 := (unhide kx).cell (i := 5) (v := .int .i64 m.now) rfl
    go_wp2_with fail
    refine (markSmithy_any 1 (unhide HX) (unhide Hs) (by omega) (by omega) (by omega)).mono ?_
    rintro e w9 ⟨rfl, _, hon⟩
    clear x0 x1 x2 x3 x4 x5
    have hen := endM_bd (unhide Hs) (unhide HX).rooms
    generalize endM 1 m xq = em at *
    have hsz9 : xb + 1 ≤ w9.heap.size := Nat.le_trans hsz8 hon.size
    have hwle := (unhide BB).size
    replace HU := hide (RecAt.same (unhide HU) fun k e => hon.at (RecAt.lt (unhide HU) e).2 fun e9 => by have h1 := unhide LU k e; have h2 := unhide LX k e9; omega)
    replace HG := hide (RecAt.same (unhide HG) fun k e => hon.at (RecAt.lt (unhide HG) e).2 fun e9 => by have h1 := unhide LG k e; have h2 := unhide LX k e9; omega)
    replace ka := hide ((unhide ka).same (hon.at (unhide ka).lt fun e9 => by have h2 := unhide LX _ e9; omega))
    replace BB := hide ((unhide BB).trans (hon.below hwle (fun k e => by have h2 := unhide LX k e; omega)))
    clear hon hsz8 kx HX hwle
    have hk0 : ¬ em < 0 := by omega
    go_wp2_with fail
    refine (eqNums_yes (NumsAt.list (unhide HG)) (NumsAt.list (unhide HU))).mono ?_
    rintro e w10 ⟨rfl, hb⟩
    replace ka := hide ((unhide ka).below hb (unhide ka).lt)
    replace HU := hide (RecAt.later (unhide HU) hb)
    replace HG := hide (RecAt.later (unhide HG) hb)
    replace BB := hide ((unhide BB).trans (hb.mono (unhide BB).size))
    have hszA : xb + 1 ≤ w10.heap.size := Nat.le_trans hsz9 hb.size
    clear hb hsz9
    go_wp2_with fail
    refine (markNums_any 1 (unhide HG) (by omega) (by omega) (by omega)).mono ?_
    rintro e w11 ⟨rfl, hgm, hg⟩
    have hszB : xb + 1 ≤ w11.heap.size := Nat.le_trans hszA hg.size
    have hwle := (unhide BB).size
    replace HU := hide (RecAt.grown (unhide HU) hg (fun k e e2 => by have h1 := unhide LU k e; have h2 := unhide LG k e2; omega))
    replace ka := hide ((unhide ka).same (hg.block _ (unhide ka).lt (fun e9 => by have h2 := unhide LG _ e9.symm; omega)))
    replace BB := hide ((unhide BB).trans ((Below.refl _ _).grown hg hwle (fun k e => by have h2 := unhide LG k e; omega)))
    replace HG := hide hgm
    clear hgm hg hszA hwle
    go_wp2_with fail
    refine (heldNums_yes 1 L.length (unhide HG) (by omega) (by omega) (by omega)).mono ?_
    rintro e w12 ⟨rfl, hw12⟩
    subst w12
    have hnn : ¬ (1 : Int) + (L.length : Int) < 0 := by omega
    have c0 := (unhide ka).cell (i := 0) (v := .slice a0 m.rooms.length p0) rfl
    have c1 := (unhide ka).cell (i := 1) (v := .slice a1 m.guilds.length p1) rfl
    have c2 := (unhide ka).cell (i := 2) (v := .slice a2 m.smiths.length p2) rfl
    have c3 := (unhide ka).cell (i := 3) (v := .slice a3 m.desks.length p3) rfl
    have c4 := (unhide ka).cell (i := 4) (v := .slice a4 m.paces.length p4) rfl
    have c5 := (unhide ka).cell (i := 5) (v := .int .i64 m.now) rfl
    go_wp2_with fail
    refine (toSmithy_any ((unhide Hv).below (unhide BB)) (unhide Hs)).mono ?_
    rintro e w13 ⟨s0, s1, s2, s3, s4, rfl, ho, hb⟩
    clear c0 c1 c2 c3 c4 c5
    have k13 := ho.smy
    obtain ⟨f0, j0, rfl, _, _⟩ := IsRooms.shape k13.rooms
    obtain ⟨f1, j1, rfl, _, _⟩ := IsRec.shape k13.guilds
    obtain ⟨f2, j2, rfl, _, _⟩ := IsRec.shape k13.smiths
    obtain ⟨f3, j3, rfl, _, _⟩ := IsRec.shape k13.desks
    obtain ⟨f4, j4, rfl, _, _⟩ := IsRec.shape k13.paces
    have K13 := hide k13
    clear k13 ho
    replace ka := hide ((unhide ka).below hb (unhide ka).lt)
    replace HU := hide (RecAt.later (unhide HU) hb)
    replace HG := hide (RecAt.later (unhide HG) hb)
    replace BB := hide ((unhide BB).trans (hb.mono (unhide BB).size))
    have hszC : xb + 1 ≤ w13.heap.size := Nat.le_trans hszB hb.size
    clear hb hszB
    go_wp2_with fail
    refine (unhide HI1 _ _ _ _ _ _ (unhide K13)).mono ?_
    rintro e w14 ⟨v9, rfl, ho9, hb⟩
    obtain ⟨ha9, hc9, rfl⟩ := RecAt.shape ho9
    replace ka := hide ((unhide ka).below hb (unhide ka).lt)
    replace HU := hide (RecAt.later (unhide HU) hb)
    replace HG := hide (RecAt.later (unhide HG) hb)
    replace BB := hide ((unhide BB).trans (hb.mono (unhide BB).size))
    have HH := hide (NumsAt.list ho9)
    clear hb ho9 hszC
    go_wp2_with fail
    refine (eqNums_yes (unhide HH) (NumsAt.list (unhide HU))).mono ?_
    rintro e w15 ⟨rfl, hb⟩
    replace ka := hide ((unhide ka).below hb (unhide ka).lt)
    replace HU := hide (RecAt.later (unhide HU) hb)
    replace HG := hide (RecAt.later (unhide HG) hb)
    replace BB := hide ((unhide BB).trans (hb.mono (unhide BB).size))
    clear hb HH
    go_wp2_with fail
    refine (heldNums_yes 1 L.length (unhide HG) (by omega) (by omega) (by omega)).mono ?_
    rintro e w16 ⟨rfl, hw16⟩
    subst w16
    go_wp2_with fail
    go_ret
    exact ⟨rfl, unhide BB⟩

theorem working_few (m : SmyV) : (workingV m).length ≤ 1000 := by
  unfold workingV
  split
  · rename_i h
    rw [whos_len]
    have := (smy_loose h).sane.eight
    omega
  · simp
theorem walkFnExactWorking (v0 v1 v2 v3 v4 : Value) (m : SmyV) (w : World) (h : Smy w v0 v1 v2 v3 v4 m) :
    Calls Tryz.prog 8 #[.agg #[v0, v1, v2, v3, v4, .int .i64 m.now]] w fun e w' => e = .returned (.bool true) ∧ Below w.heap.size w w' := walkFnExactWorking_of specWorking_any implWorking_any working_few v0 v1 v2 v3 v4 m w h

end Go.Proofs.YtmfmfdiphlkdiaaGreat

