/- What the proof rests on, part 11: lists and numbers, how they lie in memory, and contracts of the calls. No condition but those that a theorem names. -/
import Derived.Test.YtnponpamjddpjabGreatXc01
import Derived.Test.YtnponpamjddpjabGreatXc02
import Derived.Test.YtnponpamjddpjabGreatXc03
import Derived.Test.YtnponpamjddpjabGreatXc04
import Derived.Test.YtnponpamjddpjabGreatXc05
import Derived.Test.YtnponpamjddpjabGreatXc06
import Derived.Test.YtnponpamjddpjabGreatXc07
import Derived.Test.YtnponpamjddpjabGreatXc08
import Derived.Test.YtnponpamjddpjabGreatXc09
import Derived.Test.YtnponpamjddpjabGreatXc10
import Derived.WalkMore
import Derived.RangeFuncCalls
import Derived.Shelf.RegionOpen
import Derived.Deep.RegionWith
import Derived.Lib.QuietBelow
import Derived.Below
import Derived.ChangeKeysEq
import Derived.Laws.StructEq
import Derived.WalkKit
import Derived.ProofKit
import Derived.OpenShut
import Derived.Outline
import Derived.Deep.RegionHeld3
import Derived.Deep.DrawnRows
import Derived.BigRegion
import Derived.Deep.RegionLawGrows
import Derived.Deep.LoopGhost
import Derived.Deep.QuietTactic
import Derived.BigQuiet
import Derived.Laws.OwnMore
import Derived.OwnWalk
import Derived.Maps.AppendAt
import Derived.RangeFuncNested
import Derived.RangeFuncBound
import Derived.RangeFuncLeaves
import Derived.RangeFuncBox
import Derived.Shelf.Abstract
import Derived.OwnWalkIn
import Derived.TacticsInMore
import Derived.LoopNIn
import Derived.LoopIn
import Derived.Lib.SmallJoins
import Derived.Deep.Fields
import Derived.Deep.Slices
import Derived.OrdersHeld
import Derived.Deep.RegionHeldLaw
import Derived.Deep.DeepCutAuto
/- Contracts of the program's queueAt, At, wantOf, WantOf, UsedAt: each answers what the lists say. Conditions: the smithy can be read; what each theorem names. -/
namespace Go.Proofs.YtnponpamjddpjabGreat
open Go.ChangeShapes Go.WideShapes Go.ChangeAt Go.RowKit Go.Sort
set_option linter.unusedVariables false
set_option maxRecDepth 100000

theorem where_at {m : SmyV} {b : Int} {k : Nat} (hk : k < (whereTo (atB b) m.smiths m.smiths.length).length) : ∃ i : Nat, i < m.smiths.length ∧ recAt (whereTo (atB b) m.smiths m.smiths.length) k = (i : Int) := by
  obtain ⟨i, hi, e, _⟩ := (whereTo_mem (atB b) m.smiths _ m.smiths.length).1 (recAt_mem hk)
  exact ⟨i, hi, e⟩
set_option maxHeartbeats 4000000 in
theorem wantOf_w {w : World} {v0 v1 v2 v3 v4 : Value} {m : SmyV} {k : Nat} (h : Smy w v0 v1 v2 v3 v4 m) (hL : Wants m) (hk : k < m.smiths.length) (hs : (recAt m.smiths k).1 ≠ 0) : Calls Tryz.prog 78 #[.agg #[v0, v1, v2, v3, v4, .int .i64 m.now], .int .i64 (k : Int)] w fun e w' => e = .returned (.int .i64 (wantV m (k : Int))) ∧ Below w.heap.size w w' := by
  have hw : wantV m (k : Int) = wantS m.guilds (recAt m.smiths k) := rfl
  rw [hw]
  clear hw
  have Hg0 := hide h.guilds
  obtain ⟨a0, p0, rfl, _, _⟩ := IsRooms.shape h.rooms
  obtain ⟨a1, p1, rfl, _, _⟩ := IsRec.shape h.guilds
  obtain ⟨a2, p2, rfl, hc2, hm2, r2⟩ := h.smiths
  obtain ⟨a3, p3, rfl, _, _⟩ := IsRec.shape h.desks
  obtain ⟨a4, p4, rfl, _, _⟩ := IsRec.shape h.paces
  clear h
  obtain ⟨hg1, hpair⟩ := hL.each k hk hs
  rcases r2 with e0 | ⟨sb, off, rfl, hbw, hcl⟩
  · rw [e0] at hk; simp at hk
  have hk1 : (k : Int) < (m.smiths.length : Int) := by omega
  obtain ⟨d0, d1, d2, d3, d4, d5, d6, d7, d8, d9, d10⟩ := smith_cells hcl hk
  clear hcl hs hL
  generalize recAt m.smiths k = ss at *
  obtain ⟨st, be, rk, my, gu, lo, hi, hd, ca, ut, wk⟩ := ss
  simp only at d0 d1 d2 d3 d4 d5 d6 d7 d8 d9 d10 hg1 hpair
  obtain ⟨nr, hnr⟩ : ∃ nr, narV (bnd m.guilds gu) lo hi = nr := ⟨_, rfl⟩
  have HW : Hid (withinV m.guilds gu lo hi = nr) := hide (by rw [← hnr]; exact withinV_t hg1 hpair)
  have HX : Hid (wantS m.guilds (st, be, rk, my, gu, lo, hi, hd, ca, ut, wk) = min (max ut nr.1) nr.2) := hide (by rw [← hnr]; rfl)
  rw [unhide HX]
  clear hpair hg1 HX hnr
  obtain ⟨nl, nh⟩ := nr
  dsimp only
  have hne : sb ≠ w.heap.size := Nat.ne_of_lt hbw
  have hbw2 : sb < w.heap.size + 1 := by omega
  have BB : Hid (Below w.heap.size w ((w.alloc (.cells #[.slice a0 m.rooms.length p0, .slice a1 m.guilds.length p1, .slice (some ⟨sb, off, none⟩) m.smiths.length p2, .slice a3 m.desks.length p3, .slice a4 m.paces.length p4, .int .i64 m.now] 40)).alloc (.cells #[.int .i64 st, .int .i64 be, .int .i64 rk, .int .i64 my, .int .i64 gu, .int .i64 lo, .int .i64 hi, .int .i64 hd, .int .i64 ca, .int .i64 ut, .int .i64 wk] 75))) := hide (((Below.refl _ _).alloc (Nat.le_refl _) _).alloc (by simp) _)
  have ks : Hid (Blk ((w.alloc (.cells #[.slice a0 m.rooms.length p0, .slice a1 m.guilds.length p1, .slice (some ⟨sb, off, none⟩) m.smiths.length p2, .slice a3 m.desks.length p3, .slice a4 m.paces.length p4, .int .i64 m.now] 40)).alloc (.cells #[.int .i64 st, .int .i64 be, .int .i64 rk, .int .i64 my, .int .i64 gu, .int .i64 lo, .int .i64 hi, .int .i64 hd, .int .i64 ca, .int .i64 ut, .int .i64 wk] 75)) (w.heap.size + 1) 75 #[.int .i64 st, .int .i64 be, .int .i64 rk, .int .i64 my, .int .i64 gu, .int .i64 lo, .int .i64 hi, .int .i64 hd, .int .i64 ca, .int .i64 ut, .int .i64 wk]) := hide (by
    have k9 := Blk.new (w.alloc (.cells #[.slice a0 m.rooms.length p0, .slice a1 m.guilds.length p1, .slice (some ⟨sb, off, none⟩) m.smiths.length p2, .slice a3 m.desks.length p3, .slice a4 m.paces.length p4, .int .i64 m.now] 40)) 75 #[.int .i64 st, .int .i64 be, .int .i64 rk, .int .i64 my, .int .i64 gu, .int .i64 lo, .int .i64 hi, .int .i64 hd, .int .i64 ca, .int .i64 ut, .int .i64 wk]
    rw [World.size_alloc] at k9
    exact k9)
  have kb : Hid (Blk ((w.alloc (.cells #[.slice a0 m.rooms.length p0, .slice a1 m.guilds.length p1, .slice (some ⟨sb, off, none⟩) m.smiths.length p2, .slice a3 m.desks.length p3, .slice a4 m.paces.length p4, .int .i64 m.now] 40)).alloc (.cells #[.int .i64 st, .int .i64 be, .int .i64 rk, .int .i64 my, .int .i64 gu, .int .i64 lo, .int .i64 hi, .int .i64 hd, .int .i64 ca, .int .i64 ut, .int .i64 wk] 75)) w.heap.size 40 #[.slice a0 m.rooms.length p0, .slice a1 m.guilds.length p1, .slice (some ⟨sb, off, none⟩) m.smiths.length p2, .slice a3 m.desks.length p3, .slice a4 m.paces.length p4, .int .i64 m.now]) := hide ((Blk.new w _ _).alloc _)
  have Hg2 := hide ((unhide Hg0).below (unhide BB))
  go_enter Tryz.func78, Tryz.ntmps78
  go_upto_region 2 with fail
  generalize (w.alloc (.cells #[.slice a0 m.rooms.length p0, .slice a1 m.guilds.length p1, .slice (some ⟨sb, off, none⟩) m.smiths.length p2, .slice a3 m.desks.length p3, .slice a4 m.paces.length p4, .int .i64 m.now] 40)).alloc (.cells #[.int .i64 st, .int .i64 be, .int .i64 rk, .int .i64 my, .int .i64 gu, .int .i64 lo, .int .i64 hi, .int .i64 hd, .int .i64 ca, .int .i64 ut, .int .i64 wk] 75) = W at *
  clear d0 d1 d2 d3 d4 d5 d6 d7 d8 d9 d10
  have c1 := (unhide kb).cell (i := 1) (v := .slice a1 m.guilds.length p1) rfl
  have s4 := (unhide ks).cell (i := 4) (v := .int .i64 gu) rfl
  have s5 := (unhide ks).cell (i := 5) (v := .int .i64 lo) rfl
  have s6 := (unhide ks).cell (i := 6) (v := .int .i64 hi) rfl
  go_wp2_with fail
  refine (implWithin_any gu lo hi (unhide Hg2)).mono ?_
  rw [unhide HW]
  rintro e w1 ⟨rfl, hb⟩
  replace ks := hide ((unhide ks).below hb (unhide ks).lt)
  replace BB := hide ((unhide BB).trans (hb.mono (unhide BB).size))
  clear hb c1 s4 s5 s6 HW
  have s9 := (unhide ks).cell (i := 9) (v := .int .i64 ut) rfl
  go_wp2_with (go_at_call 111; refine (implClamped_any _ _ _ _).mono ?_; rintro e w' ⟨rfl, h9⟩; subst w')
  go_ret
  exact ⟨rfl, unhide BB⟩
theorem wantOf_any {w : World} {v0 v1 v2 v3 v4 : Value} {m : SmyV} {k : Nat} (h : Smy w v0 v1 v2 v3 v4 m) (hL : Loose m) (hk : k < m.smiths.length) (hs : (recAt m.smiths k).1 ≠ 0) : Calls Tryz.prog 78 #[.agg #[v0, v1, v2, v3, v4, .int .i64 m.now], .int .i64 (k : Int)] w fun e w' => e = .returned (.int .i64 (wantV m (k : Int))) ∧ Below w.heap.size w w' := wantOf_w h hL.wants hk hs
theorem whoB_has {m : SmyV} (who : Int) : whoB m who = (hasB m.smiths.length who && !((recAt m.smiths who.toNat).1 == 0)) := by unfold whoB; rw [has_in]
set_option maxHeartbeats 4000000 in
theorem implWantOf_any {w : World} {v0 v1 v2 v3 v4 : Value} {m : SmyV} {who q : Int} (hq : wantOfV m who = q) (h : Smy w v0 v1 v2 v3 v4 m) : Calls Tryz.prog 46 #[.agg #[v0, v1, v2, v3, v4, .int .i64 m.now], .int .i64 who] w fun e w' => e = .returned (.int .i64 q) ∧ Below w.heap.size w w' := by
  have Hq := hide hq
  clear hq
  have Hv := hide (h.alloc (.cells #[v0, v1, v2, v3, v4, .int .i64 m.now] 40))
  obtain ⟨a0, p0, rfl, _, _⟩ := IsRooms.shape h.rooms
  obtain ⟨a1, p1, rfl, _, _⟩ := IsRec.shape h.guilds
  obtain ⟨a2, p2, rfl, _, _⟩ := IsRec.shape h.smiths
  obtain ⟨a3, p3, rfl, _, _⟩ := IsRec.shape h.desks
  obtain ⟨a4, p4, rfl, _, _⟩ := IsRec.shape h.paces
  clear h
  have kb : Hid (Blk (w.alloc (.cells #[.slice a0 m.rooms.length p0, .slice a1 m.guilds.length p1, .slice a2 m.smiths.length p2, .slice a3 m.desks.length p3, .slice a4 m.paces.length p4, .int .i64 m.now] 40)) w.heap.size 40 #[.slice a0 m.rooms.length p0, .slice a1 m.guilds.length p1, .slice a2 m.smiths.length p2, .slice a3 m.desks.length p3, .slice a4 m.paces.length p4, .int .i64 m.now]) := hide (Blk.new w _ _)
  have BB : Hid (Below w.heap.size w (w.alloc (.cells #[.slice a0 m.rooms.length p0, .slice a1 m.guilds.length p1, .slice a2 m.smiths.length p2, .slice a3 m.desks.length p3, .slice a4 m.paces.length p4, .int .i64 m.now] 40))) := hide ((Below.refl _ _).alloc (Nat.le_refl _) _)
  obtain ⟨ok, hok⟩ : ∃ q, smyB m = q := ⟨_, rfl⟩
  have Hok := hide hok
  clear hok
  go_enter Tryz.func46, Tryz.ntmps46
  go_wp2_with fail
  generalize w.alloc (.cells #[.slice a0 m.rooms.length p0, .slice a1 m.guilds.length p1, .slice a2 m.smiths.length p2, .slice a3 m.desks.length p3, .slice a4 m.paces.length p4, .int .i64 m.now] 40) = W at *
  refine (implSmithyOk_q _ _ _ _ _ _ _ _ (unhide Hok) (unhide Hv)).mono ?_
  rintro e w1 ⟨rfl, hb⟩
  replace Hv := hide ((unhide Hv).below hb)
  replace kb := hide ((unhide kb).below hb (unhide kb).lt)
  replace BB := hide ((unhide BB).trans (hb.mono (unhide BB).size))
  clear hb
  cases ok
  · obtain rfl : q = -1 := by rw [← unhide Hq]; unfold wantOfV; rw [unhide Hok]; rfl
    go_wp2_with fail
    go_ret
    exact ⟨rfl, unhide BB⟩
  have c0 := (unhide kb).cell (i := 0) (v := .slice a0 m.rooms.length p0) rfl
  have c1 := (unhide kb).cell (i := 1) (v := .slice a1 m.guilds.length p1) rfl
  have c2 := (unhide kb).cell (i := 2) (v := .slice a2 m.smiths.length p2) rfl
  have c3 := (unhide kb).cell (i := 3) (v := .slice a3 m.desks.length p3) rfl
  have c4 := (unhide kb).cell (i := 4) (v := .slice a4 m.paces.length p4) rfl
  have c5 := (unhide kb).cell (i := 5) (v := .int .i64 m.now) rfl
  go_wp2_with fail
  refine (smithsOf_any _ _ _ _ _ _ _ _ _ _ _ _ _ _ _ _ _).mono ?_
  rintro e w2 ⟨rfl, hb⟩
  replace Hv := hide ((unhide Hv).below hb)
  replace kb := hide ((unhide kb).below hb (unhide kb).lt)
  replace BB := hide ((unhide BB).trans (hb.mono (unhide BB).size))
  clear hb c0 c1 c2 c3 c4 c5
  obtain ⟨qh, hqh⟩ : ∃ q, hasB m.smiths.length who = q := ⟨_, rfl⟩
  have Hh := hide hqh
  clear hqh
  go_wp2_with fail
  refine (hasSmith_any _ _ _ who _).mono ?_
  rw [unhide Hh]
  rintro e w3 ⟨rfl, h9⟩
  subst w3
  cases qh
  · obtain rfl : q = -1 := by rw [← unhide Hq]; unfold wantOfV; rw [whoB_has, unhide Hh]; simp
    go_wp2_with fail
    go_ret
    exact ⟨rfl, unhide BB⟩
  have hwb : 0 ≤ who ∧ who < (m.smiths.length : Int) := by have := unhide Hh; unfold hasB at this; simpa using this
  obtain ⟨k, rfl⟩ : ∃ k : Nat, who = k := ⟨who.toNat, by omega⟩
  have hk : k < m.smiths.length := by omega
  have hk1 : (k : Int) < (m.smiths.length : Int) := by omega
  obtain ⟨_, _, hse, _, _, r2⟩ := (unhide Hv).smiths
  cases hse
  rcases r2 with e0 | ⟨sb, off, rfl, hbw, hcl⟩
  · rw [e0] at hk; simp at hk
  obtain ⟨d0, d1, d2, d3, d4, d5, d6, d7, d8, d9, d10⟩ := smith_cells hcl hk
  have c2 := (unhide kb).cell (i := 2) (v := .slice (some ⟨sb, off, none⟩) m.smiths.length p2) rfl
  have HS : Hid (((recAt m.smiths k).1 ≠ 0 → q = wantV m (k : Int)) ∧ ((recAt m.smiths k).1 = 0 → q = -1)) := hide ⟨fun hne => by
      rw [← unhide Hq]; unfold wantOfV; rw [unhide Hok, whoB_has, unhide Hh, Int.toNat_natCast]; simp [hne], fun he => by
      rw [← unhide Hq]; unfold wantOfV; rw [whoB_has, Int.toNat_natCast, he]; simp⟩
  have HW := hide (fun (hne : (recAt m.smiths k).1 ≠ 0) (X : World) (hX : Below w2.heap.size w2 X) => wantOf_any ((unhide Hv).below hX) (smy_loose (unhide Hok)) hk hne)
  clear hcl
  generalize recAt m.smiths k = ss at *
  obtain ⟨st, be, rk, my, gu, lo, hi, hd, ca, ut, wk⟩ := ss
  simp only at d0 d1 d2 d3 d4 d5 d6 d7 d8 d9 d10
  go_wp2_with fail
  refine (isGone_any st be rk my gu lo hi hd ca ut wk _).mono ?_
  rintro e w4 ⟨rfl, hb⟩
  have HB4 := hide hb
  replace kb := hide ((unhide kb).below hb (unhide kb).lt)
  replace BB := hide ((unhide BB).trans (hb.mono (unhide BB).size))
  clear hb c2 d0 d1 d2 d3 d4 d5 d6 d7 d8 d9 d10
  by_cases hst : st = 0
  · subst hst
    obtain rfl : q = -1 := (unhide HS).2 rfl
    go_wp2_with fail
    go_ret
    exact ⟨rfl, unhide BB⟩
  have n0 : (st == 0) = false := by simpa using hst
  rw [n0]
  obtain rfl : q = wantV m (k : Int) := (unhide HS).1 hst
  have c0 := (unhide kb).cell (i := 0) (v := .slice a0 m.rooms.length p0) rfl
  have c1 := (unhide kb).cell (i := 1) (v := .slice a1 m.guilds.length p1) rfl
  have c2 := (unhide kb).cell (i := 2) (v := .slice (some ⟨sb, off, none⟩) m.smiths.length p2) rfl
  have c3 := (unhide kb).cell (i := 3) (v := .slice a3 m.desks.length p3) rfl
  have c4 := (unhide kb).cell (i := 4) (v := .slice a4 m.paces.length p4) rfl
  have c5 := (unhide kb).cell (i := 5) (v := .int .i64 m.now) rfl
  go_wp2_with fail
  refine (unhide HW hst _ (unhide HB4)).mono ?_
  rintro e w5 ⟨rfl, hb⟩
  replace BB := hide ((unhide BB).trans (hb.mono (unhide BB).size))
  clear hb c0 c1 c2 c3 c4 c5
  go_wp2_with fail
  go_ret
  exact ⟨rfl, unhide BB⟩

end Go.Proofs.YtnponpamjddpjabGreat

/- Contracts of the program's usedAt, UsedAt, hasRoom and hasOpen: each answers what the lists say. Conditions: the smithy can be read; what each theorem names. -/
namespace Go.Proofs.YtnponpamjddpjabGreat
open Go.ChangeShapes Go.WideShapes Go.ChangeAt Go.RowKit Go.Sort
set_option linter.unusedVariables false
set_option maxRecDepth 100000

set_option maxHeartbeats 8000000 in
theorem usedAt_any {w : World} {v0 v1 v2 v3 v4 : Value} {m : SmyV} {b q : Int} (hq : usedV m b (-1) = q) (h : Smy w v0 v1 v2 v3 v4 m) (hW : Wants m) (hl : m.smiths.length ≤ 12) : Calls Tryz.prog 65 #[.agg #[v0, v1, v2, v3, v4, .int .i64 m.now], .int .i64 b] w fun e w' => e = .returned (.int .i64 q) ∧ Below w.heap.size w w' := by
  have Hq := hide hq
  clear hq
  have HW := hide hW
  clear hW
  obtain ⟨a0, p0, a1, p1, a2, p2, a3, p3, a4, p4, rfl, rfl, rfl, rfl, rfl, K⟩ := Bx.new h
  clear h
  go_enter Tryz.func65, Tryz.ntmps65
  go_upto_region 2 with fail
  generalize w.alloc (.cells #[.slice a0 m.rooms.length p0, .slice a1 m.guilds.length p1, .slice a2 m.smiths.length p2, .slice a3 m.desks.length p3, .slice a4 m.paces.length p4, .int .i64 m.now] 40) = W at *
  obtain ⟨c0, c1, c2, c3, c4, c5⟩ := K.cells
  go_wp2_with fail
  refine (whoIsAt_any b K.smy (by omega)).mono ?_
  rintro e w1 ⟨vn, rfl, hn, hb⟩
  obtain ⟨na, nc, rfl⟩ := RecAt.shape hn
  have HN := hide hn
  replace K := K.next hb
  clear hb hn c0 c1 c2 c3 c4 c5
  have Hwh := hide (fun k hk => where_at (m := m) (b := b) (k := k) hk)
  have Hat := hide (fun x hx => (whereTo_mem (atB b) m.smiths x m.smiths.length).1 hx)
  have hwl := whereTo_len (atB b) m.smiths m.smiths.length
  rw [← used_where] at Hq
  generalize whereTo (atB b) m.smiths m.smiths.length = ws at *
  go_wp2_with fail
  go_loopw [5, 12] (fun u i wr => ∃ k : Nat, k ≤ ws.length ∧ i = .int .i64 k ∧ u = .int .i64 (sumW m (ws.take k)) ∧ Bx w wr w.heap.size a0 p0 a1 p1 a2 p2 a3 p3 a4 p4 m ∧ Below w1.heap.size w1 wr) (fun _ i _ => ws.length - (intOf i).toNat)
  case atStart => exact ⟨0, Nat.zero_le _, rfl, rfl, K, Below.refl _ _⟩
  case round =>
    obtain ⟨k, hk, rfl, rfl, hK, hb0⟩ := hrel
    clear K
    have K := hK
    have BB := hide hb0
    clear hK hb0
    have hub := sumW_bd m (ws.take k)
    have htl : (ws.take k).length ≤ ws.length := by simp; omega
    by_cases hlt : k < ws.length
    · have hlt1 : (k : Int) < (ws.length : Int) := by omega
      obtain ⟨g, hga, _, hgl, hcl, _⟩ := RecAt.view encNum_len (by omega) (unhide HN) rfl (by omega)
      cases hga
      have z0 := hcl k hlt 0 _ rfl
      simp only [Nat.mul_one, Nat.add_zero] at z0
      have hgw : g < w1.heap.size := hgl
      rw [← (unhide BB).cell (p := ⟨g, k, none⟩) hgw] at z0
      obtain ⟨i, hi, hiw⟩ := unhide Hwh k hlt
      obtain ⟨_, _, hi2, hat⟩ := unhide Hat _ (recAt_mem hlt)
      have hpi : (recAt m.smiths i).1 ≠ 0 := by
        rw [hiw] at hi2
        obtain rfl := Int.ofNat.inj hi2
        intro e
        unfold atB at hat
        rw [e] at hat
        simp at hat
      clear hcl hi2 hat
      have HS : Hid (sumW m (ws.take (k + 1)) = sumW m (ws.take k) + wantV m (i : Int)) := hide (by rw [sumW_step m hlt, hiw])
      rw [hiw] at z0
      have hwb := wantV_bd m (i : Int)
      have HC := hide (fun (X : World) (hX : Smy X (.slice a0 m.rooms.length p0) (.slice a1 m.guilds.length p1) (.slice a2 m.smiths.length p2) (.slice a3 m.desks.length p3) (.slice a4 m.paces.length p4) m) => wantOf_w hX (unhide HW) hi hpi)
      generalize sumW m (ws.take k) = us at *
      generalize wantV m (i : Int) = wa at *
      have hgr : g < wr.heap.size := Nat.lt_of_lt_of_le hgw (unhide BB).size
      obtain ⟨c0, c1, c2, c3, c4, c5⟩ := K.cells
      go_wp2_with fail
      refine (unhide HC _ K.smy).mono ?_
      rintro e w2 ⟨rfl, hb⟩
      replace K := K.next hb
      replace BB := hide ((unhide BB).trans (hb.mono (unhide BB).size))
      clear hb c0 c1 c2 c3 c4 c5 z0
      have hlen12 : (ws.length : Int) ≤ 12 := by omega
      go_wp2_with fail
      go_roundw
      case rel => exact ⟨k + 1, by omega, by go_num, by rw [unhide HS], K, unhide BB⟩
      case measure => simp [intOf]; omega
    · obtain rfl : k = ws.length := by omega
      rw [List.take_length] at *
      obtain rfl : q = sumW m ws := (unhide Hq).symm
      go_wp2_with fail
      go_ret
      exact ⟨rfl, K.bb⟩
theorem hasRooms_any (a : Option Addr) (n cap : Nat) (i : Int) (w : World) : Calls Tryz.prog 62 #[.slice a n cap, .int .i64 i] w fun e w' => e = .returned (.bool (hasB n i)) ∧ w' = w := by
  by_cases h0 : 0 ≤ i
  · by_cases h1 : i < (n : Int)
    all_goals
      go_enter Tryz.func62, Tryz.ntmps62
      go_wp2_with fail
      go_ret
      exact ⟨ret_bool (by unfold hasB; simp [h0, h1]), rfl⟩
  · go_enter Tryz.func62, Tryz.ntmps62
    go_wp2_with fail
    go_ret
    exact ⟨ret_bool (by unfold hasB; simp; omega), rfl⟩
set_option maxHeartbeats 1000000 in
theorem hasRoom_any {w : World} {v0 v1 v2 v3 v4 : Value} {m : SmyV} {r : Int} {q : Bool} (hq : isRoomB m r = q) (h : Smy w v0 v1 v2 v3 v4 m) : Calls Tryz.prog 32 #[.agg #[v0, v1, v2, v3, v4, .int .i64 m.now], .int .i64 r] w fun e w' => e = .returned (.bool q) ∧ Below w.heap.size w w' := by
  have Hq : Hid (hasB m.rooms.length r = q) := hide (by rw [has_in]; exact hq)
  clear hq
  obtain ⟨a0, p0, a1, p1, a2, p2, a3, p3, a4, p4, rfl, rfl, rfl, rfl, rfl, K⟩ := Bx.new h
  clear h
  go_enter Tryz.func32, Tryz.ntmps32
  go_wp2_with fail
  refine (hasRooms_any _ _ _ r _).mono ?_
  rw [unhide Hq]
  rintro e w1 ⟨rfl, h9⟩
  subst w1
  go_wp2_with fail
  go_ret
  exact ⟨rfl, K.bb⟩
set_option maxHeartbeats 4000000 in
theorem hasOpen_any {w : World} {v0 v1 v2 v3 v4 : Value} {m : SmyV} {b : Int} {q : Bool} (hq : openB m b = q) (h : Smy w v0 v1 v2 v3 v4 m) : Calls Tryz.prog 47 #[.agg #[v0, v1, v2, v3, v4, .int .i64 m.now], .int .i64 b] w fun e w' => e = .returned (.bool q) ∧ Below w.heap.size w w' := by
  have Hq := hide hq
  clear hq
  obtain ⟨a0, p0, a1, p1, a2, p2, a3, p3, a4, p4, rfl, rfl, rfl, rfl, rfl, K⟩ := Bx.new h
  clear h
  go_enter Tryz.func47, Tryz.ntmps47
  go_wp2_with fail
  generalize w.alloc (.cells #[.slice a0 m.rooms.length p0, .slice a1 m.guilds.length p1, .slice a2 m.smiths.length p2, .slice a3 m.desks.length p3, .slice a4 m.paces.length p4, .int .i64 m.now] 40) = W at *
  refine (desksOf_any _ _ _ _ _ _ _ _ _ _ _ _ _ _ _ _ _).mono ?_
  rintro e w2 ⟨rfl, hb⟩
  replace K := K.next hb
  clear hb
  obtain ⟨qh, hqh⟩ : ∃ q, hasB m.desks.length b = q := ⟨_, rfl⟩
  have Hh := hide hqh
  clear hqh
  go_wp2_with fail
  refine (hasDesk_any _ _ _ b _).mono ?_
  rw [unhide Hh]
  rintro e w3 ⟨rfl, h9⟩
  subst w3
  cases qh
  · obtain rfl : q = false := by rw [← unhide Hq]; unfold openB; rw [unhide Hh]; rfl
    go_wp2_with fail
    go_ret
    exact ⟨rfl, K.bb⟩
  have hbb : 0 ≤ b ∧ b < (m.desks.length : Int) := by have := unhide Hh; unfold hasB at this; simpa using this
  obtain ⟨k, rfl⟩ : ∃ k : Nat, b = k := ⟨b.toNat, by omega⟩
  have hk : k < m.desks.length := by omega
  have hk1 : (k : Int) < (m.desks.length : Int) := by omega
  obtain ⟨_, _, hde, _, _, r3⟩ := K.smy.desks
  cases hde
  rcases r3 with e0 | ⟨db, off, rfl, hbw, hcl⟩
  · rw [e0] at hk; simp at hk
  obtain ⟨d0, d1, d2⟩ := desk_cells hcl hk
  have hq2 : (recAt m.desks k).1 = q := by rw [← unhide Hq]; unfold openB; rw [unhide Hh, Int.toNat_natCast]; rfl
  clear hcl Hq
  generalize recAt m.desks k = dd at *
  obtain ⟨op, wo, mk⟩ := dd
  simp only at d0 d1 d2 hq2
  subst hq2
  obtain ⟨c0, c1, c2, c3, c4, c5⟩ := K.cells
  go_wp2_with fail
  refine (isOpen_any op wo mk _).mono ?_
  rintro e w4 ⟨rfl, hb⟩
  replace K := K.next hb
  clear hb c0 c1 c2 c3 c4 c5 d0 d1 d2
  go_wp2_with fail
  go_ret
  exact ⟨rfl, K.bb⟩

end Go.Proofs.YtnponpamjddpjabGreat

/- Contracts of PaceFor, CoalFor and LeastCoal, the program's and the model's, at whatever room can be read and whatever numbers: each returns what the lists say and writes into no memory that was there. No other condition. -/
namespace Go.Proofs.YtnponpamjddpjabGreat
open Go.ChangeShapes Go.WideShapes Go.ChangeAt Go.RowKit Go.Sort
set_option linter.unusedVariables false

theorem enough_any (f c need : Int) (w : World) (f0 : 1 ≤ f) (f1 : f ≤ 1024) (n0 : 0 ≤ need) (n1 : need ≤ 1000000) :
    Calls Tryz.prog 171 #[.int .i64 f, .int .i64 need] w fun e w' => e = .returned (.bool (enoughB need (f, c))) ∧ Below w.heap.size w w' :=
  (isEnough_any f need w (by omega) (by omega) n0 (by omega)).mono fun _ _ ⟨he, hw⟩ => ⟨he, hw ▸ Below.refl _ _⟩

set_option maxHeartbeats 1000000 in
theorem slowest_any {w : World} {v : Value} {ps : List PaceV} (b need : Int) (h : IsPaces w v ps) (hr : roomB (b, ps) = true) (hn : inB need 0 1000000 = true) :
    Calls Tryz.prog 143 #[v, .int .i64 need] w fun e w' => e = .returned (.int .i64 (paceN need ps)) ∧ Below w.heap.size w w' := by
  obtain ⟨a, cap, rfl, hc, hm, hrow⟩ := h
  have hbd := room_bd hr
  simp only at hbd
  obtain ⟨_, _, hl1, hl4⟩ := hbd
  obtain ⟨n0, n1⟩ := inB_of hn
  rcases hrow with h0 | ⟨bk, off, rfl, hbw, hcl⟩
  · rw [h0] at hl1; simp at hl1
  have Hcl := hide hcl
  have Hr := hide hr
  clear hcl hr hn
  go_enter Tryz.func143, Tryz.ntmps143
  go_wp2_with fail
  go_step3
  go_wp2_with fail
  go_step3
  go_wp2_with fail
  go_loopw [5] (fun i wr => ∃ k : Nat, k + 1 ≤ ps.length ∧ i = .int .i64 k ∧ (∀ j, j < k → enoughB need (paceAt ps j) = false) ∧ Below w.heap.size w wr) (fun i _ => ps.length - (intOf i).toNat)
  case atStart => exact ⟨0, by omega, rfl, fun j hj => by omega, Below.refl _ _⟩
  case round =>
    obtain ⟨k, hk, rfl, hlo, hb⟩ := hrel
    have Hlo := hide hlo
    have Hb := hide hb
    clear hlo
    by_cases hlast : k + 1 = ps.length
    · clear hb
      have he : (k : Int) = (ps.length : Int) - 1 := by omega
      have Hp := hide (paceN_eq need ps k hk (unhide Hlo) (.inl hlast))
      go_wp2_with fail
      (try rw [Exit.noGoto_ret])
      go_ret
      exact ⟨ret_int (by rw [unhide Hp]), unhide Hb⟩
    · have hne : ¬ (k : Int) = (ps.length : Int) - 1 := by omega
      obtain ⟨c0, c1⟩ := unhide Hcl k (by omega)
      rw [← hb.cell (p := ⟨bk, off + k * 2, none⟩) hbw] at c0
      rw [← hb.cell (p := ⟨bk, off + k * 2 + 1, none⟩) hbw] at c1
      have hpb := room_pace (unhide Hr) (k := k) (show k < ps.length by omega)
      simp only at hpb
      generalize hp : paceAt ps k = p at c0 c1 hpb
      have Hp := hide hp
      clear hp hb
      obtain ⟨f, c⟩ := p
      simp only at c0 c1 hpb
      obtain ⟨f0, f1, _, _⟩ := hpb
      go_wp2_with fail
      refine (enough_any f c need _ f0 f1 n0 n1).mono ?_
      rintro e w1 ⟨rfl, hb1⟩
      have Hb1 := hide hb1
      clear hb1
      cases hen : enoughB need (f, c)
      · go_wp2_with fail
        go_roundw
        case rel => exact ⟨k + 1, by omega, by go_num, next_all (unhide Hlo) (by rw [unhide Hp]; exact hen), (unhide Hb).trans ((unhide Hb1).mono (unhide Hb).size)⟩
        case measure => simp [intOf]; omega
      · have Hq := hide (paceN_eq need ps k hk (unhide Hlo) (.inr (by rw [unhide Hp]; exact hen)))
        go_wp2_with fail
        (try rw [Exit.noGoto_ret])
        go_ret
        exact ⟨ret_int (by rw [unhide Hq]), (unhide Hb).trans ((unhide Hb1).mono (unhide Hb).size)⟩

set_option maxHeartbeats 1000000 in
theorem implPaceFor_any {w : World} {v : Value} {ps : List PaceV} (b need : Int) (h : IsPaces w v ps) :
    Calls Tryz.prog 107 #[.agg #[.int .i64 b, v], .int .i64 need] w fun e w' => e = .returned (.int .i64 (paceForV (b, ps) need)) ∧ Below w.heap.size w w' := by
  have Hv := hide h
  obtain ⟨a, cap, rfl, hc, hm, hrow⟩ := h
  clear hrow
  cases hr : roomB (b, ps)
  · rw [paceForV_f1 hr]
    go_enter Tryz.func107, Tryz.ntmps107
    go_wp2_with fail
    refine (implRoomOk_any b ((unhide Hv).below ((Below.refl _ _).alloc (Nat.le_refl _) _))).mono ?_
    rintro e w1 ⟨rfl, hb⟩
    have B1 : Hid (Below w.heap.size w w1) := hide (((Below.refl _ _).alloc (Nat.le_refl _) _).trans (hb.mono (by simp)))
    clear hb
    go_wp2_with fail
    go_ret
    exact ⟨rfl, unhide B1⟩
  cases hn : inB need 0 1000000
  · rw [paceForV_f2 hn]
    go_enter Tryz.func107, Tryz.ntmps107
    go_wp2_with fail
    refine (implRoomOk_any b ((unhide Hv).below ((Below.refl _ _).alloc (Nat.le_refl _) _))).mono ?_
    rintro e w1 ⟨rfl, hb⟩
    have B1 : Hid (Below w.heap.size w w1) := hide (((Below.refl _ _).alloc (Nat.le_refl _) _).trans (hb.mono (by simp)))
    clear hb
    go_wp2_with (go_at_call 128; refine (liesFrom_any _ _ _ _).mono ?_; rintro e w' ⟨rfl, rfl⟩)
    go_ret
    exact ⟨rfl, unhide B1⟩
  · rw [paceForV_t hr hn]
    have Hr := hide hr
    go_enter Tryz.func107, Tryz.ntmps107
    go_wp2_with fail
    refine (implRoomOk_any b ((unhide Hv).below ((Below.refl _ _).alloc (Nat.le_refl _) _))).mono ?_
    rintro e w1 ⟨rfl, hb⟩
    have x1 : w1.cell? ⟨w.heap.size, 1, none⟩ = some (.slice a ps.length cap) := (hb.cell (p := ⟨w.heap.size, 1, none⟩) (by simp)).trans (by simp)
    have B1 : Hid (Below w.heap.size w w1) := hide (((Below.refl _ _).alloc (Nat.le_refl _) _).trans (hb.mono (by simp)))
    clear hb
    go_wp2_with (go_at_call 128; refine (liesFrom_any _ _ _ _).mono ?_; rintro e w' ⟨rfl, rfl⟩)
    refine (slowest_any b need ((unhide Hv).below (unhide B1)) (unhide Hr) hn).mono ?_
    rintro e w2 ⟨rfl, hb2⟩
    have Hb2 := hide hb2
    clear hb2
    go_wp2_with fail
    go_ret
    exact ⟨rfl, (unhide B1).trans ((unhide Hb2).mono (unhide B1).size)⟩

theorem l5Work_any (x : Int) (w : World) : Calls Tryz.prog 139 #[.int .i64 x] w fun e w' => e = .returned (.bool (inB x 0 1000000)) ∧ w' = w := by
  go_enter Tryz.func139, Tryz.ntmps139
  go_wp2_with (go_at_call 52; refine (l1In_any _ _ _ _).mono ?_; rintro e w' ⟨rfl, rfl⟩)
  go_ret
  exact ⟨rfl, rfl⟩

set_option maxHeartbeats 2000000 in
theorem specPaceFor_any {w : World} {v : Value} {ps : List PaceV} (b need : Int) (h : IsPaces w v ps) :
    Calls Tryz.prog 105 #[.agg #[.int .i64 b, v], .int .i64 need] w fun e w' => e = .returned (.int .i64 (paceForV (b, ps) need)) ∧ Below w.heap.size w w' := by
  have Hv := hide h
  obtain ⟨a, cap, rfl, hc, hm, hrow⟩ := h
  clear hrow
  cases hr : roomB (b, ps)
  · rw [paceForV_f1 hr]
    go_enter Tryz.func105, Tryz.ntmps105
    go_wp2_with fail
    refine (specRoomOk_any b ((unhide Hv).below ((Below.refl _ _).alloc (Nat.le_refl _) _))).mono ?_
    rintro e w1 ⟨rfl, hb⟩
    have B1 : Hid (Below w.heap.size w w1) := hide (((Below.refl _ _).alloc (Nat.le_refl _) _).trans (hb.mono (by simp)))
    clear hb
    go_wp2_with fail
    go_ret
    exact ⟨rfl, unhide B1⟩
  cases hn : inB need 0 1000000
  · rw [paceForV_f2 hn]
    go_enter Tryz.func105, Tryz.ntmps105
    go_wp2_with fail
    refine (specRoomOk_any b ((unhide Hv).below ((Below.refl _ _).alloc (Nat.le_refl _) _))).mono ?_
    rintro e w1 ⟨rfl, hb⟩
    have B1 : Hid (Below w.heap.size w w1) := hide (((Below.refl _ _).alloc (Nat.le_refl _) _).trans (hb.mono (by simp)))
    clear hb
    go_wp2_with (go_at_call 139; refine (l5Work_any _ _).mono ?_; rintro e w' ⟨rfl, rfl⟩)
    go_ret
    exact ⟨rfl, unhide B1⟩
  rw [paceForV_t hr hn]
  have Hr := hide hr
  have hn' := hn
  obtain ⟨n0, n1⟩ := inB_of hn'
  clear hn'
  go_enter Tryz.func105, Tryz.ntmps105
  go_wp2_with fail
  refine (specRoomOk_any b ((unhide Hv).below ((Below.refl _ _).alloc (Nat.le_refl _) _))).mono ?_
  rintro e w1 ⟨rfl, hb⟩
  have x1 : w1.cell? ⟨w.heap.size, 1, none⟩ = some (.slice a ps.length cap) := (hb.cell (p := ⟨w.heap.size, 1, none⟩) (by simp)).trans (by simp)
  have B1 : Hid (Below w.heap.size w w1) := hide (((Below.refl _ _).alloc (Nat.le_refl _) _).trans (hb.mono (by simp)))
  clear hb
  have hv1 := (unhide Hv).below (unhide B1)
  obtain ⟨a', cap', he, _, _, hrow⟩ := hv1
  cases he
  have hbd := room_bd (unhide Hr)
  simp only at hbd
  obtain ⟨_, _, hl1, hl4⟩ := hbd
  rcases hrow with h0 | ⟨bk, off, rfl, hbw, hcl⟩
  · rw [h0] at hl1; simp at hl1
  have Hcl := hide hcl
  clear hcl
  go_wp2_with (go_at_call 139; refine (l5Work_any _ _).mono ?_; rintro e w' ⟨rfl, rfl⟩)
  clear hr hn
  go_loop [5] (fun i => ∃ k : Nat, k + 1 ≤ ps.length ∧ i = .int .i64 k ∧ (∀ j, j < k → enoughB need (paceAt ps j) = false)) (fun i => ps.length - (intOf i).toNat)
  case atStart => exact ⟨0, by omega, rfl, fun j hj => by omega⟩
  case round =>
    obtain ⟨k, hk, rfl, hlo⟩ := hrel
    have Hlo := hide hlo
    clear hlo
    by_cases hlast : k + 1 = ps.length
    · have Hp := hide (paceN_eq need ps k hk (unhide Hlo) (.inl hlast))
      have hd : ¬ (k : Int) + 1 < (ps.length : Int) := by omega
      go_wp2_with fail
      go_ret
      exact ⟨ret_int (by rw [unhide Hp]), unhide B1⟩
    · have hd : (k : Int) + 1 < (ps.length : Int) := by omega
      obtain ⟨c0, c1⟩ := unhide Hcl k (by omega)
      have hpb := room_pace (unhide Hr) (k := k) (show k < ps.length by omega)
      simp only at hpb
      generalize hp : paceAt ps k = p at c0 c1 hpb
      have Hp := hide hp
      clear hp
      obtain ⟨f, c⟩ := p
      simp only at c0 c1 hpb
      obtain ⟨f0, f1, _, _⟩ := hpb
      by_cases hen : 4 * f < 5 * need
      · go_wp2_with fail
        go_round
        case rel => exact ⟨k + 1, by omega, by go_num, next_all (unhide Hlo) (by rw [unhide Hp]; exact enough_f hen)⟩
        case measure => simp [intOf]; omega
      · have Hq := hide (paceN_eq need ps k hk (unhide Hlo) (.inr (by rw [unhide Hp]; exact enough_t (by simp only; omega))))
        go_wp2_with fail
        go_ret
        exact ⟨ret_int (by rw [unhide Hq]), unhide B1⟩

end Go.Proofs.YtnponpamjddpjabGreat

/- Contracts of CoalFor and LeastCoal, the program's and the model's, at whatever room can be read and whatever numbers: each returns what the lists say and writes into no memory that was there. No other condition. -/
namespace Go.Proofs.YtnponpamjddpjabGreat
open Go.ChangeShapes Go.WideShapes Go.ChangeAt Go.RowKit Go.Sort
set_option linter.unusedVariables false

set_option maxHeartbeats 2000000 in
theorem implCoalFor_any {w : World} {v : Value} {ps : List PaceV} (b pace work : Int) (h : IsPaces w v ps) :
    Calls Tryz.prog 106 #[.agg #[.int .i64 b, v], .int .i64 pace, .int .i64 work] w fun e w' => e = .returned (.int .i64 (coalForV (b, ps) pace work)) ∧ Below w.heap.size w w' := by
  have Hv := hide h
  obtain ⟨a, cap, rfl, hc, hm, hrow⟩ := h
  clear hrow
  have hl : (ps.length : Int) ≤ 9223372036854775807 := by omega
  cases hr : roomB (b, ps)
  · rw [coalForV_f1 hr]
    go_enter Tryz.func106, Tryz.ntmps106
    go_wp2_with fail
    refine (implRoomOk_any b ((unhide Hv).below ((Below.refl _ _).alloc (Nat.le_refl _) _))).mono ?_
    rintro e w1 ⟨rfl, hb⟩
    have B1 : Hid (Below w.heap.size w w1) := hide (((Below.refl _ _).alloc (Nat.le_refl _) _).trans (hb.mono (by simp)))
    clear hb
    go_wp2_with fail
    go_ret
    exact ⟨rfl, unhide B1⟩
  by_cases hp0 : pace < 0
  · rw [coalForV_f3 (inB_f (by omega))]
    go_enter Tryz.func106, Tryz.ntmps106
    go_wp2_with fail
    refine (implRoomOk_any b ((unhide Hv).below ((Below.refl _ _).alloc (Nat.le_refl _) _))).mono ?_
    rintro e w1 ⟨rfl, hb⟩
    have B1 : Hid (Below w.heap.size w w1) := hide (((Below.refl _ _).alloc (Nat.le_refl _) _).trans (hb.mono (by simp)))
    clear hb
    go_wp2_with fail
    go_ret
    exact ⟨rfl, unhide B1⟩
  by_cases hp1 : (ps.length : Int) ≤ pace
  · rw [coalForV_f3 (inB_f (by simp only; omega))]
    go_enter Tryz.func106, Tryz.ntmps106
    go_wp2_with fail
    refine (implRoomOk_any b ((unhide Hv).below ((Below.refl _ _).alloc (Nat.le_refl _) _))).mono ?_
    rintro e w1 ⟨rfl, hb⟩
    have x1 : w1.cell? ⟨w.heap.size, 1, none⟩ = some (.slice a ps.length cap) := (hb.cell (p := ⟨w.heap.size, 1, none⟩) (by simp)).trans (by simp)
    have B1 : Hid (Below w.heap.size w w1) := hide (((Below.refl _ _).alloc (Nat.le_refl _) _).trans (hb.mono (by simp)))
    clear hb
    go_wp2_with fail
    go_ret
    exact ⟨rfl, unhide B1⟩
  cases hn : inB work 0 1000000
  · rw [coalForV_f2 hn]
    go_enter Tryz.func106, Tryz.ntmps106
    go_wp2_with fail
    refine (implRoomOk_any b ((unhide Hv).below ((Below.refl _ _).alloc (Nat.le_refl _) _))).mono ?_
    rintro e w1 ⟨rfl, hb⟩
    have x1 : w1.cell? ⟨w.heap.size, 1, none⟩ = some (.slice a ps.length cap) := (hb.cell (p := ⟨w.heap.size, 1, none⟩) (by simp)).trans (by simp)
    have B1 : Hid (Below w.heap.size w w1) := hide (((Below.refl _ _).alloc (Nat.le_refl _) _).trans (hb.mono (by simp)))
    clear hb
    go_wp2_with (go_at_call 128; refine (liesFrom_any _ _ _ _).mono ?_; rintro e w' ⟨rfl, rfl⟩)
    go_ret
    exact ⟨rfl, unhide B1⟩
  rw [coalForV_t hr hn (inB_t (by omega) (by simp only; omega))]
  obtain ⟨k, rfl⟩ := Int.eq_ofNat_of_zero_le (show 0 ≤ pace by omega)
  have hk : k < ps.length := by omega
  rw [Int.toNat_natCast]
  simp only
  generalize hpk : paceAt ps k = p
  have Hpk := hide hpk
  clear hpk
  obtain ⟨f, c⟩ := p
  simp only
  have Hn := hide hn
  go_enter Tryz.func106, Tryz.ntmps106
  go_wp2_with fail
  refine (implRoomOk_any b ((unhide Hv).below ((Below.refl _ _).alloc (Nat.le_refl _) _))).mono ?_
  rintro e w1 ⟨rfl, hb⟩
  have x1 : w1.cell? ⟨w.heap.size, 1, none⟩ = some (.slice a ps.length cap) := (hb.cell (p := ⟨w.heap.size, 1, none⟩) (by simp)).trans (by simp)
  have B1 : Hid (Below w.heap.size w w1) := hide (((Below.refl _ _).alloc (Nat.le_refl _) _).trans (hb.mono (by simp)))
  have hz1 : w.heap.size + 1 ≤ w1.heap.size := by have := hb.size; simpa using this
  clear hb
  have hv1 := (unhide Hv).below (unhide B1)
  obtain ⟨a', cap', he, _, _, hrow⟩ := hv1
  cases he
  rcases hrow with h0 | ⟨bk, off, rfl, hbw, hcl⟩
  · rw [h0] at hk; simp at hk
  obtain ⟨c0, c1⟩ := hcl k hk
  clear hcl
  rw [unhide Hpk] at c0 c1
  simp only at c0 c1
  go_wp2_with (go_at_call 128; refine (liesFrom_any _ _ _ _).mono ?_; rintro e w' ⟨rfl, rfl⟩)
  refine (implMulDiv_any c work f _).mono ?_
  rintro e w2 ⟨rfl, hb2⟩
  have Hb2 := hide hb2
  clear hb2
  go_wp2_with fail
  go_ret
  exact ⟨rfl, (unhide B1).trans (((Below.refl _ _).alloc (unhide B1).size _).trans ((unhide Hb2).mono (by simp; omega)))⟩

set_option maxHeartbeats 2000000 in
theorem specCoalFor_any {w : World} {v : Value} {ps : List PaceV} (b pace work : Int) (h : IsPaces w v ps) :
    Calls Tryz.prog 104 #[.agg #[.int .i64 b, v], .int .i64 pace, .int .i64 work] w fun e w' => e = .returned (.int .i64 (coalForV (b, ps) pace work)) ∧ Below w.heap.size w w' := by
  have Hv := hide h
  obtain ⟨a, cap, rfl, hc, hm, hrow⟩ := h
  clear hrow
  have hl : (ps.length : Int) ≤ 9223372036854775807 := by omega
  cases hr : roomB (b, ps)
  · rw [coalForV_f1 hr]
    go_enter Tryz.func104, Tryz.ntmps104
    go_wp2_with fail
    refine (specRoomOk_any b ((unhide Hv).below ((Below.refl _ _).alloc (Nat.le_refl _) _))).mono ?_
    rintro e w1 ⟨rfl, hb⟩
    have B1 : Hid (Below w.heap.size w w1) := hide (((Below.refl _ _).alloc (Nat.le_refl _) _).trans (hb.mono (by simp)))
    clear hb
    go_wp2_with fail
    go_ret
    exact ⟨rfl, unhide B1⟩
  cases hn : inB work 0 1000000
  · rw [coalForV_f2 hn]
    go_enter Tryz.func104, Tryz.ntmps104
    go_wp2_with fail
    refine (specRoomOk_any b ((unhide Hv).below ((Below.refl _ _).alloc (Nat.le_refl _) _))).mono ?_
    rintro e w1 ⟨rfl, hb⟩
    have B1 : Hid (Below w.heap.size w w1) := hide (((Below.refl _ _).alloc (Nat.le_refl _) _).trans (hb.mono (by simp)))
    clear hb
    go_wp2_with (go_at_call 139; refine (l5Work_any _ _).mono ?_; rintro e w' ⟨rfl, rfl⟩)
    go_ret
    exact ⟨rfl, unhide B1⟩
  cases hp : inB pace 0 ((ps.length : Int) - 1)
  · rw [coalForV_f3 hp]
    go_enter Tryz.func104, Tryz.ntmps104
    go_wp2_with fail
    refine (specRoomOk_any b ((unhide Hv).below ((Below.refl _ _).alloc (Nat.le_refl _) _))).mono ?_
    rintro e w1 ⟨rfl, hb⟩
    have x1 : w1.cell? ⟨w.heap.size, 1, none⟩ = some (.slice a ps.length cap) := (hb.cell (p := ⟨w.heap.size, 1, none⟩) (by simp)).trans (by simp)
    have B1 : Hid (Below w.heap.size w w1) := hide (((Below.refl _ _).alloc (Nat.le_refl _) _).trans (hb.mono (by simp)))
    clear hb
    go_wp2_with (first | (go_at_call 139; refine (l5Work_any _ _).mono ?_; rintro e w' ⟨rfl, rfl⟩) | (go_at_call 52; refine (l1In_any _ _ _ _).mono ?_; rintro e w' ⟨rfl, rfl⟩))
    go_ret
    exact ⟨rfl, unhide B1⟩
  rw [coalForV_t hr hn hp]
  have hpp := inB_of hp
  obtain ⟨hp0, hp1⟩ := hpp
  obtain ⟨k, rfl⟩ := Int.eq_ofNat_of_zero_le hp0
  have hk : k < ps.length := by omega
  rw [Int.toNat_natCast]
  simp only
  generalize hpk : paceAt ps k = p
  have Hpk := hide hpk
  clear hpk
  obtain ⟨f, c⟩ := p
  simp only
  go_enter Tryz.func104, Tryz.ntmps104
  go_wp2_with fail
  refine (specRoomOk_any b ((unhide Hv).below ((Below.refl _ _).alloc (Nat.le_refl _) _))).mono ?_
  rintro e w1 ⟨rfl, hb⟩
  have x1 : w1.cell? ⟨w.heap.size, 1, none⟩ = some (.slice a ps.length cap) := (hb.cell (p := ⟨w.heap.size, 1, none⟩) (by simp)).trans (by simp)
  have B1 : Hid (Below w.heap.size w w1) := hide (((Below.refl _ _).alloc (Nat.le_refl _) _).trans (hb.mono (by simp)))
  clear hb
  have hv1 := (unhide Hv).below (unhide B1)
  obtain ⟨a', cap', he, _, _, hrow⟩ := hv1
  cases he
  rcases hrow with h0 | ⟨bk, off, rfl, hbw, hcl⟩
  · rw [h0] at hk; simp at hk
  obtain ⟨c0, c1⟩ := hcl k hk
  clear hcl
  rw [unhide Hpk] at c0 c1
  simp only at c0 c1
  go_wp2_with (first | (go_at_call 139; refine (l5Work_any _ _).mono ?_; rintro e w' ⟨rfl, rfl⟩) | (go_at_call 52; refine (l1In_any _ _ _ _).mono ?_; rintro e w' ⟨rfl, rfl⟩))
  go_quiet (exact Calls.quiet_of_same (specMulDiv_any _ _ _ _))
  go_wp2_with fail
  go_ret
  exact ⟨rfl, below_drewN (unhide B1) _⟩

set_option maxHeartbeats 1000000 in
theorem implLeastCoal_any {w : World} {v : Value} {ps : List PaceV} (b need work : Int) (h : IsPaces w v ps) :
    Calls Tryz.prog 72 #[.agg #[.int .i64 b, v], .int .i64 need, .int .i64 work] w fun e w' => e = .returned (.int .i64 (leastV (b, ps) need work)) ∧ Below w.heap.size w w' := by
  have Hv := hide h
  obtain ⟨a, cap, rfl, hc, hm, hrow⟩ := h
  clear hrow
  have k0 := cell_regrown (w := w.alloc (.cells #[.int .i64 b, .slice a ps.length cap] 93)) (a := ⟨w.heap.size, 0, none⟩) (v := .int .i64 b) (by simp)
  have k1 := cell_regrown (w := w.alloc (.cells #[.int .i64 b, .slice a ps.length cap] 93)) (a := ⟨w.heap.size, 1, none⟩) (v := .slice a ps.length cap) (by simp)
  have Ha : Hid (IsPaces (w.alloc (.cells #[.int .i64 b, .slice a ps.length cap] 93)) (.slice a ps.length cap) ps) := hide ((unhide Hv).below ((Below.refl _ _).alloc (Nat.le_refl _) _))
  go_enter Tryz.func72, Tryz.ntmps72
  go_wp2_with fail
  refine wp_region_quiet_below (by kernel_rfl) (by kernel_rfl) ?_
  repeat (go_big_quiet_step (first | exact Calls.regrown_of (implPaceFor_any b need ((unhide Ha).below (below_regrown _ _ _))) | exact Calls.regrown_of (implCoalFor_any b _ work ((unhide Ha).below (below_regrown _ _ _)))))
  refine wpQuiet_nil ?_
  intro _ hw'
  obtain ⟨⟨dq, osq⟩, hw''⟩ := hw'
  subst hw''
  go_wp2_with fail
  go_ret
  exact ⟨rfl, ((Below.refl _ _).alloc (Nat.le_refl _) _).trans ((below_regrown _ _ _).mono (by simp))⟩

set_option maxHeartbeats 1000000 in
theorem specLeastCoal_any {w : World} {v : Value} {ps : List PaceV} (b need work : Int) (h : IsPaces w v ps) :
    Calls Tryz.prog 70 #[.agg #[.int .i64 b, v], .int .i64 need, .int .i64 work] w fun e w' => e = .returned (.int .i64 (leastV (b, ps) need work)) ∧ Below w.heap.size w w' := by
  have Hv := hide h
  obtain ⟨a, cap, rfl, hc, hm, hrow⟩ := h
  clear hrow
  have k0 := cell_regrown (w := w.alloc (.cells #[.int .i64 b, .slice a ps.length cap] 93)) (a := ⟨w.heap.size, 0, none⟩) (v := .int .i64 b) (by simp)
  have k1 := cell_regrown (w := w.alloc (.cells #[.int .i64 b, .slice a ps.length cap] 93)) (a := ⟨w.heap.size, 1, none⟩) (v := .slice a ps.length cap) (by simp)
  have Ha : Hid (IsPaces (w.alloc (.cells #[.int .i64 b, .slice a ps.length cap] 93)) (.slice a ps.length cap) ps) := hide ((unhide Hv).below ((Below.refl _ _).alloc (Nat.le_refl _) _))
  go_enter Tryz.func70, Tryz.ntmps70
  go_wp2_with fail
  refine wp_region_quiet_below (by kernel_rfl) (by kernel_rfl) ?_
  repeat (go_big_quiet_step (first | exact Calls.regrown_of (specPaceFor_any b need ((unhide Ha).below (below_regrown _ _ _))) | exact Calls.regrown_of (specCoalFor_any b _ work ((unhide Ha).below (below_regrown _ _ _)))))
  refine wpQuiet_nil ?_
  intro _ hw'
  obtain ⟨⟨dq, osq⟩, hw''⟩ := hw'
  subst hw''
  go_wp2_with fail
  go_ret
  exact ⟨rfl, ((Below.refl _ _).alloc (Nat.le_refl _) _).trans ((below_regrown _ _ _).mono (by simp))⟩

end Go.Proofs.YtnponpamjddpjabGreat

/- Contracts of the program's needIn and workIn (which range over the benches of a room): each answers what the lists say. Conditions: the smithy can be read; what each theorem names. -/
namespace Go.Proofs.YtnponpamjddpjabGreat
open Go.ChangeShapes Go.WideShapes Go.ChangeAt Go.RowKit Go.Sort Go.Shelf
set_option linter.unusedVariables false
set_option maxRecDepth 100000
attribute [local go_sem] Oper.semAt_some

/-- Only new memory differs: nothing that another loop holds is touched. -/
theorem below_others {W X : World} (h : Below W.heap.size W X) : KeepsOthers W X := ⟨h.size, fun k o hk _ => (h.block k (Array.getElem?_eq_some_iff.1 hk).1).trans hk⟩
theorem below_boxes {W X : World} (h : Below W.heap.size W X) {B : Nat} {t : TypeId} : KeepsBox B t W X := fun v hv => (h.block B hv.lt).trans hv
theorem below_boxed {W X : World} (h : Below W.heap.size W X) {B : Nat} {t : TypeId} {v : Value} (hv : Boxed W B t v) : Boxed X B t v := (h.block B hv.lt).trans hv
/-- What a round over the benches holds: the sum's box, the smithy's box. -/
def Rnd (w : World) (f : List Int → Int) (a0 : Option Addr) (p0 : Nat) (a1 : Option Addr) (p1 : Nat) (a2 : Option Addr) (p2 : Nat) (a3 : Option Addr) (p3 : Nat) (a4 : Option Addr) (p4 : Nat) (m : SmyV) (pre : List Int) (W : World) : Prop := Boxed W (w.heap.size + 1) 2 (.int .i64 (f pre)) ∧ Bx w W w.heap.size a0 p0 a1 p1 a2 p2 a3 p3 a4 p4 m
theorem rnd_own (w : World) (f : List Int → Int) (a0 : Option Addr) (p0 : Nat) (a1 : Option Addr) (p1 : Nat) (a2 : Option Addr) (p2 : Nat) (a3 : Option Addr) (p3 : Nat) (a4 : Option Addr) (p4 : Nat) (m : SmyV) (hs : Smy w (.slice a0 m.rooms.length p0) (.slice a1 m.guilds.length p1) (.slice a2 m.smiths.length p2) (.slice a3 m.desks.length p3) (.slice a4 m.paces.length p4) m) {B : Nat} (hB : w.heap.size ≤ B) : OwnFrom B (Rnd w f a0 p0 a1 p1 a2 p2 a3 p3 a4 p4 m) := by
  rintro pre W X row ⟨h1, h2⟩ hg hr
  have h4 := h2.bb.grown hg h2.bb.size (fun k e => Nat.le_trans hB (hr k e).1)
  refine ⟨h1.kept hg (fun e => ?_), hs.below h4, (hg.block _ h2.blk.lt (fun e => ?_)).trans h2.blk, h4⟩
  · obtain ⟨_, o, ho, hc⟩ := hr _ e.symm
    rw [show W.heap[w.heap.size + 1]? = _ from h1] at ho; cases ho; cases hc
  · obtain ⟨_, o, ho, hc⟩ := hr _ e.symm
    rw [show W.heap[w.heap.size]? = _ from h2.blk] at ho; cases ho; cases hc

/-- A round has written the sum. -/
theorem rnd_step {w W W1 W2 : World} {f : List Int → Int} {a0 a1 a2 a3 a4 : Option Addr} {p0 p1 p2 p3 p4 : Nat} {m : SmyV} {pre : List Int} {x v nl : Int} {B S : Nat} (hs : Smy w (.slice a0 m.rooms.length p0) (.slice a1 m.guilds.length p1) (.slice a2 m.smiths.length p2) (.slice a3 m.desks.length p3) (.slice a4 m.paces.length p4) m) (hko : KeepsOthers W W1) (hkb : KeepsBox S 2 W W1) (hb : Below W1.heap.size W1 W2) (hv : Boxed W1 (w.heap.size + 1) 2 (.int .i64 nl)) (hK : Bx w W1 w.heap.size a0 p0 a1 p1 a2 p2 a3 p3 a4 p4 m) (hS : w.heap.size + 1 < S) (e : f (pre ++ [x]) = v) :
    KeepsFrom B W (W2.setCell ⟨w.heap.size + 1, 0, none⟩ (.int .i64 v)) ∧ KeepsBox S 2 W (W2.setCell ⟨w.heap.size + 1, 0, none⟩ (.int .i64 v)) ∧ Rnd w f a0 p0 a1 p1 a2 p2 a3 p3 a4 p4 m (pre ++ [x]) (W2.setCell ⟨w.heap.size + 1, 0, none⟩ (.int .i64 v)) := by
  have hK2 := hK.next hb
  have hbb : Below w.heap.size w (W2.setCell ⟨w.heap.size + 1, 0, none⟩ (.int .i64 v)) := hK2.bb.setCell (p := ⟨w.heap.size + 1, 0, none⟩) (Nat.le_succ _) _
  refine ⟨((hko.trans (below_others hb)).trans (KeepsOthers.setCell _ _ _)).from _, fun u hu => (below_boxed hb (hkb u hu)).other (by omega) _, ?_, hs.below hbb, hK2.blk.other (a := ⟨w.heap.size + 1, 0, none⟩) (by show w.heap.size ≠ w.heap.size + 1; omega) _, hbb⟩
  rw [e]
  exact (below_boxed hb hv).set _

set_option maxHeartbeats 8000000 in
theorem needIn_in (n : Nat) (hn : 3 ≤ n) {w : World} {v0 v1 v2 v3 v4 : Value} {m : SmyV} {r : Nat} (h : Smy w v0 v1 v2 v3 v4 m) (hS : Sane m) (hW : Wants m) (hr : r < m.rooms.length) : CallsIn Fence.wide n Tryz.prog 33 #[.agg #[v0, v1, v2, v3, v4, .int .i64 m.now], .int .i64 (r : Int)] w fun e w' => e = .returned (.int .i64 (needL m (mems (setV m.rooms (r : Int))))) ∧ Below w.heap.size w w' := by
  have h1 : 1 ≤ n := by omega
  have hmo : Tryz.prog.follows .mixedOrders = true := by kernel_rfl
  have hl := hS.few
  have HW := hide hW
  have Hs := hide h
  clear hS hW
  obtain ⟨a0, p0, a1, p1, a2, p2, a3, p3, a4, p4, rfl, rfl, rfl, rfl, rfl, K⟩ := Bx.new h
  clear h
  obtain ⟨st, hst⟩ : ∃ st, setV m.rooms (r : Int) = st := ⟨_, rfl⟩
  rw [hst]
  have Hst := hide hst
  clear hst
  refine callsIn_of_wp_marks Tryz.func33 rfl trivial ?_ rfl
  simp only [Tryz.ntmps33, List.size_toArray, List.length_cons, List.length_nil, Nat.reduceAdd, Nat.reduceSub, Array.replicate_succ, Array.replicate_zero, List.push_toArray, List.append_toArray, List.nil_append, List.cons_append]
  gi_wp2_with fail
  have bN := Boxed.new (w.alloc (.cells #[.slice a0 m.rooms.length p0, .slice a1 m.guilds.length p1, .slice a2 m.smiths.length p2, .slice a3 m.desks.length p3, .slice a4 m.paces.length p4, .int .i64 m.now] 40)) 2 (.int .i64 0)
  rw [World.size_alloc] at bN
  replace K := K.alloc (.cells #[.int .i64 0] 2)
  generalize (w.alloc (.cells #[.slice a0 m.rooms.length p0, .slice a1 m.guilds.length p1, .slice a2 m.smiths.length p2, .slice a3 m.desks.length p3, .slice a4 m.paces.length p4, .int .i64 m.now] 40)).alloc (.cells #[.int .i64 0] 2) = W0 at *
  refine ⟨trivial, ?_⟩
  refine (callsIn_wide.2 (implBenchSet_any (r : Int) K.smy.rooms)).mono ?_
  rw [unhide Hst]
  rintro e w1 ⟨rfl, hb⟩
  dsimp only
  replace bN := below_boxed hb bN
  replace K := K.next hb
  clear hb Hst
  gi_wp2_with (refine ⟨trivial, ?_⟩; gi_at_call 63; refine (membersOf_in (n - 1) _ _).mono ?_; rintro e w' ⟨rfl, rfl⟩)
  have bS := Boxed.new w1 2 (.int .i64 st)
  have hsz := K.bb.size
  refine wpIn_rangeFunc_ownG rfl h1 (gf := 98) (lb := #[.pointer (some ⟨w1.heap.size, 0, none⟩)]) rfl trivial (enters_of Tryz.func98 (by kernel_rfl) rfl)
    (members_stops (n - 1) (by omega) w1.heap.size st _ bS) (fun h k => h.trans k) (KeepsBox.putObj (by simp)) (Below.refl _ _) (fun _ => rfl)
    (Rnd w (needL m) a0 p0 a1 p1 a2 p2 a3 p3 a4 p4 m) (fun _ _ _ => False)
    (rnd_own w (needL m) a0 p0 a1 p1 a2 p2 a3 p3 a4 p4 m (unhide Hs) (by simp; omega))
    (fun _ _ _ _ _ hs _ _ => hs)
    ⟨bN.alloc _, K.alloc _⟩
    (fun x => { tmps := #[.agg #[.slice a0 m.rooms.length p0, .slice a1 m.guilds.length p1, .slice a2 m.smiths.length p2, .slice a3 m.desks.length p3, .slice a4 m.paces.length p4, .int .i64 m.now], .int .i64 (r : Int), .pointer (some ⟨w.heap.size, 0, none⟩), undef, .int .i64 0, .pointer (some ⟨w.heap.size + 1, 0, none⟩), .int .i64 x, .pointer (some ⟨w.heap.size, 0, none⟩), .agg #[.slice a0 m.rooms.length p0], .int .i64 (r : Int), .int .i64 st, .func (.func 98) #[] #[.pointer (some ⟨w1.heap.size, 0, none⟩)], .int .i64 x, undef, undef, undef, undef, undef, undef, undef, undef, undef], defers := [] }) ?assign ?body ?done ?stop
  case assign =>
    intro l x W K hK
    gi_wp2
    exact hK
  case body =>
    rintro l pre x W ⟨hv, hK⟩ hlt
    have hc := hv.cell
    have hf := hv.frozen
    obtain ⟨c0, c1, c2, c3, c4, c5⟩ := hK.cells
    obtain ⟨us, hus⟩ : ∃ q, usedV m x (-1) = q := ⟨_, rfl⟩
    have hub := usedV_bd m x (-1)
    rw [hus] at hub
    have Hus := hide hus
    obtain ⟨q, hq⟩ : ∃ q, openB m x = q := ⟨_, rfl⟩
    have HN := hide (needL_snoc m pre x)
    have hnb := needL_bd m hl pre
    rw [hq, hus] at HN
    clear hus
    generalize needL m pre = nl at *
    gi_wp2_with fail
    refine ⟨trivial, fun _ => (by omega), ?_⟩
    refine (CallsIn.inRound l (callsIn_wide.2 (hasOpen_any hq hK.smy))).mono ?_
    rintro e W1 ⟨rfl, hb⟩
    dsimp only
    have hko := below_others hb
    have hkb := below_boxes hb (B := w1.heap.size) (t := 2)
    replace hv := below_boxed hb hv
    replace hK := hK.next hb
    clear hb hc hf c0 c1 c2 c3 c4 c5
    cases q
    · gi_wp2_with fail
      exact ⟨hko.from _, hkb, by rw [show Rnd w (needL m) a0 p0 a1 p1 a2 p2 a3 p3 a4 p4 m (pre ++ [x]) W1 = (Boxed W1 (w.heap.size + 1) 2 (.int .i64 (needL m (pre ++ [x]))) ∧ Bx w W1 w.heap.size a0 p0 a1 p1 a2 p2 a3 p3 a4 p4 m) from rfl, unhide HN]; exact ⟨hv, hK⟩⟩
    have hc := hv.cell
    have hf := hv.frozen
    obtain ⟨c0, c1, c2, c3, c4, c5⟩ := hK.cells
    gi_wp2_with fail
    gi_region_with_o (refine ⟨trivial, fun _ => (by omega), ?_⟩; gi_at_call 65; refine (CallsIn.inRound l (callsIn_wide.2 (usedAt_any (unhide Hus) ?_ (unhide HW) hl))).mono ?_; exact hK.smy.below (Below.refl _ _).drew; rintro e W2 ⟨rfl, hb2⟩; have Hb2 : Hid (Below W1.heap.size W1 W2) := hide ⟨hb2.os, hb2.tape, hb2.output, hb2.size, hb2.block⟩; have hv2 := below_boxed (unhide Hb2) hv; have hc2 := hv2.cell; have hf2 := hv2.frozen; clear hb2)
    all_goals
      exact rnd_step (unhide Hs) hko hkb (unhide Hb2) hv hK bN.lt (by rw [unhide HN]; simp only [if_true]; omega)
  case done =>
    rintro D ys W hD rfl ⟨hv, hK⟩ hDf
    have hc := hv.cell
    gi_wp2
    refine ⟨by simp, .inl ⟨_, _, rfl, run_takeDeferred hDf, ?_⟩⟩
    exact ⟨_, results_tmp rfl _ _ _, rfl, hK.bb.trans (belowK_b (w := w) (Nat.le_refl _) W D _ _ (by simp at hD; omega) hDf rfl rfl)⟩
  case stop =>
    rintro D c pre W _ _ h _
    exact h.elim
theorem needIn_any {w : World} {v0 v1 v2 v3 v4 : Value} {m : SmyV} {r : Nat} (h : Smy w v0 v1 v2 v3 v4 m) (hS : Sane m) (hW : Wants m) (hr : r < m.rooms.length) : Calls Tryz.prog 33 #[.agg #[v0, v1, v2, v3, v4, .int .i64 m.now], .int .i64 (r : Int)] w fun e w' => e = .returned (.int .i64 (needL m (mems (setV m.rooms (r : Int))))) ∧ Below w.heap.size w w' := callsIn_wide.1 (needIn_in 3 (Nat.le_refl _) h hS hW hr)
set_option maxHeartbeats 8000000 in
theorem workIn_in (n : Nat) (hn : 3 ≤ n) {w : World} {v0 v1 v2 v3 v4 : Value} {m : SmyV} {r : Nat} (h : Smy w v0 v1 v2 v3 v4 m) (hS : Sane m) (hW : Wants m) (hr : r < m.rooms.length) : CallsIn Fence.wide n Tryz.prog 73 #[.agg #[v0, v1, v2, v3, v4, .int .i64 m.now], .int .i64 (r : Int)] w fun e w' => e = .returned (.int .i64 (workL m (mems (setV m.rooms (r : Int))))) ∧ Below w.heap.size w w' := by
  have h1 : 1 ≤ n := by omega
  have hmo : Tryz.prog.follows .mixedOrders = true := by kernel_rfl
  have hl := hS.few
  have HW := hide hW
  have Hs := hide h
  clear hS hW
  obtain ⟨a0, p0, a1, p1, a2, p2, a3, p3, a4, p4, rfl, rfl, rfl, rfl, rfl, K⟩ := Bx.new h
  clear h
  obtain ⟨st, hst⟩ : ∃ st, setV m.rooms (r : Int) = st := ⟨_, rfl⟩
  rw [hst]
  have Hst := hide hst
  clear hst
  refine callsIn_of_wp_marks Tryz.func73 rfl trivial ?_ rfl
  simp only [Tryz.ntmps73, List.size_toArray, List.length_cons, List.length_nil, Nat.reduceAdd, Nat.reduceSub, Array.replicate_succ, Array.replicate_zero, List.push_toArray, List.append_toArray, List.nil_append, List.cons_append]
  gi_wp2_with fail
  have bN := Boxed.new (w.alloc (.cells #[.slice a0 m.rooms.length p0, .slice a1 m.guilds.length p1, .slice a2 m.smiths.length p2, .slice a3 m.desks.length p3, .slice a4 m.paces.length p4, .int .i64 m.now] 40)) 2 (.int .i64 0)
  rw [World.size_alloc] at bN
  replace K := K.alloc (.cells #[.int .i64 0] 2)
  generalize (w.alloc (.cells #[.slice a0 m.rooms.length p0, .slice a1 m.guilds.length p1, .slice a2 m.smiths.length p2, .slice a3 m.desks.length p3, .slice a4 m.paces.length p4, .int .i64 m.now] 40)).alloc (.cells #[.int .i64 0] 2) = W0 at *
  refine ⟨trivial, ?_⟩
  refine (callsIn_wide.2 (implBenchSet_any (r : Int) K.smy.rooms)).mono ?_
  rw [unhide Hst]
  rintro e w1 ⟨rfl, hb⟩
  dsimp only
  replace bN := below_boxed hb bN
  replace K := K.next hb
  clear hb Hst
  gi_wp2_with (refine ⟨trivial, ?_⟩; gi_at_call 63; refine (membersOf_in (n - 1) _ _).mono ?_; rintro e w' ⟨rfl, rfl⟩)
  have bS := Boxed.new w1 2 (.int .i64 st)
  have hsz := K.bb.size
  refine wpIn_rangeFunc_ownG rfl h1 (gf := 98) (lb := #[.pointer (some ⟨w1.heap.size, 0, none⟩)]) rfl trivial (enters_of Tryz.func98 (by kernel_rfl) rfl)
    (members_stops (n - 1) (by omega) w1.heap.size st _ bS) (fun h k => h.trans k) (KeepsBox.putObj (by simp)) (Below.refl _ _) (fun _ => rfl)
    (Rnd w (workL m) a0 p0 a1 p1 a2 p2 a3 p3 a4 p4 m) (fun _ _ _ => False)
    (rnd_own w (workL m) a0 p0 a1 p1 a2 p2 a3 p3 a4 p4 m (unhide Hs) (by simp; omega))
    (fun _ _ _ _ _ hs _ _ => hs)
    ⟨bN.alloc _, K.alloc _⟩
    (fun x => { tmps := #[.agg #[.slice a0 m.rooms.length p0, .slice a1 m.guilds.length p1, .slice a2 m.smiths.length p2, .slice a3 m.desks.length p3, .slice a4 m.paces.length p4, .int .i64 m.now], .int .i64 (r : Int), .pointer (some ⟨w.heap.size, 0, none⟩), undef, .int .i64 0, .pointer (some ⟨w.heap.size + 1, 0, none⟩), .int .i64 x, .pointer (some ⟨w.heap.size, 0, none⟩), .agg #[.slice a0 m.rooms.length p0], .int .i64 (r : Int), .int .i64 st, .func (.func 98) #[] #[.pointer (some ⟨w1.heap.size, 0, none⟩)], .int .i64 x, undef, undef, undef, undef, undef, undef], defers := [] }) ?assign ?body ?done ?stop
  case assign =>
    intro l x W K hK
    gi_wp2
    exact hK
  case body =>
    rintro l pre x W ⟨hv, hK⟩ hlt
    have hc := hv.cell
    have hf := hv.frozen
    obtain ⟨c0, c1, c2, c3, c4, c5⟩ := hK.cells
    obtain ⟨us, hus⟩ : ∃ q, usedV m x (-1) = q := ⟨_, rfl⟩
    have hub := usedV_bd m x (-1)
    rw [hus] at hub
    have Hus := hide hus
    have HN := hide (workL_snoc m pre x)
    have hnb := workL_bd m hl pre
    rw [hus] at HN
    clear hus
    generalize workL m pre = nl at *
    obtain ⟨W1, hW1⟩ : ∃ X, X = W := ⟨_, rfl⟩
    subst hW1
    have hwr : IntKind.i64.wrap (nl + us) = nl + us := by rw [IntKind.wrap_i64]; omega
    gi_wp2_with fail
    gi_region_with_o (refine ⟨trivial, fun _ => (by omega), ?_⟩; gi_at_call 65; refine (CallsIn.inRound l (callsIn_wide.2 (usedAt_any (unhide Hus) ?_ (unhide HW) hl))).mono ?_; exact hK.smy.below (Below.refl _ _).drew; rintro e W2 ⟨rfl, hb2⟩; have Hb2 : Hid (Below W1.heap.size W1 W2) := hide ⟨hb2.os, hb2.tape, hb2.output, hb2.size, hb2.block⟩; have hv2 := below_boxed (unhide Hb2) hv; have hc2 := hv2.cell; have hf2 := hv2.frozen; clear hb2)
    all_goals
      exact rnd_step (unhide Hs) (KeepsOthers.refl _) (fun _ h => h) (unhide Hb2) hv hK bN.lt (by rw [unhide HN])
  case done =>
    rintro D ys W hD rfl ⟨hv, hK⟩ hDf
    have hc := hv.cell
    gi_wp2
    refine ⟨by simp, .inl ⟨_, _, rfl, run_takeDeferred hDf, ?_⟩⟩
    exact ⟨_, results_tmp rfl _ _ _, rfl, hK.bb.trans (belowK_b (w := w) (Nat.le_refl _) W D _ _ (by simp at hD; omega) hDf rfl rfl)⟩
  case stop =>
    rintro D c pre W _ _ h _
    exact h.elim
theorem workIn_any {w : World} {v0 v1 v2 v3 v4 : Value} {m : SmyV} {r : Nat} (h : Smy w v0 v1 v2 v3 v4 m) (hS : Sane m) (hW : Wants m) (hr : r < m.rooms.length) : Calls Tryz.prog 73 #[.agg #[v0, v1, v2, v3, v4, .int .i64 m.now], .int .i64 (r : Int)] w fun e w' => e = .returned (.int .i64 (workL m (mems (setV m.rooms (r : Int))))) ∧ Below w.heap.size w w' := callsIn_wide.1 (workIn_in 3 (Nat.le_refl _) h hS hW hr)

end Go.Proofs.YtnponpamjddpjabGreat

/- Contracts of the program's costsIn, together, NeedIn, CoalIn and CoalOf: each answers what the lists say. Conditions: the smithy can be read; what each theorem names. -/
namespace Go.Proofs.YtnponpamjddpjabGreat
open Go.ChangeShapes Go.WideShapes Go.ChangeAt Go.RowKit Go.Sort Go.Shelf
set_option linter.unusedVariables false
set_option maxRecDepth 100000

theorem Bx.of {w : World} {a0 a1 a2 a3 a4 : Option Addr} {p0 p1 p2 p3 p4 : Nat} {m : SmyV} (h : Smy w (.slice a0 m.rooms.length p0) (.slice a1 m.guilds.length p1) (.slice a2 m.smiths.length p2) (.slice a3 m.desks.length p3) (.slice a4 m.paces.length p4) m) : Bx w (w.alloc (.cells #[.slice a0 m.rooms.length p0, .slice a1 m.guilds.length p1, .slice a2 m.smiths.length p2, .slice a3 m.desks.length p3, .slice a4 m.paces.length p4, .int .i64 m.now] 40)) w.heap.size a0 p0 a1 p1 a2 p2 a3 p3 a4 p4 m := ⟨h.alloc _, Blk.new _ _ _, (Below.refl _ _).alloc (Nat.le_refl _) _⟩
theorem costsIn_any {w : World} {a0 a1 a2 a3 a4 : Option Addr} {p0 p1 p2 p3 p4 : Nat} {m : SmyV} (h : Smy w (.slice a0 m.rooms.length p0) (.slice a1 m.guilds.length p1) (.slice a2 m.smiths.length p2) (.slice a3 m.desks.length p3) (.slice a4 m.paces.length p4) m) : Calls Tryz.prog 40 #[.agg #[.slice a0 m.rooms.length p0, .slice a1 m.guilds.length p1, .slice a2 m.smiths.length p2, .slice a3 m.desks.length p3, .slice a4 m.paces.length p4, .int .i64 m.now]] w fun e w' => e = .returned (.func (Fn.func 71) #[] #[.pointer (some ⟨w.heap.size, 0, none⟩)]) ∧ Bx w w' w.heap.size a0 p0 a1 p1 a2 p2 a3 p3 a4 p4 m := by
  have K := Bx.of h
  clear h
  go_enter Tryz.func40, Tryz.ntmps40
  go_wp2_with fail
  go_ret
  exact ⟨rfl, K⟩
set_option maxHeartbeats 8000000 in
theorem costs1_any {w0 w : World} {R r : Nat} {a0 a1 a2 a3 a4 : Option Addr} {p0 p1 p2 p3 p4 : Nat} {m : SmyV} (K : Bx w0 w R a0 p0 a1 p1 a2 p2 a3 p3 a4 p4 m) (hS : Sane m) (hW : Wants m) (hr : r < m.rooms.length) : Calls Tryz.prog 71 #[.int .i64 (r : Int), .pointer (some ⟨R, 0, none⟩)] w fun e w' => e = .returned (.int .i64 (coalIn m r)) ∧ Below w.heap.size w w' := by
  have hr1 : (r : Int) < (m.rooms.length : Int) := by omega
  have HM := hide (room_mems hS hr)
  have HN := hide (fun (X : World) (hX : Below w.heap.size w X) => needIn_any (K.smy.below hX) hS hW hr)
  have HK := hide (fun (X : World) (hX : Below w.heap.size w X) => workIn_any (K.smy.below hX) hS hW hr)
  clear hS hW
  have Hc : Hid (coalIn m r = leastV (roomAt m.rooms r) (needL m (mems (setV m.rooms (r : Int)))) (workL m (mems (setV m.rooms (r : Int))))) := hide (by rw [(unhide HM).1, (unhide HM).2]; rfl)
  rw [unhide Hc]
  clear Hc HM
  obtain ⟨_, _, hre, _, _, r0⟩ := K.smy.rooms
  cases hre
  rcases r0 with e0 | ⟨rb, off, rfl, hbw, hcl⟩
  · rw [e0] at hr; simp at hr
  obtain ⟨d0, pv, d1, hpv⟩ := hcl r hr
  clear hcl
  generalize needL m (mems (setV m.rooms (r : Int))) = ne at *
  generalize workL m (mems (setV m.rooms (r : Int))) = wo at *
  obtain ⟨⟨n, ps⟩, hrm⟩ : ∃ x, roomAt m.rooms r = x := ⟨_, rfl⟩
  rw [hrm] at d0 hpv ⊢
  clear hrm
  simp only at d0 hpv
  have Hpv := hide hpv
  obtain ⟨pa, pc, rfl, _, _, _⟩ := hpv
  obtain ⟨c0, c1, c2, c3, c4, c5⟩ := K.cells
  have k0 := cell_regrown c0
  have k1 := cell_regrown c1
  have k2 := cell_regrown c2
  have k3 := cell_regrown c3
  have k4 := cell_regrown c4
  have k5 := cell_regrown c5
  have k6 := cell_regrown d0
  have k7 := cell_regrown d1
  go_enter Tryz.func71, Tryz.ntmps71
  go_wp2_with fail
  refine wp_region_quiet_below (by kernel_rfl) (by kernel_rfl) ?_
  repeat (go_big_quiet_step (first | exact Calls.regrown_of (unhide HN _ (below_regrown _ _ _)) | exact Calls.regrown_of (unhide HK _ (below_regrown _ _ _)) | exact Calls.regrown_of (implLeastCoal_any _ _ _ ((unhide Hpv).below (below_regrown _ _ _)))))
  refine wpQuiet_nil ?_
  intro _ hw'
  obtain ⟨⟨dq, osq⟩, hw''⟩ := hw'
  subst hw''
  go_wp2_with fail
  go_ret
  exact ⟨rfl, below_regrown _ _ _⟩
set_option maxHeartbeats 8000000 in
theorem together_any {w0 w : World} {R : Nat} {a0 a1 a2 a3 a4 b0 : Option Addr} {p0 p1 p2 p3 p4 q0 : Nat} {m : SmyV} (K : Bx w0 w R a0 p0 a1 p1 a2 p2 a3 p3 a4 p4 m) (hS : Sane m) (hW : Wants m) : Calls Tryz.prog 42 #[.slice b0 m.rooms.length q0, .func (Fn.func 71) #[] #[.pointer (some ⟨R, 0, none⟩)]] w fun e w' => e = .returned (.int .i64 (coalAll m)) ∧ Below w.heap.size w w' := by
  have h3 := (hallB_of hS.hall).2.1
  have Hbd := hide (coalTo_bd m)
  have HC := hide (fun (X : World) (hX : Below w.heap.size w X) (k : Nat) (hk : k < m.rooms.length) => costs1_any (K.next hX) hS hW hk)
  clear hS hW K
  go_enter Tryz.func42, Tryz.ntmps42
  go_wp2_with fail
  go_loopw [5, 9] (fun n i wr => ∃ k : Nat, k ≤ m.rooms.length ∧ i = .int .i64 k ∧ n = .int .i64 (coalTo m k) ∧ Below w.heap.size w wr) (fun _ i _ => m.rooms.length - (intOf i).toNat)
  case atStart => exact ⟨0, Nat.zero_le _, rfl, rfl, Below.refl _ _⟩
  case round =>
    obtain ⟨k, hk, rfl, rfl, hb0⟩ := hrel
    obtain ⟨u0, u1⟩ := unhide Hbd k
    obtain ⟨u2, u3⟩ := unhide Hbd (k + 1)
    have hst : coalTo m (k + 1) = coalTo m k + coalIn m k := rfl
    rw [hst] at u2 u3
    have Hst := hide hst
    have BB := hide hb0
    clear hb0 hst
    by_cases hlt : k < m.rooms.length
    · have hlt1 : (k : Int) < (m.rooms.length : Int) := by omega
      have HD := hide (unhide HC wr (unhide BB) k hlt)
      generalize coalIn m k = ci at *
      generalize coalTo m k = ct at *
      go_wp2_with fail
      refine (unhide HD).mono ?_
      rintro e w1 ⟨rfl, hb⟩
      replace BB := hide ((unhide BB).trans (hb.mono (unhide BB).size))
      clear hb HD
      go_wp2_with fail
      go_roundw
      case rel => exact ⟨k + 1, by omega, by go_num, by rw [unhide Hst], unhide BB⟩
      case measure => simp [intOf]; omega
    · obtain rfl : k = m.rooms.length := by omega
      go_wp2_with fail
      go_ret
      exact ⟨rfl, unhide BB⟩
set_option maxHeartbeats 8000000 in
theorem implNeedIn_any {w : World} {v0 v1 v2 v3 v4 : Value} {m : SmyV} {room q : Int} (hq : needInV m room = q) (h : Smy w v0 v1 v2 v3 v4 m) : Calls Tryz.prog 10 #[.agg #[v0, v1, v2, v3, v4, .int .i64 m.now], .int .i64 room] w fun e w' => e = .returned (.int .i64 q) ∧ Below w.heap.size w w' := by
  have Hq := hide hq
  clear hq
  obtain ⟨ok, hok⟩ : ∃ q, smyB m = q := ⟨_, rfl⟩
  have Hok := hide hok
  clear hok
  obtain ⟨a0, p0, a1, p1, a2, p2, a3, p3, a4, p4, rfl, rfl, rfl, rfl, rfl, K⟩ := Bx.new h
  clear h
  go_enter Tryz.func10, Tryz.ntmps10
  go_wp2_with fail
  generalize w.alloc (.cells #[.slice a0 m.rooms.length p0, .slice a1 m.guilds.length p1, .slice a2 m.smiths.length p2, .slice a3 m.desks.length p3, .slice a4 m.paces.length p4, .int .i64 m.now] 40) = W at *
  refine (implSmithyOk_q _ _ _ _ _ _ _ _ (unhide Hok) K.smy).mono ?_
  rintro e w1 ⟨rfl, hb⟩
  replace K := K.next hb
  clear hb
  cases ok
  · obtain rfl : q = -1 := by rw [← unhide Hq]; unfold needInV; rw [unhide Hok]; simp
    go_wp2_with fail
    go_ret
    exact ⟨rfl, K.bb⟩
  obtain ⟨qr, hqr⟩ : ∃ q, isRoomB m room = q := ⟨_, rfl⟩
  have Hr := hide hqr
  clear hqr
  obtain ⟨c0, c1, c2, c3, c4, c5⟩ := K.cells
  go_wp2_with fail
  refine (hasRoom_any (unhide Hr) K.smy).mono ?_
  rintro e w2 ⟨rfl, hb⟩
  replace K := K.next hb
  clear hb c0 c1 c2 c3 c4 c5
  cases qr
  · obtain rfl : q = -1 := by rw [← unhide Hq]; unfold needInV; rw [unhide Hr]; simp
    go_wp2_with fail
    go_ret
    exact ⟨rfl, K.bb⟩
  obtain ⟨r, rfl, hr⟩ := room_of (unhide Hr)
  have HL := hide (smy_loose (unhide Hok))
  obtain rfl : q = needL m (mems (setV m.rooms (r : Int))) := by rw [← unhide Hq, (room_mems (unhide HL).sane hr).1]; unfold needInV; rw [unhide Hr, unhide Hok]; rfl
  obtain ⟨c0, c1, c2, c3, c4, c5⟩ := K.cells
  go_wp2_with fail
  refine (needIn_any K.smy (unhide HL).sane (unhide HL).wants hr).mono ?_
  rintro e w3 ⟨rfl, hb⟩
  replace K := K.next hb
  clear hb c0 c1 c2 c3 c4 c5
  go_wp2_with fail
  go_ret
  exact ⟨rfl, K.bb⟩
set_option maxHeartbeats 8000000 in
theorem implCoalIn_any {w : World} {v0 v1 v2 v3 v4 : Value} {m : SmyV} {room q : Int} (hq : coalInV m room = q) (h : Smy w v0 v1 v2 v3 v4 m) : Calls Tryz.prog 13 #[.agg #[v0, v1, v2, v3, v4, .int .i64 m.now], .int .i64 room] w fun e w' => e = .returned (.int .i64 q) ∧ Below w.heap.size w w' := by
  have Hq := hide hq
  clear hq
  obtain ⟨ok, hok⟩ : ∃ q, smyB m = q := ⟨_, rfl⟩
  have Hok := hide hok
  clear hok
  obtain ⟨a0, p0, a1, p1, a2, p2, a3, p3, a4, p4, rfl, rfl, rfl, rfl, rfl, K⟩ := Bx.new h
  clear h
  go_enter Tryz.func13, Tryz.ntmps13
  go_wp2_with fail
  generalize w.alloc (.cells #[.slice a0 m.rooms.length p0, .slice a1 m.guilds.length p1, .slice a2 m.smiths.length p2, .slice a3 m.desks.length p3, .slice a4 m.paces.length p4, .int .i64 m.now] 40) = W at *
  refine (implSmithyOk_q _ _ _ _ _ _ _ _ (unhide Hok) K.smy).mono ?_
  rintro e w1 ⟨rfl, hb⟩
  replace K := K.next hb
  clear hb
  cases ok
  · obtain rfl : q = -1 := by rw [← unhide Hq]; unfold coalInV; rw [unhide Hok]; simp
    go_wp2_with fail
    go_ret
    exact ⟨rfl, K.bb⟩
  obtain ⟨qr, hqr⟩ : ∃ q, isRoomB m room = q := ⟨_, rfl⟩
  have Hr := hide hqr
  clear hqr
  obtain ⟨c0, c1, c2, c3, c4, c5⟩ := K.cells
  go_wp2_with fail
  refine (hasRoom_any (unhide Hr) K.smy).mono ?_
  rintro e w2 ⟨rfl, hb⟩
  replace K := K.next hb
  clear hb c0 c1 c2 c3 c4 c5
  cases qr
  · obtain rfl : q = -1 := by rw [← unhide Hq]; unfold coalInV; rw [unhide Hr]; simp
    go_wp2_with fail
    go_ret
    exact ⟨rfl, K.bb⟩
  obtain ⟨r, rfl, hr⟩ := room_of (unhide Hr)
  have HL := hide (smy_loose (unhide Hok))
  obtain rfl : q = coalIn m r := by rw [← unhide Hq]; unfold coalInV; rw [unhide Hr, unhide Hok]; rfl
  obtain ⟨c0, c1, c2, c3, c4, c5⟩ := K.cells
  go_wp2_with fail
  refine (costsIn_any K.smy).mono ?_
  rintro e w3 ⟨rfl, K3⟩
  replace K := K.next K3.bb
  clear c0 c1 c2 c3 c4 c5
  go_wp2_with fail
  refine (costs1_any K3 (unhide HL).sane (unhide HL).wants hr).mono ?_
  rintro e w4 ⟨rfl, hb⟩
  replace K := K.next hb
  clear hb
  go_wp2_with fail
  go_ret
  exact ⟨rfl, K.bb⟩
set_option maxHeartbeats 8000000 in
theorem implCoalOf_any {w : World} {v0 v1 v2 v3 v4 : Value} {m : SmyV} {q : Int} (hq : coalOfV m = q) (h : Smy w v0 v1 v2 v3 v4 m) : Calls Tryz.prog 15 #[.agg #[v0, v1, v2, v3, v4, .int .i64 m.now]] w fun e w' => e = .returned (.int .i64 q) ∧ Below w.heap.size w w' := by
  have Hq := hide hq
  clear hq
  obtain ⟨ok, hok⟩ : ∃ q, smyB m = q := ⟨_, rfl⟩
  have Hok := hide hok
  clear hok
  obtain ⟨a0, p0, a1, p1, a2, p2, a3, p3, a4, p4, rfl, rfl, rfl, rfl, rfl, K⟩ := Bx.new h
  clear h
  go_enter Tryz.func15, Tryz.ntmps15
  go_wp2_with fail
  generalize w.alloc (.cells #[.slice a0 m.rooms.length p0, .slice a1 m.guilds.length p1, .slice a2 m.smiths.length p2, .slice a3 m.desks.length p3, .slice a4 m.paces.length p4, .int .i64 m.now] 40) = W at *
  refine (implSmithyOk_q _ _ _ _ _ _ _ _ (unhide Hok) K.smy).mono ?_
  rintro e w1 ⟨rfl, hb⟩
  replace K := K.next hb
  clear hb
  cases ok
  · obtain rfl : q = -1 := by rw [← unhide Hq]; unfold coalOfV; rw [unhide Hok]; simp
    go_wp2_with fail
    go_ret
    exact ⟨rfl, K.bb⟩
  obtain rfl : q = coalAll m := by rw [← unhide Hq]; unfold coalOfV; rw [unhide Hok]; rfl
  have HL := hide (smy_loose (unhide Hok))
  have KD := K.drew
  obtain ⟨c0, c1, c2, c3, c4, c5⟩ := K.cells
  go_wp2_with fail
  go_region_with (first
    | (go_at_call 40; refine (costsIn_any KD.smy).mono ?_; rintro e w3 ⟨rfl, K3⟩; have z0 := (KD.next K3.bb).blk.cell (i := 0) (v := .slice a0 m.rooms.length p0) rfl)
    | (go_at_call 42; refine (together_any K3 (unhide HL).sane (unhide HL).wants).mono ?_; rintro e w4 ⟨rfl, hb⟩; have HB4 := hide hb; clear hb))
  all_goals
    go_wp2_with fail
    go_ret
    exact ⟨rfl, ((KD.next K3.bb).next (unhide HB4)).bb⟩

end Go.Proofs.YtnponpamjddpjabGreat

