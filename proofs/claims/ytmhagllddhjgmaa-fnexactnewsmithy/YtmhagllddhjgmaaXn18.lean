/- What the proof rests on, part 18: lists and numbers, how they lie in memory, and contracts of the calls. No condition but those that a theorem names. -/
import Derived.Test.YtmhagllddhjgmaaXn01
import Derived.Test.YtmhagllddhjgmaaXn02
import Derived.Test.YtmhagllddhjgmaaXn03
import Derived.Test.YtmhagllddhjgmaaXn04
import Derived.Test.YtmhagllddhjgmaaXn05
import Derived.Test.YtmhagllddhjgmaaXn06
import Derived.Test.YtmhagllddhjgmaaXn07
import Derived.Test.YtmhagllddhjgmaaXn08
import Derived.Test.YtmhagllddhjgmaaXn09
import Derived.Test.YtmhagllddhjgmaaXn10
import Derived.Test.YtmhagllddhjgmaaXn11
import Derived.Test.YtmhagllddhjgmaaXn12
import Derived.Test.YtmhagllddhjgmaaXn13
import Derived.Test.YtmhagllddhjgmaaXn14
import Derived.Test.YtmhagllddhjgmaaXn15
import Derived.Test.YtmhagllddhjgmaaXn16
import Derived.Test.YtmhagllddhjgmaaXn17
import Derived.Deep.RegionWith
import Derived.Deep.DeepCutAuto
import Derived.WalkMore
import Derived.Below
import Derived.WalkKit
import Derived.ProofKit
import Derived.OpenShut
import Derived.Outline
import Derived.Lib.QuietBelow
import Derived.Deep.QuietTactic
import Derived.BigQuiet
import Derived.Deep.DrawnRows
import Derived.BigRegion
import Derived.Deep.RegionLawGrows
import Derived.Laws.OwnMore
import Derived.OwnWalk
import Derived.Maps.AppendAt
import Derived.Deep.OwnRows
import Derived.Lib.SmallJoins
import Derived.Deep.Fields
import Derived.Deep.Slices
import Derived.OrdersHeld
import Derived.Deep.RegionHeldLaw
/- The walk of the exact law on NewSmithy. Condition: the hall can be read. -/
namespace Go.Proofs.Ytmhagllddhjgmaa
open Go.ChangeShapes Go.WideShapes Go.ChangeAt Go.RowKit Go.Sort
set_option linter.unusedVariables false

theorem newV_small (rs : List RoomV) (h : Small rs) : SmySmall (newV rs) := by
  unfold newV
  split
  · rename_i hk
    have h8 := (hallB_of hk).2.2.2
    have h3 := (hallB_of hk).2.1
    exact ⟨h, by simp [newM], by simp [newM], by simp [newM]; omega, by simp [newM]; omega⟩
  · exact ⟨⟨by simp [zeroM], fun r hr => by cases hr⟩, by simp [zeroM], by simp [zeroM], by simp [zeroM], by simp [zeroM]⟩

set_option maxRecDepth 100000 in
set_option maxHeartbeats 16000000 in
theorem walkFnExactNewSmithy (v : Value) (rs : List RoomV) (w : World) (h : IsRooms w v rs) :
    Calls Try.prog 3 #[.agg #[v]] w fun e w' => e = .returned (.bool true) ∧ Below w.heap.size w w' := by
  have Hv := hide h
  obtain ⟨a, cap, rfl, hc0, hm0⟩ := h.shape
  clear h hc0 hm0
  have HsN := hide (newV_small rs)
  obtain ⟨okb, hokb⟩ : ∃ q, hallB rs = q := ⟨_, rfl⟩
  obtain ⟨M, hM⟩ : ∃ M, newV rs = M := ⟨_, rfl⟩
  have HS1 := hide (fun (W : World) (u : Value) (hu : IsRooms W u rs) => specNewSmithy_any hu)
  have HI1 := hide (fun (W : World) (u : Value) (hu : IsRooms W u rs) => implNewSmithy_any hu)
  rw [hokb, hM] at HS1 HI1
  rw [hM] at HsN
  clear hokb hM
  go_enter Try.func3, Try.ntmps3
  go_wp2_with fail
  refine (szHall_any ((unhide Hv).alloc _) _ (by omega) (by omega)).mono ?_
  rintro e w1 ⟨x, rfl, hx, hb⟩
  have ka : Hid (Blk w1 w.heap.size 24 #[.slice a rs.length cap]) := hide ((Blk.new w _ _).below hb (by simp))
  have BB : Hid (Below w.heap.size w w1) := hide (((Below.refl _ _).alloc (Nat.le_refl _) _).trans (hb.mono (by simp)))
  have Hx := hide hx
  clear hx hb
  by_cases hx0 : x < 0
  · go_wp2_with fail
    go_ret
    exact ⟨rfl, unhide BB⟩
  have Hs := hide (unhide Hx (by omega))
  have HsM := hide (unhide HsN (unhide Hs))
  clear Hx HsN
  have c0 := (unhide ka).cell (i := 0) (v := .slice a rs.length cap) rfl
  go_wp2_with fail
  refine (toHall_any ((unhide Hv).below (unhide BB)) (unhide Hs)).mono ?_
  rintro e w2 ⟨v1, rfl, hi1, hb⟩
  obtain ⟨b1, q1, rfl, _, _⟩ := IsRooms.shape hi1
  have K2 := hide hi1
  clear hi1 c0
  replace ka := hide ((unhide ka).below hb (unhide ka).lt)
  replace BB := hide ((unhide BB).trans (hb.mono (unhide BB).size))
  clear hb
  go_wp2_with fail
  refine (unhide HS1 _ _ (unhide K2)).mono ?_
  rintro e w3 ⟨⟨y0, y1, y2, y3, y4, uq, rfl, ho⟩, hb⟩
  have k9 := ho.smy
  obtain ⟨ua0, uc0, rfl, _, _⟩ := IsRooms.shape k9.rooms
  obtain ⟨ua1, uc1, rfl, _, _⟩ := IsRec.shape k9.guilds
  obtain ⟨ua2, uc2, rfl, _, _⟩ := IsRec.shape k9.smiths
  obtain ⟨ua3, uc3, rfl, _, _⟩ := IsRec.shape k9.desks
  obtain ⟨ua4, uc4, rfl, _, _⟩ := IsRec.shape k9.paces
  clear k9 K2
  replace ka := hide ((unhide ka).below hb (unhide ka).lt)
  replace BB := hide ((unhide BB).trans (hb.mono (unhide BB).size))
  have HU := hide ho
  have LU : Hid (∀ k, OwnB (.slice ua0 M.rooms.length uc0) (.slice ua1 M.guilds.length uc1) (.slice ua2 M.smiths.length uc2) (.slice ua3 M.desks.length uc3) (.slice ua4 M.paces.length uc4) uq k → w2.heap.size ≤ k ∧ k < w3.heap.size) := hide (fun k e => ho.own e)
  have hw3 : w.heap.size < w3.heap.size := (unhide ka).lt
  clear ho hb
  have hw2 : w.heap.size < w2.heap.size ∨ True := .inr trivial
  clear hw2
  go_upto_region 6 with fail
  have hba : Below w3.heap.size w3 (w3.alloc (.cells #[.slice ua0 M.rooms.length uc0, .slice ua1 M.guilds.length uc1, .slice ua2 M.smiths.length uc2, .slice ua3 M.desks.length uc3, .slice ua4 M.paces.length uc4, .int .i64 M.now] 34)) := (Below.refl _ _).alloc (Nat.le_refl _) _
  replace ka := hide ((unhide ka).below hba (unhide ka).lt)
  replace HU := hide ((unhide HU).below hba)
  replace BB := hide ((unhide BB).trans (hba.mono (unhide BB).size))
  have ku : Hid (Blk (w3.alloc (.cells #[.slice ua0 M.rooms.length uc0, .slice ua1 M.guilds.length uc1, .slice ua2 M.smiths.length uc2, .slice ua3 M.desks.length uc3, .slice ua4 M.paces.length uc4, .int .i64 M.now] 34)) w3.heap.size 34 #[.slice ua0 M.rooms.length uc0, .slice ua1 M.guilds.length uc1, .slice ua2 M.smiths.length uc2, .slice ua3 M.desks.length uc3, .slice ua4 M.paces.length uc4, .int .i64 M.now]) := hide (Blk.new _ _ _)
  have hsz_W3 : w3.heap.size + 1 ≤ (w3.alloc (.cells #[.slice ua0 M.rooms.length uc0, .slice ua1 M.guilds.length uc1, .slice ua2 M.smiths.length uc2, .slice ua3 M.desks.length uc3, .slice ua4 M.paces.length uc4, .int .i64 M.now] 34)).heap.size := by simp
  clear hba
  generalize w3.alloc (.cells #[.slice ua0 M.rooms.length uc0, .slice ua1 M.guilds.length uc1, .slice ua2 M.smiths.length uc2, .slice ua3 M.desks.length uc3, .slice ua4 M.paces.length uc4, .int .i64 M.now] 34) = W3 at *
  generalize w3.heap.size = ub at *
  have c0 := (unhide ka).cell (i := 0) (v := .slice a rs.length cap) rfl
  go_wp2_with fail
  refine (toHall_full ((unhide Hv).below (unhide BB)) (unhide Hs)).mono ?_
  rintro e w4 ⟨z0, xq, rfl, hxq, ho, hb⟩
  have hxl : xq.length = rs.length := by have := congrArg List.length hxq; simpa using this
  obtain ⟨xa, xc, hz0⟩ : ∃ xa xc, z0 = .slice xa rs.length xc := by
    obtain ⟨a9, c9, e9⟩ := ho.shape
    exact ⟨a9, c9, by rw [e9, hxl]⟩
  subst hz0
  replace ka := hide ((unhide ka).below hb (unhide ka).lt)
  replace HU := hide ((unhide HU).below hb)
  replace ku := hide ((unhide ku).below hb (unhide ku).lt)
  replace BB := hide ((unhide BB).trans (hb.mono (unhide BB).size))
  have HX := hide ho
  have LX : Hid (∀ k, (fun k => (Value.slice xa rs.length xc).ownBlock = some k ∨ ∃ q ∈ xq, q.2.ownBlock = some k) k → ub < k ∧ k < w4.heap.size) := hide (fun k e => ⟨Nat.lt_of_lt_of_le (Nat.lt_of_succ_le hsz_W3) (ho.lt e).1, (ho.lt e).2⟩)
  have hw4 : ub + 1 ≤ w4.heap.size := Nat.le_trans hsz_W3 hb.size
  have Hxq := hide hxq
  have Hxl := hide hxl
  clear ho hb hsz_W3 hxq hxl c0
  have HXr : Hid (IsRooms w4 (.slice xa rs.length xc) rs) := hide (by have := (unhide HX).rooms; rw [unhide Hxq] at this; exact this)
  go_upto_region 7 with fail
  have hba : Below w4.heap.size w4 (w4.alloc (.cells #[.slice xa rs.length xc] 28)) := (Below.refl _ _).alloc (Nat.le_refl _) _
  replace ka := hide ((unhide ka).below hba (unhide ka).lt)
  replace HU := hide ((unhide HU).below hba)
  replace ku := hide ((unhide ku).below hba (unhide ku).lt)
  replace HX := hide ((unhide HX).later hba)
  replace HXr := hide ((unhide HXr).below hba)
  replace BB := hide ((unhide BB).trans (hba.mono (unhide BB).size))
  have kx : Hid (Blk (w4.alloc (.cells #[.slice xa rs.length xc] 28)) w4.heap.size 28 #[.slice xa rs.length xc]) := hide (Blk.new _ _ _)
  have hsz_W4 : w4.heap.size + 1 ≤ (w4.alloc (.cells #[.slice xa rs.length xc] 28)).heap.size := by simp
  clear hba
  generalize w4.alloc (.cells #[.slice xa rs.length xc] 28) = W4 at *
  generalize w4.heap.size = xb at *
  have x0 := (unhide kx).cell (i := 0) (v := .slice xa rs.length xc) rfl
  go_wp2_with fail
  refine (unhide HI1 _ _ (unhide HXr)).mono ?_
  rintro e w5 ⟨⟨y0, y1, y2, y3, y4, gq, rfl, ho⟩, hb⟩
  have k9 := ho.smy
  obtain ⟨ga0, gc0, rfl, _, _⟩ := IsRooms.shape k9.rooms
  obtain ⟨ga1, gc1, rfl, _, _⟩ := IsRec.shape k9.guilds
  obtain ⟨ga2, gc2, rfl, _, _⟩ := IsRec.shape k9.smiths
  obtain ⟨ga3, gc3, rfl, _, _⟩ := IsRec.shape k9.desks
  obtain ⟨ga4, gc4, rfl, _, _⟩ := IsRec.shape k9.paces
  clear k9 x0
  replace ka := hide ((unhide ka).below hb (unhide ka).lt)
  replace HU := hide ((unhide HU).below hb)
  replace ku := hide ((unhide ku).below hb (unhide ku).lt)
  replace HX := hide ((unhide HX).later hb)
  replace HXr := hide ((unhide HXr).below hb)
  replace kx := hide ((unhide kx).below hb (unhide kx).lt)
  replace BB := hide ((unhide BB).trans (hb.mono (unhide BB).size))
  have HG := hide ho
  have LG : Hid (∀ k, OwnB (.slice ga0 M.rooms.length gc0) (.slice ga1 M.guilds.length gc1) (.slice ga2 M.smiths.length gc2) (.slice ga3 M.desks.length gc3) (.slice ga4 M.paces.length gc4) gq k → xb < k ∧ k < w5.heap.size) := hide (fun k e => ⟨Nat.lt_of_lt_of_le (Nat.lt_of_succ_le hsz_W4) (ho.own e).1, (ho.own e).2⟩)
  have hw5 : xb + 1 ≤ w5.heap.size := Nat.le_trans hsz_W4 hb.size
  clear ho hb hsz_W4
  go_upto_region 8 with fail
  have hba : Below w5.heap.size w5 (w5.alloc (.cells #[.slice ga0 M.rooms.length gc0, .slice ga1 M.guilds.length gc1, .slice ga2 M.smiths.length gc2, .slice ga3 M.desks.length gc3, .slice ga4 M.paces.length gc4, .int .i64 M.now] 34)) := (Below.refl _ _).alloc (Nat.le_refl _) _
  replace ka := hide ((unhide ka).below hba (unhide ka).lt)
  replace HU := hide ((unhide HU).below hba)
  replace ku := hide ((unhide ku).below hba (unhide ku).lt)
  replace HX := hide ((unhide HX).later hba)
  replace HXr := hide ((unhide HXr).below hba)
  replace kx := hide ((unhide kx).below hba (unhide kx).lt)
  replace HG := hide ((unhide HG).below hba)
  replace BB := hide ((unhide BB).trans (hba.mono (unhide BB).size))
  have kg : Hid (Blk (w5.alloc (.cells #[.slice ga0 M.rooms.length gc0, .slice ga1 M.guilds.length gc1, .slice ga2 M.smiths.length gc2, .slice ga3 M.desks.length gc3, .slice ga4 M.paces.length gc4, .int .i64 M.now] 34)) w5.heap.size 34 #[.slice ga0 M.rooms.length gc0, .slice ga1 M.guilds.length gc1, .slice ga2 M.smiths.length gc2, .slice ga3 M.desks.length gc3, .slice ga4 M.paces.length gc4, .int .i64 M.now]) := hide (Blk.new _ _ _)
  have hsz_W5 : w5.heap.size + 1 ≤ (w5.alloc (.cells #[.slice ga0 M.rooms.length gc0, .slice ga1 M.guilds.length gc1, .slice ga2 M.smiths.length gc2, .slice ga3 M.desks.length gc3, .slice ga4 M.paces.length gc4, .int .i64 M.now] 34)).heap.size := by simp
  clear hba
  generalize w5.alloc (.cells #[.slice ga0 M.rooms.length gc0, .slice ga1 M.guilds.length gc1, .slice ga2 M.smiths.length gc2, .slice ga3 M.desks.length gc3, .slice ga4 M.paces.length gc4, .int .i64 M.now] 34) = W5 at *
  generalize w5.heap.size = gb at *
  clear hsz_W5
  have x0 := (unhide ku).cell (i := 0) (v := .slice ua0 M.rooms.length uc0) rfl
  have x1 := (unhide ku).cell (i := 1) (v := .slice ua1 M.guilds.length uc1) rfl
  have x2 := (unhide ku).cell (i := 2) (v := .slice ua2 M.smiths.length uc2) rfl
  have x3 := (unhide ku).cell (i := 3) (v := .slice ua3 M.desks.length uc3) rfl
  have x4 := (unhide ku).cell (i := 4) (v := .slice ua4 M.paces.length uc4) rfl
  have x5 := (unhide ku).cell (i := 5) (v := .int .i64 M.now) rfl
  have y0 := (unhide kg).cell (i := 0) (v := .slice ga0 M.rooms.length gc0) rfl
  have y1 := (unhide kg).cell (i := 1) (v := .slice ga1 M.guilds.length gc1) rfl
  have y2 := (unhide kg).cell (i := 2) (v := .slice ga2 M.smiths.length gc2) rfl
  have y3 := (unhide kg).cell (i := 3) (v := .slice ga3 M.desks.length gc3) rfl
  have y4 := (unhide kg).cell (i := 4) (v := .slice ga4 M.paces.length gc4) rfl
  have y5 := (unhide kg).cell (i := 5) (v := .int .i64 M.now) rfl
  go_wp2_with fail
  clear x0 x1 x2 x3 x4 x5 y0 y1 y2 y3 y4 y5
  refine (eqSmithy_yes (unhide HG).smy (unhide HU).smy).mono ?_
  rintro e w6 ⟨rfl, hb⟩
  replace ka := hide ((unhide ka).below hb (unhide ka).lt)
  replace HU := hide ((unhide HU).below hb)
  replace ku := hide ((unhide ku).below hb (unhide ku).lt)
  replace HX := hide ((unhide HX).later hb)
  replace HXr := hide ((unhide HXr).below hb)
  replace kx := hide ((unhide kx).below hb (unhide kx).lt)
  replace HG := hide ((unhide HG).below hb)
  replace kg := hide ((unhide kg).below hb (unhide kg).lt)
  replace BB := hide ((unhide BB).trans (hb.mono (unhide BB).size))
  clear hb
  have hbb : (okb != okb) = false := by cases okb <;> rfl
  have c0 := (unhide ka).cell (i := 0) (v := .slice a rs.length cap) rfl
  have x0 := (unhide kx).cell (i := 0) (v := .slice xa rs.length xc) rfl
  have V6 := hide ((unhide Hv).below (unhide BB))
  go_upto_region 10 with fail
  go_cut [45] (fun s wc => s = .bool false ∧ Below w6.heap.size w6 wc)
  case first =>
    go_region_with (first
      | (go_at_call 6; refine (toHall_any (rs := rs) ?_ (unhide Hs)).mono ?_; exact (unhide V6).below (Below.refl _ _).drew; rintro e w7 ⟨t0, rfl, hi7, hb⟩; obtain ⟨f0, j0, rfl, _, _⟩ := IsRooms.shape hi7; have K7 := hide hi7; have Hb7 : Hid (Below w6.heap.size w6 w7) := hide ⟨hb.os, hb.tape, hb.output, hb.size, hb.block⟩; have kx7 := (unhide kx).below (unhide Hb7) (unhide kx).lt; have y0 := kx7.cell (i := 0) (v := .slice xa rs.length xc) rfl; clear hi7 hb kx7)
      | (go_at_call 9; refine (eqHall_yes (rs := rs) ?_ ?_).mono ?_; exact (unhide HXr).below (unhide Hb7); exact unhide K7; rintro e w8 ⟨rfl, hb⟩; have Hb8 := hide hb; clear hb))
    all_goals
      go_wp2_with fail
      go_meet
      exact ⟨rfl, (unhide Hb7).trans ((unhide Hb8).mono (unhide Hb7).size)⟩
  case rest =>
    obtain ⟨rfl, hb⟩ := hcut
    obtain ⟨w8, rfl⟩ : ∃ x, x = wc := ⟨wc, rfl⟩
    clear c0 x0
    replace ka := hide ((unhide ka).below hb (unhide ka).lt)
    replace HU := hide ((unhide HU).below hb)
    replace ku := hide ((unhide ku).below hb (unhide ku).lt)
    replace HX := hide ((unhide HX).later hb)
    replace HXr := hide ((unhide HXr).below hb)
    replace kx := hide ((unhide kx).below hb (unhide kx).lt)
    replace HG := hide ((unhide HG).below hb)
    replace kg := hide ((unhide kg).below hb (unhide kg).lt)
    replace BB := hide ((unhide BB).trans (hb.mono (unhide BB).size))
    clear hb V6
    have x0 := (unhide kx).cell (i := 0) (v := .slice xa rs.length xc) rfl
    go_wp2_with fail
    clear x0
    have hsq := small_qs (m := ⟨rs, [], [], [], [], 0⟩) (unhide Hs) (unhide Hxq)
    refine (markHall_any 1 ((unhide HX).mono (n₁ := 0) (Nat.zero_le _)) (Nat.zero_le _) (by omega) (by omega) hsq.1 hsq.2).mono ?_
    rintro e w9 ⟨rfl, _, hon⟩
    have hen := kEnd_all hsq.1 hsq.2 1
    generalize kEnd 1 xq = em at *
    have hwle := (unhide BB).size
    have honat : ∀ k, k < w8.heap.size → ¬ (fun k => (Value.slice xa rs.length xc).ownBlock = some k ∨ ∃ q ∈ xq, q.2.ownBlock = some k) k → w9.heap[k]? = w8.heap[k]? := fun k hk hn => hon.block k hk (fun e => hn (.inl e)) (fun q hq e => hn (.inr ⟨q, hq, e⟩))
    replace HU := hide ((unhide HU).keep fun k e => honat k ((unhide HU).own e).2 fun e9 => by have h1 := unhide LU k e; have h2 := unhide LX k e9; omega)
    replace HG := hide ((unhide HG).keep fun k e => honat k ((unhide HG).own e).2 fun e9 => by have h1 := unhide LG k e; have h2 := unhide LX k e9; omega)
    replace ku := hide ((unhide ku).same (honat _ (unhide ku).lt fun e9 => by have h2 := unhide LX _ e9; omega))
    replace kg := hide ((unhide kg).same (honat _ (unhide kg).lt fun e9 => by have h2 := unhide LX _ e9; omega))
    replace ka := hide ((unhide ka).same (honat _ (unhide ka).lt fun e9 => by have h2 := unhide LX _ e9; omega))
    replace BB : Hid (Below w.heap.size w w9) := hide ((unhide BB).trans ⟨hon.os, hon.tape, hon.output, hon.size, fun k hk => honat k (by omega) (fun e9 => by have h2 := unhide LX k e9; omega)⟩)
    clear hon honat kx HX HXr hwle hsq
    have hk0 : ¬ em < 0 := by omega
    have x0 := (unhide ku).cell (i := 0) (v := .slice ua0 M.rooms.length uc0) rfl
    have x1 := (unhide ku).cell (i := 1) (v := .slice ua1 M.guilds.length uc1) rfl
    have x2 := (unhide ku).cell (i := 2) (v := .slice ua2 M.smiths.length uc2) rfl
    have x3 := (unhide ku).cell (i := 3) (v := .slice ua3 M.desks.length uc3) rfl
    have x4 := (unhide ku).cell (i := 4) (v := .slice ua4 M.paces.length uc4) rfl
    have x5 := (unhide ku).cell (i := 5) (v := .int .i64 M.now) rfl
    have y0 := (unhide kg).cell (i := 0) (v := .slice ga0 M.rooms.length gc0) rfl
    have y1 := (unhide kg).cell (i := 1) (v := .slice ga1 M.guilds.length gc1) rfl
    have y2 := (unhide kg).cell (i := 2) (v := .slice ga2 M.smiths.length gc2) rfl
    have y3 := (unhide kg).cell (i := 3) (v := .slice ga3 M.desks.length gc3) rfl
    have y4 := (unhide kg).cell (i := 4) (v := .slice ga4 M.paces.length gc4) rfl
    have y5 := (unhide kg).cell (i := 5) (v := .int .i64 M.now) rfl
    go_wp2_with fail
    clear x0 x1 x2 x3 x4 x5 y0 y1 y2 y3 y4 y5
    refine (eqSmithy_yes (unhide HG).smy (unhide HU).smy).mono ?_
    rintro e w10 ⟨rfl, hb⟩
    replace ka := hide ((unhide ka).below hb (unhide ka).lt)
    replace HU := hide ((unhide HU).below hb)
    replace ku := hide ((unhide ku).below hb (unhide ku).lt)
    replace HG := hide ((unhide HG).below hb)
    replace kg := hide ((unhide kg).below hb (unhide kg).lt)
    replace BB := hide ((unhide BB).trans (hb.mono (unhide BB).size))
    clear hb
    have y0 := (unhide kg).cell (i := 0) (v := .slice ga0 M.rooms.length gc0) rfl
    have y1 := (unhide kg).cell (i := 1) (v := .slice ga1 M.guilds.length gc1) rfl
    have y2 := (unhide kg).cell (i := 2) (v := .slice ga2 M.smiths.length gc2) rfl
    have y3 := (unhide kg).cell (i := 3) (v := .slice ga3 M.desks.length gc3) rfl
    have y4 := (unhide kg).cell (i := 4) (v := .slice ga4 M.paces.length gc4) rfl
    have y5 := (unhide kg).cell (i := 5) (v := .int .i64 M.now) rfl
    go_wp2_with fail
    clear y0 y1 y2 y3 y4 y5
    refine (markSmithy_any 1 ((unhide HG).mono (n₁ := 0) (Nat.zero_le _)) (unhide HsM) (Nat.zero_le _) (by omega) (by omega)).mono ?_
    rintro e w11 ⟨rfl, hgm, hon⟩
    have hgr := (unhide HG).rooms
    have hen2 := endM_bd (unhide HsM) hgr
    have hwle := (unhide BB).size
    replace HU := hide ((unhide HU).keep fun k e => hon.at ((unhide HU).own e).2 fun e9 => by have h1 := unhide LU k e; have h2 := unhide LG k e9; omega)
    replace ku := hide ((unhide ku).same (hon.at (unhide ku).lt fun e9 => by have h2 := unhide LG _ e9; omega))
    replace kg := hide ((unhide kg).same (hon.at (unhide kg).lt fun e9 => by have h2 := unhide LG _ e9; omega))
    replace ka := hide ((unhide ka).same (hon.at (unhide ka).lt fun e9 => by have h2 := unhide LG _ e9; omega))
    replace BB := hide ((unhide BB).trans (hon.below hwle (fun k e => by have h2 := unhide LG k e; omega)))
    replace HG := hide hgm
    have Hgr := hide hgr
    clear hgm hon hwle hgr
    have y0 := (unhide kg).cell (i := 0) (v := .slice ga0 M.rooms.length gc0) rfl
    have y1 := (unhide kg).cell (i := 1) (v := .slice ga1 M.guilds.length gc1) rfl
    have y2 := (unhide kg).cell (i := 2) (v := .slice ga2 M.smiths.length gc2) rfl
    have y3 := (unhide kg).cell (i := 3) (v := .slice ga3 M.desks.length gc3) rfl
    have y4 := (unhide kg).cell (i := 4) (v := .slice ga4 M.paces.length gc4) rfl
    have y5 := (unhide kg).cell (i := 5) (v := .int .i64 M.now) rfl
    go_wp2_with fail
    clear y0 y1 y2 y3 y4 y5
    refine (heldSmithy_yes 1 (unhide HG) (unhide HsM).rooms (unhide Hgr) (unhide HsM) (by omega) (by omega)).mono ?_
    rintro e w12 ⟨rfl, hb⟩
    replace ka := hide ((unhide ka).below hb (unhide ka).lt)
    replace HU := hide ((unhide HU).below hb)
    replace ku := hide ((unhide ku).below hb (unhide ku).lt)
    replace HG := hide ((unhide HG).below hb)
    replace kg := hide ((unhide kg).below hb (unhide kg).lt)
    replace BB := hide ((unhide BB).trans (hb.mono (unhide BB).size))
    clear hb
    have Hen2 := hide hen2
    obtain ⟨en, hene⟩ : ∃ x, endM 1 M gq = x := ⟨_, rfl⟩
    have hnn : ¬ en < 0 := by rw [← hene]; omega
    have Hene := hide hene
    rw [hene]
    clear hene hen2
    have c0 := (unhide ka).cell (i := 0) (v := .slice a rs.length cap) rfl
    go_wp2_with fail
    clear c0
    refine (toHall_any ((unhide Hv).below (unhide BB)) (unhide Hs)).mono ?_
    rintro e w13 ⟨s0, rfl, hi13, hb⟩
    obtain ⟨f0, j0, rfl, _, _⟩ := IsRooms.shape hi13
    have K13 := hide hi13
    clear hi13
    replace ka := hide ((unhide ka).below hb (unhide ka).lt)
    replace HU := hide ((unhide HU).below hb)
    replace ku := hide ((unhide ku).below hb (unhide ku).lt)
    replace HG := hide ((unhide HG).below hb)
    replace kg := hide ((unhide kg).below hb (unhide kg).lt)
    replace BB := hide ((unhide BB).trans (hb.mono (unhide BB).size))
    clear hb
    go_wp2_with fail
    refine (unhide HI1 _ _ (unhide K13)).mono ?_
    rintro e w14 ⟨⟨y0, y1, y2, y3, y4, hq, rfl, ho⟩, hb⟩
    have k9 := ho.smy
    obtain ⟨ha0, hc0, rfl, _, _⟩ := IsRooms.shape k9.rooms
    obtain ⟨ha1, hc1, rfl, _, _⟩ := IsRec.shape k9.guilds
    obtain ⟨ha2, hc2, rfl, _, _⟩ := IsRec.shape k9.smiths
    obtain ⟨ha3, hc3, rfl, _, _⟩ := IsRec.shape k9.desks
    obtain ⟨ha4, hc4, rfl, _, _⟩ := IsRec.shape k9.paces
    clear ho K13
    replace ka := hide ((unhide ka).below hb (unhide ka).lt)
    replace HU := hide ((unhide HU).below hb)
    replace ku := hide ((unhide ku).below hb (unhide ku).lt)
    replace HG := hide ((unhide HG).below hb)
    replace kg := hide ((unhide kg).below hb (unhide kg).lt)
    replace BB := hide ((unhide BB).trans (hb.mono (unhide BB).size))
    have HH := hide k9
    clear k9 hb
    go_upto_region 25 with fail
    have hba : Below w14.heap.size w14 (w14.alloc (.cells #[.slice ha0 M.rooms.length hc0, .slice ha1 M.guilds.length hc1, .slice ha2 M.smiths.length hc2, .slice ha3 M.desks.length hc3, .slice ha4 M.paces.length hc4, .int .i64 M.now] 34)) := (Below.refl _ _).alloc (Nat.le_refl _) _
    replace ka := hide ((unhide ka).below hba (unhide ka).lt)
    replace HU := hide ((unhide HU).below hba)
    replace ku := hide ((unhide ku).below hba (unhide ku).lt)
    replace HG := hide ((unhide HG).below hba)
    replace kg := hide ((unhide kg).below hba (unhide kg).lt)
    replace HH := hide ((unhide HH).below hba)
    replace BB := hide ((unhide BB).trans (hba.mono (unhide BB).size))
    have kh : Hid (Blk (w14.alloc (.cells #[.slice ha0 M.rooms.length hc0, .slice ha1 M.guilds.length hc1, .slice ha2 M.smiths.length hc2, .slice ha3 M.desks.length hc3, .slice ha4 M.paces.length hc4, .int .i64 M.now] 34)) w14.heap.size 34 #[.slice ha0 M.rooms.length hc0, .slice ha1 M.guilds.length hc1, .slice ha2 M.smiths.length hc2, .slice ha3 M.desks.length hc3, .slice ha4 M.paces.length hc4, .int .i64 M.now]) := hide (Blk.new _ _ _)
    have hsz_W14 : w14.heap.size + 1 ≤ (w14.alloc (.cells #[.slice ha0 M.rooms.length hc0, .slice ha1 M.guilds.length hc1, .slice ha2 M.smiths.length hc2, .slice ha3 M.desks.length hc3, .slice ha4 M.paces.length hc4, .int .i64 M.now] 34)).heap.size := by simp
    clear hba
    generalize w14.alloc (.cells #[.slice ha0 M.rooms.length hc0, .slice ha1 M.guilds.length hc1, .slice ha2 M.smiths.length hc2, .slice ha3 M.desks.length hc3, .slice ha4 M.paces.length hc4, .int .i64 M.now] 34) = W14 at *
    generalize w14.heap.size = hb2 at *
    clear hsz_W14
    have x0 := (unhide ku).cell (i := 0) (v := .slice ua0 M.rooms.length uc0) rfl
    have x1 := (unhide ku).cell (i := 1) (v := .slice ua1 M.guilds.length uc1) rfl
    have x2 := (unhide ku).cell (i := 2) (v := .slice ua2 M.smiths.length uc2) rfl
    have x3 := (unhide ku).cell (i := 3) (v := .slice ua3 M.desks.length uc3) rfl
    have x4 := (unhide ku).cell (i := 4) (v := .slice ua4 M.paces.length uc4) rfl
    have x5 := (unhide ku).cell (i := 5) (v := .int .i64 M.now) rfl
    have y0 := (unhide kh).cell (i := 0) (v := .slice ha0 M.rooms.length hc0) rfl
    have y1 := (unhide kh).cell (i := 1) (v := .slice ha1 M.guilds.length hc1) rfl
    have y2 := (unhide kh).cell (i := 2) (v := .slice ha2 M.smiths.length hc2) rfl
    have y3 := (unhide kh).cell (i := 3) (v := .slice ha3 M.desks.length hc3) rfl
    have y4 := (unhide kh).cell (i := 4) (v := .slice ha4 M.paces.length hc4) rfl
    have y5 := (unhide kh).cell (i := 5) (v := .int .i64 M.now) rfl
    go_wp2_with fail
    clear x0 x1 x2 x3 x4 x5 y0 y1 y2 y3 y4 y5
    refine (eqSmithy_yes (unhide HH) (unhide HU).smy).mono ?_
    rintro e w15 ⟨rfl, hb⟩
    replace ka := hide ((unhide ka).below hb (unhide ka).lt)
    replace HU := hide ((unhide HU).below hb)
    replace ku := hide ((unhide ku).below hb (unhide ku).lt)
    replace HG := hide ((unhide HG).below hb)
    replace kg := hide ((unhide kg).below hb (unhide kg).lt)
    replace HH := hide ((unhide HH).below hb)
    replace kh := hide ((unhide kh).below hb (unhide kh).lt)
    replace BB := hide ((unhide BB).trans (hb.mono (unhide BB).size))
    clear hb
    have y0 := (unhide kg).cell (i := 0) (v := .slice ga0 M.rooms.length gc0) rfl
    have y1 := (unhide kg).cell (i := 1) (v := .slice ga1 M.guilds.length gc1) rfl
    have y2 := (unhide kg).cell (i := 2) (v := .slice ga2 M.smiths.length gc2) rfl
    have y3 := (unhide kg).cell (i := 3) (v := .slice ga3 M.desks.length gc3) rfl
    have y4 := (unhide kg).cell (i := 4) (v := .slice ga4 M.paces.length gc4) rfl
    have y5 := (unhide kg).cell (i := 5) (v := .int .i64 M.now) rfl
    go_wp2_with fail
    clear y0 y1 y2 y3 y4 y5
    refine (heldSmithy_yes 1 (unhide HG) (unhide HsM).rooms (unhide Hgr) (unhide HsM) (by omega) (by omega)).mono ?_
    rw [unhide Hene]
    rintro e w16 ⟨rfl, hb⟩
    replace ka := hide ((unhide ka).below hb (unhide ka).lt)
    replace HU := hide ((unhide HU).below hb)
    replace ku := hide ((unhide ku).below hb (unhide ku).lt)
    replace HG := hide ((unhide HG).below hb)
    replace kg := hide ((unhide kg).below hb (unhide kg).lt)
    replace HH := hide ((unhide HH).below hb)
    replace kh := hide ((unhide kh).below hb (unhide kh).lt)
    replace BB := hide ((unhide BB).trans (hb.mono (unhide BB).size))
    clear hb
    go_wp2_with fail
    go_ret
    exact ⟨rfl, unhide BB⟩

end Go.Proofs.Ytmhagllddhjgmaa

