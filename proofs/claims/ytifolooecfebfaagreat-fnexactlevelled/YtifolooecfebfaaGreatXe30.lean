/- What the proof rests on, part 30: lists and numbers, how they lie in memory, and contracts of the calls. No condition but those that a theorem names. -/
import Derived.Test.YtifolooecfebfaaGreatXe01
import Derived.Test.YtifolooecfebfaaGreatXe02
import Derived.Test.YtifolooecfebfaaGreatXe03
import Derived.Test.YtifolooecfebfaaGreatXe04
import Derived.Test.YtifolooecfebfaaGreatXe05
import Derived.Test.YtifolooecfebfaaGreatXe06
import Derived.Test.YtifolooecfebfaaGreatXe07
import Derived.Test.YtifolooecfebfaaGreatXe08
import Derived.Test.YtifolooecfebfaaGreatXe09
import Derived.Test.YtifolooecfebfaaGreatXe10
import Derived.Test.YtifolooecfebfaaGreatXe12
import Derived.Test.YtifolooecfebfaaGreatXe13
import Derived.Test.YtifolooecfebfaaGreatXe14
import Derived.Test.YtifolooecfebfaaGreatXe16
import Derived.Test.YtifolooecfebfaaGreatXe17
import Derived.Test.YtifolooecfebfaaGreatXe19
import Derived.Test.YtifolooecfebfaaGreatXe20
import Derived.Test.YtifolooecfebfaaGreatXe21
import Derived.Test.YtifolooecfebfaaGreatXe22
import Derived.Test.YtifolooecfebfaaGreatXe24
import Derived.Test.YtifolooecfebfaaGreatXe25
import Derived.WalkMore
import Derived.Below
import Derived.ChangeKeysEq
import Derived.Laws.StructEq
import GoSem.Claim
import GoSem.ClaimJoined
import GoSem.ClaimMapViews
import Derived.JoinedTies
import Derived.KernelRfl
import Derived.RowKit
import Derived.WalkKit
import Derived.ProofKit
import Derived.OpenShut
import Derived.Outline
import Derived.Lib.QuietBelow
import Derived.Deep.RegionHeld3
import Derived.Deep.DrawnRows
import Derived.BigRegion
import Derived.Deep.RegionLawGrows
import Derived.Deep.LoopGhost
import Derived.Deep.RegionWith
import Derived.Deep.QuietTactic
import Derived.BigQuiet
import Derived.Laws.OwnMore
import Derived.OwnWalk
import Derived.Maps.AppendAt
import Derived.RangeFuncNested
import Derived.RangeFuncBound
import Derived.RangeFuncCalls
import Derived.RangeFuncLeaves
import Derived.RangeFuncBox
import Derived.Shelf.Abstract
import Derived.Shelf.RegionOpen
import Derived.OwnWalkIn
import Derived.TacticsInMore
import Derived.LoopNIn
import Derived.LoopIn
import Derived.Lib.SmallJoins
import Derived.Deep.Fields
import Derived.Deep.Slices
import Derived.OrdersHeld
import Derived.Deep.RegionHeldLaw
import Derived.Deep.DeepCutAuto
import Derived.Laws.CopyRow
/- The program's callAt and Turned: a bench, and all benches, are turned in memory of the call's own. Conditions: those that each theorem names. -/
namespace Go.Proofs.YtifolooecfebfaaGreat
open Go.ChangeShapes Go.WideShapes Go.ChangeAt Go.RowKit Go.Sort
set_option linter.unusedVariables false
set_option linter.unusedSimpArgs false
set_option maxRecDepth 100000

theorem turnB_prog {m : SmyV} {b : Nat} {e : PaceV} {t : List PaceV} (h : atV m.smiths b m.smiths.length = e :: t) : turnB m b = { m with smiths := waitAll (m.smiths.set e.2.toNat (stS (recAt m.smiths e.2.toNat) 3)) t, desks := m.desks.set b ((recAt m.desks b).1, e.2, markedV (recAt m.desks b).2.2 e.1) } := by
  rw [turnB_cons h, turn_way h]

set_option maxHeartbeats 16000000 in
theorem callAt_any {w : World} {n₀ : Nat} {v0 v1 v2 v3 v4 : Value} {m : SmyV} {qs : List (RoomV × Value)} {b : Nat} (hf : FullSmy n₀ w v0 v1 v2 v3 v4 m qs) (hL : Loose m) (hb : b < m.desks.length) :
    Calls Tryz.prog 96 #[.agg #[v0, v1, v2, v3, v4, .int .i64 m.now], .int .i64 (b : Int)] w fun e w' => e = .returned (.tuple #[]) ∧ FullSmy n₀ w' v0 v1 v2 v3 v4 (turnB m b) qs ∧ Two v2.ownBlock v3.ownBlock w w' := by
  have h := hf.smy
  obtain ⟨a0, p0, rfl, _, _⟩ := IsRooms.shape h.rooms
  obtain ⟨a1, p1, rfl, _, _⟩ := IsRec.shape h.guilds
  obtain ⟨a2, p2, rfl, _, _⟩ := IsRec.shape h.smiths
  obtain ⟨a3, p3, rfl, _, _⟩ := IsRec.shape h.desks
  obtain ⟨a4, p4, rfl, _, _⟩ := IsRec.shape h.paces
  have hl12 := smy_twelve hL
  have heig := hL.sane.eight
  obtain ⟨g3, hga, hg3, hg3w, _, _⟩ := RecAt.view encDesk_len (by omega) hf.desks rfl (by omega)
  cases hga
  have L2 : Hid (∀ i, (Value.slice a2 m.smiths.length p2).ownBlock = some i → i < w.heap.size) := hide (fun i e => (RecAt.lt hf.smiths e).2)
  have HQ := hide (at_queue hL (b : Int) m.smiths.length (Nat.le_refl _))
  have HN : Hid (atV m.smiths (b : Int) m.smiths.length = [] → turnB m b = { m with desks := m.desks.set b ((recAt m.desks b).1, -1, (recAt m.desks b).2.2) }) := hide (fun h => turnB_nil h)
  have HC : Hid (∀ e t, atV m.smiths (b : Int) m.smiths.length = e :: t → turnB m b = { m with smiths := waitAll (m.smiths.set e.2.toNat (stS (recAt m.smiths e.2.toNat) 3)) t, desks := m.desks.set b ((recAt m.desks b).1, e.2, markedV (recAt m.desks b).2.2 e.1) }) := hide (fun e t h => turnB_prog h)
  have Hm : Hid (∀ x ∈ atV m.smiths (b : Int) m.smiths.length, ∃ j : Nat, j < m.smiths.length ∧ x.2 = (j : Int)) := hide (fun x hx => by
    obtain ⟨j, hj, _, _, rfl⟩ := (atV_mem m.smiths (b : Int) x m.smiths.length).1 hx
    exact ⟨j, hj, rfl⟩)
  have Hql := hide (atV_len m.smiths (b : Int) m.smiths.length)
  have HF := hide hf
  have HL := hide hL
  have hb1 : (b : Int) < (m.desks.length : Int) := by omega
  clear h hf hL hg3
  go_enter Tryz.func96, Tryz.ntmps96
  go_upto_region 1 with fail
  have hba : Below w.heap.size w (w.alloc (.cells #[.slice a0 m.rooms.length p0, .slice a1 m.guilds.length p1, .slice a2 m.smiths.length p2, .slice (some ⟨g3, 0, none⟩) m.desks.length p3, .slice a4 m.paces.length p4, .int .i64 m.now] 32)) := (Below.refl _ _).alloc (Nat.le_refl _) _
  have kb : Hid (Blk (w.alloc (.cells #[.slice a0 m.rooms.length p0, .slice a1 m.guilds.length p1, .slice a2 m.smiths.length p2, .slice (some ⟨g3, 0, none⟩) m.desks.length p3, .slice a4 m.paces.length p4, .int .i64 m.now] 32)) w.heap.size 32 #[.slice a0 m.rooms.length p0, .slice a1 m.guilds.length p1, .slice a2 m.smiths.length p2, .slice (some ⟨g3, 0, none⟩) m.desks.length p3, .slice a4 m.paces.length p4, .int .i64 m.now]) := hide (Blk.new _ _ _)
  replace HF := hide ((unhide HF).below hba)
  have Tw : Hid (Two (Value.slice a2 m.smiths.length p2).ownBlock (some g3) w (w.alloc (.cells #[.slice a0 m.rooms.length p0, .slice a1 m.guilds.length p1, .slice a2 m.smiths.length p2, .slice (some ⟨g3, 0, none⟩) m.desks.length p3, .slice a4 m.paces.length p4, .int .i64 m.now] 32))) := hide (Two.of_below hba)
  have hgW : g3 < (w.alloc (.cells #[.slice a0 m.rooms.length p0, .slice a1 m.guilds.length p1, .slice a2 m.smiths.length p2, .slice (some ⟨g3, 0, none⟩) m.desks.length p3, .slice a4 m.paces.length p4, .int .i64 m.now] 32)).heap.size := Nat.lt_of_lt_of_le hg3w hba.size
  have hRW : w.heap.size < (w.alloc (.cells #[.slice a0 m.rooms.length p0, .slice a1 m.guilds.length p1, .slice a2 m.smiths.length p2, .slice (some ⟨g3, 0, none⟩) m.desks.length p3, .slice a4 m.paces.length p4, .int .i64 m.now] 32)).heap.size := (unhide kb).lt
  clear hba
  generalize w.alloc (.cells #[.slice a0 m.rooms.length p0, .slice a1 m.guilds.length p1, .slice a2 m.smiths.length p2, .slice (some ⟨g3, 0, none⟩) m.desks.length p3, .slice a4 m.paces.length p4, .int .i64 m.now] 32) = W at *
  have H2 : Hid ((Value.slice a2 m.smiths.length p2).ownBlock ≠ some w.heap.size) := hide (fun e => by have := unhide L2 _ e; omega)
  have H3 : Hid (some g3 ≠ some w.heap.size) := hide (fun e => by cases e; omega)
  have Low2 : Hid (∀ i, (Value.slice a2 m.smiths.length p2).ownBlock = some i → i < W.heap.size) := hide (fun i e => by have := unhide L2 i e; omega)
  have c0 := (unhide kb).cell (i := 0) (v := .slice a0 m.rooms.length p0) rfl
  have c1 := (unhide kb).cell (i := 1) (v := .slice a1 m.guilds.length p1) rfl
  have c2 := (unhide kb).cell (i := 2) (v := .slice a2 m.smiths.length p2) rfl
  have c3 := (unhide kb).cell (i := 3) (v := .slice (some ⟨g3, 0, none⟩) m.desks.length p3) rfl
  have c4 := (unhide kb).cell (i := 4) (v := .slice a4 m.paces.length p4) rfl
  have c5 := (unhide kb).cell (i := 5) (v := .int .i64 m.now) rfl
  go_wp2_with fail
  refine (queueAt_any (b : Int) (unhide HF).smy (unhide HL)).mono ?_
  rintro e w1 ⟨v', rfl, he, hb⟩
  clear c0 c1 c2 c3 c4 c5
  generalize atV m.smiths (b : Int) m.smiths.length = q at *
  obtain ⟨qa, qc, rfl⟩ := EntsAt.shape he
  have HE := hide he
  replace HF := hide ((unhide HF).below hb)
  replace kb := hide ((unhide kb).below hb (unhide kb).lt)
  replace Tw := hide ((unhide Tw).trans (Two.of_below hb))
  have hgw1 : g3 < w1.heap.size := Nat.lt_of_lt_of_le hgW hb.size
  have hw1 := hb.size
  clear he hb
  go_wp2_with fail
  refine (implFirstIn_any (unhide HE).paces).mono ?_
  rintro e w2 ⟨rfl, hb⟩
  replace HE := hide ((unhide HE).later hb)
  replace HF := hide ((unhide HF).below hb)
  replace kb := hide ((unhide kb).below hb (unhide kb).lt)
  replace Tw := hide ((unhide Tw).trans (Two.of_below hb))
  have hgw2 : g3 < w2.heap.size := Nat.lt_of_lt_of_le hgw1 hb.size
  have hw2 : W.heap.size ≤ w2.heap.size := Nat.le_trans hw1 hb.size
  clear hb hw1 hgw1
  obtain ⟨⟨op, wh, mk⟩, hrk⟩ : ∃ d, recAt m.desks b = d := ⟨_, rfl⟩
  rw [hrk] at HN HC
  simp only at HN HC
  have Hrk := hide hrk
  clear hrk
  have Hset : Hid (∀ d, recAt (m.desks.set b d) b = d) := hide (fun d => by rw [recAt_set hb, if_pos rfl])
  cases q with
  | nil =>
    have hfv : firstV [] = ((0, 0), false) := firstV_no rfl
    rw [hfv]
    clear HC hfv
    go_upto_region 4 with fail
    have hba : Below w2.heap.size w2 (w2.alloc (.cells #[.int .i64 0, .int .i64 0] 129)) := (Below.refl _ _).alloc (Nat.le_refl _) _
    replace HF := hide ((unhide HF).below hba)
    replace kb := hide ((unhide kb).below hba (unhide kb).lt)
    replace Tw := hide ((unhide Tw).trans (Two.of_below hba))
    clear hba
    generalize w2.alloc (.cells #[.int .i64 0, .int .i64 0] 129) = X at *
    obtain ⟨_, hga, _, _, hc3, hz3⟩ := RecAt.view encDesk_len (by omega) (unhide HF).desks rfl (by omega)
    cases hga
    have d1 := hc3 b hb 1 _ rfl
    rw [unhide Hrk] at d1
    have f1 := hz3 (b * 3 + 1)
    have c3 := (unhide kb).cell (i := 3) (v := .slice (some ⟨g3, 0, none⟩) m.desks.length p3) rfl
    have hput := (unhide HF).putD rfl (j := b) (i := 1) hb (by omega) (.int .i64 (-1)) (op, -1, mk) (by rw [unhide Hrk]; rfl)
    have HP := hide hput
    clear hput hc3 hz3
    go_wp2_with fail
    refine bodyPost_ret (results_none rfl _ _ _) rfl ?_
    exact ⟨rfl, by rw [unhide HN (by first | rfl | trivial)]; exact unhide HP, (unhide Tw).trans (Two.of_set X (.inr rfl) _ _)⟩
  | cons e t =>
    have hfv : firstV (e :: t) = (e, true) := firstV_yes (unhide HQ) (by simp)
    obtain ⟨i0, hi0, hie⟩ := unhide Hm e (by simp)
    obtain ⟨hd0, ei⟩ := e
    simp only at hie
    subst hie
    rw [hfv]
    have hcons := unhide HC (hd0, (i0 : Int)) t rfl
    simp only [show ((i0 : Int)).toNat = i0 by simp] at hcons
    have Hcons := hide hcons
    have hi1 : (i0 : Int) < (m.smiths.length : Int) := by omega
    have htl : t.length ≤ 12 := by have := unhide Hql; simp at this; omega
    have Hmt : Hid (∀ x ∈ t, ∃ j : Nat, j < m.smiths.length ∧ x.2 = (j : Int)) := hide (fun x hx => unhide Hm x (List.mem_cons_of_mem _ hx))
    clear HN HC hfv hcons Hm HQ Hql
    obtain ⟨n1, hn1⟩ : ∃ n, n = ((hd0, (i0 : Int)) :: t).length := ⟨_, rfl⟩
    rw [← hn1] at HE
    rw [← hn1]
    clear hn1
    dsimp only
    go_upto_region 5 with fail
    have hba : Below w2.heap.size w2 (w2.alloc (.cells #[.int .i64 hd0, .int .i64 (i0 : Int)] 129)) := (Below.refl _ _).alloc (Nat.le_refl _) _
    have ke : Hid (Blk (w2.alloc (.cells #[.int .i64 hd0, .int .i64 (i0 : Int)] 129)) w2.heap.size 129 #[.int .i64 hd0, .int .i64 (i0 : Int)]) := hide (Blk.new _ _ _)
    replace HE := hide ((unhide HE).later hba)
    replace HF := hide ((unhide HF).below hba)
    replace kb := hide ((unhide kb).below hba (unhide kb).lt)
    replace Tw := hide ((unhide Tw).trans (Two.of_below hba))
    have hgX : w2.heap.size < (w2.alloc (.cells #[.int .i64 hd0, .int .i64 (i0 : Int)] 129)).heap.size := (unhide ke).lt
    clear hba
    generalize w2.alloc (.cells #[.int .i64 hd0, .int .i64 (i0 : Int)] 129) = X at *
    obtain ⟨g2, hga, _, _, hc2, hz2⟩ := RecAt.view encSmith_len (by omega) (unhide HF).smiths rfl (by omega)
    cases hga
    have hg2W := unhide Low2 g2 rfl
    have hn23 : g2 ≠ g3 := fun e => (unhide HF).a23 g2 rfl (by rw [e]; rfl)
    have s0 := hc2 i0 hi0 0 _ rfl
    have f0 := hz2 (i0 * 11)
    have hput := (unhide HF).putS rfl (j := i0) (i := 0) hi0 (by omega) (.int .i64 3) (stS (recAt m.smiths i0) 3) rfl
    simp only [Nat.add_zero] at s0 hput
    have HF1 := hide hput
    have c2 := (unhide kb).cell (i := 2) (v := .slice (some ⟨g2, 0, none⟩) m.smiths.length p2) rfl
    have e1 := (unhide ke).cell (i := 1) (v := .int .i64 (i0 : Int)) rfl
    clear hput hc2 hz2
    have ht : Two (some g2) (some g3) X (X.setCell ⟨g2, i0 * 11, none⟩ (.int .i64 3)) := Two.of_set X (.inl rfl) _ _
    have h2R : (some g2 : Option Nat) ≠ some w.heap.size := unhide H2
    have h3R : (some g3 : Option Nat) ≠ some w.heap.size := unhide H3
    have h2E : (some g2 : Option Nat) ≠ some w2.heap.size := fun e => by cases e; omega
    have h3E : (some g3 : Option Nat) ≠ some w2.heap.size := fun e => by cases e; omega
    replace kb := hide ((unhide kb).two ht h2R h3R)
    replace ke := hide ((unhide ke).two ht h2E h3E)
    replace HE := hide (Two.ents (unhide HE) ht (fun i e => by cases e; omega) (fun i e => by cases e; omega))
    have Tw1 : Hid (Two (some g2) (some g3) w (X.setCell ⟨g2, i0 * 11, none⟩ (.int .i64 3))) := hide ((unhide Tw).trans ht)
    clear ht Tw HF
    go_upto_region 6 with fail
    clear s0 f0 c2 e1
    generalize X.setCell ⟨g2, i0 * 11, none⟩ (.int .i64 3) = X1 at *
    obtain ⟨ss, hss⟩ : ∃ q, m.smiths.set i0 (stS (recAt m.smiths i0) 3) = q := ⟨_, rfl⟩
    have hsl : ss.length = m.smiths.length := by rw [← hss]; simp
    rw [hss] at Hcons HF1
    clear hss
    obtain ⟨_, hga, _, _, hc3, hz3⟩ := RecAt.view encDesk_len (by omega) (unhide HF1).desks rfl (by show 0 < m.desks.length; omega)
    cases hga
    have d1 := hc3 b hb 1 _ rfl
    have hrk2 : recAt ({ m with smiths := ss } : SmyV).desks b = (op, wh, mk) := unhide Hrk
    rw [hrk2] at d1
    have f1 := hz3 (b * 3 + 1)
    have c3 := (unhide kb).cell (i := 3) (v := .slice (some ⟨g3, 0, none⟩) m.desks.length p3) rfl
    have e1 := (unhide ke).cell (i := 1) (v := .int .i64 (i0 : Int)) rfl
    have hput := (unhide HF1).putD rfl (j := b) (i := 1) hb (by omega) (.int .i64 (i0 : Int)) (op, (i0 : Int), mk) (by rw [hrk2]; rfl)
    have HF2 := hide hput
    clear hput hc3 hz3 hrk2
    have ht : Two (some g2) (some g3) X1 (X1.setCell ⟨g3, b * 3 + 1, none⟩ (.int .i64 (i0 : Int))) := Two.of_set X1 (.inr rfl) _ _
    replace kb := hide ((unhide kb).two ht h2R h3R)
    replace ke := hide ((unhide ke).two ht h2E h3E)
    replace HE := hide (Two.ents (unhide HE) ht (fun i e => by cases e; omega) (fun i e => by cases e; omega))
    have Tw2 : Hid (Two (some g2) (some g3) w (X1.setCell ⟨g3, b * 3 + 1, none⟩ (.int .i64 (i0 : Int)))) := hide ((unhide Tw1).trans ht)
    clear ht Tw1 HF1
    go_upto_region 7 with fail
    clear d1 f1 c3 e1
    generalize X1.setCell ⟨g3, b * 3 + 1, none⟩ (.int .i64 (i0 : Int)) = X2 at *
    have hD1 : (m.desks.set b (op, (i0 : Int), mk)).length = m.desks.length := by simp
    obtain ⟨_, hga, _, _, hc3, hz3⟩ := RecAt.view encDesk_len (by omega) (unhide HF2).desks hD1.symm (by show 0 < (m.desks.set b _).length; omega)
    cases hga
    have hrk2 : recAt ({ m with smiths := ss, desks := m.desks.set b (op, (i0 : Int), mk) } : SmyV).desks b = (op, (i0 : Int), mk) := unhide Hset _
    have d2 := hc3 b (by show b < (m.desks.set b _).length; omega) 2 _ rfl
    rw [hrk2] at d2
    simp only at d2
    have f2 := hz3 (b * 3 + 2)
    have c3 := (unhide kb).cell (i := 3) (v := .slice (some ⟨g3, 0, none⟩) m.desks.length p3) rfl
    have e0 := (unhide ke).cell (i := 0) (v := .int .i64 hd0) rfl
    have hput := (unhide HF2).putD hD1.symm (j := b) (i := 2) (by show b < (m.desks.set b _).length; omega) (by omega) (.int .i64 (markedV mk hd0)) (op, (i0 : Int), (markedV mk hd0)) (by rw [hrk2]; rfl)
    simp only [List.set_set] at hput
    clear hc3 hz3 hrk2
    refine wp_region_last (S := fun w' => w'.cell? ⟨w.heap.size, 3, none⟩ = some (.slice (some ⟨g3, 0, none⟩) m.desks.length p3) ∧ w'.cell? ⟨g3, b * 3 + 2, none⟩ = some (.int .i64 mk) ∧ w'.cell? ⟨w2.heap.size, 0, none⟩ = some (.int .i64 hd0) ∧ w'.frozen? ⟨g3, b * 3 + 2, none⟩ = false) (by kernel_rfl) (List.cons_ne_nil _ _) (by kernel_rfl) ⟨c3, d2, e0, f2⟩ (fun hHeld => ?_)
    simp only [List.dropLast_cons_cons, List.dropLast_singleton, List.length_cons, List.length_nil, Nat.zero_add, Nat.reduceAdd]
    have hbd : Below X2.heap.size X2 X2.drew := (Below.refl _ _).drew
    (refine wpAnyH_take (i := 0) (v := ?_) rfl (by kernel_rfl) (by kernel_rfl) (by kernel_rfl) (fun _ _ _ h => h) (Or.inl ⟨by rfl, ?_⟩) (by assumption) ?_; rotate_left; (intro W9 hSw; (try dsimp only at hSw); go_simp; (try with_reducible rfl)); (try simp only [Act.put, List.setIfInBounds_toArray, List.set_cons_zero, List.set_cons_succ]))
    (refine wpAnyH_take (i := 1) (v := ?_) rfl (by kernel_rfl) (by kernel_rfl) (by kernel_rfl) (fun _ _ _ h => h) (Or.inl ⟨by rfl, ?_⟩) (by assumption) ?_; rotate_left; (intro W9 hSw; (try dsimp only at hSw); go_simp; (try with_reducible rfl)); (try simp only [Act.put, List.setIfInBounds_toArray, List.set_cons_zero, List.set_cons_succ]))
    (refine wpAnyH_take (i := 2) (v := ?_) rfl (by kernel_rfl) (by kernel_rfl) (by kernel_rfl) (fun _ _ _ h => h) (Or.inl ⟨by rfl, ?_⟩) (by assumption) ?_; rotate_left; (intro W9 hSw; (try dsimp only at hSw); go_simp; (try with_reducible rfl)); (try simp only [Act.put, List.setIfInBounds_toArray, List.set_cons_zero, List.set_cons_succ]))
    (refine wpAnyH_take (i := 3) (v := ?_) rfl (by kernel_rfl) (by kernel_rfl) (by kernel_rfl) (fun _ _ _ h => h) (Or.inl ⟨by rfl, ?_⟩) (by assumption) ?_; rotate_left; (intro W9 hSw; (try dsimp only at hSw); go_simp; (try with_reducible rfl)); (try simp only [Act.put, List.setIfInBounds_toArray, List.set_cons_zero, List.set_cons_succ]))
    (refine wpAnyH_take (i := 4) (v := ?_) rfl (by kernel_rfl) (by kernel_rfl) (by kernel_rfl) (fun _ _ _ h => h) (Or.inl ⟨by rfl, ?_⟩) (by assumption) ?_; rotate_left; (intro W9 hSw; (try dsimp only at hSw); go_simp; (try with_reducible rfl)); (try simp only [Act.put, List.setIfInBounds_toArray, List.set_cons_zero, List.set_cons_succ]))
    (refine wpAnyH_take (i := 5) (v := ?_) rfl (by kernel_rfl) (by kernel_rfl) (by kernel_rfl) (fun _ _ _ h => h) (Or.inl ⟨by rfl, ?_⟩) (by assumption) ?_; rotate_left; (intro W9 hSw; (try dsimp only at hSw); go_simp; (try with_reducible rfl)); (try simp only [Act.put, List.setIfInBounds_toArray, List.set_cons_zero, List.set_cons_succ]))
    (refine wpAnyH_take (i := 6) (v := ?_) rfl (by kernel_rfl) (by kernel_rfl) (by kernel_rfl) (fun _ _ _ h => h) (Or.inl ⟨by rfl, ?_⟩) (by assumption) ?_; rotate_left; (intro W9 hSw; (try dsimp only at hSw); go_simp; (try with_reducible rfl)); (try simp only [Act.put, List.setIfInBounds_toArray, List.set_cons_zero, List.set_cons_succ]))
    (refine wpAnyH_take (i := 7) (v := ?_) rfl (by kernel_rfl) (by kernel_rfl) (by kernel_rfl) (fun _ _ _ h => h) (Or.inl ⟨by rfl, ?_⟩) (by assumption) ?_; rotate_left; (intro W9 hSw; (try dsimp only at hSw); go_simp; (try with_reducible rfl)); (try simp only [Act.put, List.setIfInBounds_toArray, List.set_cons_zero, List.set_cons_succ]))
    (refine wpAnyH_take (i := 8) (v := ?_) rfl (by kernel_rfl) (by kernel_rfl) (by kernel_rfl) (fun _ _ _ h => h) (Or.inl ⟨by rfl, ?_⟩) (by assumption) ?_; rotate_left; (intro W9 hSw; (try dsimp only at hSw); go_simp; (try with_reducible rfl)); (try simp only [Act.put, List.setIfInBounds_toArray, List.set_cons_zero, List.set_cons_succ]))
    (refine wpAnyH_take (i := 9) (v := ?_) rfl (by kernel_rfl) (by kernel_rfl) (by kernel_rfl) (fun _ _ _ h => h) (Or.inl ⟨by rfl, ?_⟩) (by assumption) ?_; rotate_left; (intro W9 hSw; (try dsimp only at hSw); go_simp; (try with_reducible rfl)); (try simp only [Act.put, List.setIfInBounds_toArray, List.set_cons_zero, List.set_cons_succ]))
    (refine wpAnyH_take (i := 10) (v := ?_) rfl (by kernel_rfl) (by kernel_rfl) (by kernel_rfl) (fun _ _ _ h => h) (Or.inl ⟨by rfl, ?_⟩) (by assumption) ?_; rotate_left; (intro W9 hSw; (try dsimp only at hSw); go_simp; (try with_reducible rfl)); (try simp only [Act.put, List.setIfInBounds_toArray, List.set_cons_zero, List.set_cons_succ]))
    refine wpAnyH_ready (rs := [11]) (by kernel_rfl) (by simp) ?_
    refine AllReadyH.cons rfl (fun K hK => ?_) AllReadyH.nil
    go_simp
    refine (implMarked_any mk hd0 _).mono ?_
    rintro e9 w9 ⟨rfl, hb9'⟩
    have hb9 : Below X2.heap.size X2 w9 := hbd.trans hb9'
    clear hb9' hbd
    replace kb := hide ((unhide kb).below hb9 (unhide kb).lt)
    replace ke := hide ((unhide ke).below hb9 (unhide ke).lt)
    replace HE := hide ((unhide HE).later hb9)
    replace Tw2 := hide ((unhide Tw2).trans (Two.of_below hb9))
    have HF3 : Hid (FullSmy n₀ w9 (.slice a0 m.rooms.length p0) (.slice a1 m.guilds.length p1) (.slice (some ⟨g2, 0, none⟩) m.smiths.length p2) (.slice (some ⟨g3, 0, none⟩) m.desks.length p3) (.slice a4 m.paces.length p4) { m with smiths := ss, desks := m.desks.set b (op, (i0 : Int), mk) } qs) := hide ((unhide HF2).below hb9)
    clear hput
    obtain ⟨_, hga, _, _, hc3, hz3⟩ := RecAt.view encDesk_len (by omega) (unhide HF3).desks hD1.symm (by show 0 < (m.desks.set b _).length; omega)
    cases hga
    have hrk2 : recAt ({ m with smiths := ss, desks := m.desks.set b (op, (i0 : Int), mk) } : SmyV).desks b = (op, (i0 : Int), mk) := unhide Hset _
    have d3 := hc3 b (by show b < (m.desks.set b _).length; omega) 2 _ rfl
    rw [hrk2] at d3
    simp only at d3
    have f3 := hz3 (b * 3 + 2)
    have hput := (unhide HF3).putD hD1.symm (j := b) (i := 2) (by show b < (m.desks.set b _).length; omega) (by omega) (.int .i64 (markedV mk hd0)) (op, (i0 : Int), (markedV mk hd0)) (by rw [hrk2]; rfl)
    simp only [List.set_set] at hput
    have HF4 := hide hput
    clear hput hc3 hz3 hrk2
    refine hK.out _ _ ⟨(unhide kb).cell (i := 3) rfl, d3, (unhide ke).cell (i := 0) rfl, f3⟩ (fun hHeld => ?_)
    clear hK K c3 e0 d2 f2 hb9
    (try simp only [Act.put, List.setIfInBounds_toArray, List.set_cons_zero, List.set_cons_succ])
    (refine wpAnyH_take (i := 12) (v := ?_) rfl (by kernel_rfl) (by kernel_rfl) (by kernel_rfl) (fun _ _ _ h => h) (Or.inl ⟨by rfl, ?_⟩) (by assumption) ?_; rotate_left; (intro W9 hSw; (try dsimp only at hSw); go_simp; (try with_reducible rfl)); (try simp only [Act.put, List.setIfInBounds_toArray, List.set_cons_zero, List.set_cons_succ]))
    (refine wpAnyH_take (i := 13) (v := ?_) rfl (by kernel_rfl) (by kernel_rfl) (by kernel_rfl) (fun _ _ _ h => h) (Or.inl ⟨by rfl, ?_⟩) (by assumption) ?_; rotate_left; (intro W9 hSw; (try dsimp only at hSw); go_simp; (try with_reducible rfl)); (try simp only [Act.put, List.setIfInBounds_toArray, List.set_cons_zero, List.set_cons_succ]))
    refine wpAnyH_done (by kernel_rfl) ?_ _
    refine tailQ_run rfl rfl ?_
    go_simp
    clear hHeld d3 f3
    have ht : Two (some g2) (some g3) w9 (w9.setCell ⟨g3, b * 3 + 2, none⟩ (.int .i64 (markedV mk hd0))) := Two.of_set w9 (.inr rfl) _ _
    replace kb := hide ((unhide kb).two ht h2R h3R)
    replace HE := hide (Two.ents (unhide HE) ht (fun i e => by cases e; omega) (fun i e => by cases e; omega))
    have Tw4 : Hid (Two (some g2) (some g3) w (w9.setCell ⟨g3, b * 3 + 2, none⟩ (.int .i64 (markedV mk hd0)))) := hide ((unhide Tw2).trans ht)
    clear ht Tw2 HF3 HF2 ke
    generalize w9.setCell ⟨g3, b * 3 + 2, none⟩ (.int .i64 (markedV mk hd0)) = X4 at *
    obtain ⟨ds, hds⟩ : ∃ q, m.desks.set b (op, (i0 : Int), (markedV mk hd0)) = q := ⟨_, rfl⟩
    rw [hds] at Hcons HF4
    clear hds hD1
    have h2X : g2 < X4.heap.size := by have h9 := (unhide HF4).smiths; exact (RecAt.lt h9 rfl).2
    have h3X : g3 < X4.heap.size := by have h9 := (unhide HF4).desks; exact (RecAt.lt h9 rfl).2
    go_wp2_with fail
    refine (waitingIn_any (unhide HE).paces (by omega)).mono ?_
    rintro e w5 ⟨v5, rfl, he5, hb5⟩
    obtain ⟨ya, yc, rfl⟩ := EntsAt.shape he5
    have HE5 := hide he5
    have hX4 : w.heap.size < X4.heap.size := (unhide kb).lt
    replace kb := hide ((unhide kb).below hb5 (unhide kb).lt)
    replace HF4 := hide ((unhide HF4).below hb5)
    replace Tw4 := hide ((unhide Tw4).trans (Two.of_below hb5))
    clear he5 hb5 HE
    go_wp2_with fail
    go_loopw [54] (fun i wi => ∃ j : Nat, j ≤ t.length ∧ i = .int .i64 j ∧ FullSmy n₀ wi (.slice a0 m.rooms.length p0) (.slice a1 m.guilds.length p1) (.slice (some ⟨g2, 0, none⟩) m.smiths.length p2) (.slice (some ⟨g3, 0, none⟩) m.desks.length p3) (.slice a4 m.paces.length p4) { m with smiths := waitAll ss (t.take j), desks := ds } qs ∧ Two (some g2) (some g3) w5 wi) (fun i _ => t.length - (intOf i).toNat)
    case atStart => exact ⟨0, Nat.zero_le _, rfl, by simpa [waitAll] using unhide HF4, Two.refl _ _ _⟩
    case round =>
      obtain ⟨j, hj, rfl, hf3, htw3⟩ := hrel
      have HF5 := hide hf3
      have Tw5 := hide htw3
      have K5 := hide ((unhide kb).two htw3 h2R h3R)
      have HE6 := hide (Two.ents (unhide HE5) htw3 (fun i e => by cases e; exact h2X) (fun i e => by cases e; exact h3X))
      have hzr := htw3.size
      clear hf3 htw3
      by_cases hjl : j < t.length
      · obtain ⟨_, _, hqe, _, _, hr⟩ := EntsAt.paces (unhide HE6)
        cases hqe
        rcases hr with e0 | ⟨eb, eo, rfl, hbw, hcl⟩
        · rw [e0] at hjl; simp at hjl
        obtain ⟨d0, d1⟩ := hcl j hjl
        obtain ⟨i2, hi2, hie⟩ := unhide Hmt _ (paceAt_mem hjl)
        rw [hie] at d1
        have Htk : Hid (waitAll ss (t.take (j + 1)) = (waitAll ss (t.take j)).set i2 (stS (recAt (waitAll ss (t.take j)) i2) 2)) := hide (by rw [take_one hjl, waitAll_snoc, hie]; simp)
        obtain ⟨hh, hhh⟩ : ∃ q, (paceAt t j).1 = q := ⟨_, rfl⟩
        rw [hhh] at d0
        have hjl1 : (j : Int) < (t.length : Int) := by omega
        clear hcl hie hhh
        go_upto_region 11 with fail
        clear d0 d1
        have hba : Below wr.heap.size wr (wr.alloc (.cells #[.int .i64 hh, .int .i64 (i2 : Int)] 129)) := (Below.refl _ _).alloc (Nat.le_refl _) _
        have ke : Hid (Blk (wr.alloc (.cells #[.int .i64 hh, .int .i64 (i2 : Int)] 129)) wr.heap.size 129 #[.int .i64 hh, .int .i64 (i2 : Int)]) := hide (Blk.new _ _ _)
        replace K5 := hide ((unhide K5).below hba (unhide K5).lt)
        replace HF5 := hide ((unhide HF5).below hba)
        replace Tw5 := hide ((unhide Tw5).trans (Two.of_below hba))
        clear hba
        generalize wr.alloc (.cells #[.int .i64 hh, .int .i64 (i2 : Int)] 129) = Y at *
        have hwl : (waitAll ss (t.take j)).length = m.smiths.length := by rw [waitAll_len, hsl]
        obtain ⟨_, hga, _, _, hc2, hz2⟩ := RecAt.view encSmith_len (by omega) (unhide HF5).smiths hwl.symm (by show 0 < (waitAll ss (t.take j)).length; omega)
        cases hga
        have s0 := hc2 i2 (by show i2 < (waitAll ss (t.take j)).length; omega) 0 _ rfl
        have f0 := hz2 (i2 * 11)
        have hput := (unhide HF5).putS hwl.symm (j := i2) (i := 0) (by show i2 < (waitAll ss (t.take j)).length; omega) (by omega) (.int .i64 2) (stS (recAt (waitAll ss (t.take j)) i2) 2) rfl
        simp only [Nat.add_zero] at s0 hput
        have HF6 := hide hput
        have c2 := (unhide K5).cell (i := 2) (v := .slice (some ⟨g2, 0, none⟩) m.smiths.length p2) rfl
        have e1 := (unhide ke).cell (i := 1) (v := .int .i64 (i2 : Int)) rfl
        have hi3 : (i2 : Int) < (m.smiths.length : Int) := by omega
        clear hput hc2 hz2 hwl
        go_wp2_with fail
        go_roundw
        case rel => exact ⟨j + 1, by omega, by go_num, by rw [unhide Htk]; exact unhide HF6, (unhide Tw5).trans (Two.of_set _ (.inl rfl) _ _)⟩
        case measure => simp [intOf]; omega
      · obtain rfl : j = t.length := by omega
        rw [List.take_length] at HF5
        go_wp2_with fail
        go_end0
        exact ⟨rfl, by rw [unhide Hcons]; exact unhide HF5, (unhide Tw4).trans (unhide Tw5)⟩

set_option maxHeartbeats 8000000 in
theorem implTurned_any (w : World) (v0 v1 v2 v3 v4 : Value) (m : SmyV) (h : Smy w v0 v1 v2 v3 v4 m) :
    Calls Tryz.prog 37 #[.agg #[v0, v1, v2, v3, v4, .int .i64 m.now]] w fun e w' => ∃ u0 u1 u2 u3 u4 rs, e = .returned (.agg #[u0, u1, u2, u3, u4, .int .i64 (turnedV m).now]) ∧ FullSmy w.heap.size w' u0 u1 u2 u3 u4 (turnedV m) rs ∧ Below w.heap.size w w' := by
  obtain ⟨M, hM⟩ : ∃ x, turnedV m = x := ⟨_, rfl⟩
  rw [hM]
  have HM := hide hM
  clear hM
  have Hv0 := hide h
  obtain ⟨a0, p0, rfl, _, _⟩ := IsRooms.shape h.rooms
  obtain ⟨a1, p1, rfl, _, _⟩ := IsRec.shape h.guilds
  obtain ⟨a2, p2, rfl, _, _⟩ := IsRec.shape h.smiths
  obtain ⟨a3, p3, rfl, _, _⟩ := IsRec.shape h.desks
  obtain ⟨a4, p4, rfl, _, _⟩ := IsRec.shape h.paces
  clear h
  obtain ⟨ok, hok⟩ : ∃ q, looseB m = q := ⟨_, rfl⟩
  have Hok := hide hok
  have Hok2 : Hid (inPlaceIB m = ok) := hide (by rw [loose_same]; exact hok)
  clear hok
  go_enter Tryz.func37, Tryz.ntmps37
  go_wp2_with fail
  have kb : Hid (Blk ((w.alloc (.cells #[.slice a0 m.rooms.length p0, .slice a1 m.guilds.length p1, .slice a2 m.smiths.length p2, .slice a3 m.desks.length p3, .slice a4 m.paces.length p4, .int .i64 m.now] 32)).alloc (.cells #[.slice none 0 0, .slice none 0 0, .slice none 0 0, .slice none 0 0, .slice none 0 0, .int .i64 0] 32)) w.heap.size 32 #[.slice a0 m.rooms.length p0, .slice a1 m.guilds.length p1, .slice a2 m.smiths.length p2, .slice a3 m.desks.length p3, .slice a4 m.paces.length p4, .int .i64 m.now]) := hide ((Blk.new w _ _).alloc _)
  have kr : Hid (Blk ((w.alloc (.cells #[.slice a0 m.rooms.length p0, .slice a1 m.guilds.length p1, .slice a2 m.smiths.length p2, .slice a3 m.desks.length p3, .slice a4 m.paces.length p4, .int .i64 m.now] 32)).alloc (.cells #[.slice none 0 0, .slice none 0 0, .slice none 0 0, .slice none 0 0, .slice none 0 0, .int .i64 0] 32)) (w.heap.size + 1) 32 #[.slice none 0 0, .slice none 0 0, .slice none 0 0, .slice none 0 0, .slice none 0 0, .int .i64 0]) := hide (by
    have k := Blk.new (w.alloc (.cells #[.slice a0 m.rooms.length p0, .slice a1 m.guilds.length p1, .slice a2 m.smiths.length p2, .slice a3 m.desks.length p3, .slice a4 m.paces.length p4, .int .i64 m.now] 32)) 32 #[.slice none 0 0, .slice none 0 0, .slice none 0 0, .slice none 0 0, .slice none 0 0, .int .i64 0]
    rw [World.size_alloc] at k
    exact k)
  have BB : Hid (Below w.heap.size w ((w.alloc (.cells #[.slice a0 m.rooms.length p0, .slice a1 m.guilds.length p1, .slice a2 m.smiths.length p2, .slice a3 m.desks.length p3, .slice a4 m.paces.length p4, .int .i64 m.now] 32)).alloc (.cells #[.slice none 0 0, .slice none 0 0, .slice none 0 0, .slice none 0 0, .slice none 0 0, .int .i64 0] 32))) := hide (((Below.refl _ _).alloc (Nat.le_refl _) _).alloc (by simp) _)
  have Hv := hide ((unhide Hv0).below (unhide BB))
  generalize (w.alloc (.cells #[.slice a0 m.rooms.length p0, .slice a1 m.guilds.length p1, .slice a2 m.smiths.length p2, .slice a3 m.desks.length p3, .slice a4 m.paces.length p4, .int .i64 m.now] 32)).alloc (.cells #[.slice none 0 0, .slice none 0 0, .slice none 0 0, .slice none 0 0, .slice none 0 0, .int .i64 0] 32) = W at *
  refine (allInPlace_any (unhide Hv)).mono ?_
  rw [unhide Hok2]
  rintro e w1 ⟨rfl, hb⟩
  replace Hv := hide ((unhide Hv).below hb)
  replace kb := hide ((unhide kb).below hb (unhide kb).lt)
  replace kr := hide ((unhide kr).below hb (unhide kr).lt)
  replace BB := hide ((unhide BB).trans (hb.mono (unhide BB).size))
  clear hb
  cases ok
  · -- it is not right
    obtain rfl : M = zeroM := by rw [← unhide HM]; unfold turnedV; rw [unhide Hok]; rfl
    have o0 := (unhide kr).cell (i := 0) (v := .slice none 0 0) rfl
    have o1 := (unhide kr).cell (i := 1) (v := .slice none 0 0) rfl
    have o2 := (unhide kr).cell (i := 2) (v := .slice none 0 0) rfl
    have o3 := (unhide kr).cell (i := 3) (v := .slice none 0 0) rfl
    have o4 := (unhide kr).cell (i := 4) (v := .slice none 0 0) rfl
    have o5 := (unhide kr).cell (i := 5) (v := .int .i64 0) rfl
    have f0 := (unhide kr).free 0
    have f1 := (unhide kr).free 1
    have f2 := (unhide kr).free 2
    have f3 := (unhide kr).free 3
    have f4 := (unhide kr).free 4
    have f5 := (unhide kr).free 5
    go_wp2_with fail
    refine bodyPost_ret (v := .agg #[.slice none 0 0, .slice none 0 0, .slice none 0 0, .slice none 0 0, .slice none 0 0, .int .i64 0]) (by simp [results, Tryz.results37, go_sem, *]) rfl ⟨_, _, _, _, _, [], rfl, full_zero _ _, ?_⟩
    iterate 6 (refine Below.setCell ?_ (by show _ ≤ w.heap.size + 1; omega) _)
    exact unhide BB
  obtain rfl : M = turnV m := by rw [← unhide HM]; unfold turnedV; rw [unhide Hok]; rfl
  have hlo := loose_of (unhide Hok)
  have HLo := hide hlo
  have HFew := hide (few_of hlo)
  clear hlo
  have c0 := (unhide kb).cell (i := 0) (v := .slice a0 m.rooms.length p0) rfl
  have c1 := (unhide kb).cell (i := 1) (v := .slice a1 m.guilds.length p1) rfl
  have c2 := (unhide kb).cell (i := 2) (v := .slice a2 m.smiths.length p2) rfl
  have c3 := (unhide kb).cell (i := 3) (v := .slice a3 m.desks.length p3) rfl
  have c4 := (unhide kb).cell (i := 4) (v := .slice a4 m.paces.length p4) rfl
  have c5 := (unhide kb).cell (i := 5) (v := .int .i64 m.now) rfl
  go_wp2_with fail
  clear c0 c1 c2 c3 c4 c5
  have hWs : w.heap.size + 2 ≤ w1.heap.size := by have := (unhide kr).lt; omega
  refine (copyOfSmithy_any (unhide Hv) (unhide HFew)).mono ?_
  rintro e w2 ⟨y0, y1, y2, y3, y4, oq, rfl, ho, hb⟩
  have k9 := ho.smy
  obtain ⟨b0, q0, rfl, _, _⟩ := IsRooms.shape k9.rooms
  obtain ⟨b1, q1, rfl, _, _⟩ := IsRec.shape k9.guilds
  obtain ⟨b2, q2, rfl, _, _⟩ := IsRec.shape k9.smiths
  obtain ⟨b3, q3, rfl, _, _⟩ := IsRec.shape k9.desks
  obtain ⟨b4, q4, rfl, _, _⟩ := IsRec.shape k9.paces
  replace Hv := hide ((unhide Hv).below hb)
  replace kb := hide ((unhide kb).below hb (unhide kb).lt)
  replace kr := hide ((unhide kr).below hb (unhide kr).lt)
  replace BB := hide ((unhide BB).trans (hb.mono (unhide BB).size))
  have HO := hide (ho.mono hWs)
  have LO : Hid (∀ k, OwnB (.slice b0 m.rooms.length q0) (.slice b1 m.guilds.length q1) (.slice b2 m.smiths.length q2) (.slice b3 m.desks.length q3) (.slice b4 m.paces.length q4) oq k → w.heap.size + 2 ≤ k ∧ k < w2.heap.size) := hide (fun k e => (unhide HO).own e)
  have hsz9 := hb.size
  clear ho hb k9
  go_upto_region 4 with fail
  have hb : Below w2.heap.size w2 (w2.alloc (.cells #[.slice b0 m.rooms.length q0, .slice b1 m.guilds.length q1, .slice b2 m.smiths.length q2, .slice b3 m.desks.length q3, .slice b4 m.paces.length q4, .int .i64 m.now] 32)) := (Below.refl _ _).alloc (Nat.le_refl _) _
  replace Hv := hide ((unhide Hv).below hb)
  replace kb := hide ((unhide kb).below hb (unhide kb).lt)
  replace kr := hide ((unhide kr).below hb (unhide kr).lt)
  replace BB := hide ((unhide BB).trans (hb.mono (unhide BB).size))
  replace HO := hide ((unhide HO).below hb)
  have ko : Hid (Blk (w2.alloc (.cells #[.slice b0 m.rooms.length q0, .slice b1 m.guilds.length q1, .slice b2 m.smiths.length q2, .slice b3 m.desks.length q3, .slice b4 m.paces.length q4, .int .i64 m.now] 32)) w2.heap.size 32 #[.slice b0 m.rooms.length q0, .slice b1 m.guilds.length q1, .slice b2 m.smiths.length q2, .slice b3 m.desks.length q3, .slice b4 m.paces.length q4, .int .i64 m.now]) := hide (Blk.new _ _ _)
  have hob : w.heap.size + 2 ≤ w2.heap.size := Nat.le_trans hWs hsz9
  clear hb hsz9 hWs
  generalize w2.alloc (.cells #[.slice b0 m.rooms.length q0, .slice b1 m.guilds.length q1, .slice b2 m.smiths.length q2, .slice b3 m.desks.length q3, .slice b4 m.paces.length q4, .int .i64 m.now] 32) = W2 at *
  generalize w2.heap.size = ob at *
  have x3 := (unhide ko).cell (i := 3) (v := .slice b3 m.desks.length q3) rfl
  go_wp2_with fail
  clear x3
  go_loopw [4, 14] (fun u i wr => ∃ k : Nat, k ≤ m.desks.length ∧ i = .int .i64 k ∧ FullSmy (w.heap.size + 2) wr (.slice b0 m.rooms.length q0) (.slice b1 m.guilds.length q1) (.slice b2 m.smiths.length q2) (.slice b3 m.desks.length q3) (.slice b4 m.paces.length q4) (turnK m k) oq ∧ Two (Value.slice b2 m.smiths.length q2).ownBlock (Value.slice b3 m.desks.length q3).ownBlock W2 wr) (fun _ i _ => m.desks.length - (intOf i).toNat)
  case atStart => exact ⟨0, Nat.zero_le _, rfl, unhide HO, Two.refl _ _ _⟩
  case round =>
    obtain ⟨k, hk, rfl, hf1, htw⟩ := hrel
    have H2 : (Value.slice b2 m.smiths.length q2).ownBlock ≠ some ob := fun e => by have := (unhide LO _ (.inr (.inr (.inr (.inl e))))).2; omega
    have H3 : (Value.slice b3 m.desks.length q3).ownBlock ≠ some ob := fun e => by have := (unhide LO _ (.inr (.inr (.inr (.inr (.inl e)))))).2; omega
    have ko1 := hide ((unhide ko).two htw H2 H3)
    have HF1 := hide hf1
    have Tw := hide htw
    clear hf1 htw H2 H3
    have hnow : (turnK m k).now = m.now := (turnK_same m k).2.2.2.1
    have hdl : (turnK m k).desks.length = m.desks.length := (turnK_same m k).2.2.2.2.2
    by_cases hlt : k < m.desks.length
    · have hlt1 : (k : Int) < (m.desks.length : Int) := by omega
      have hc := callAt_any (b := k) (unhide HF1) (turnK_loose (unhide HLo) k hk) (by omega)
      rw [hnow] at hc
      have Hc := hide hc
      clear hc hnow hdl
      have x0 := (unhide ko1).cell (i := 0) (v := .slice b0 m.rooms.length q0) rfl
      have x1 := (unhide ko1).cell (i := 1) (v := .slice b1 m.guilds.length q1) rfl
      have x2 := (unhide ko1).cell (i := 2) (v := .slice b2 m.smiths.length q2) rfl
      have x3 := (unhide ko1).cell (i := 3) (v := .slice b3 m.desks.length q3) rfl
      have x4 := (unhide ko1).cell (i := 4) (v := .slice b4 m.paces.length q4) rfl
      have x5 := (unhide ko1).cell (i := 5) (v := .int .i64 m.now) rfl
      go_wp2_with fail
      clear x0 x1 x2 x3 x4 x5
      refine (unhide Hc).mono ?_
      rintro e w5 ⟨rfl, hf5, ht5⟩
      have HF5 := hide hf5
      have T5 := hide ((unhide Tw).trans ht5)
      clear hf5 ht5
      go_wp2_with fail
      go_roundw
      case rel => exact ⟨k + 1, by omega, by go_num, unhide HF5, unhide T5⟩
      case measure => simp [intOf]; omega
    · -- all are turned
      obtain rfl : k = m.desks.length := by omega
      replace kr := hide ((unhide kr).two (unhide Tw) (fun e => by have := (unhide LO _ (.inr (.inr (.inr (.inl e))))).1; omega) (fun e => by have := (unhide LO _ (.inr (.inr (.inr (.inr (.inl e)))))).1; omega))
      replace BB := hide ((unhide BB).trans ((unhide Tw).below (unhide BB).size (fun k e => by have := (unhide LO k (.inr (.inr (.inr (.inl e))))).1; omega) (fun k e => by have := (unhide LO k (.inr (.inr (.inr (.inr (.inl e)))))).1; omega)))
      have x0 := (unhide ko1).cell (i := 0) (v := .slice b0 m.rooms.length q0) rfl
      have x1 := (unhide ko1).cell (i := 1) (v := .slice b1 m.guilds.length q1) rfl
      have x2 := (unhide ko1).cell (i := 2) (v := .slice b2 m.smiths.length q2) rfl
      have x3 := (unhide ko1).cell (i := 3) (v := .slice b3 m.desks.length q3) rfl
      have x4 := (unhide ko1).cell (i := 4) (v := .slice b4 m.paces.length q4) rfl
      have x5 := (unhide ko1).cell (i := 5) (v := .int .i64 m.now) rfl
      have o0 := (unhide kr).cell (i := 0) (v := .slice none 0 0) rfl
      have o1 := (unhide kr).cell (i := 1) (v := .slice none 0 0) rfl
      have o2 := (unhide kr).cell (i := 2) (v := .slice none 0 0) rfl
      have o3 := (unhide kr).cell (i := 3) (v := .slice none 0 0) rfl
      have o4 := (unhide kr).cell (i := 4) (v := .slice none 0 0) rfl
      have o5 := (unhide kr).cell (i := 5) (v := .int .i64 0) rfl
      have f0 := (unhide kr).free 0
      have f1 := (unhide kr).free 1
      have f2 := (unhide kr).free 2
      have f3 := (unhide kr).free 3
      have f4 := (unhide kr).free 4
      have f5 := (unhide kr).free 5
      have Hnow : Hid ((turnV m).now = m.now) := hide hnow
      clear hnow hdl
      go_wp2_with fail
      refine bodyPost_ret (v := .agg #[.slice b0 m.rooms.length q0, .slice b1 m.guilds.length q1, .slice b2 m.smiths.length q2, .slice b3 m.desks.length q3, .slice b4 m.paces.length q4, .int .i64 m.now]) (by simp [results, Tryz.results37, go_sem, *]) rfl ⟨_, _, _, _, _, oq, by rw [unhide Hnow], ?_, ?_⟩
      · iterate 6 (refine FullSmy.set_off ?_ (fun k e => by have := (unhide LO k e).1; omega) _ _)
        exact (unhide HF1).mono (by omega)
      · iterate 6 (refine Below.setCell ?_ (by show _ ≤ w.heap.size + 1; omega) _)
        exact unhide BB

end Go.Proofs.YtifolooecfebfaaGreat

