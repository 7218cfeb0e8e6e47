/- What the proof rests on, part 31: lists and numbers, how they lie in memory, and contracts of the calls. No condition but those that a theorem names. -/
import Derived.Test.YtifolooecfebfaaGreatXe01
import Derived.Test.YtifolooecfebfaaGreatXe02
import Derived.Test.YtifolooecfebfaaGreatXe03
import Derived.Test.YtifolooecfebfaaGreatXe04
import Derived.Test.YtifolooecfebfaaGreatXe05
import Derived.Test.YtifolooecfebfaaGreatXe06
import Derived.Test.YtifolooecfebfaaGreatXe07
import Derived.Test.YtifolooecfebfaaGreatXe08
import Derived.Test.YtifolooecfebfaaGreatXe09
import Derived.Test.YtifolooecfebfaaGreatXe10
import Derived.Test.YtifolooecfebfaaGreatXe11
import Derived.Test.YtifolooecfebfaaGreatXe12
import Derived.Test.YtifolooecfebfaaGreatXe13
import Derived.Test.YtifolooecfebfaaGreatXe14
import Derived.Test.YtifolooecfebfaaGreatXe16
import Derived.Test.YtifolooecfebfaaGreatXe17
import Derived.Test.YtifolooecfebfaaGreatXe18
import Derived.Test.YtifolooecfebfaaGreatXe19
import Derived.Test.YtifolooecfebfaaGreatXe20
import Derived.Test.YtifolooecfebfaaGreatXe21
import Derived.Test.YtifolooecfebfaaGreatXe22
import Derived.Test.YtifolooecfebfaaGreatXe23
import Derived.Test.YtifolooecfebfaaGreatXe24
import Derived.Test.YtifolooecfebfaaGreatXe25
import Derived.Test.YtifolooecfebfaaGreatXe26
import Derived.Test.YtifolooecfebfaaGreatXe27
import Derived.Test.YtifolooecfebfaaGreatXe28
import Derived.Test.YtifolooecfebfaaGreatXe29
import Derived.Test.YtifolooecfebfaaGreatXe30
import Derived.Deep.LoopGhost
import Derived.Carry
import Derived.WalkMore
import Derived.Below
import Derived.ChangeKeysEq
import Derived.Laws.StructEq
import GoSem.Claim
import GoSem.ClaimJoined
import GoSem.ClaimMapViews
import Derived.JoinedTies
import Derived.KernelRfl
import Derived.RowKit
import Derived.WalkKit
import Derived.ProofKit
import Derived.OpenShut
import Derived.Outline
import Derived.Lib.QuietBelow
import Derived.Deep.RegionHeld3
import Derived.Deep.DrawnRows
import Derived.BigRegion
import Derived.Deep.RegionLawGrows
import Derived.Deep.RegionWith
import Derived.Deep.QuietTactic
import Derived.BigQuiet
import Derived.Laws.OwnMore
import Derived.OwnWalk
import Derived.Maps.AppendAt
import Derived.Maps.OwnSet
import Derived.Maps.OwnOps
import Derived.BigFrame
import Derived.Shelf.RegionOpen
import Derived.RangeFuncNested
import Derived.RangeFuncBound
import Derived.RangeFuncCalls
import Derived.RangeFuncLeaves
import Derived.RangeFuncBox
import Derived.Shelf.Abstract
import Derived.OwnWalkIn
import Derived.TacticsInMore
import Derived.LoopNIn
import Derived.LoopIn
import Derived.Lib.SmallJoins
import Derived.Deep.Fields
import Derived.Deep.Slices
import Derived.OrdersHeld
import Derived.Deep.RegionHeldLaw
import Derived.Deep.DeepCutAuto
import Derived.Laws.CopyRow
/- The program's Levelled: as long as somebody is to be moved, that one is put elsewhere and the smithy is turned; there is an end. Condition: the smithy can be read. -/
namespace Go.Proofs.YtifolooecfebfaaGreat
open Go.ChangeShapes Go.WideShapes Go.ChangeAt Go.RowKit Go.Sort Go.Shelf
set_option linter.unusedVariables false
set_option linter.unusedSimpArgs false
set_option maxRecDepth 100000

/-- What holds between two steps: the box R with the smithy so far, the map B, the place of the answer. -/
structure Cor (w X : World) (B R : Nat) (v0 v1 v2 v3 v4 : Value) (M : SmyV) (qs : List (RoomV × Value)) (n : Nat) (D : DataW Unit) : Prop where
  full : FullSmy (w.heap.size + 2) X v0 v1 v2 v3 v4 M qs
  off : ∀ k, OwnB v0 v1 v2 v3 v4 qs k → k ≠ B ∧ k ≠ R
  box : Blk X R 32 #[v0, v1, v2, v3, v4, .int .i64 M.now]
  res : Blk X (w.heap.size + 1) 32 #[.slice none 0 0, .slice none 0 0, .slice none 0 0, .slice none 0 0, .slice none 0 0, .int .i64 0]
  mp : Mp X B n D
  bb : Below w.heap.size w X
  hB : w.heap.size + 2 ≤ B
  hR : w.heap.size + 2 ≤ R
  hBR : B ≠ R
/-- And a seat. -/
structure Lev (w X : World) (B R sx : Nat) (v0 v1 v2 v3 v4 : Value) (M : SmyV) (qs : List (RoomV × Value)) (n : Nat) (D : DataW Unit) (sv : Array Value) : Prop where
  cor : Cor w X B R v0 v1 v2 v3 v4 M qs n D
  seat : Blk X sx 64 sv
  offs : ∀ k, OwnB v0 v1 v2 v3 v4 qs k → k ≠ sx
  hs : w.heap.size + 2 ≤ sx
  hBs : B ≠ sx
  hRs : R ≠ sx
section
variable {w X Y : World} {B R sx n : Nat} {v0 v1 v2 v3 v4 : Value} {M M2 : SmyV} {qs rs : List (RoomV × Value)} {D D2 : DataW Unit} {sv : Array Value}
theorem some_ne {a b : Nat} (h : a ≠ b) : some a ≠ some b := fun e => h (by cases e; rfl)
/-- A step that writes into one of the smithy's own blocks alone. -/
theorem Lev.put (h : Lev w X B R sx v0 v1 v2 v3 v4 M qs n D sv) {g : Nat} (hg : OwnB v0 v1 v2 v3 v4 qs g) (hf : FullSmy (w.heap.size + 2) Y v0 v1 v2 v3 v4 M2 qs) (ht : Two (some g) none X Y) (hn : M2.now = M.now) : Lev w Y B R sx v0 v1 v2 v3 v4 M2 qs n D sv := by
  obtain ⟨h, hseat, hoffs, hs, hBs, hRs⟩ := h
  obtain ⟨g1, g2⟩ := h.off g hg
  have g3 := hoffs g hg
  have g0 := (h.full.own hg).1
  exact ⟨⟨hf, h.off, by rw [hn]; exact h.box.two ht (some_ne g2) (fun e => by cases e), h.res.two ht (some_ne (by omega)) (fun e => by cases e), h.mp.two ht (some_ne g1) (fun e => by cases e), Two.up h.bb ht (by omega), h.hB, h.hR, h.hBR⟩, hseat.two ht (some_ne g3) (fun e => by cases e), hoffs, hs, hBs, hRs⟩
/-- Another smithy, that a call made, comes into the box. -/
theorem Lev.turn (h : Lev w X B R sx v0 v1 v2 v3 v4 M qs n D sv) (hb : Below X.heap.size X Y) {u0 u1 u2 u3 u4 : Value} (hf : FullSmy X.heap.size Y u0 u1 u2 u3 u4 M2 rs) : Lev w ((((((Y.setCell ⟨R, 0, none⟩ u0).setCell ⟨R, 1, none⟩ u1).setCell ⟨R, 2, none⟩ u2).setCell ⟨R, 3, none⟩ u3).setCell ⟨R, 4, none⟩ u4).setCell ⟨R, 5, none⟩ (.int .i64 M2.now)) B R sx u0 u1 u2 u3 u4 M2 rs n D sv := by
  obtain ⟨h, hseat, hoffs, hs, hBs, hRs⟩ := h
  have hBX := h.mp.lt
  have hRX := h.box.lt
  have hsX := hseat.lt
  have hrX := h.res.lt
  have ht := two_set6 Y R u0 u1 u2 u3 u4 (.int .i64 M2.now)
  have hR := h.hR
  exact ⟨⟨(hf.two ht (fun k e => ⟨some_ne (by have := (hf.own e).1; omega), fun e => by cases e⟩)).mono (by omega), fun k e => by have := (hf.own e).1; omega, Blk.put6 _ _ _ _ _ _ (h.box.below hb hRX), (h.res.below hb hrX).two ht (some_ne (by omega)) (fun e => by cases e), (h.mp.below hb).two ht (some_ne h.hBR.symm) (fun e => by cases e), Two.up (h.bb.trans (hb.mono h.bb.size)) ht (by omega), h.hB, h.hR, h.hBR⟩, (hseat.below hb hsX).two ht (some_ne hRs) (fun e => by cases e), fun k e => by have := (hf.own e).1; omega, hs, hBs, hRs⟩
/-- A seat is made. -/
theorem Cor.sit (h : Cor w X B R v0 v1 v2 v3 v4 M qs n D) (t : Array Value) : Lev w (X.alloc (.cells t 64)) B R X.heap.size v0 v1 v2 v3 v4 M qs n D t := by
  have hb : Below X.heap.size X (X.alloc (.cells t 64)) := (Below.refl _ _).alloc (Nat.le_refl _) _
  have hBX := h.mp.lt
  have hRX := h.box.lt
  have hB := h.hB
  exact ⟨⟨h.full.below hb, h.off, h.box.below hb hRX, h.res.below hb h.res.lt, h.mp.below hb, h.bb.trans (hb.mono h.bb.size), h.hB, h.hR, h.hBR⟩, Blk.new _ _ _, fun k e => by have := (h.full.own e).2; omega, by omega, by omega, by omega⟩
/-- Who is next: the map alone may differ. -/
theorem Cor.next (h : Cor w X B R v0 v1 v2 v3 v4 M qs n D) (ht : Two (some B) none X Y) {n2 : Nat} (hm : Mp Y B n2 D2) : Cor w Y B R v0 v1 v2 v3 v4 M qs n2 D2 := by
  have hB := h.hB
  exact ⟨h.full.two ht (fun k e => ⟨some_ne (h.off k e).1.symm, fun e => by cases e⟩), h.off, h.box.two ht (some_ne h.hBR) (fun e => by cases e), h.res.two ht (some_ne (by omega)) (fun e => by cases e), hm, Two.up h.bb ht (by omega), h.hB, h.hR, h.hBR⟩
theorem Lev.next (h : Lev w X B R sx v0 v1 v2 v3 v4 M qs n D sv) (ht : Two (some B) none X Y) {n2 : Nat} (hm : Mp Y B n2 D2) : Lev w Y B R sx v0 v1 v2 v3 v4 M qs n2 D2 sv := ⟨h.cor.next ht hm, h.seat.two ht (some_ne h.hBs) (fun e => by cases e), h.offs, h.hs, h.hBs, h.hRs⟩
/-- The seat is written. -/
theorem Lev.take {x y z : Value} (h : Lev w X B R sx v0 v1 v2 v3 v4 M qs n D #[x, y, z]) (a b c : Value) : Lev w (((X.setCell ⟨sx, 0, none⟩ a).setCell ⟨sx, 1, none⟩ b).setCell ⟨sx, 2, none⟩ c) B R sx v0 v1 v2 v3 v4 M qs n D #[a, b, c] := by
  obtain ⟨h, hseat, hoffs, hs, hBs, hRs⟩ := h
  have ht := two_set3 X sx a b c
  exact ⟨⟨h.full.two ht (fun k e => ⟨some_ne (hoffs k e).symm, fun e => by cases e⟩), h.off, h.box.two ht (some_ne hRs.symm) (fun e => by cases e), h.res.two ht (some_ne (by omega)) (fun e => by cases e), h.mp.two ht (some_ne hBs.symm) (fun e => by cases e), Two.up h.bb ht (by omega), h.hB, h.hR, h.hBR⟩, Blk.put3 _ _ _ hseat, hoffs, hs, hBs, hRs⟩
end
/-- The loop's relation: what is left to move falls. -/
def LevRel (m : SmyV) (w : World) (B R : Nat) (k : Nat) (i : Value) (X : World) : Prop :=
  ∃ (M : SmyV) (sx n : Nat) (D : DataW Unit) (v0 v1 v2 v3 v4 : Value) (qs : List (RoomV × Value)) (x y : Int) (f : Bool), i = .pointer (some ⟨sx, 0, none⟩) ∧ k = leftN M ∧ smyB M = true ∧ levelV M = levelV m ∧ Lev w X B R sx v0 v1 v2 v3 v4 M qs n D #[.int .i64 x, .int .i64 y, .bool f] ∧ SeatIs (moveV M) x y f ∧ n + leftN M ≤ leftN m + 1 ∧ ∀ l, Maps.has D l = true → ∃ i : Nat, l = .int .i64 (i : Int) ∧ Seen M (Suits M) i
theorem left_few {m : SmyV} (h : smyB m = true) : leftN m ≤ 200 := by
  have hlo := smy_loose h
  have h12 := smy_twelve hlo
  have h8 := hlo.sane.eight
  have h1 := cnt_bd (idleB m) m.desks.length
  have h2 := cnt_bd (misB m) m.smiths.length
  unfold leftN idleN misN
  omega
attribute [local go_sem ↓] seat_none seat_some
set_option maxHeartbeats 16000000 in
theorem implLevelled_any {w : World} {v0 v1 v2 v3 v4 : Value} {m : SmyV} (h : Smy w v0 v1 v2 v3 v4 m) : Calls Tryz.prog 11 #[.agg #[v0, v1, v2, v3, v4, .int .i64 m.now]] w fun e w' => GotL w.heap.size (levelledV m) e w' ∧ Below w.heap.size w w' := by
  obtain ⟨Z, hZ⟩ : ∃ x, levelledV m = x := ⟨_, rfl⟩
  rw [hZ]
  have HZ := hide hZ
  clear hZ
  obtain ⟨ok, hok⟩ : ∃ q, smyB m = q := ⟨_, rfl⟩
  have Hok := hide hok
  clear hok
  have hmm := @run_makeMap Tryz.prog
  obtain ⟨a0, p0, a1, p1, a2, p2, a3, p3, a4, p4, rfl, rfl, rfl, rfl, rfl, K⟩ := Bx.new h
  clear h
  go_enter Tryz.func11, Tryz.ntmps11
  go_upto_region 1 with fail
  replace K := K.alloc (.cells #[.slice none 0 0, .slice none 0 0, .slice none 0 0, .slice none 0 0, .slice none 0 0, .int .i64 0] 32)
  have kr : Hid (Blk ((w.alloc (.cells #[.slice a0 m.rooms.length p0, .slice a1 m.guilds.length p1, .slice a2 m.smiths.length p2, .slice a3 m.desks.length p3, .slice a4 m.paces.length p4, .int .i64 m.now] 32)).alloc (.cells #[.slice none 0 0, .slice none 0 0, .slice none 0 0, .slice none 0 0, .slice none 0 0, .int .i64 0] 32)) (w.heap.size + 1) 32 #[.slice none 0 0, .slice none 0 0, .slice none 0 0, .slice none 0 0, .slice none 0 0, .int .i64 0]) := hide (by
    have k := Blk.new (w.alloc (.cells #[.slice a0 m.rooms.length p0, .slice a1 m.guilds.length p1, .slice a2 m.smiths.length p2, .slice a3 m.desks.length p3, .slice a4 m.paces.length p4, .int .i64 m.now] 32)) 32 #[.slice none 0 0, .slice none 0 0, .slice none 0 0, .slice none 0 0, .slice none 0 0, .int .i64 0]
    rw [World.size_alloc] at k
    exact k)
  generalize (w.alloc (.cells #[.slice a0 m.rooms.length p0, .slice a1 m.guilds.length p1, .slice a2 m.smiths.length p2, .slice a3 m.desks.length p3, .slice a4 m.paces.length p4, .int .i64 m.now] 32)).alloc (.cells #[.slice none 0 0, .slice none 0 0, .slice none 0 0, .slice none 0 0, .slice none 0 0, .int .i64 0] 32) = W at *
  obtain ⟨c0, c1, c2, c3, c4, c5⟩ := K.cells
  go_wp2_with fail
  refine (implSmithyOk_q _ _ _ _ _ _ _ _ (unhide Hok) K.smy).mono ?_
  rintro e w1 ⟨rfl, hb⟩
  replace K := K.next hb
  replace kr := bl kr hb
  clear hb c0 c1 c2 c3 c4 c5
  cases ok
  · obtain rfl : Z = zeroM := by rw [← unhide HZ]; unfold levelledV; rw [unhide Hok]; rfl
    obtain ⟨o0, o1, o2, o3, o4, o5⟩ := (unhide kr).c6
    obtain ⟨f0, f1, f2, f3, f4, f5⟩ := (unhide kr).f6
    go_wp2_with fail
    refine bodyPost_ret (v := .agg #[.slice none 0 0, .slice none 0 0, .slice none 0 0, .slice none 0 0, .slice none 0 0, .int .i64 0]) (by simp [results, Tryz.results11, go_sem, *]) rfl ⟨⟨_, _, _, _, _, [], rfl, full_zero _ _⟩, Below.put6 _ _ _ _ _ _ K.bb (Nat.le_succ _)⟩
  have hlo := smy_loose (unhide Hok)
  have HFew := hide (few_of hlo)
  clear hlo
  have HZ2 : Hid (levelV m = Z) := hide (by rw [← unhide HZ]; unfold levelledV; rw [unhide Hok]; rfl)
  obtain ⟨c0, c1, c2, c3, c4, c5⟩ := K.cells
  go_wp2_with fail
  refine (copyOfSmithy_any K.smy (unhide HFew)).mono ?_
  rintro e w2 ⟨y0, y1, y2, y3, y4, oq, rfl, ho, hb⟩
  obtain ⟨d0, e0, d1, e1, d2, e2, d3, e3, d4, e4, rfl, rfl, rfl, rfl, rfl, _⟩ := ho.smy.five
  have hw1 : w.heap.size + 2 ≤ w1.heap.size := (unhide kr).lt
  replace kr := bl kr hb
  have hw2 : w1.heap.size ≤ w2.heap.size := hb.size
  have BB := hide (K.next hb).bb
  have HO := hide ho
  clear hb c0 c1 c2 c3 c4 c5 K ho HZ HFew
  go_upto_region 4 with fail
  -- the map and the box
  have hb1 : Below w2.heap.size w2 (w2.alloc (.map #[] 0)) := (Below.refl _ _).alloc (Nat.le_refl _) _
  have hsz : (w2.alloc (.map #[] 0)).heap.size = w2.heap.size + 1 := World.size_alloc _ _
  have hb2 : Below w2.heap.size w2 ((w2.alloc (.map #[] 0)).alloc (.cells #[.slice d0 m.rooms.length e0, .slice d1 m.guilds.length e1, .slice d2 m.smiths.length e2, .slice d3 m.desks.length e3, .slice d4 m.paces.length e4, .int .i64 m.now] 32)) := hb1.alloc (by omega) _
  have C0 : Cor w ((w2.alloc (.map #[] 0)).alloc (.cells #[.slice d0 m.rooms.length e0, .slice d1 m.guilds.length e1, .slice d2 m.smiths.length e2, .slice d3 m.desks.length e3, .slice d4 m.paces.length e4, .int .i64 m.now] 32)) w2.heap.size (w2.heap.size + 1) (.slice d0 m.rooms.length e0) (.slice d1 m.guilds.length e1) (.slice d2 m.smiths.length e2) (.slice d3 m.desks.length e3) (.slice d4 m.paces.length e4) m oq 0 (.map []) := by
    have k1 := Blk.new (w2.alloc (.map #[] 0)) 32 #[.slice d0 m.rooms.length e0, .slice d1 m.guilds.length e1, .slice d2 m.smiths.length e2, .slice d3 m.desks.length e3, .slice d4 m.paces.length e4, .int .i64 m.now]
    rw [hsz] at k1
    exact ⟨((unhide HO).below hb2).mono hw1, fun k e => by have := (unhide HO).own e; omega, k1, (unhide kr).below hb2 (unhide kr).lt, (Mp.new w2).below ((Below.refl _ _).alloc (Nat.le_refl _) _), (unhide BB).trans (hb2.mono (unhide BB).size), by omega, by omega, by omega⟩
  have HC := hide C0
  clear C0 hb1 hb2 hsz HO kr BB
  generalize (w2.alloc (.map #[] 0)).alloc (.cells #[.slice d0 m.rooms.length e0, .slice d1 m.guilds.length e1, .slice d2 m.smiths.length e2, .slice d3 m.desks.length e3, .slice d4 m.paces.length e4, .int .i64 m.now] 32) = X at *
  generalize w2.heap.size = B at *
  obtain ⟨c0, c1, c2, c3, c4, c5⟩ := (unhide HC).box.c6
  go_wp2_with fail
  refine (nextSeat_any (unhide HC).full (fun k e => ((unhide HC).off k e).1) (unhide Hok) (unhide HC).mp (by omega) (fun l hl => by simp [Maps.has] at hl)).mono ?_
  rintro e w3 ⟨⟨x, y, f, rfl, hsi⟩, ht, n', D', hm', hn', hk'⟩
  have C1 := hide ((unhide HC).next ht hm')
  have Hsi := hide hsi
  have Hk := hide hk'
  clear ht hm' hk' hsi HC c0 c1 c2 c3 c4 c5
  go_upto_region 5 with fail
  have L1 := hide ((unhide C1).sit #[.int .i64 x, .int .i64 y, .bool f])
  clear C1
  generalize w3.alloc (.cells #[.int .i64 x, .int .i64 y, .bool f] 64) = X3 at *
  generalize w3.heap.size = sx at *
  go_loopg [5] (leftN m) (fun k i wr => LevRel m w B (B + 1) k i wr)
  case atStart => exact ⟨m, sx, n', D', _, _, _, _, _, _, x, y, f, rfl, rfl, unhide Hok, rfl, unhide L1, unhide Hsi, by omega, unhide Hk⟩
  case round =>
    obtain ⟨M, sx, n, D, u0, u1, u2, u3, u4, qs, x, y, f, rfl, hgk, hsm, hlv, hL, hsi, hnl, hks⟩ := hrel
    subst hgk
    clear L1 Hsi Hk
    have h12 := smy_twelve (smy_loose hsm)
    have hfew := left_few (unhide Hok)
    obtain ⟨b0, q0, b1, q1, b2x, q2, b3, q3, b4, q4, rfl, rfl, rfl, rfl, rfl, _⟩ := hL.cor.full.smy.five
    have Hsm := hide hsm
    have Hlv := hide hlv
    have HL := hide hL
    have Hks := hide hks
    clear hsm hlv hL hks
    obtain ⟨r, hr⟩ : ∃ r, moveV M = r := ⟨_, rfl⟩
    rw [hr] at hsi
    have Hr := hide hr
    clear hr
    obtain ⟨t0, t1, t2⟩ := (unhide HL).seat.c3
    obtain ⟨c0, c1, c2, c3, c4, c5⟩ := (unhide HL).cor.box.c6
    cases r with
    | none =>
      obtain ⟨rfl, rfl, rfl⟩ := hsi
      obtain rfl : Z = M := by rw [← unhide HZ2, ← unhide Hlv]; exact levelV_stop (unhide Hr)
      obtain ⟨o0, o1, o2, o3, o4, o5⟩ := (unhide HL).cor.res.c6
      obtain ⟨f0, f1, f2, f3, f4, f5⟩ := (unhide HL).cor.res.f6
      go_wp2_with fail
      have HT := two_set6 wr (w.heap.size + 1) (.slice b0 Z.rooms.length q0) (.slice b1 Z.guilds.length q1) (.slice b2x Z.smiths.length q2) (.slice b3 Z.desks.length q3) (.slice b4 Z.paces.length q4) (.int .i64 Z.now)
      refine bodyPost_ret (v := .agg #[.slice b0 Z.rooms.length q0, .slice b1 Z.guilds.length q1, .slice b2x Z.smiths.length q2, .slice b3 Z.desks.length q3, .slice b4 Z.paces.length q4, .int .i64 Z.now]) (by simp [results, Tryz.results11, go_sem, *]) rfl ⟨⟨_, _, _, _, _, qs, rfl, ((unhide HL).cor.full.two HT (fun k e => ⟨some_ne (by have := ((unhide HL).cor.full.own e).1; omega), fun e => by cases e⟩)).mono (by omega)⟩, Two.up (unhide HL).cor.bb HT (Nat.le_succ _)⟩
    | some r2 =>
      obtain ⟨wh, bb⟩ := r2
      obtain ⟨rfl, rfl, rfl⟩ := hsi
      have mv := moves_of (unhide Hr)
      obtain ⟨b2, hga, _⟩ := RecAt.view encSmith_len (by omega) (unhide HL).cor.full.smiths rfl (by have := mv.who; omega)
      cases hga
      obtain ⟨a0', a1', _⟩ := (smy_loose (unhide Hsm)).at mv.who mv.pres
      obtain ⟨bn, hbn⟩ : ∃ bn : Nat, (recAt M.smiths wh).2.1 = (bn : Int) := ⟨(recAt M.smiths wh).2.1.toNat, by omega⟩
      have hbl : bn < M.desks.length := by omega
      have HP := hide (put_t (unhide HL).cor.box (unhide HL).cor.full mv.who mv.bench hbn hbl)
      have Mv := hide mv
      have HT := hide (fun (X : World) (hX : Smy X (.slice b0 M.rooms.length q0) (.slice b1 M.guilds.length q1) (.slice (some ⟨b2, 0, none⟩) M.smiths.length q2) (.slice b3 M.desks.length q3) (.slice b4 M.paces.length q4) (moveW M wh bb)) => implTurned_any X _ _ _ _ _ (moveW M wh bb) hX)
      rw [move_is mv] at HT
      have Hnow : Hid ((moveW M wh bb).now = M.now) := hide rfl
      have HF5 := hide (mv.falls)
      have HK5 : Hid (smyB (moveX M wh bb) = true) := hide mv.keeps
      have HLv5 : Hid (levelV (moveX M wh bb) = levelV m) := hide ((levelV_go (unhide Hr)).symm.trans (unhide Hlv))
      have HS5 := hide (fun i hi => seen_suits (unhide Hr) (fun _ h => h) i hi)
      generalize moveX M wh bb = M5 at *
      clear mv hbn hbl a0' a1'
      go_wp2_with fail
      refine (unhide HP).mono ?_
      rintro e w4 ⟨rfl, hf4, ht4⟩
      have L4 := hide ((unhide HL).put (.inr (.inr (.inr (.inl rfl)))) hf4 ht4 (unhide Hnow))
      clear hf4 ht4 HP HL t0 t1 t2 c0 c1 c2 c3 c4 c5
      obtain ⟨c0, c1, c2, c3, c4, c5⟩ := (unhide L4).cor.box.c6
      go_wp2_with fail
      refine (unhide HT _ (unhide L4).cor.full.smy).mono ?_
      rintro e w5 ⟨x0, x1, x2, x3, x4, rs, rfl, hf5, hb5⟩
      obtain ⟨z0, y0, z1, y1, z2, y2, z3, y3, z4, y4, rfl, rfl, rfl, rfl, rfl, _⟩ := hf5.smy.five
      have L5 := hide ((unhide L4).turn hb5 hf5)
      have kb5 := hide ((unhide L4).cor.box.below hb5 (unhide L4).cor.box.lt)
      clear hf5 hb5 L4 HT c0 c1 c2 c3 c4 c5
      obtain ⟨c0, c1, c2, c3, c4, c5⟩ := (unhide kb5).c6
      obtain ⟨f0, f1, f2, f3, f4, f5⟩ := (unhide kb5).f6
      go_upto_region 9 with fail
      clear c0 c1 c2 c3 c4 c5 f0 f1 f2 f3 f4 f5 kb5
      generalize (((((w5.setCell ⟨B + 1, 0, none⟩ (.slice z0 M5.rooms.length y0)).setCell ⟨B + 1, 1, none⟩ (.slice z1 M5.guilds.length y1)).setCell ⟨B + 1, 2, none⟩ (.slice z2 M5.smiths.length y2)).setCell ⟨B + 1, 3, none⟩ (.slice z3 M5.desks.length y3)).setCell ⟨B + 1, 4, none⟩ (.slice z4 M5.paces.length y4)).setCell ⟨B + 1, 5, none⟩ (.int .i64 M5.now) = X5 at *
      obtain ⟨t0, t1, t2⟩ := (unhide L5).seat.c3
      go_upto_region 6 with fail
      clear t0 t1 t2
      have L6 := hide ((unhide L5).cor.sit #[.int .i64 (wh : Int), .int .i64 (bb : Int), .bool true])
      clear L5
      generalize X5.alloc (.cells #[.int .i64 (wh : Int), .int .i64 (bb : Int), .bool true] 64) = X6 at *
      generalize X5.heap.size = sy at *
      obtain ⟨c0, c1, c2, c3, c4, c5⟩ := (unhide L6).cor.box.c6
      have hn5 : n ≤ 500 := by omega
      have hks5 : ∀ l, Maps.has D l = true → ∃ i : Nat, l = .int .i64 (i : Int) ∧ Suits M5 i := fun l hl => by
        obtain ⟨i, e, hi⟩ := unhide Hks l hl
        exact ⟨i, e, unhide HS5 i hi⟩
      have Hks5 := hide hks5
      clear hks5
      go_wp2_with fail
      refine (nextSeat_any (unhide L6).cor.full (fun k e => ((unhide L6).cor.off k e).1) (unhide HK5) (unhide L6).cor.mp hn5 (unhide Hks5)).mono ?_
      rintro e w7 ⟨⟨x7, y7, f7, rfl, hsi7⟩, ht7, n7, D7, hm7, hn7, hk7⟩
      have L7 := hide ((unhide L6).next ht7 hm7)
      have Hsi7 := hide hsi7
      have Hk7 := hide hk7
      clear ht7 hm7 hk7 hsi7 L6 c0 c1 c2 c3 c4 c5
      obtain ⟨t0, t1, t2⟩ := (unhide L7).seat.c3
      obtain ⟨f0, f1, f2⟩ := (unhide L7).seat.f3
      go_wp2_with fail
      have L8 := hide ((unhide L7).take (.int .i64 x7) (.int .i64 y7) (.bool f7))
      have hlf := unhide HF5
      go_roundg (leftN M5)
      case measure => omega
      case rel => exact ⟨M5, sy, n7, D7, _, _, _, _, _, rs, x7, y7, f7, rfl, rfl, unhide HK5, unhide HLv5, unhide L8, unhide Hsi7, by omega, unhide Hk7⟩

end Go.Proofs.YtifolooecfebfaaGreat

/- The walk of the exact law on Levelled. Condition: the smithy can be read. -/
namespace Go.Proofs.YtifolooecfebfaaGreat
open Go.ChangeShapes Go.WideShapes Go.ChangeAt Go.RowKit Go.Sort
set_option linter.unusedVariables false

theorem levelled_small (m : SmyV) (h : SmySmall m) : SmySmall (levelledV m) := by
  unfold levelledV
  split
  · rename_i hr; exact right_small (level_right hr)
  · exact zero_small
theorem walkFnExactLevelled (v0 v1 v2 v3 v4 : Value) (m : SmyV) (w : World) (h : Smy w v0 v1 v2 v3 v4 m) :
    Calls Tryz.prog 8 #[.agg #[v0, v1, v2, v3, v4, .int .i64 m.now]] w fun e w' => e = .returned (.bool true) ∧ Below w.heap.size w w' :=
  walkFnExactLevelled_of (fun _ _ _ _ _ _ _ h => (specLevelled_any h).mono fun e w' k => by obtain ⟨⟨u0, u1, u2, u3, u4, qs, e1, e2⟩, e3⟩ := k; exact ⟨u0, u1, u2, u3, u4, qs, e1, e2, e3⟩) (fun _ _ _ _ _ _ _ h => (implLevelled_any h).mono fun e w' k => by obtain ⟨⟨u0, u1, u2, u3, u4, qs, e1, e2⟩, e3⟩ := k; exact ⟨u0, u1, u2, u3, u4, qs, e1, e2, e3⟩) levelled_small v0 v1 v2 v3 v4 m w h

end Go.Proofs.YtifolooecfebfaaGreat

