/- Part 11 of what the proof rests on. No condition but those that a theorem names. -/
import Derived.Test.YtgdpaigcmoifbaaGreatXe03
import Derived.Test.YtgdpaigcmoifbaaGreatXe04
import Derived.Test.YtgdpaigcmoifbaaGreatXe05
import Derived.Test.YtgdpaigcmoifbaaGreatXe06
import Derived.RangeFuncNested
import Derived.RangeFuncBound
import Derived.RangeFuncCalls
import Derived.RangeFuncLeaves
import Derived.RangeFuncBox
import Derived.Shelf.Abstract
import Derived.Shelf.RegionOpen
import Derived.OwnWalkIn
import Derived.TacticsInMore
import Derived.LoopNIn
import Derived.LoopIn
import Derived.Deep.SlicePairs
set_option maxHeartbeats 8000000
set_option maxRecDepth 100000
namespace Go.Proofs.YtgdpaigcmoifbaaGreat
open Go.ChangeShapes Go.WideShapes Go.ChangeAt Go.RowKit
set_option linter.unusedVariables false
def upto (s : Int) : Nat → List Int
 | 0 => []
 | k + 1 => if memB s k = true then upto s k ++ [(k : Int)] else upto s k
def mems (s : Int) : List Int := upto s 8
def firstMV (s : Int) : Int := (mems s).headD (-1)
theorem upto_hit {s : Int} {k : Nat} (h : memB s k = true) : upto s (k + 1) = upto s k ++ [(k : Int)] := by simp [upto, h]
theorem upto_miss {s : Int} {k : Nat} (h : memB s k = false) : upto s (k + 1) = upto s k := by simp [upto, h]
theorem upto_len (s : Int) : ∀ k, (upto s k).length ≤ k
 | 0 => by simp [upto]
 | k + 1 => by
  have := upto_len s k
  cases h : memB s k
  ·rw [upto_miss h]; omega
  ·rw [upto_hit h]; simp; omega
theorem upto_none {s : Int} (h : inB s 0 255 = false) : ∀ k, upto s k = []
 | 0 => rfl
 | k + 1 => by rw [upto_miss (memB_f (.inl h))]; exact upto_none h k
theorem upto_pre (s : Int) : ∀ k, k ≤ 8 → upto s k <+: mems s := by
 have step : ∀ k, upto s k <+: upto s (k + 1) := fun k => by
  cases h : memB s k
  ·rw [upto_miss h]; exact List.prefix_refl _
  ·rw [upto_hit h]; exact List.prefix_append _ _
 have go : ∀ d k, upto s k <+: upto s (k + d) := by
  intro d
  induction d with
  | zero => intro k; exact List.prefix_refl _
  | succ d ih => intro k; exact (ih k).trans (step (k + d))
 intro k hk
 have := go (8 - k) k
 rwa [show k + (8 - k) = 8 by omega] at this
open Go.ChangeShapes Go.WideShapes Go.ChangeAt Go.RowKit Go.Shelf Go.Proofs.Tryz
attribute [local go_sem] Oper.semAt_some
def KeepsBox (Bn : Nat) (t : TypeId) (W W' : World) : Prop := ∀ v, Boxed W Bn t v → Boxed W' Bn t v
theorem KeepsBox.trans {Bn : Nat} {t : TypeId} {A B C : World} (h : KeepsBox Bn t A B) (k : KeepsBox Bn t B C) : KeepsBox Bn t A C := fun v hv => k v (h v hv)
theorem KeepsBox.putObj {Bn : Nat} {t : TypeId} {n : Nat} (h : Bn < n) (W : World) (l : Nat) (o o' : Obj) (hl : n ≤ l) (_ : W.heap[l]? = some o) (_ : o.isCells = false) (_ : o.isWalk = false) : KeepsBox Bn t W (W.putObj l o') :=
 fun v hv => hv.kept (grownBy_putObj' W l o') (fun e => by cases e; omega)
theorem members1_in (n : Nat) (hn : 1 ≤ n) (l Bn : Nat) (s : Int) (J Jx : List Int → World → Prop)
  (hY : ∀ pre x W, J pre W → pre.length < 8 → YieldAt Fence.wide (n - 1) prog l #[.int .i64 x] W fun e W' =>
   (e = .returned (.bool true) ∧ J (pre ++ [x]) W' ∧ KeepsBox Bn 2 W W') ∨ (e = .returned (.bool false) ∧ Jx (pre ++ [x]) W'))
  (W : World) (hBn : Boxed W Bn 2 (.int .i64 s)) (h0 : J [] W) :
  CallsIn Fence.wide n prog 288 #[.func (.yield l) #[] #[], .pointer (some ⟨Bn, 0, none⟩)] W fun e W' => (∃ v, e = .returned v) ∧
   ((∃ ys, ys = mems s ∧ J ys W') ∨ (∃ pre, pre <+: mems s ∧ Jx pre W')) := by
 refine callsIn_of_wp func288 rfl trivial ?_ rfl
 simp only [ntmps288, List.size_toArray, alLlc, alLln, Nat.reduceAdd, Nat.reduceSub, Array.replicate_succ, Array.replicate_zero, List.push_toArray, List.append_toArray, List.nil_append, List.cons_append]
 gi_wp2
 gi_loopw [4] (fun i wr => ∃ k : Nat, k ≤ 8 ∧ i = .int .i64 k ∧ Boxed wr Bn 2 (.int .i64 s) ∧ J (upto s k) wr)
  (fun i wr => 8 - (intOf i).toNat)
 case atStart => exact ⟨0, by omega, rfl, hBn, h0⟩
 case round =>
  obtain ⟨k, hk, rfl, hbx, hJ⟩ := hrel
  have hul := upto_len s k
  have hc := hbx.cell
  have Hb := hide hbx
  clear hbx
  by_cases hlt : (k : Int) < 8
  ·cases hm : memB s k
   ·gi_wp2_with (refine ⟨trivial, ?_⟩; gi_at_call 142; refine (callsIn_wide.2 (implInSet_any _ _ _)).mono ?_; rintro e w' ⟨rfl, rfl⟩)
    refine ⟨fun _ h => (by cases h), ?_⟩
    gi_wp2
    go_roundw
    case rel => exact ⟨k + 1, by omega, by go_num, uh Hb, by rw [upto_miss hm]; exact hJ⟩
    case measure => exact ms
   ·obtain ⟨fn, tmps, assign, body, hy, hR⟩ := hY (upto s k) k wr hJ (by omega)
    gi_wp2_with (refine ⟨trivial, ?_⟩; gi_at_call 142; refine (callsIn_wide.2 (implInSet_any _ _ _)).mono ?_; rintro e w' ⟨rfl, rfl⟩)
    refine hR.mono ?_
    rintro e W3 (⟨rfl, hJ3, hk3⟩ | ⟨rfl, hJx3⟩)
    ·gi_wp2
     go_roundw
     case rel => exact ⟨k + 1, by omega, by go_num, hk3 _ (uh Hb), by rw [upto_hit hm]; exact hJ3⟩
     case measure => exact ms
    ·gi_wp2
     refine alBpr (results_none rfl _ _ _) rfl ?_
     exact ⟨⟨_, rfl⟩, .inr ⟨upto s k ++ [(k : Int)], by rw [← upto_hit hm]; exact upto_pre s (k + 1) (by omega), hJx3⟩⟩
  ·obtain rfl : k = 8 := by omega
   gi_wp2
   go_end0
   exact ⟨⟨_, rfl⟩, .inl hJ⟩
theorem membersOf_in (n : Nat) (s : Int) (w : World) :
  CallsIn Fence.wide n prog 236 #[.int .i64 s] w fun e w' => e = .returned (.func (.func 288) #[] #[.pointer (some ⟨w.heap.size, 0, none⟩)]) ∧ w' = w.alloc (.cells #[.int .i64 s] 2) := by
 refine callsIn_of_wp func236 rfl trivial ?_ rfl
 simp only [ntmps236, List.size_toArray, alLlc, alLln, Nat.reduceAdd, Nat.reduceSub, Array.replicate_succ, Array.replicate_zero, List.push_toArray, List.append_toArray, List.nil_append, List.cons_append]
 gi_wp2
 go_ret
 exact ⟨rfl, rfl⟩
theorem members_stops (n : Nat) (hn : 1 ≤ n) (Bn : Nat) (s : Int) (w : World) (hBn : Boxed w Bn 2 (.int .i64 s)) :
  SeqStopsK Fence.wide n prog 288 #[.pointer (some ⟨Bn, 0, none⟩)] (fun x : Int => #[Value.int .i64 x]) (KeepsBox Bn 2) (fun ys => ys = mems s) (fun pre => pre <+: mems s) 8 w := fun l J Jx W hW _ _ hY h0 =>
 members1_in n hn l Bn s J Jx hY W ((hW.block Bn hBn.lt).trans hBn) h0
theorem implFirstOf_in (n : Nat) (hn : 3 ≤ n) (s : Int) (w : World) :
  CallsIn Fence.wide n prog 330 #[.int .i64 s] w fun e w' => e = .returned (.int .i64 (firstMV s)) ∧ Below w.heap.size w w' := by
 have h1 : 1 ≤ n := by omega
 refine callsIn_of_wp_marks func330 rfl trivial ?_ rfl
 simp only [ntmps330, List.size_toArray, alLlc, alLln, Nat.reduceAdd, Nat.reduceSub, Array.replicate_succ, Array.replicate_zero, List.push_toArray, List.append_toArray, List.nil_append, List.cons_append]
 gi_wp2_with (refine ⟨trivial, ?_⟩; gi_at_call 236; refine (membersOf_in (n - 1) _ _).mono ?_; rintro e w' ⟨rfl, rfl⟩)
 have bR := Boxed.new w 2 (.int .i64 0)
 have bN := Boxed.new (w.alloc (.cells #[.int .i64 0] 2)) 2 (.int .i64 s)
 simp only [alWsa] at bN
 have hB0 : Below w.heap.size w ((w.alloc (.cells #[.int .i64 0] 2)).alloc (.cells #[.int .i64 s] 2)) := ((alBrf _ w).alloc (alNlr _) _).alloc (by simp) _
 refine wpIn_rangeFunc_ownG rfl h1 (gf := 288) (lb := #[.pointer (some ⟨w.heap.size + 1, 0, none⟩)]) rfl trivial (enters_of func288 (by kernel_rfl) rfl)
  (members_stops (n - 1) (by omega) (w.heap.size + 1) s _ bN) (fun h k => h.trans k) (KeepsBox.putObj (by simp)) (alBrf _ _) (fun _ => rfl)
  (fun pre W => (pre = [] ∧ Boxed W w.heap.size 2 (.int .i64 0)) ∧ Below w.heap.size w W)
  (fun c pre W => (c = .ret ∧ ∃ x, pre = [x] ∧ Boxed W w.heap.size 2 (.int .i64 x)) ∧ Below w.heap.size w W)
  (OwnFrom.and (Own.from (fun s A B row hs hg hr => ⟨hs.1, hs.2.kept hg (fun e => by obtain ⟨o, ho, hc⟩ := hr _ e.symm; rw [show A.heap[w.heap.size]? = _ from hs.2] at ho; cases ho; cases hc)⟩) _) (ownFrom_below (alNlr _) (by simp; omega)))
  (fun c => OwnFrom.and (Own.from (fun s A B row hs hg hr => by obtain ⟨e1, x, e2, hb⟩ := hs; exact ⟨e1, x, e2, hb.kept hg (fun e => by obtain ⟨o, ho, hc⟩ := hr _ e.symm; rw [show A.heap[w.heap.size]? = _ from hb] at ho; cases ho; cases hc)⟩) _) (ownFrom_below (alNlr _) (by simp; omega)))
  ⟨⟨rfl, bR.alloc _⟩, hB0⟩
  (fun x => { tmps := #[.int .i64 s, undef, .pointer (some ⟨w.heap.size, 0, none⟩), .int .i64 x, .int .i64 s, .func (.func 288) #[] #[.pointer (some ⟨w.heap.size + 1, 0, none⟩)], .int .i64 x, undef], defers := [] }) ?assign ?body ?done ?stop
 case assign =>
  intro l x W K hK
  gi_wp2
  exact hK
 case body =>
  rintro l pre x W ⟨⟨rfl, hb⟩, hB⟩ _
  have hc := hb.cell
  have hf := hb.frozen
  gi_wp2
  exact ⟨(KeepsOthers.setCell _ _ _).from _, ⟨rfl, x, rfl, hb.set _⟩, hB.setCell (p := ⟨w.heap.size, 0, none⟩) (alNlr _) _⟩
 case done =>
  rintro D ys W hD hys ⟨⟨hp, hb⟩, hB⟩ hK
  have hc := hb.cell
  have hf := hb.frozen
  gi_wp2
  have hK' := (KeepsOthers.setCell W ⟨w.heap.size, 0, none⟩ (.int .i64 (-1))).same D _ hK rfl
  refine ⟨by simp, .inl ⟨_, _, rfl, run_takeDeferred hK', ?_⟩⟩
  have hc5 := cell_kept (hb.set (.int .i64 (-1))).cell (grownBy_putObj' _ D (.deferred none)) (fun r e => by cases e; exact ⟨_, hK', rfl⟩)
  have hm : mems s = [] := hys.symm.trans hp
  refine ⟨.int .i64 (-1), ?_, ret_int (by unfold firstMV; rw [hm]; rfl), (hB.setCell (p := ⟨w.heap.size, 0, none⟩) (alNlr _) _).trans (belowK_b (w := w) (alNlr _) _ D _ _ (by simp at hD; omega) hK' rfl rfl)⟩
  simp [results, Tryz.f330, go_sem, hc5]
 case stop =>
  rintro D c pre W hD hpre ⟨⟨rfl, x, rfl, hb⟩, hB⟩ hK
  gi_wp2
  refine ⟨by simp, .inl ⟨_, _, rfl, run_takeDeferred hK, ?_⟩⟩
  have hc5 := cell_kept hb.cell (grownBy_putObj' _ D (.deferred none)) (fun r e => by cases e; exact ⟨_, hK, rfl⟩)
  have hx : firstMV s = x := by obtain ⟨r, hr⟩ := hpre; unfold firstMV; rw [← hr]; rfl
  refine ⟨.int .i64 x, ?_, ret_int hx.symm, hB.trans (belowK_b (w := w) (alNlr _) W D _ _ (by simp at hD; omega) hK rfl rfl)⟩
  simp [results, Tryz.f330, go_sem, hc5]
theorem implFirstOf_any (s : Int) (w : World) : cB 330 #[.int .i64 s] w (.int .i64 (firstMV s)) :=
 callsIn_wide.1 (implFirstOf_in 3 (alNlr _) s w)
end Go.Proofs.YtgdpaigcmoifbaaGreat
namespace Go.Proofs.YtgdpaigcmoifbaaGreat
open Go.ChangeShapes Go.WideShapes Go.ChangeAt Go.RowKit
set_option linter.unusedVariables false
def enoughB (need : Int) (p : PaceV) : Bool := decide (5 * need ≤ 4 * p.1)
def paceN (need : Int) : List PaceV → Nat
 | [] => 0
 | [_] => 0
 | p :: q :: ps => if enoughB need p then 0 else paceN need (q :: ps) + 1
def paceForV (r : RoomV) (need : Int) : Int := if roomB r && inB need 0 1000000 then paceN need r.2 else -1
def coalForV (r : RoomV) (pace work : Int) : Int := if roomB r && (inB work 0 1000000 && inB pace 0 (r.2.length - 1)) then mulDivV (paceAt r.2 pace.toNat).2 work (paceAt r.2 pace.toNat).1 else -1
def leastV (r : RoomV) (need work : Int) : Int := coalForV r (paceForV r need) work
theorem paceAt_0 (p : PaceV) (ps : List PaceV) : paceAt (p :: ps) 0 = p := rfl
theorem paceAt_s (p : PaceV) (ps : List PaceV) (k : Nat) : paceAt (p :: ps) (k + 1) = paceAt ps k := by unfold paceAt; simp [List.getD]
theorem enough_t {need : Int} {p : PaceV} (h : 5 * need ≤ 4 * p.1) : enoughB need p = true := alDet h
theorem enough_f {need : Int} {p : PaceV} (h : 4 * p.1 < 5 * need) : enoughB need p = false := alDef (by omega)
theorem paceN_eq (need : Int) : ∀ (ps : List PaceV) (k : Nat), k + 1 ≤ ps.length → (∀ j, j < k → enoughB need (paceAt ps j) = false) → (k + 1 = ps.length ∨ enoughB need (paceAt ps k) = true) → paceN need ps = k
 | [], k, hk, _, _ => by simp at hk
 | [p], k, hk, _, _ => by simp at hk; subst hk; rfl
 | p :: q :: ps, 0, _, _, he => by
  rcases he with he | he
  ·simp at he
  ·rw [paceAt_0] at he; simp [paceN, he]
 | p :: q :: ps, k + 1, hk, hlo, he => by
  have h0 := hlo 0 (by omega)
  rw [paceAt_0] at h0
  have ih := paceN_eq need (q :: ps) k (by simp at hk ⊢; omega) (fun j hj => by have := hlo (j + 1) (by omega); rwa [paceAt_s] at this) (by
   rcases he with he | he
   ·left; simp at he ⊢; omega
   ·right; rwa [paceAt_s] at he)
  simp [paceN, h0, ih]
theorem room_pace {r : RoomV} (h : roomB r = true) {k : Nat} (hk : k < r.2.length) : 1 ≤ (paceAt r.2 k).1 ∧ (paceAt r.2 k).1 ≤ 1024 ∧ 1 ≤ (paceAt r.2 k).2 ∧ (paceAt r.2 k).2 ≤ 1024 := by
 unfold roomB at h; simp only [alBae] at h
 have h1 := pacesB_of h.2.2 hk
 unfold stepB paceB at h1; simp only [alBae] at h1
 have a := inB_of h1.1.1; have b := inB_of h1.1.2
 omega
theorem paceForV_f1 {r : RoomV} {need : Int} (h : roomB r = false) : paceForV r need = -1 := by unfold paceForV; simp [h]
theorem paceForV_f2 {r : RoomV} {need : Int} (h : inB need 0 1000000 = false) : paceForV r need = -1 := by unfold paceForV; simp [h]
theorem paceForV_t {r : RoomV} {need : Int} (h : roomB r = true) (h2 : inB need 0 1000000 = true) : paceForV r need = paceN need r.2 := by unfold paceForV; simp [h, h2]
theorem coalForV_f1 {r : RoomV} {pace work : Int} (h : roomB r = false) : coalForV r pace work = -1 := by unfold coalForV; simp [h]
theorem coalForV_f2 {r : RoomV} {pace work : Int} (h : inB work 0 1000000 = false) : coalForV r pace work = -1 := by unfold coalForV; simp [h]
theorem coalForV_f3 {r : RoomV} {pace work : Int} (h : inB pace 0 (r.2.length - 1) = false) : coalForV r pace work = -1 := by unfold coalForV; simp [h]
theorem coalForV_t {r : RoomV} {pace work : Int} (h : roomB r = true) (h2 : inB work 0 1000000 = true) (h3 : inB pace 0 (r.2.length - 1) = true) : coalForV r pace work = mulDivV (paceAt r.2 pace.toNat).2 work (paceAt r.2 pace.toNat).1 := by unfold coalForV; simp [h, h2, h3]
theorem mulDivV_t {a b c : Int} (a0 : 0 ≤ a) (a1 : a ≤ 1000000000) (b0 : 0 ≤ b) (b1 : b ≤ 1000000000) (c0 : 1 ≤ c) (c1 : c ≤ 1000000000) : mulDivV a b c = a * b / c := by
 unfold mulDivV; rw [inB_t a0 a1, inB_t b0 b1, inB_t c0 c1]; rfl
theorem coalForV_bd (r : RoomV) (pace work : Int) : -1 ≤ coalForV r pace work ∧ coalForV r pace work ≤ 1024000000 := by
 cases h : roomB r
 ·rw [coalForV_f1 h]; omega
 cases h2 : inB work 0 1000000
 ·rw [coalForV_f2 h2]; omega
 cases h3 : inB pace 0 (r.2.length - 1)
 ·rw [coalForV_f3 h3]; omega
 rw [coalForV_t h h2 h3]
 have hb := inB_of h2; have hp := inB_of h3
 have hr := room_pace h (k := pace.toNat) (by omega)
 generalize paceAt r.2 pace.toNat = p at *
 rw [mulDivV_t (by omega) (by omega) (by omega) (by omega) (by omega) (by omega)]
 have m0 : 0 ≤ p.2 * work := Int.mul_nonneg (by omega) (by omega)
 have m1 : p.2 * work ≤ 1024 * 1000000 := Int.mul_le_mul (by omega) (by omega) (by omega) (by omega)
 have d0 := Int.ediv_nonneg m0 (show 0 ≤ p.1 by omega)
 have d1 := Int.ediv_le_self p.1 m0
 omega
open Go.ChangeShapes Go.WideShapes Go.ChangeAt Go.RowKit Go.Deep Go.Proofs.Tryz
theorem addr_two {w : World} {b off i : Nat} {u u' : Value} (h1 : w.cell? ((⟨b, off, none⟩ : Addr).add (i * 2)) = some u) (h2 : w.cell? ((⟨b, off, none⟩ : Addr).add (i * 2 + 1)) = some u') :
  w.cell? ⟨b, off + i * 2, none⟩ = some u ∧ w.cell? ⟨b, off + i * 2 + 1, none⟩ = some u' := by
 by_cases hi : i = 0
 ·subst hi
  simp [Addr.add] at h1 h2 ⊢
  exact ⟨h1, h2⟩
 ·have h2i : ¬ i * 2 = 0 := by omega
  simp [Addr.add, h2i] at h1 h2 ⊢
  exact ⟨h1, h2⟩
theorem open_paces {H : Type} {enc : TypeId × Value → H} {W : World} {spare : Nat → Bool} {held : Bool} {n : Nat} {v : Value} {y : DataW H × List MemPlace}
  (h : DataW.trod enc prog W 0 spare held n 188 [v] = some y) : ∃ ps, IsPaces W v ps := by
 rcases open_slice_pairs underlying188 underlying258 (by kernel_rfl) rfl rfl (by kernel_rfl) (by kernel_rfl) h with ⟨hv, _⟩ | ⟨a, len, cap, m, n', V0, V1, D0, D1, P0, P1, hv, _, hl, hm, hmm, _, hx⟩
 ·cases hv
  exact ⟨[], none, 0, rfl, alNlr _, by omega, .inl rfl⟩
 ·cases hv
  have hlm : len ≤ m := by rw [hmm]; split <;> omega
  obtain ⟨F, hF⟩ := choose_lt (α := Int × Int) (n := len) (p := fun i q => V0 i = .int .i64 q.1 ∧ V1 i = .int .i64 q.2) (fun i hi => by
   obtain ⟨_, _, t0, t1⟩ := hx i (by omega)
   obtain ⟨q0, e0, _⟩ := DataW.trod_int underlying2 t0
   obtain ⟨q1, e1, _⟩ := DataW.trod_int underlying2 t1
   exact ⟨(q0, q1), by simpa using e0, by simpa using e1⟩)
  have hlen : ((List.range len).map F).length = len := by simp
  refine ⟨(List.range len).map F, some a, cap, by rw [hlen], by rw [hlen]; exact hl, by unfold maxLen at hm; omega, ?_⟩
  by_cases hz : len = 0
  ·exact .inl (by simp [hz])
  ·have h0 := hx 0 (by omega)
   have sp := World.cell?_spot h0.1
   have hlt := World.block_lt_of_cell? _ _ h0.1
   obtain ⟨b, off, spot⟩ := a
   have hspot : spot = none := by simpa [Addr.add] using sp
   subst hspot
   refine .inr ⟨b, off, rfl, by simpa [Addr.add] using hlt, fun k hk => ?_⟩
   rw [hlen] at hk
   obtain ⟨c0, c1, _, _⟩ := hx k (by omega)
   obtain ⟨e0, e1⟩ := hF k hk
   have hat : paceAt ((List.range len).map F) k = F k := by unfold paceAt; simp [List.getD, hk]
   rw [hat, ← e0, ← e1]
   exact addr_two c0 c1
theorem open_rooms {H : Type} {enc : TypeId × Value → H} {W : World} {spare : Nat → Bool} {held : Bool} {n : Nat} {v : Value} {y : DataW H × List MemPlace}
  (h : DataW.trod enc prog W 0 spare held n 57 [v] = some y) : ∃ rs, IsRooms W v rs := by
 rcases open_slice_pairs underlying57 underlying190 (by kernel_rfl) rfl rfl (by kernel_rfl) (by kernel_rfl) h with ⟨hv, _⟩ | ⟨a, len, cap, m, n', V0, V1, D0, D1, P0, P1, hv, _, hl, hm, hmm, _, hx⟩
 ·cases hv
  exact ⟨[], none, 0, rfl, alNlr _, by omega, .inl rfl⟩
 ·cases hv
  have hlm : len ≤ m := by rw [hmm]; split <;> omega
  obtain ⟨F, hF⟩ := choose_lt (α := RoomV) (n := len) (p := fun i q => V0 i = .int .i64 q.1 ∧ IsPaces W (V1 i) q.2) (fun i hi => by
   obtain ⟨_, _, t0, t1⟩ := hx i (by omega)
   obtain ⟨q0, e0, _⟩ := DataW.trod_int underlying2 t0
   obtain ⟨ps, e1⟩ := open_paces t1
   exact ⟨(q0, ps), by simpa using e0, e1⟩)
  have hlen : ((List.range len).map F).length = len := by simp
  refine ⟨(List.range len).map F, some a, cap, by rw [hlen], by rw [hlen]; exact hl, by unfold maxLen at hm; omega, ?_⟩
  by_cases hz : len = 0
  ·exact .inl (by simp [hz])
  ·have h0 := hx 0 (by omega)
   have sp := World.cell?_spot h0.1
   have hlt := World.block_lt_of_cell? _ _ h0.1
   obtain ⟨b, off, spot⟩ := a
   have hspot : spot = none := by simpa [Addr.add] using sp
   subst hspot
   refine .inr ⟨b, off, rfl, by simpa [Addr.add] using hlt, fun k hk => ?_⟩
   rw [hlen] at hk
   obtain ⟨c0, c1, _, _⟩ := hx k (by omega)
   obtain ⟨e0, e1⟩ := hF k hk
   have hat : roomAt ((List.range len).map F) k = F k := by unfold roomAt; simp [List.getD, hk]
   rw [hat, ← e0]
   exact ⟨(addr_two c0 c1).1, V1 k, (addr_two c0 c1).2, e1⟩
end Go.Proofs.YtgdpaigcmoifbaaGreat
