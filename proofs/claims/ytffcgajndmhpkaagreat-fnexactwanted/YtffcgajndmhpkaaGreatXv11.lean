/- What the proof rests on, part 11: lists and numbers, how they lie in memory, and contracts of the calls. No condition but those that a theorem names. -/
import Derived.Test.YtffcgajndmhpkaaGreatXv01
import Derived.Test.YtffcgajndmhpkaaGreatXv02
import Derived.Test.YtffcgajndmhpkaaGreatXv03
import Derived.Test.YtffcgajndmhpkaaGreatXv04
import Derived.Test.YtffcgajndmhpkaaGreatXv05
import Derived.Test.YtffcgajndmhpkaaGreatXv06
import Derived.Test.YtffcgajndmhpkaaGreatXv07
import Derived.Test.YtffcgajndmhpkaaGreatXv08
import Derived.Test.YtffcgajndmhpkaaGreatXv09
import Derived.Test.YtffcgajndmhpkaaGreatXv10
import Derived.WalkMore
import Derived.RangeFuncCalls
import Derived.Shelf.RegionOpen
import Derived.Deep.RegionWith
import Derived.Lib.QuietBelow
import Derived.Below
import Derived.ChangeKeysEq
import Derived.Laws.StructEq
import GoSem.Claim
import GoSem.ClaimJoined
import GoSem.ClaimMapViews
import Derived.JoinedTies
import Derived.KernelRfl
import Derived.RowKit
import Derived.WalkKit
import Derived.ProofKit
import Derived.OpenShut
import Derived.Outline
import Derived.Deep.RegionHeld3
import Derived.Deep.DrawnRows
import Derived.BigRegion
import Derived.Deep.RegionLawGrows
import Derived.Deep.LoopGhost
import Derived.Deep.QuietTactic
import Derived.BigQuiet
import Derived.Laws.OwnMore
import Derived.OwnWalk
import Derived.Maps.AppendAt
import Derived.RangeFuncNested
import Derived.RangeFuncBound
import Derived.RangeFuncLeaves
import Derived.RangeFuncBox
import Derived.Shelf.Abstract
import Derived.OwnWalkIn
import Derived.TacticsInMore
import Derived.LoopNIn
import Derived.LoopIn
import Derived.Lib.SmallJoins
import Derived.Deep.Fields
import Derived.Deep.Slices
import Derived.OrdersHeld
import Derived.Deep.RegionHeldLaw
import Derived.Deep.DeepCutAuto
/- What the program asks for coal, as plain lists, and that it is what the model asks: sums over those at a bench, over the benches of a room. Lists and numbers alone; no condition but those that a theorem names. -/
namespace Go.Proofs.YtffcgajndmhpkaaGreat
open Go.ChangeShapes Go.WideShapes Go.ChangeAt Go.RowKit Go.Sort
set_option linter.unusedVariables false

/-! ### What is used at a bench, in whatever order -/
def sumP (m : SmyV) : List PaceV → Int
  | [] => 0
  | e :: q => wantV m e.2 + sumP m q
def sumW (m : SmyV) : List Int → Int
  | [] => 0
  | x :: q => wantV m x + sumW m q
theorem sumP_app (m : SmyV) (a b : List PaceV) : sumP m (a ++ b) = sumP m a + sumP m b := by
  induction a with
  | nil => show sumP m b = 0 + sumP m b; omega
  | cons e a ih => show wantV m e.2 + sumP m (a ++ b) = wantV m e.2 + sumP m a + sumP m b; omega
theorem sumW_app (m : SmyV) (a b : List Int) : sumW m (a ++ b) = sumW m a + sumW m b := by
  induction a with
  | nil => show sumW m b = 0 + sumW m b; omega
  | cons e a ih => show wantV m e + sumW m (a ++ b) = wantV m e + sumW m a + sumW m b; omega
theorem sumW_snoc (m : SmyV) (a : List Int) (x : Int) : sumW m (a ++ [x]) = sumW m a + wantV m x := by rw [sumW_app]; show _ + (wantV m x + 0) = _; omega
theorem sumW_bd (m : SmyV) : ∀ a : List Int, 0 ≤ sumW m a ∧ sumW m a ≤ 1024 * a.length
  | [] => by simp [sumW]
  | x :: a => by
    have ih := sumW_bd m a
    have hw := wantV_bd m x
    show 0 ≤ wantV m x + sumW m a ∧ wantV m x + sumW m a ≤ 1024 * ((a.length + 1 : Nat) : Int)
    omega
theorem sumP_put (m : SmyV) (q : List PaceV) (e : PaceV) : sumP m (putV q e) = sumP m q + wantV m e.2 := by
  have h := sumP_app m (q.take (lessN e q)) (q.drop (lessN e q))
  rw [List.take_append_drop] at h
  unfold putV
  rw [sumP_app, h]
  show _ + (wantV m e.2 + _) = _
  omega
theorem usedF_sum (m : SmyV) (but : Int) : ∀ (q : List PaceV) (n : Int), (∀ e ∈ q, e.2 ≠ but) → q.foldl (fun n e => if e.2 = but then n else n + wantV m e.2) n = n + sumP m q
  | [], n, _ => by show n = n + 0; omega
  | e :: q, n, h => by
    have h0 := h e (by simp)
    have ih := usedF_sum m but q (if e.2 = but then n else n + wantV m e.2) (fun x hx => h x (by simp [hx]))
    rw [List.foldl_cons, ih, if_neg h0]
    show _ = n + (wantV m e.2 + sumP m q)
    omega
theorem usedV_sum (m : SmyV) (b : Int) : usedV m b (-1) = sumP m (atV m.smiths b m.smiths.length) := by
  have := usedF_sum m (-1) (atV m.smiths b m.smiths.length) 0 (fun e he => by
    obtain ⟨i, _, _, _, rfl⟩ := (atV_mem m.smiths b e m.smiths.length).1 he
    show (i : Int) ≠ -1
    omega)
  unfold usedV usedL
  omega
theorem at_is (b : Int) (s : SmithV) : atB b s = decide (s.2.1 = b ∧ presS s = true) := by
  unfold atB presS
  rw [Bool.eq_iff_iff]
  simp only [Bool.and_eq_true, decide_eq_true_eq, beq_iff_eq]
  exact ⟨fun h => ⟨h.2, h.1⟩, fun h => ⟨h.2, h.1⟩⟩
theorem where_sum (m : SmyV) (ss : List SmithV) (b : Int) : ∀ k, sumW m (whereTo (atB b) ss k) = sumP m (atV ss b k)
  | 0 => rfl
  | k + 1 => by
    have ih := where_sum m ss b k
    by_cases hat : (recAt ss k).2.1 = b ∧ presS (recAt ss k) = true
    · rw [whereTo_yes (by rw [at_is]; exact decide_eq_true hat), sumW_snoc, atV_yes hat.1 hat.2, sumP_put, ih]
    · rw [whereTo_no (by rw [at_is]; exact decide_eq_false hat), atV_no hat, ih]
theorem used_where (m : SmyV) (b : Int) : sumW m (whereTo (atB b) m.smiths m.smiths.length) = usedV m b (-1) := by rw [where_sum, usedV_sum]
theorem sumW_step (m : SmyV) {ws : List Int} {k : Nat} (h : k < ws.length) : sumW m (ws.take (k + 1)) = sumW m (ws.take k) + wantV m (recAt ws k) := by rw [take_snoc_at h, sumW_snoc]

/-! ### What one wants can be told -/
/-- What wantOf asks: guilds that are right, and of each that is not gone a guild and bounds. -/
structure Wants (m : SmyV) : Prop where
  guilds : guildsB m.guilds = true
  each : ∀ i, i < m.smiths.length → (recAt m.smiths i).1 ≠ 0 → isB m.guilds (recAt m.smiths i).2.2.2.2.1 = true ∧ pairB (recAt m.smiths i).2.2.2.2.2.1 (recAt m.smiths i).2.2.2.2.2.2.1 = true
theorem Loose.wants {m : SmyV} (h : Loose m) : Wants m := by
  have hd := h.head
  unfold headB at hd
  simp only [Bool.and_eq_true, decide_eq_true_eq] at hd
  refine ⟨hd.2.1, fun i hi hs => ?_⟩
  obtain ⟨hp, hg, _⟩ := h.limits hi hs
  have hgs := hd.2.1
  generalize recAt m.smiths i = s at *
  obtain ⟨st, be, rk, my, gu, lo, hi, hd, ca, ut, wk⟩ := s
  obtain ⟨_, _, _, _, ⟨g0, g5⟩, hpair, _⟩ := presB_of hp
  simp only at hg
  exact ⟨by unfold isB; rw [hgs, inB_t g0 (by omega)]; rfl, hpair⟩
def openB (m : SmyV) (b : Int) : Bool := hasB m.desks.length b && (recAt m.desks b.toNat).1
def needL (m : SmyV) (bs : List Int) : Int := bs.foldl (fun n b => if openB m b then max n (usedV m b (-1)) else n) 0
def workL (m : SmyV) (bs : List Int) : Int := bs.foldl (fun n b => n + usedV m b (-1)) 0
theorem needL_snoc (m : SmyV) (bs : List Int) (b : Int) : needL m (bs ++ [b]) = if openB m b then max (needL m bs) (usedV m b (-1)) else needL m bs := by unfold needL; rw [List.foldl_append]; rfl
theorem workL_snoc (m : SmyV) (bs : List Int) (b : Int) : workL m (bs ++ [b]) = workL m bs + usedV m b (-1) := by unfold workL; rw [List.foldl_append]; rfl
theorem needF_bd (m : SmyV) (hl : m.smiths.length ≤ 12) : ∀ (bs : List Int) (n : Int), 0 ≤ n → n ≤ 12288 → 0 ≤ bs.foldl (fun n b => if openB m b then max n (usedV m b (-1)) else n) n ∧ bs.foldl (fun n b => if openB m b then max n (usedV m b (-1)) else n) n ≤ 12288
  | [], n, h0, h1 => ⟨h0, h1⟩
  | b :: bs, n, h0, h1 => by
    have hu := usedV_bd m b (-1)
    refine needF_bd m hl bs (if openB m b then max n (usedV m b (-1)) else n) ?_ ?_ <;> split <;> omega
theorem needL_bd (m : SmyV) (hl : m.smiths.length ≤ 12) (bs : List Int) : 0 ≤ needL m bs ∧ needL m bs ≤ 12288 := needF_bd m hl bs 0 (by omega) (by omega)
theorem room_set {m : SmyV} (h : Sane m) {r : Nat} (hr : r < m.rooms.length) {b : Nat} (hb : b < 8) : memB (setV m.rooms (r : Int)) (b : Int) = true ↔ b < m.desks.length ∧ (roomN m.rooms b : Int) = (r : Int) := by
  have hR : isRoom m.rooms (r : Int) = true := by unfold isRoom; rw [h.hall, inB_t (by omega) (by omega)]; rfl
  have ha := (hallB_of h.hall).2.2.1
  have h0 := benches_hall h.hall r (by omega)
  have h1 := benches_hall h.hall (r + 1) (by omega)
  have hm := benchSum_mono ha (i := r) 1 (by omega)
  have hm0 := benchSum_mono ha (i := r + 1) (m.rooms.length - (r + 1)) (by omega)
  rw [show r + 1 + (m.rooms.length - (r + 1)) = m.rooms.length by omega, List.take_length] at hm0
  have h8 := h.eight
  have hd := h.desks
  rw [setV_t hR, Int.toNat_natCast, bits_mem h0.1 hm (by omega) (by omega) (by omega), decide_eq_true_iff]
  constructor
  · intro hx
    have hbd : b < m.desks.length := by omega
    exact ⟨hbd, by rw [(room_is (h.bench hbd) hr).2 hx]⟩
  · rintro ⟨hbd, e⟩
    exact (room_is (h.bench hbd) hr).1 (by omega)
theorem room_upto {m : SmyV} (h : Sane m) {r : Nat} (hr : r < m.rooms.length) : ∀ k : Nat, k ≤ m.desks.length → needL m (upto (setV m.rooms (r : Int)) k) = (usedIn m r k).1 ∧ workL m (upto (setV m.rooms (r : Int)) k) = (usedIn m r k).2
  | 0, _ => ⟨rfl, rfl⟩
  | k + 1, hk => by
    have ih := room_upto h hr k (by omega)
    have h8 := h.eight
    have hs := room_set h hr (b := k) (by omega)
    by_cases e : (roomN m.rooms k : Int) = (r : Int)
    · rw [upto_hit (hs.2 ⟨by omega, e⟩), needL_snoc, workL_snoc, ih.1, ih.2]
      have ho : openB m (k : Int) = (recAt m.desks k).1 := by
        unfold openB hasB
        rw [Int.toNat_natCast, decide_eq_true (show (0 : Int) ≤ (k : Int) by omega), decide_eq_true (show (k : Int) < (m.desks.length : Int) by omega)]
        simp
      rw [ho]
      show _ = (if _ then _ else _ : Int × Int).1 ∧ _ = (if _ then _ else _ : Int × Int).2
      rw [if_pos e]
      exact ⟨rfl, rfl⟩
    · have hn : memB (setV m.rooms (r : Int)) (k : Int) = false := by
        cases hc : memB (setV m.rooms (r : Int)) (k : Int)
        · rfl
        · exact absurd (hs.1 hc).2 e
      rw [upto_miss hn]
      show _ = (if _ then _ else _ : Int × Int).1 ∧ _ = (if _ then _ else _ : Int × Int).2
      rw [if_neg e]
      exact ih
theorem room_mems {m : SmyV} (h : Sane m) {r : Nat} (hr : r < m.rooms.length) : needL m (mems (setV m.rooms (r : Int))) = (usedIn m r m.desks.length).1 ∧ workL m (mems (setV m.rooms (r : Int))) = (usedIn m r m.desks.length).2 := by
  have key : ∀ d k : Nat, m.desks.length + d = k → k ≤ 8 → upto (setV m.rooms (r : Int)) k = upto (setV m.rooms (r : Int)) m.desks.length := by
    intro d
    induction d with
    | zero => intro k hk _; rw [← hk]; rfl
    | succ d ih =>
      intro k hk h8
      obtain ⟨j, rfl⟩ : ∃ j, k = j + 1 := ⟨k - 1, by omega⟩
      have hn : memB (setV m.rooms (r : Int)) (j : Int) = false := by
        cases hc : memB (setV m.rooms (r : Int)) (j : Int)
        · rfl
        · have := ((room_set h hr (b := j) (by omega)).1 hc).1; omega
      rw [upto_miss hn]
      exact ih j (by omega) (by omega)
  have h8 := h.eight
  have e := key (8 - m.desks.length) 8 (by omega) (by omega)
  unfold mems
  rw [e]
  exact room_upto h hr m.desks.length (Nat.le_refl _)

/-! ### Chapter 13's answers -/
def needInV (m : SmyV) (r : Int) : Int := if smyB m && isRoomB m r then (usedIn m r m.desks.length).1 else -1
end Go.Proofs.YtffcgajndmhpkaaGreat

/- A smithy that a call holds in a box of its own: what is known of it, said once. Condition: the smithy can be read. -/
namespace Go.Proofs.YtffcgajndmhpkaaGreat
open Go.ChangeShapes Go.WideShapes Go.ChangeAt Go.RowKit Go.Sort
set_option linter.unusedVariables false

/-- The box R holds the smithy's five slices and its clock, they read as m, and nothing that was there ahead of the call has changed. -/
structure Bx (w W : World) (R : Nat) (a0 : Option Addr) (p0 : Nat) (a1 : Option Addr) (p1 : Nat) (a2 : Option Addr) (p2 : Nat) (a3 : Option Addr) (p3 : Nat) (a4 : Option Addr) (p4 : Nat) (m : SmyV) : Prop where
  smy : Smy W (.slice a0 m.rooms.length p0) (.slice a1 m.guilds.length p1) (.slice a2 m.smiths.length p2) (.slice a3 m.desks.length p3) (.slice a4 m.paces.length p4) m
  blk : Blk W R 40 #[.slice a0 m.rooms.length p0, .slice a1 m.guilds.length p1, .slice a2 m.smiths.length p2, .slice a3 m.desks.length p3, .slice a4 m.paces.length p4, .int .i64 m.now]
  bb : Below w.heap.size w W
section
variable {w W X : World} {R : Nat} {a0 a1 a2 a3 a4 : Option Addr} {p0 p1 p2 p3 p4 : Nat} {m : SmyV}
theorem Bx.next (h : Bx w W R a0 p0 a1 p1 a2 p2 a3 p3 a4 p4 m) (hb : Below W.heap.size W X) : Bx w X R a0 p0 a1 p1 a2 p2 a3 p3 a4 p4 m := ⟨h.smy.below hb, h.blk.below hb h.blk.lt, h.bb.trans (hb.mono h.bb.size)⟩
theorem Bx.alloc (h : Bx w W R a0 p0 a1 p1 a2 p2 a3 p3 a4 p4 m) (o : Obj) : Bx w (W.alloc o) R a0 p0 a1 p1 a2 p2 a3 p3 a4 p4 m := h.next ((Below.refl _ _).alloc (Nat.le_refl _) _)
theorem Bx.cells (h : Bx w W R a0 p0 a1 p1 a2 p2 a3 p3 a4 p4 m) : W.cell? ⟨R, 0, none⟩ = some (.slice a0 m.rooms.length p0) ∧ W.cell? ⟨R, 1, none⟩ = some (.slice a1 m.guilds.length p1) ∧ W.cell? ⟨R, 2, none⟩ = some (.slice a2 m.smiths.length p2) ∧ W.cell? ⟨R, 3, none⟩ = some (.slice a3 m.desks.length p3) ∧ W.cell? ⟨R, 4, none⟩ = some (.slice a4 m.paces.length p4) ∧ W.cell? ⟨R, 5, none⟩ = some (.int .i64 m.now) := h.blk.c6
end
theorem Bx.new {w : World} {v0 v1 v2 v3 v4 : Value} {m : SmyV} (h : Smy w v0 v1 v2 v3 v4 m) : ∃ a0 p0 a1 p1 a2 p2 a3 p3 a4 p4, v0 = .slice a0 m.rooms.length p0 ∧ v1 = .slice a1 m.guilds.length p1 ∧ v2 = .slice a2 m.smiths.length p2 ∧ v3 = .slice a3 m.desks.length p3 ∧ v4 = .slice a4 m.paces.length p4 ∧ Bx w (w.alloc (.cells #[.slice a0 m.rooms.length p0, .slice a1 m.guilds.length p1, .slice a2 m.smiths.length p2, .slice a3 m.desks.length p3, .slice a4 m.paces.length p4, .int .i64 m.now] 40)) w.heap.size a0 p0 a1 p1 a2 p2 a3 p3 a4 p4 m := by
  obtain ⟨a0, p0, a1, p1, a2, p2, a3, p3, a4, p4, rfl, rfl, rfl, rfl, rfl, _⟩ := h.five
  exact ⟨a0, p0, a1, p1, a2, p2, a3, p3, a4, p4, rfl, rfl, rfl, rfl, rfl, h.alloc _, Blk.new _ _ _, (Below.refl _ _).alloc (Nat.le_refl _) _⟩
end Go.Proofs.YtffcgajndmhpkaaGreat

/- Contracts of the program's queueAt, At, wantOf, WantOf, UsedAt: each answers what the lists say. Conditions: the smithy can be read; what each theorem names. -/
namespace Go.Proofs.YtffcgajndmhpkaaGreat
open Go.ChangeShapes Go.WideShapes Go.ChangeAt Go.RowKit Go.Sort
set_option linter.unusedVariables false
set_option maxRecDepth 100000

theorem where_at {m : SmyV} {b : Int} {k : Nat} (hk : k < (whereTo (atB b) m.smiths m.smiths.length).length) : ∃ i : Nat, i < m.smiths.length ∧ recAt (whereTo (atB b) m.smiths m.smiths.length) k = (i : Int) := by
  obtain ⟨i, hi, e, _⟩ := (whereTo_mem (atB b) m.smiths _ m.smiths.length).1 (recAt_mem hk)
  exact ⟨i, hi, e⟩
set_option maxHeartbeats 4000000 in
theorem wantOf_w {w : World} {v0 v1 v2 v3 v4 : Value} {m : SmyV} {k : Nat} (h : Smy w v0 v1 v2 v3 v4 m) (hL : Wants m) (hk : k < m.smiths.length) (hs : (recAt m.smiths k).1 ≠ 0) : Calls Tryz.prog 95 #[.agg #[v0, v1, v2, v3, v4, .int .i64 m.now], .int .i64 (k : Int)] w fun e w' => e = .returned (.int .i64 (wantV m (k : Int))) ∧ Below w.heap.size w w' := by
  have hw : wantV m (k : Int) = wantS m.guilds (recAt m.smiths k) := rfl
  rw [hw]
  clear hw
  have Hg0 := hide h.guilds
  obtain ⟨a0, p0, rfl, _, _⟩ := IsRooms.shape h.rooms
  obtain ⟨a1, p1, rfl, _, _⟩ := IsRec.shape h.guilds
  obtain ⟨a2, p2, rfl, hc2, hm2, r2⟩ := h.smiths
  obtain ⟨a3, p3, rfl, _, _⟩ := IsRec.shape h.desks
  obtain ⟨a4, p4, rfl, _, _⟩ := IsRec.shape h.paces
  clear h
  obtain ⟨hg1, hpair⟩ := hL.each k hk hs
  rcases r2 with e0 | ⟨sb, off, rfl, hbw, hcl⟩
  · rw [e0] at hk; simp at hk
  have hk1 : (k : Int) < (m.smiths.length : Int) := by omega
  obtain ⟨d0, d1, d2, d3, d4, d5, d6, d7, d8, d9, d10⟩ := smith_cells hcl hk
  clear hcl hs hL
  generalize recAt m.smiths k = ss at *
  obtain ⟨st, be, rk, my, gu, lo, hi, hd, ca, ut, wk⟩ := ss
  simp only at d0 d1 d2 d3 d4 d5 d6 d7 d8 d9 d10 hg1 hpair
  obtain ⟨nr, hnr⟩ : ∃ nr, narV (bnd m.guilds gu) lo hi = nr := ⟨_, rfl⟩
  have HW : Hid (withinV m.guilds gu lo hi = nr) := hide (by rw [← hnr]; exact withinV_t hg1 hpair)
  have HX : Hid (wantS m.guilds (st, be, rk, my, gu, lo, hi, hd, ca, ut, wk) = min (max ut nr.1) nr.2) := hide (by rw [← hnr]; rfl)
  rw [unhide HX]
  clear hpair hg1 HX hnr
  obtain ⟨nl, nh⟩ := nr
  dsimp only
  have hne : sb ≠ w.heap.size := Nat.ne_of_lt hbw
  have hbw2 : sb < w.heap.size + 1 := by omega
  have BB : Hid (Below w.heap.size w ((w.alloc (.cells #[.slice a0 m.rooms.length p0, .slice a1 m.guilds.length p1, .slice (some ⟨sb, off, none⟩) m.smiths.length p2, .slice a3 m.desks.length p3, .slice a4 m.paces.length p4, .int .i64 m.now] 40)).alloc (.cells #[.int .i64 st, .int .i64 be, .int .i64 rk, .int .i64 my, .int .i64 gu, .int .i64 lo, .int .i64 hi, .int .i64 hd, .int .i64 ca, .int .i64 ut, .int .i64 wk] 67))) := hide (((Below.refl _ _).alloc (Nat.le_refl _) _).alloc (by simp) _)
  have ks : Hid (Blk ((w.alloc (.cells #[.slice a0 m.rooms.length p0, .slice a1 m.guilds.length p1, .slice (some ⟨sb, off, none⟩) m.smiths.length p2, .slice a3 m.desks.length p3, .slice a4 m.paces.length p4, .int .i64 m.now] 40)).alloc (.cells #[.int .i64 st, .int .i64 be, .int .i64 rk, .int .i64 my, .int .i64 gu, .int .i64 lo, .int .i64 hi, .int .i64 hd, .int .i64 ca, .int .i64 ut, .int .i64 wk] 67)) (w.heap.size + 1) 67 #[.int .i64 st, .int .i64 be, .int .i64 rk, .int .i64 my, .int .i64 gu, .int .i64 lo, .int .i64 hi, .int .i64 hd, .int .i64 ca, .int .i64 ut, .int .i64 wk]) := hide (by
    have k9 := Blk.new (w.alloc (.cells #[.slice a0 m.rooms.length p0, .slice a1 m.guilds.length p1, .slice (some ⟨sb, off, none⟩) m.smiths.length p2, .slice a3 m.desks.length p3, .slice a4 m.paces.length p4, .int .i64 m.now] 40)) 67 #[.int .i64 st, .int .i64 be, .int .i64 rk, .int .i64 my, .int .i64 gu, .int .i64 lo, .int .i64 hi, .int .i64 hd, .int .i64 ca, .int .i64 ut, .int .i64 wk]
    rw [World.size_alloc] at k9
    exact k9)
  have kb : Hid (Blk ((w.alloc (.cells #[.slice a0 m.rooms.length p0, .slice a1 m.guilds.length p1, .slice (some ⟨sb, off, none⟩) m.smiths.length p2, .slice a3 m.desks.length p3, .slice a4 m.paces.length p4, .int .i64 m.now] 40)).alloc (.cells #[.int .i64 st, .int .i64 be, .int .i64 rk, .int .i64 my, .int .i64 gu, .int .i64 lo, .int .i64 hi, .int .i64 hd, .int .i64 ca, .int .i64 ut, .int .i64 wk] 67)) w.heap.size 40 #[.slice a0 m.rooms.length p0, .slice a1 m.guilds.length p1, .slice (some ⟨sb, off, none⟩) m.smiths.length p2, .slice a3 m.desks.length p3, .slice a4 m.paces.length p4, .int .i64 m.now]) := hide ((Blk.new w _ _).alloc _)
  have Hg2 := hide ((unhide Hg0).below (unhide BB))
  go_enter Tryz.func95, Tryz.ntmps95
  go_upto_region 2 with fail
  generalize (w.alloc (.cells #[.slice a0 m.rooms.length p0, .slice a1 m.guilds.length p1, .slice (some ⟨sb, off, none⟩) m.smiths.length p2, .slice a3 m.desks.length p3, .slice a4 m.paces.length p4, .int .i64 m.now] 40)).alloc (.cells #[.int .i64 st, .int .i64 be, .int .i64 rk, .int .i64 my, .int .i64 gu, .int .i64 lo, .int .i64 hi, .int .i64 hd, .int .i64 ca, .int .i64 ut, .int .i64 wk] 67) = W at *
  clear d0 d1 d2 d3 d4 d5 d6 d7 d8 d9 d10
  have c1 := (unhide kb).cell (i := 1) (v := .slice a1 m.guilds.length p1) rfl
  have s4 := (unhide ks).cell (i := 4) (v := .int .i64 gu) rfl
  have s5 := (unhide ks).cell (i := 5) (v := .int .i64 lo) rfl
  have s6 := (unhide ks).cell (i := 6) (v := .int .i64 hi) rfl
  go_wp2_with fail
  refine (implWithin_any gu lo hi (unhide Hg2)).mono ?_
  rw [unhide HW]
  rintro e w1 ⟨rfl, hb⟩
  replace ks := hide ((unhide ks).below hb (unhide ks).lt)
  replace BB := hide ((unhide BB).trans (hb.mono (unhide BB).size))
  clear hb c1 s4 s5 s6 HW
  have s9 := (unhide ks).cell (i := 9) (v := .int .i64 ut) rfl
  go_wp2_with (go_at_call 119; refine (implClamped_any _ _ _ _).mono ?_; rintro e w' ⟨rfl, h9⟩; subst w')
  go_ret
  exact ⟨rfl, unhide BB⟩
end Go.Proofs.YtffcgajndmhpkaaGreat

/- Contracts of the program's usedAt, UsedAt, hasRoom and hasOpen: each answers what the lists say. Conditions: the smithy can be read; what each theorem names. -/
namespace Go.Proofs.YtffcgajndmhpkaaGreat
open Go.ChangeShapes Go.WideShapes Go.ChangeAt Go.RowKit Go.Sort
set_option linter.unusedVariables false
set_option maxRecDepth 100000

set_option maxHeartbeats 8000000 in
theorem usedAt_any {w : World} {v0 v1 v2 v3 v4 : Value} {m : SmyV} {b q : Int} (hq : usedV m b (-1) = q) (h : Smy w v0 v1 v2 v3 v4 m) (hW : Wants m) (hl : m.smiths.length ≤ 12) : Calls Tryz.prog 68 #[.agg #[v0, v1, v2, v3, v4, .int .i64 m.now], .int .i64 b] w fun e w' => e = .returned (.int .i64 q) ∧ Below w.heap.size w w' := by
  have Hq := hide hq
  clear hq
  have HW := hide hW
  clear hW
  obtain ⟨a0, p0, a1, p1, a2, p2, a3, p3, a4, p4, rfl, rfl, rfl, rfl, rfl, K⟩ := Bx.new h
  clear h
  go_enter Tryz.func68, Tryz.ntmps68
  go_upto_region 2 with fail
  generalize w.alloc (.cells #[.slice a0 m.rooms.length p0, .slice a1 m.guilds.length p1, .slice a2 m.smiths.length p2, .slice a3 m.desks.length p3, .slice a4 m.paces.length p4, .int .i64 m.now] 40) = W at *
  obtain ⟨c0, c1, c2, c3, c4, c5⟩ := K.cells
  go_wp2_with fail
  refine (whoIsAt_any b K.smy (by omega)).mono ?_
  rintro e w1 ⟨vn, rfl, hn, hb⟩
  obtain ⟨na, nc, rfl⟩ := RecAt.shape hn
  have HN := hide hn
  replace K := K.next hb
  clear hb hn c0 c1 c2 c3 c4 c5
  have Hwh := hide (fun k hk => where_at (m := m) (b := b) (k := k) hk)
  have Hat := hide (fun x hx => (whereTo_mem (atB b) m.smiths x m.smiths.length).1 hx)
  have hwl := whereTo_len (atB b) m.smiths m.smiths.length
  rw [← used_where] at Hq
  generalize whereTo (atB b) m.smiths m.smiths.length = ws at *
  go_wp2_with fail
  go_loopw [5, 12] (fun u i wr => ∃ k : Nat, k ≤ ws.length ∧ i = .int .i64 k ∧ u = .int .i64 (sumW m (ws.take k)) ∧ Bx w wr w.heap.size a0 p0 a1 p1 a2 p2 a3 p3 a4 p4 m ∧ Below w1.heap.size w1 wr) (fun _ i _ => ws.length - (intOf i).toNat)
  case atStart => exact ⟨0, Nat.zero_le _, rfl, rfl, K, Below.refl _ _⟩
  case round =>
    obtain ⟨k, hk, rfl, rfl, hK, hb0⟩ := hrel
    clear K
    have K := hK
    have BB := hide hb0
    clear hK hb0
    have hub := sumW_bd m (ws.take k)
    have htl : (ws.take k).length ≤ ws.length := by simp; omega
    by_cases hlt : k < ws.length
    · have hlt1 : (k : Int) < (ws.length : Int) := by omega
      obtain ⟨g, hga, _, hgl, hcl, _⟩ := RecAt.view encNum_len (by omega) (unhide HN) rfl (by omega)
      cases hga
      have z0 := hcl k hlt 0 _ rfl
      simp only [Nat.mul_one, Nat.add_zero] at z0
      have hgw : g < w1.heap.size := hgl
      rw [← (unhide BB).cell (p := ⟨g, k, none⟩) hgw] at z0
      obtain ⟨i, hi, hiw⟩ := unhide Hwh k hlt
      obtain ⟨_, _, hi2, hat⟩ := unhide Hat _ (recAt_mem hlt)
      have hpi : (recAt m.smiths i).1 ≠ 0 := by
        rw [hiw] at hi2
        obtain rfl := Int.ofNat.inj hi2
        intro e
        unfold atB at hat
        rw [e] at hat
        simp at hat
      clear hcl hi2 hat
      have HS : Hid (sumW m (ws.take (k + 1)) = sumW m (ws.take k) + wantV m (i : Int)) := hide (by rw [sumW_step m hlt, hiw])
      rw [hiw] at z0
      have hwb := wantV_bd m (i : Int)
      have HC := hide (fun (X : World) (hX : Smy X (.slice a0 m.rooms.length p0) (.slice a1 m.guilds.length p1) (.slice a2 m.smiths.length p2) (.slice a3 m.desks.length p3) (.slice a4 m.paces.length p4) m) => wantOf_w hX (unhide HW) hi hpi)
      generalize sumW m (ws.take k) = us at *
      generalize wantV m (i : Int) = wa at *
      have hgr : g < wr.heap.size := Nat.lt_of_lt_of_le hgw (unhide BB).size
      obtain ⟨c0, c1, c2, c3, c4, c5⟩ := K.cells
      go_wp2_with fail
      refine (unhide HC _ K.smy).mono ?_
      rintro e w2 ⟨rfl, hb⟩
      replace K := K.next hb
      replace BB := hide ((unhide BB).trans (hb.mono (unhide BB).size))
      clear hb c0 c1 c2 c3 c4 c5 z0
      have hlen12 : (ws.length : Int) ≤ 12 := by omega
      go_wp2_with fail
      go_roundw
      case rel => exact ⟨k + 1, by omega, by go_num, by rw [unhide HS], K, unhide BB⟩
      case measure => simp [intOf]; omega
    · obtain rfl : k = ws.length := by omega
      rw [List.take_length] at *
      obtain rfl : q = sumW m ws := (unhide Hq).symm
      go_wp2_with fail
      go_ret
      exact ⟨rfl, K.bb⟩
theorem hasRooms_any (a : Option Addr) (n cap : Nat) (i : Int) (w : World) : Calls Tryz.prog 64 #[.slice a n cap, .int .i64 i] w fun e w' => e = .returned (.bool (hasB n i)) ∧ w' = w := by
  by_cases h0 : 0 ≤ i
  · by_cases h1 : i < (n : Int)
    all_goals
      go_enter Tryz.func64, Tryz.ntmps64
      go_wp2_with fail
      go_ret
      exact ⟨ret_bool (by unfold hasB; simp [h0, h1]), rfl⟩
  · go_enter Tryz.func64, Tryz.ntmps64
    go_wp2_with fail
    go_ret
    exact ⟨ret_bool (by unfold hasB; simp; omega), rfl⟩
set_option maxHeartbeats 1000000 in
theorem hasRoom_any {w : World} {v0 v1 v2 v3 v4 : Value} {m : SmyV} {r : Int} {q : Bool} (hq : isRoomB m r = q) (h : Smy w v0 v1 v2 v3 v4 m) : Calls Tryz.prog 40 #[.agg #[v0, v1, v2, v3, v4, .int .i64 m.now], .int .i64 r] w fun e w' => e = .returned (.bool q) ∧ Below w.heap.size w w' := by
  have Hq : Hid (hasB m.rooms.length r = q) := hide (by rw [has_in]; exact hq)
  clear hq
  obtain ⟨a0, p0, a1, p1, a2, p2, a3, p3, a4, p4, rfl, rfl, rfl, rfl, rfl, K⟩ := Bx.new h
  clear h
  go_enter Tryz.func40, Tryz.ntmps40
  go_wp2_with fail
  refine (hasRooms_any _ _ _ r _).mono ?_
  rw [unhide Hq]
  rintro e w1 ⟨rfl, h9⟩
  subst w1
  go_wp2_with fail
  go_ret
  exact ⟨rfl, K.bb⟩
set_option maxHeartbeats 4000000 in
theorem hasOpen_any {w : World} {v0 v1 v2 v3 v4 : Value} {m : SmyV} {b : Int} {q : Bool} (hq : openB m b = q) (h : Smy w v0 v1 v2 v3 v4 m) : Calls Tryz.prog 67 #[.agg #[v0, v1, v2, v3, v4, .int .i64 m.now], .int .i64 b] w fun e w' => e = .returned (.bool q) ∧ Below w.heap.size w w' := by
  have Hq := hide hq
  clear hq
  obtain ⟨a0, p0, a1, p1, a2, p2, a3, p3, a4, p4, rfl, rfl, rfl, rfl, rfl, K⟩ := Bx.new h
  clear h
  go_enter Tryz.func67, Tryz.ntmps67
  go_wp2_with fail
  generalize w.alloc (.cells #[.slice a0 m.rooms.length p0, .slice a1 m.guilds.length p1, .slice a2 m.smiths.length p2, .slice a3 m.desks.length p3, .slice a4 m.paces.length p4, .int .i64 m.now] 40) = W at *
  refine (desksOf_any _ _ _ _ _ _ _ _ _ _ _ _ _ _ _ _ _).mono ?_
  rintro e w2 ⟨rfl, hb⟩
  replace K := K.next hb
  clear hb
  obtain ⟨qh, hqh⟩ : ∃ q, hasB m.desks.length b = q := ⟨_, rfl⟩
  have Hh := hide hqh
  clear hqh
  go_wp2_with fail
  refine (hasDesk_any _ _ _ b _).mono ?_
  rw [unhide Hh]
  rintro e w3 ⟨rfl, h9⟩
  subst w3
  cases qh
  · obtain rfl : q = false := by rw [← unhide Hq]; unfold openB; rw [unhide Hh]; rfl
    go_wp2_with fail
    go_ret
    exact ⟨rfl, K.bb⟩
  have hbb : 0 ≤ b ∧ b < (m.desks.length : Int) := by have := unhide Hh; unfold hasB at this; simpa using this
  obtain ⟨k, rfl⟩ : ∃ k : Nat, b = k := ⟨b.toNat, by omega⟩
  have hk : k < m.desks.length := by omega
  have hk1 : (k : Int) < (m.desks.length : Int) := by omega
  obtain ⟨_, _, hde, _, _, r3⟩ := K.smy.desks
  cases hde
  rcases r3 with e0 | ⟨db, off, rfl, hbw, hcl⟩
  · rw [e0] at hk; simp at hk
  obtain ⟨d0, d1, d2⟩ := desk_cells hcl hk
  have hq2 : (recAt m.desks k).1 = q := by rw [← unhide Hq]; unfold openB; rw [unhide Hh, Int.toNat_natCast]; rfl
  clear hcl Hq
  generalize recAt m.desks k = dd at *
  obtain ⟨op, wo, mk⟩ := dd
  simp only at d0 d1 d2 hq2
  subst hq2
  obtain ⟨c0, c1, c2, c3, c4, c5⟩ := K.cells
  go_wp2_with fail
  refine (isOpen_any op wo mk _).mono ?_
  rintro e w4 ⟨rfl, hb⟩
  replace K := K.next hb
  clear hb c0 c1 c2 c3 c4 c5 d0 d1 d2
  go_wp2_with fail
  go_ret
  exact ⟨rfl, K.bb⟩

end Go.Proofs.YtffcgajndmhpkaaGreat

/- Contracts of PaceFor, CoalFor and LeastCoal, the program's and the model's, at whatever room can be read and whatever numbers: each returns what the lists say and writes into no memory that was there. No other condition. -/
namespace Go.Proofs.YtffcgajndmhpkaaGreat
open Go.ChangeShapes Go.WideShapes Go.ChangeAt Go.RowKit Go.Sort
set_option linter.unusedVariables false

theorem enough_any (f c need : Int) (w : World) (f0 : 1 ≤ f) (f1 : f ≤ 1024) (n0 : 0 ≤ need) (n1 : need ≤ 1000000) :
    Calls Tryz.prog 70 #[.int .i64 f, .int .i64 need] w fun e w' => e = .returned (.bool (enoughB need (f, c))) ∧ Below w.heap.size w w' :=
  (isEnough_any f need w (by omega) (by omega) n0 (by omega)).mono fun _ _ ⟨he, hw⟩ => ⟨he, hw ▸ Below.refl _ _⟩

set_option maxHeartbeats 1000000 in
theorem slowest_any {w : World} {v : Value} {ps : List PaceV} (b need : Int) (h : IsPaces w v ps) (hr : roomB (b, ps) = true) (hn : inB need 0 1000000 = true) :
    Calls Tryz.prog 44 #[v, .int .i64 need] w fun e w' => e = .returned (.int .i64 (paceN need ps)) ∧ Below w.heap.size w w' := by
  obtain ⟨a, cap, rfl, hc, hm, hrow⟩ := h
  have hbd := room_bd hr
  simp only at hbd
  obtain ⟨_, _, hl1, hl4⟩ := hbd
  obtain ⟨n0, n1⟩ := inB_of hn
  rcases hrow with h0 | ⟨bk, off, rfl, hbw, hcl⟩
  · rw [h0] at hl1; simp at hl1
  have Hcl := hide hcl
  have Hr := hide hr
  clear hcl hr hn
  go_enter Tryz.func44, Tryz.ntmps44
  go_wp2_with fail
  go_step3
  go_wp2_with fail
  go_step3
  go_wp2_with fail
  go_loopw [5] (fun i wr => ∃ k : Nat, k + 1 ≤ ps.length ∧ i = .int .i64 k ∧ (∀ j, j < k → enoughB need (paceAt ps j) = false) ∧ Below w.heap.size w wr) (fun i _ => ps.length - (intOf i).toNat)
  case atStart => exact ⟨0, by omega, rfl, fun j hj => by omega, Below.refl _ _⟩
  case round =>
    obtain ⟨k, hk, rfl, hlo, hb⟩ := hrel
    have Hlo := hide hlo
    have Hb := hide hb
    clear hlo
    by_cases hlast : k + 1 = ps.length
    · clear hb
      have he : (k : Int) = (ps.length : Int) - 1 := by omega
      have Hp := hide (paceN_eq need ps k hk (unhide Hlo) (.inl hlast))
      go_wp2_with fail
      (try rw [Exit.noGoto_ret])
      go_ret
      exact ⟨ret_int (by rw [unhide Hp]), unhide Hb⟩
    · have hne : ¬ (k : Int) = (ps.length : Int) - 1 := by omega
      obtain ⟨c0, c1⟩ := unhide Hcl k (by omega)
      rw [← hb.cell (p := ⟨bk, off + k * 2, none⟩) hbw] at c0
      rw [← hb.cell (p := ⟨bk, off + k * 2 + 1, none⟩) hbw] at c1
      have hpb := room_pace (unhide Hr) (k := k) (show k < ps.length by omega)
      simp only at hpb
      generalize hp : paceAt ps k = p at c0 c1 hpb
      have Hp := hide hp
      clear hp hb
      obtain ⟨f, c⟩ := p
      simp only at c0 c1 hpb
      obtain ⟨f0, f1, _, _⟩ := hpb
      go_wp2_with fail
      refine (enough_any f c need _ f0 f1 n0 n1).mono ?_
      rintro e w1 ⟨rfl, hb1⟩
      have Hb1 := hide hb1
      clear hb1
      cases hen : enoughB need (f, c)
      · go_wp2_with fail
        go_roundw
        case rel => exact ⟨k + 1, by omega, by go_num, next_all (unhide Hlo) (by rw [unhide Hp]; exact hen), (unhide Hb).trans ((unhide Hb1).mono (unhide Hb).size)⟩
        case measure => simp [intOf]; omega
      · have Hq := hide (paceN_eq need ps k hk (unhide Hlo) (.inr (by rw [unhide Hp]; exact hen)))
        go_wp2_with fail
        (try rw [Exit.noGoto_ret])
        go_ret
        exact ⟨ret_int (by rw [unhide Hq]), (unhide Hb).trans ((unhide Hb1).mono (unhide Hb).size)⟩

set_option maxHeartbeats 1000000 in
theorem implPaceFor_any {w : World} {v : Value} {ps : List PaceV} (b need : Int) (h : IsPaces w v ps) :
    Calls Tryz.prog 23 #[.agg #[.int .i64 b, v], .int .i64 need] w fun e w' => e = .returned (.int .i64 (paceForV (b, ps) need)) ∧ Below w.heap.size w w' := by
  have Hv := hide h
  obtain ⟨a, cap, rfl, hc, hm, hrow⟩ := h
  clear hrow
  cases hr : roomB (b, ps)
  · rw [paceForV_f1 hr]
    go_enter Tryz.func23, Tryz.ntmps23
    go_wp2_with fail
    refine (implRoomOk_any b ((unhide Hv).below ((Below.refl _ _).alloc (Nat.le_refl _) _))).mono ?_
    rintro e w1 ⟨rfl, hb⟩
    have B1 : Hid (Below w.heap.size w w1) := hide (((Below.refl _ _).alloc (Nat.le_refl _) _).trans (hb.mono (by simp)))
    clear hb
    go_wp2_with fail
    go_ret
    exact ⟨rfl, unhide B1⟩
  cases hn : inB need 0 1000000
  · rw [paceForV_f2 hn]
    go_enter Tryz.func23, Tryz.ntmps23
    go_wp2_with fail
    refine (implRoomOk_any b ((unhide Hv).below ((Below.refl _ _).alloc (Nat.le_refl _) _))).mono ?_
    rintro e w1 ⟨rfl, hb⟩
    have B1 : Hid (Below w.heap.size w w1) := hide (((Below.refl _ _).alloc (Nat.le_refl _) _).trans (hb.mono (by simp)))
    clear hb
    go_wp2_with (go_at_call 43; refine (liesFrom_any _ _ _ _).mono ?_; rintro e w' ⟨rfl, rfl⟩)
    go_ret
    exact ⟨rfl, unhide B1⟩
  · rw [paceForV_t hr hn]
    have Hr := hide hr
    go_enter Tryz.func23, Tryz.ntmps23
    go_wp2_with fail
    refine (implRoomOk_any b ((unhide Hv).below ((Below.refl _ _).alloc (Nat.le_refl _) _))).mono ?_
    rintro e w1 ⟨rfl, hb⟩
    have x1 : w1.cell? ⟨w.heap.size, 1, none⟩ = some (.slice a ps.length cap) := (hb.cell (p := ⟨w.heap.size, 1, none⟩) (by simp)).trans (by simp)
    have B1 : Hid (Below w.heap.size w w1) := hide (((Below.refl _ _).alloc (Nat.le_refl _) _).trans (hb.mono (by simp)))
    clear hb
    go_wp2_with (go_at_call 43; refine (liesFrom_any _ _ _ _).mono ?_; rintro e w' ⟨rfl, rfl⟩)
    refine (slowest_any b need ((unhide Hv).below (unhide B1)) (unhide Hr) hn).mono ?_
    rintro e w2 ⟨rfl, hb2⟩
    have Hb2 := hide hb2
    clear hb2
    go_wp2_with fail
    go_ret
    exact ⟨rfl, (unhide B1).trans ((unhide Hb2).mono (unhide B1).size)⟩

theorem l5Work_any (x : Int) (w : World) : Calls Tryz.prog 60 #[.int .i64 x] w fun e w' => e = .returned (.bool (inB x 0 1000000)) ∧ w' = w := by
  go_enter Tryz.func60, Tryz.ntmps60
  go_wp2_with (go_at_call 32; refine (l1In_any _ _ _ _).mono ?_; rintro e w' ⟨rfl, rfl⟩)
  go_ret
  exact ⟨rfl, rfl⟩

set_option maxHeartbeats 2000000 in
theorem specPaceFor_any {w : World} {v : Value} {ps : List PaceV} (b need : Int) (h : IsPaces w v ps) :
    Calls Tryz.prog 34 #[.agg #[.int .i64 b, v], .int .i64 need] w fun e w' => e = .returned (.int .i64 (paceForV (b, ps) need)) ∧ Below w.heap.size w w' := by
  have Hv := hide h
  obtain ⟨a, cap, rfl, hc, hm, hrow⟩ := h
  clear hrow
  cases hr : roomB (b, ps)
  · rw [paceForV_f1 hr]
    go_enter Tryz.func34, Tryz.ntmps34
    go_wp2_with fail
    refine (specRoomOk_any b ((unhide Hv).below ((Below.refl _ _).alloc (Nat.le_refl _) _))).mono ?_
    rintro e w1 ⟨rfl, hb⟩
    have B1 : Hid (Below w.heap.size w w1) := hide (((Below.refl _ _).alloc (Nat.le_refl _) _).trans (hb.mono (by simp)))
    clear hb
    go_wp2_with fail
    go_ret
    exact ⟨rfl, unhide B1⟩
  cases hn : inB need 0 1000000
  · rw [paceForV_f2 hn]
    go_enter Tryz.func34, Tryz.ntmps34
    go_wp2_with fail
    refine (specRoomOk_any b ((unhide Hv).below ((Below.refl _ _).alloc (Nat.le_refl _) _))).mono ?_
    rintro e w1 ⟨rfl, hb⟩
    have B1 : Hid (Below w.heap.size w w1) := hide (((Below.refl _ _).alloc (Nat.le_refl _) _).trans (hb.mono (by simp)))
    clear hb
    go_wp2_with (go_at_call 60; refine (l5Work_any _ _).mono ?_; rintro e w' ⟨rfl, rfl⟩)
    go_ret
    exact ⟨rfl, unhide B1⟩
  rw [paceForV_t hr hn]
  have Hr := hide hr
  have hn' := hn
  obtain ⟨n0, n1⟩ := inB_of hn'
  clear hn'
  go_enter Tryz.func34, Tryz.ntmps34
  go_wp2_with fail
  refine (specRoomOk_any b ((unhide Hv).below ((Below.refl _ _).alloc (Nat.le_refl _) _))).mono ?_
  rintro e w1 ⟨rfl, hb⟩
  have x1 : w1.cell? ⟨w.heap.size, 1, none⟩ = some (.slice a ps.length cap) := (hb.cell (p := ⟨w.heap.size, 1, none⟩) (by simp)).trans (by simp)
  have B1 : Hid (Below w.heap.size w w1) := hide (((Below.refl _ _).alloc (Nat.le_refl _) _).trans (hb.mono (by simp)))
  clear hb
  have hv1 := (unhide Hv).below (unhide B1)
  obtain ⟨a', cap', he, _, _, hrow⟩ := hv1
  cases he
  have hbd := room_bd (unhide Hr)
  simp only at hbd
  obtain ⟨_, _, hl1, hl4⟩ := hbd
  rcases hrow with h0 | ⟨bk, off, rfl, hbw, hcl⟩
  · rw [h0] at hl1; simp at hl1
  have Hcl := hide hcl
  clear hcl
  go_wp2_with (go_at_call 60; refine (l5Work_any _ _).mono ?_; rintro e w' ⟨rfl, rfl⟩)
  clear hr hn
  go_loop [5] (fun i => ∃ k : Nat, k + 1 ≤ ps.length ∧ i = .int .i64 k ∧ (∀ j, j < k → enoughB need (paceAt ps j) = false)) (fun i => ps.length - (intOf i).toNat)
  case atStart => exact ⟨0, by omega, rfl, fun j hj => by omega⟩
  case round =>
    obtain ⟨k, hk, rfl, hlo⟩ := hrel
    have Hlo := hide hlo
    clear hlo
    by_cases hlast : k + 1 = ps.length
    · have Hp := hide (paceN_eq need ps k hk (unhide Hlo) (.inl hlast))
      have hd : ¬ (k : Int) + 1 < (ps.length : Int) := by omega
      go_wp2_with fail
      go_ret
      exact ⟨ret_int (by rw [unhide Hp]), unhide B1⟩
    · have hd : (k : Int) + 1 < (ps.length : Int) := by omega
      obtain ⟨c0, c1⟩ := unhide Hcl k (by omega)
      have hpb := room_pace (unhide Hr) (k := k) (show k < ps.length by omega)
      simp only at hpb
      generalize hp : paceAt ps k = p at c0 c1 hpb
      have Hp := hide hp
      clear hp
      obtain ⟨f, c⟩ := p
      simp only at c0 c1 hpb
      obtain ⟨f0, f1, _, _⟩ := hpb
      by_cases hen : 4 * f < 5 * need
      · go_wp2_with fail
        go_round
        case rel => exact ⟨k + 1, by omega, by go_num, next_all (unhide Hlo) (by rw [unhide Hp]; exact enough_f hen)⟩
        case measure => simp [intOf]; omega
      · have Hq := hide (paceN_eq need ps k hk (unhide Hlo) (.inr (by rw [unhide Hp]; exact enough_t (by simp only; omega))))
        go_wp2_with fail
        go_ret
        exact ⟨ret_int (by rw [unhide Hq]), unhide B1⟩

end Go.Proofs.YtffcgajndmhpkaaGreat

/- Contracts of the program's needIn and workIn (which range over the benches of a room): each answers what the lists say. Conditions: the smithy can be read; what each theorem names. -/
namespace Go.Proofs.YtffcgajndmhpkaaGreat
open Go.ChangeShapes Go.WideShapes Go.ChangeAt Go.RowKit Go.Sort Go.Shelf
set_option linter.unusedVariables false
set_option maxRecDepth 100000
attribute [local go_sem] Oper.semAt_some

/-- Only new memory differs: nothing that another loop holds is touched. -/
theorem below_others {W X : World} (h : Below W.heap.size W X) : KeepsOthers W X := ⟨h.size, fun k o hk _ => (h.block k (Array.getElem?_eq_some_iff.1 hk).1).trans hk⟩
theorem below_boxes {W X : World} (h : Below W.heap.size W X) {B : Nat} {t : TypeId} : KeepsBox B t W X := fun v hv => (h.block B hv.lt).trans hv
theorem below_boxed {W X : World} (h : Below W.heap.size W X) {B : Nat} {t : TypeId} {v : Value} (hv : Boxed W B t v) : Boxed X B t v := (h.block B hv.lt).trans hv
/-- What a round over the benches holds: the sum's box, the smithy's box. -/
def Rnd (w : World) (f : List Int → Int) (a0 : Option Addr) (p0 : Nat) (a1 : Option Addr) (p1 : Nat) (a2 : Option Addr) (p2 : Nat) (a3 : Option Addr) (p3 : Nat) (a4 : Option Addr) (p4 : Nat) (m : SmyV) (pre : List Int) (W : World) : Prop := Boxed W (w.heap.size + 1) 2 (.int .i64 (f pre)) ∧ Bx w W w.heap.size a0 p0 a1 p1 a2 p2 a3 p3 a4 p4 m
theorem rnd_own (w : World) (f : List Int → Int) (a0 : Option Addr) (p0 : Nat) (a1 : Option Addr) (p1 : Nat) (a2 : Option Addr) (p2 : Nat) (a3 : Option Addr) (p3 : Nat) (a4 : Option Addr) (p4 : Nat) (m : SmyV) (hs : Smy w (.slice a0 m.rooms.length p0) (.slice a1 m.guilds.length p1) (.slice a2 m.smiths.length p2) (.slice a3 m.desks.length p3) (.slice a4 m.paces.length p4) m) {B : Nat} (hB : w.heap.size ≤ B) : OwnFrom B (Rnd w f a0 p0 a1 p1 a2 p2 a3 p3 a4 p4 m) := by
  rintro pre W X row ⟨h1, h2⟩ hg hr
  have h4 := h2.bb.grown hg h2.bb.size (fun k e => Nat.le_trans hB (hr k e).1)
  refine ⟨h1.kept hg (fun e => ?_), hs.below h4, (hg.block _ h2.blk.lt (fun e => ?_)).trans h2.blk, h4⟩
  · obtain ⟨_, o, ho, hc⟩ := hr _ e.symm
    rw [show W.heap[w.heap.size + 1]? = _ from h1] at ho; cases ho; cases hc
  · obtain ⟨_, o, ho, hc⟩ := hr _ e.symm
    rw [show W.heap[w.heap.size]? = _ from h2.blk] at ho; cases ho; cases hc

/-- A round has written the sum. -/
theorem rnd_step {w W W1 W2 : World} {f : List Int → Int} {a0 a1 a2 a3 a4 : Option Addr} {p0 p1 p2 p3 p4 : Nat} {m : SmyV} {pre : List Int} {x v nl : Int} {B S : Nat} (hs : Smy w (.slice a0 m.rooms.length p0) (.slice a1 m.guilds.length p1) (.slice a2 m.smiths.length p2) (.slice a3 m.desks.length p3) (.slice a4 m.paces.length p4) m) (hko : KeepsOthers W W1) (hkb : KeepsBox S 2 W W1) (hb : Below W1.heap.size W1 W2) (hv : Boxed W1 (w.heap.size + 1) 2 (.int .i64 nl)) (hK : Bx w W1 w.heap.size a0 p0 a1 p1 a2 p2 a3 p3 a4 p4 m) (hS : w.heap.size + 1 < S) (e : f (pre ++ [x]) = v) :
    KeepsFrom B W (W2.setCell ⟨w.heap.size + 1, 0, none⟩ (.int .i64 v)) ∧ KeepsBox S 2 W (W2.setCell ⟨w.heap.size + 1, 0, none⟩ (.int .i64 v)) ∧ Rnd w f a0 p0 a1 p1 a2 p2 a3 p3 a4 p4 m (pre ++ [x]) (W2.setCell ⟨w.heap.size + 1, 0, none⟩ (.int .i64 v)) := by
  have hK2 := hK.next hb
  have hbb : Below w.heap.size w (W2.setCell ⟨w.heap.size + 1, 0, none⟩ (.int .i64 v)) := hK2.bb.setCell (p := ⟨w.heap.size + 1, 0, none⟩) (Nat.le_succ _) _
  refine ⟨((hko.trans (below_others hb)).trans (KeepsOthers.setCell _ _ _)).from _, fun u hu => (below_boxed hb (hkb u hu)).other (by omega) _, ?_, hs.below hbb, hK2.blk.other (a := ⟨w.heap.size + 1, 0, none⟩) (by show w.heap.size ≠ w.heap.size + 1; omega) _, hbb⟩
  rw [e]
  exact (below_boxed hb hv).set _

set_option maxHeartbeats 8000000 in
theorem needIn_in (n : Nat) (hn : 3 ≤ n) {w : World} {v0 v1 v2 v3 v4 : Value} {m : SmyV} {r : Nat} (h : Smy w v0 v1 v2 v3 v4 m) (hS : Sane m) (hW : Wants m) (hr : r < m.rooms.length) : CallsIn Fence.wide n Tryz.prog 41 #[.agg #[v0, v1, v2, v3, v4, .int .i64 m.now], .int .i64 (r : Int)] w fun e w' => e = .returned (.int .i64 (needL m (mems (setV m.rooms (r : Int))))) ∧ Below w.heap.size w w' := by
  have h1 : 1 ≤ n := by omega
  have hmo : Tryz.prog.follows .mixedOrders = true := by kernel_rfl
  have hl := hS.few
  have HW := hide hW
  have Hs := hide h
  clear hS hW
  obtain ⟨a0, p0, a1, p1, a2, p2, a3, p3, a4, p4, rfl, rfl, rfl, rfl, rfl, K⟩ := Bx.new h
  clear h
  obtain ⟨st, hst⟩ : ∃ st, setV m.rooms (r : Int) = st := ⟨_, rfl⟩
  rw [hst]
  have Hst := hide hst
  clear hst
  refine callsIn_of_wp_marks Tryz.func41 rfl trivial ?_ rfl
  simp only [Tryz.ntmps41, List.size_toArray, List.length_cons, List.length_nil, Nat.reduceAdd, Nat.reduceSub, Array.replicate_succ, Array.replicate_zero, List.push_toArray, List.append_toArray, List.nil_append, List.cons_append]
  gi_wp2_with fail
  have bN := Boxed.new (w.alloc (.cells #[.slice a0 m.rooms.length p0, .slice a1 m.guilds.length p1, .slice a2 m.smiths.length p2, .slice a3 m.desks.length p3, .slice a4 m.paces.length p4, .int .i64 m.now] 40)) 2 (.int .i64 0)
  rw [World.size_alloc] at bN
  replace K := K.alloc (.cells #[.int .i64 0] 2)
  generalize (w.alloc (.cells #[.slice a0 m.rooms.length p0, .slice a1 m.guilds.length p1, .slice a2 m.smiths.length p2, .slice a3 m.desks.length p3, .slice a4 m.paces.length p4, .int .i64 m.now] 40)).alloc (.cells #[.int .i64 0] 2) = W0 at *
  refine ⟨trivial, ?_⟩
  refine (callsIn_wide.2 (implBenchSet_any (r : Int) K.smy.rooms)).mono ?_
  rw [unhide Hst]
  rintro e w1 ⟨rfl, hb⟩
  dsimp only
  replace bN := below_boxed hb bN
  replace K := K.next hb
  clear hb Hst
  gi_wp2_with (refine ⟨trivial, ?_⟩; gi_at_call 65; refine (membersOf_in (n - 1) _ _).mono ?_; rintro e w' ⟨rfl, rfl⟩)
  have bS := Boxed.new w1 2 (.int .i64 st)
  have hsz := K.bb.size
  refine wpIn_rangeFunc_ownG rfl h1 (gf := 87) (lb := #[.pointer (some ⟨w1.heap.size, 0, none⟩)]) rfl trivial (enters_of Tryz.func87 (by kernel_rfl) rfl)
    (members_stops (n - 1) (by omega) w1.heap.size st _ bS) (fun h k => h.trans k) (KeepsBox.putObj (by simp)) (Below.refl _ _) (fun _ => rfl)
    (Rnd w (needL m) a0 p0 a1 p1 a2 p2 a3 p3 a4 p4 m) (fun _ _ _ => False)
    (rnd_own w (needL m) a0 p0 a1 p1 a2 p2 a3 p3 a4 p4 m (unhide Hs) (by simp; omega))
    (fun _ _ _ _ _ hs _ _ => hs)
    ⟨bN.alloc _, K.alloc _⟩
    (fun x => { tmps := #[.agg #[.slice a0 m.rooms.length p0, .slice a1 m.guilds.length p1, .slice a2 m.smiths.length p2, .slice a3 m.desks.length p3, .slice a4 m.paces.length p4, .int .i64 m.now], .int .i64 (r : Int), .pointer (some ⟨w.heap.size, 0, none⟩), undef, .int .i64 0, .pointer (some ⟨w.heap.size + 1, 0, none⟩), .int .i64 x, .pointer (some ⟨w.heap.size, 0, none⟩), .agg #[.slice a0 m.rooms.length p0], .int .i64 (r : Int), .int .i64 st, .func (.func 87) #[] #[.pointer (some ⟨w1.heap.size, 0, none⟩)], .int .i64 x, undef, undef, undef, undef, undef, undef, undef, undef, undef], defers := [] }) ?assign ?body ?done ?stop
  case assign =>
    intro l x W K hK
    gi_wp2
    exact hK
  case body =>
    rintro l pre x W ⟨hv, hK⟩ hlt
    have hc := hv.cell
    have hf := hv.frozen
    obtain ⟨c0, c1, c2, c3, c4, c5⟩ := hK.cells
    obtain ⟨us, hus⟩ : ∃ q, usedV m x (-1) = q := ⟨_, rfl⟩
    have hub := usedV_bd m x (-1)
    rw [hus] at hub
    have Hus := hide hus
    obtain ⟨q, hq⟩ : ∃ q, openB m x = q := ⟨_, rfl⟩
    have HN := hide (needL_snoc m pre x)
    have hnb := needL_bd m hl pre
    rw [hq, hus] at HN
    clear hus
    generalize needL m pre = nl at *
    gi_wp2_with fail
    refine ⟨trivial, fun _ => (by omega), ?_⟩
    refine (CallsIn.inRound l (callsIn_wide.2 (hasOpen_any hq hK.smy))).mono ?_
    rintro e W1 ⟨rfl, hb⟩
    dsimp only
    have hko := below_others hb
    have hkb := below_boxes hb (B := w1.heap.size) (t := 2)
    replace hv := below_boxed hb hv
    replace hK := hK.next hb
    clear hb hc hf c0 c1 c2 c3 c4 c5
    cases q
    · gi_wp2_with fail
      exact ⟨hko.from _, hkb, by rw [show Rnd w (needL m) a0 p0 a1 p1 a2 p2 a3 p3 a4 p4 m (pre ++ [x]) W1 = (Boxed W1 (w.heap.size + 1) 2 (.int .i64 (needL m (pre ++ [x]))) ∧ Bx w W1 w.heap.size a0 p0 a1 p1 a2 p2 a3 p3 a4 p4 m) from rfl, unhide HN]; exact ⟨hv, hK⟩⟩
    have hc := hv.cell
    have hf := hv.frozen
    obtain ⟨c0, c1, c2, c3, c4, c5⟩ := hK.cells
    gi_wp2_with fail
    gi_region_with_o (refine ⟨trivial, fun _ => (by omega), ?_⟩; gi_at_call 68; refine (CallsIn.inRound l (callsIn_wide.2 (usedAt_any (unhide Hus) ?_ (unhide HW) hl))).mono ?_; exact hK.smy.below (Below.refl _ _).drew; rintro e W2 ⟨rfl, hb2⟩; have Hb2 : Hid (Below W1.heap.size W1 W2) := hide ⟨hb2.os, hb2.tape, hb2.output, hb2.size, hb2.block⟩; have hv2 := below_boxed (unhide Hb2) hv; have hc2 := hv2.cell; have hf2 := hv2.frozen; clear hb2)
    all_goals
      exact rnd_step (unhide Hs) hko hkb (unhide Hb2) hv hK bN.lt (by rw [unhide HN]; simp only [if_true]; omega)
  case done =>
    rintro D ys W hD rfl ⟨hv, hK⟩ hDf
    have hc := hv.cell
    gi_wp2
    refine ⟨by simp, .inl ⟨_, _, rfl, run_takeDeferred hDf, ?_⟩⟩
    exact ⟨_, results_tmp rfl _ _ _, rfl, hK.bb.trans (belowK_b (w := w) (Nat.le_refl _) W D _ _ (by simp at hD; omega) hDf rfl rfl)⟩
  case stop =>
    rintro D c pre W _ _ h _
    exact h.elim
theorem needIn_any {w : World} {v0 v1 v2 v3 v4 : Value} {m : SmyV} {r : Nat} (h : Smy w v0 v1 v2 v3 v4 m) (hS : Sane m) (hW : Wants m) (hr : r < m.rooms.length) : Calls Tryz.prog 41 #[.agg #[v0, v1, v2, v3, v4, .int .i64 m.now], .int .i64 (r : Int)] w fun e w' => e = .returned (.int .i64 (needL m (mems (setV m.rooms (r : Int))))) ∧ Below w.heap.size w w' := callsIn_wide.1 (needIn_in 3 (Nat.le_refl _) h hS hW hr)

end Go.Proofs.YtffcgajndmhpkaaGreat

/- Contracts of the program's costsIn, together, NeedIn, CoalIn and CoalOf: each answers what the lists say. Conditions: the smithy can be read; what each theorem names. -/
namespace Go.Proofs.YtffcgajndmhpkaaGreat
open Go.ChangeShapes Go.WideShapes Go.ChangeAt Go.RowKit Go.Sort Go.Shelf
set_option linter.unusedVariables false
set_option maxRecDepth 100000

set_option maxHeartbeats 8000000 in
theorem implNeedIn_any {w : World} {v0 v1 v2 v3 v4 : Value} {m : SmyV} {room q : Int} (hq : needInV m room = q) (h : Smy w v0 v1 v2 v3 v4 m) : Calls Tryz.prog 22 #[.agg #[v0, v1, v2, v3, v4, .int .i64 m.now], .int .i64 room] w fun e w' => e = .returned (.int .i64 q) ∧ Below w.heap.size w w' := by
  have Hq := hide hq
  clear hq
  obtain ⟨ok, hok⟩ : ∃ q, smyB m = q := ⟨_, rfl⟩
  have Hok := hide hok
  clear hok
  obtain ⟨a0, p0, a1, p1, a2, p2, a3, p3, a4, p4, rfl, rfl, rfl, rfl, rfl, K⟩ := Bx.new h
  clear h
  go_enter Tryz.func22, Tryz.ntmps22
  go_wp2_with fail
  generalize w.alloc (.cells #[.slice a0 m.rooms.length p0, .slice a1 m.guilds.length p1, .slice a2 m.smiths.length p2, .slice a3 m.desks.length p3, .slice a4 m.paces.length p4, .int .i64 m.now] 40) = W at *
  refine (implSmithyOk_q _ _ _ _ _ _ _ _ (unhide Hok) K.smy).mono ?_
  rintro e w1 ⟨rfl, hb⟩
  replace K := K.next hb
  clear hb
  cases ok
  · obtain rfl : q = -1 := by rw [← unhide Hq]; unfold needInV; rw [unhide Hok]; simp
    go_wp2_with fail
    go_ret
    exact ⟨rfl, K.bb⟩
  obtain ⟨qr, hqr⟩ : ∃ q, isRoomB m room = q := ⟨_, rfl⟩
  have Hr := hide hqr
  clear hqr
  obtain ⟨c0, c1, c2, c3, c4, c5⟩ := K.cells
  go_wp2_with fail
  refine (hasRoom_any (unhide Hr) K.smy).mono ?_
  rintro e w2 ⟨rfl, hb⟩
  replace K := K.next hb
  clear hb c0 c1 c2 c3 c4 c5
  cases qr
  · obtain rfl : q = -1 := by rw [← unhide Hq]; unfold needInV; rw [unhide Hr]; simp
    go_wp2_with fail
    go_ret
    exact ⟨rfl, K.bb⟩
  obtain ⟨r, rfl, hr⟩ := room_of (unhide Hr)
  have HL := hide (smy_loose (unhide Hok))
  obtain rfl : q = needL m (mems (setV m.rooms (r : Int))) := by rw [← unhide Hq, (room_mems (unhide HL).sane hr).1]; unfold needInV; rw [unhide Hr, unhide Hok]; rfl
  obtain ⟨c0, c1, c2, c3, c4, c5⟩ := K.cells
  go_wp2_with fail
  refine (needIn_any K.smy (unhide HL).sane (unhide HL).wants hr).mono ?_
  rintro e w3 ⟨rfl, hb⟩
  replace K := K.next hb
  clear hb c0 c1 c2 c3 c4 c5
  go_wp2_with fail
  go_ret
  exact ⟨rfl, K.bb⟩

end Go.Proofs.YtffcgajndmhpkaaGreat

/- What is used in a room, and what it costs: the model's l13Used, l13Coal, l13All. Conditions: the smithy can be read; it is right enough to be reckoned (Sane). -/
namespace Go.Proofs.YtffcgajndmhpkaaGreat
open Go.ChangeShapes Go.WideShapes Go.ChangeAt Go.RowKit Go.Sort
set_option linter.unusedVariables false

theorem usedIn_no {m : SmyV} {room : Int} {k : Nat} (h : ¬ (roomN m.rooms k : Int) = room) : usedIn m room (k + 1) = usedIn m room k := by show (if _ then _ else _) = _; rw [if_neg h]
theorem usedIn_yes {m : SmyV} {room : Int} {k : Nat} (h : (roomN m.rooms k : Int) = room) : usedIn m room (k + 1) = ((if (recAt m.desks k).1 then max (usedIn m room k).1 (usedV m k (-1)) else (usedIn m room k).1), (usedIn m room k).2 + usedV m k (-1)) := by show (if _ then _ else _) = _; rw [if_pos h]

set_option maxRecDepth 100000 in
set_option maxHeartbeats 8000000 in
theorem l13Used_any {w : World} {v0 v1 v2 v3 v4 : Value} {m : SmyV} (room : Int) (h : Smy w v0 v1 v2 v3 v4 m) (hS : Sane m) :
    Calls Tryz.prog 33 #[.agg #[v0, v1, v2, v3, v4, .int .i64 m.now], .int .i64 room] w fun e w' => e = .returned (.tuple #[.int .i64 (usedIn m room m.desks.length).1, .int .i64 (usedIn m room m.desks.length).2]) ∧ Below w.heap.size w w' := by
  have Hv := hide (h.alloc (.cells #[v0, v1, v2, v3, v4, .int .i64 m.now] 40))
  obtain ⟨a0, p0, rfl, _, _⟩ := IsRooms.shape h.rooms
  obtain ⟨a1, p1, rfl, _, _⟩ := IsRec.shape h.guilds
  obtain ⟨a2, p2, rfl, _, _⟩ := IsRec.shape h.smiths
  obtain ⟨a3, p3, rfl, _, _⟩ := IsRec.shape h.desks
  obtain ⟨a4, p4, rfl, _, _⟩ := IsRec.shape h.paces
  clear h
  have HS := hide hS
  have kb0 : Hid (Blk (w.alloc (.cells #[.slice a0 m.rooms.length p0, .slice a1 m.guilds.length p1, .slice a2 m.smiths.length p2, .slice a3 m.desks.length p3, .slice a4 m.paces.length p4, .int .i64 m.now] 40)) w.heap.size 40 #[.slice a0 m.rooms.length p0, .slice a1 m.guilds.length p1, .slice a2 m.smiths.length p2, .slice a3 m.desks.length p3, .slice a4 m.paces.length p4, .int .i64 m.now]) := hide (Blk.new w _ _)
  have BB0 : Hid (Below w.heap.size w (w.alloc (.cells #[.slice a0 m.rooms.length p0, .slice a1 m.guilds.length p1, .slice a2 m.smiths.length p2, .slice a3 m.desks.length p3, .slice a4 m.paces.length p4, .int .i64 m.now] 40))) := hide ((Below.refl _ _).alloc (Nat.le_refl _) _)
  have h8 := hS.eight
  have hbd := usedIn_bd m room hS.few
  have Hbd := hide hbd
  clear hS hbd
  go_enter Tryz.func33, Tryz.ntmps33
  go_wp2_with fail
  go_loopw [6, 7, 8] (fun mo al i wr => ∃ k : Nat, k ≤ m.desks.length ∧ i = .int .i64 k ∧ mo = .int .i64 (usedIn m room k).1 ∧ al = .int .i64 (usedIn m room k).2 ∧ Blk wr w.heap.size 40 #[.slice a0 m.rooms.length p0, .slice a1 m.guilds.length p1, .slice a2 m.smiths.length p2, .slice a3 m.desks.length p3, .slice a4 m.paces.length p4, .int .i64 m.now] ∧ Smy wr (.slice a0 m.rooms.length p0) (.slice a1 m.guilds.length p1) (.slice a2 m.smiths.length p2) (.slice a3 m.desks.length p3) (.slice a4 m.paces.length p4) m ∧ Below w.heap.size w wr) (fun _ _ i _ => m.desks.length - (intOf i).toNat)
  case atStart => exact ⟨0, Nat.zero_le _, rfl, rfl, rfl, unhide kb0, unhide Hv, unhide BB0⟩
  case round =>
    obtain ⟨k, hk, rfl, rfl, rfl, hkb, hv, hb0⟩ := hrel
    obtain ⟨⟨u0, u1⟩, u2, u3⟩ := unhide Hbd k
    have kb := hide hkb
    have Hv1 := hide hv
    have BB := hide hb0
    clear hkb hv hb0 kb0 BB0 Hv
    have c0 := (unhide kb).cell (i := 0) (v := .slice a0 m.rooms.length p0) rfl
    have c1 := (unhide kb).cell (i := 1) (v := .slice a1 m.guilds.length p1) rfl
    have c2 := (unhide kb).cell (i := 2) (v := .slice a2 m.smiths.length p2) rfl
    have c3 := (unhide kb).cell (i := 3) (v := .slice a3 m.desks.length p3) rfl
    have c4 := (unhide kb).cell (i := 4) (v := .slice a4 m.paces.length p4) rfl
    have c5 := (unhide kb).cell (i := 5) (v := .int .i64 m.now) rfl
    by_cases hlt : k < m.desks.length
    · have hlt1 : (k : Int) < (m.desks.length : Int) := by omega
      have Hno := hide (fun hh => usedIn_no (m := m) (room := room) (k := k) hh)
      have Hyes := hide (fun hh => usedIn_yes (m := m) (room := room) (k := k) hh)
      obtain ⟨⟨mo, al⟩, hmo⟩ : ∃ x, usedIn m room k = x := ⟨_, rfl⟩
      rw [hmo] at u0 u1 u2 u3 Hno Hyes ⊢
      simp only at u0 u1 u2 u3 Hyes ⊢
      clear hmo
      go_wp2_with fail
      refine (l4Room_any (k : Int) (unhide Hv1).rooms ((unhide HS).bench hlt)).mono ?_
      rintro e w1 ⟨rfl, hb⟩
      replace kb := hide ((unhide kb).below hb (unhide kb).lt)
      replace Hv1 := hide ((unhide Hv1).below hb)
      replace BB := hide ((unhide BB).trans (hb.mono (unhide BB).size))
      clear hb c0 c1 c2 c3 c4 c5
      obtain ⟨rn, hrn⟩ : ∃ r : Int, (roomN m.rooms k : Int) = r := ⟨_, rfl⟩
      rw [hrn] at Hno Hyes ⊢
      clear hrn
      by_cases hr : rn = room
      rotate_left
      · have hrb : (rn == room) = false := by simpa using hr
        go_wp2_with fail
        go_roundw
        case rel => exact ⟨k + 1, by omega, by go_num, by rw [unhide Hno hr], by rw [unhide Hno hr], unhide kb, unhide Hv1, unhide BB⟩
        case measure => simp [intOf]; omega
      have hrb : (rn == room) = true := by simpa using hr
      have c0 := (unhide kb).cell (i := 0) (v := .slice a0 m.rooms.length p0) rfl
      have c1 := (unhide kb).cell (i := 1) (v := .slice a1 m.guilds.length p1) rfl
      have c2 := (unhide kb).cell (i := 2) (v := .slice a2 m.smiths.length p2) rfl
      have c3 := (unhide kb).cell (i := 3) (v := .slice a3 m.desks.length p3) rfl
      have c4 := (unhide kb).cell (i := 4) (v := .slice a4 m.paces.length p4) rfl
      have c5 := (unhide kb).cell (i := 5) (v := .int .i64 m.now) rfl
      go_wp2_with fail
      refine (l11Used_any (k : Int) (-1) (unhide Hv1) (unhide HS).guilded (by have := (unhide HS).few; omega)).mono ?_
      rintro e w2 ⟨rfl, hb⟩
      replace kb := hide ((unhide kb).below hb (unhide kb).lt)
      replace Hv1 := hide ((unhide Hv1).below hb)
      replace BB := hide ((unhide BB).trans (hb.mono (unhide BB).size))
      clear hb c0 c1 c2 c3 c4 c5
      have hub := usedV_bd m (k : Int) (-1)
      have hfew := (unhide HS).few
      have hy := unhide Hyes hr
      generalize usedV m (k : Int) (-1) = us at *
      obtain ⟨_, _, hde, _, _, r3⟩ := (unhide Hv1).desks
      cases hde
      rcases r3 with e0 | ⟨db, off, rfl, hbw, hcl⟩
      · rw [e0] at hlt; simp at hlt
      obtain ⟨d0, _, _⟩ := desk_cells hcl hlt
      clear hcl
      obtain ⟨op, hop⟩ : ∃ o, (recAt m.desks k).1 = o := ⟨_, rfl⟩
      rw [hop] at d0 hy
      have Hy := hide hy
      clear hop hy Hno Hyes
      have c3 := (unhide kb).cell (i := 3) (v := .slice (some ⟨db, off, none⟩) m.desks.length p3) rfl
      cases op
      · go_wp2_with fail
        go_roundw
        case rel => exact ⟨k + 1, by omega, by go_num, by rw [unhide Hy]; rfl, by rw [unhide Hy], unhide kb, unhide Hv1, unhide BB⟩
        case measure => simp [intOf]; omega
      · go_wp2_with (go_at_call 58; refine (l1Max_any _ _ _).mono ?_; rintro e w' ⟨rfl, h9⟩; subst w')
        go_roundw
        case rel => exact ⟨k + 1, by omega, by go_num, by rw [unhide Hy]; rfl, by rw [unhide Hy], unhide kb, unhide Hv1, unhide BB⟩
        case measure => simp [intOf]; omega
    · obtain rfl : k = m.desks.length := by omega
      go_wp2_with fail
      go_ret2
      exact ⟨rfl, unhide BB⟩

end Go.Proofs.YtffcgajndmhpkaaGreat

/- Come, Wake, Allowed, joined, asked, Ticked: as plain lists; and each keeps a smithy right. Lists and numbers alone; no condition but those that a theorem names. -/
namespace Go.Proofs.YtffcgajndmhpkaaGreat
open Go.ChangeShapes Go.WideShapes Go.ChangeAt Go.RowKit Go.Sort
set_option linter.unusedVariables false

theorem smy_twelve {m : SmyV} (h : Loose m) : m.smiths.length ≤ 12 := by
  have hd := h.head
  unfold headB at hd
  simp only [Bool.and_eq_true, decide_eq_true_eq] at hd
  exact hd.2.2.1
def wantedV (m : SmyV) (r : Nat) : Int := paceForV (roomAt m.rooms r) (usedIn m r m.desks.length).1
end Go.Proofs.YtffcgajndmhpkaaGreat

/- What pace is wanted (l17Wanted), whether a bench is idle (l12Idle): the model's. Conditions: the smithy can be read; what each theorem names. -/
namespace Go.Proofs.YtffcgajndmhpkaaGreat
open Go.ChangeShapes Go.WideShapes Go.ChangeAt Go.RowKit Go.Sort
set_option linter.unusedVariables false
set_option maxRecDepth 100000

set_option maxHeartbeats 4000000 in
theorem l17Wanted_any {w : World} {v0 v1 v2 v3 v4 : Value} {m : SmyV} {r : Nat} (h : Smy w v0 v1 v2 v3 v4 m) (hS : Sane m) (hr : r < m.rooms.length) :
    Calls Tryz.prog 16 #[.agg #[v0, v1, v2, v3, v4, .int .i64 m.now], .int .i64 (r : Int)] w fun e w' => e = .returned (.int .i64 (wantedV m r)) ∧ Below w.heap.size w w' := by
  have Hv := hide (h.alloc (.cells #[v0, v1, v2, v3, v4, .int .i64 m.now] 40))
  obtain ⟨a0, p0, rfl, _, _⟩ := IsRooms.shape h.rooms
  obtain ⟨a1, p1, rfl, _, _⟩ := IsRec.shape h.guilds
  obtain ⟨a2, p2, rfl, _, _⟩ := IsRec.shape h.smiths
  obtain ⟨a3, p3, rfl, _, _⟩ := IsRec.shape h.desks
  obtain ⟨a4, p4, rfl, _, _⟩ := IsRec.shape h.paces
  clear h
  have kb : Hid (Blk (w.alloc (.cells #[.slice a0 m.rooms.length p0, .slice a1 m.guilds.length p1, .slice a2 m.smiths.length p2, .slice a3 m.desks.length p3, .slice a4 m.paces.length p4, .int .i64 m.now] 40)) w.heap.size 40 #[.slice a0 m.rooms.length p0, .slice a1 m.guilds.length p1, .slice a2 m.smiths.length p2, .slice a3 m.desks.length p3, .slice a4 m.paces.length p4, .int .i64 m.now]) := hide (Blk.new w _ _)
  have BB : Hid (Below w.heap.size w (w.alloc (.cells #[.slice a0 m.rooms.length p0, .slice a1 m.guilds.length p1, .slice a2 m.smiths.length p2, .slice a3 m.desks.length p3, .slice a4 m.paces.length p4, .int .i64 m.now] 40))) := hide ((Below.refl _ _).alloc (Nat.le_refl _) _)
  obtain ⟨x, hx⟩ : ∃ x, wantedV m r = x := ⟨_, rfl⟩
  rw [hx]
  obtain ⟨ms, hms⟩ : ∃ q, usedIn m (r : Int) m.desks.length = q := ⟨_, rfl⟩
  have Hx : Hid (paceForV (roomAt m.rooms r) ms.1 = x) := hide (by rw [← hx, ← hms]; rfl)
  have Hms := hide hms
  have HS := hide hS
  have hr1 : (r : Int) < (m.rooms.length : Int) := by omega
  clear hx hms hS
  obtain ⟨mo, al⟩ := ms
  go_enter Tryz.func16, Tryz.ntmps16
  go_wp2_with fail
  generalize w.alloc (.cells #[.slice a0 m.rooms.length p0, .slice a1 m.guilds.length p1, .slice a2 m.smiths.length p2, .slice a3 m.desks.length p3, .slice a4 m.paces.length p4, .int .i64 m.now] 40) = W at *
  refine (l13Used_any (r : Int) (unhide Hv) (unhide HS)).mono ?_
  rw [unhide Hms]
  rintro e w1 ⟨rfl, hb⟩
  replace Hv := hide ((unhide Hv).below hb)
  replace kb := hide ((unhide kb).below hb (unhide kb).lt)
  replace BB := hide ((unhide BB).trans (hb.mono (unhide BB).size))
  clear hb
  obtain ⟨_, _, hre, _, _, r0⟩ := (unhide Hv).rooms
  cases hre
  rcases r0 with e0 | ⟨rb, off, rfl, hbw, hcl⟩
  · rw [e0] at hr; simp at hr
  obtain ⟨d0, pv, d1, hpv⟩ := hcl r hr
  have Hpv := hide hpv
  obtain ⟨pa, pc, rfl, _, _, _⟩ := hpv
  obtain ⟨⟨bn, ps⟩, hrm⟩ : ∃ q, roomAt m.rooms r = q := ⟨_, rfl⟩
  rw [hrm] at d0 d1 Hpv Hx
  simp only at d0 d1
  clear hcl hrm
  have c0 := (unhide kb).cell (i := 0) (v := .slice (some ⟨rb, off, none⟩) m.rooms.length p0) rfl
  go_wp2_with fail
  refine (specPaceFor_any bn mo (unhide Hpv)).mono ?_
  rintro e w2 ⟨rfl, hb⟩
  replace BB := hide ((unhide BB).trans (hb.mono (unhide BB).size))
  clear hb
  go_wp2_with fail
  go_ret
  exact ⟨ret_int (unhide Hx), unhide BB⟩

end Go.Proofs.YtffcgajndmhpkaaGreat

