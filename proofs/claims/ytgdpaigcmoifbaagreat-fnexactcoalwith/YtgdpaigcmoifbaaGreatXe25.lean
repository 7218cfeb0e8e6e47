/- Part 25 of what the proof rests on. No condition but those that a theorem names. -/
import Derived.Test.YtgdpaigcmoifbaaGreatXe15
import Derived.Test.YtgdpaigcmoifbaaGreatXe16
import Derived.Test.YtgdpaigcmoifbaaGreatXe20
import Derived.Test.YtgdpaigcmoifbaaGreatXe22
import Derived.Test.YtgdpaigcmoifbaaGreatXe23
import Derived.Test.YtgdpaigcmoifbaaGreatXe24
import Derived.Deep.LoopGhost
set_option maxHeartbeats 8000000
set_option maxRecDepth 100000
namespace Go.Proofs.YtgdpaigcmoifbaaGreat
open Go.ChangeShapes Go.WideShapes Go.ChangeAt Go.RowKit Go.Sort
set_option linter.unusedVariables false
structure Sane (m : SmyV) : Prop where
 hall : hallB m.rooms = true
 desks : (m.desks.length : Int) = benchSum m.rooms
 guilded : Guilded m
 few : m.smiths.length ≤ 12
theorem Sane.bench {m : SmyV} (h : Sane m) {b : Nat} (hb : b < m.desks.length) : isBench m.rooms (b : Int) = true := isBench_t h.hall (by omega) (by have := h.desks; omega)
theorem Sane.eight {m : SmyV} (h : Sane m) : m.desks.length ≤ 8 := by have := (hallB_of h.hall).2.2.2; have := h.desks; omega
theorem Loose.sane {m : SmyV} (h : Loose m) : Sane m := by
 have hd := h.head
 unfold headB at hd
 simp only [alBae, alDte] at hd
 obtain ⟨h1, h2, h3, h4, _⟩ := hd
 refine ⟨h1, h4, ⟨h2, fun i hi hs => ?_, fun i hi hs => (h.limits hi hs).2.1⟩, h3⟩
 have hp := (h.limits hi hs).1
 generalize recAt m.smiths i = s at *
 obtain ⟨st, be, rk, my, gu, lo', hi', hd, ca, ut, wk⟩ := s
 exact (presB_of hp).2.2.2.2.1.1
theorem Sane.with {m : SmyV} (h : Sane m) {k : Nat} (hk : k < m.smiths.length) (hs : (recAt m.smiths k).1 ≠ 0) (b : Int) : Sane (withM m (k : Int) b) := by
 have hset : ∀ i, recAt (withM m (k : Int) b).smiths i = if i = k then atBench (recAt m.smiths k) b else recAt m.smiths i := fun i => by
  unfold withM
  simp only [alInc]
  exact recAt_set hk i
 refine ⟨h.hall, h.desks, ⟨h.guilded.guilds, fun i hi hne => ?_, fun i hi hne => ?_⟩, by unfold withM; simpa using h.few⟩
 ·have hi' : i < m.smiths.length := by unfold withM at hi; simpa using hi
  rw [hset] at hne ⊢
  by_cases e : i = k
  ·rw [if_pos e]; exact h.guilded.lo k hk hs
  ·rw [if_neg e] at hne ⊢; exact h.guilded.lo i hi' hne
 ·have hi' : i < m.smiths.length := by unfold withM at hi; simpa using hi
  rw [hset] at hne ⊢
  by_cases e : i = k
  ·rw [if_pos e]; exact h.guilded.hi k hk hs
  ·rw [if_neg e] at hne ⊢; exact h.guilded.hi i hi' hne
theorem Sane.few' {m : SmyV} (h : Sane m) (hp : m.paces.length ≤ 1000) : Few m := by
 obtain ⟨r1, r2, r3, r4⟩ := hallB_of h.hall
 have hg := (guildsB_of h.guilded.guilds).2
 refine ⟨by omega, fun r hr => ?_, by omega, by have := h.few; omega, by have := h.eight; omega, hp⟩
 have hrb := List.all_eq_true.1 r3 r hr
 unfold roomB at hrb
 simp only [alBae] at hrb
 have := inB_of hrb.2.1
 omega
def sumP (m : SmyV) : List PaceV → Int
 | [] => 0
 | e :: q => wantV m e.2 + sumP m q
def sumW (m : SmyV) : List Int → Int
 | [] => 0
 | x :: q => wantV m x + sumW m q
theorem sumP_app (m : SmyV) (a b : List PaceV) : sumP m (a ++ b) = sumP m a + sumP m b := by
 induction a with
 | nil => show sumP m b = 0 + sumP m b; omega
 | cons e a ih => show wantV m e.2 + sumP m (a ++ b) = wantV m e.2 + sumP m a + sumP m b; omega
theorem sumW_app (m : SmyV) (a b : List Int) : sumW m (a ++ b) = sumW m a + sumW m b := by
 induction a with
 | nil => show sumW m b = 0 + sumW m b; omega
 | cons e a ih => show wantV m e + sumW m (a ++ b) = wantV m e + sumW m a + sumW m b; omega
theorem sumW_snoc (m : SmyV) (a : List Int) (x : Int) : sumW m (a ++ [x]) = sumW m a + wantV m x := by rw [sumW_app]; show _ + (wantV m x + 0) = _; omega
theorem sumW_bd (m : SmyV) : ∀ a : List Int, 0 ≤ sumW m a ∧ sumW m a ≤ 1024 * a.length
 | [] => by simp [sumW]
 | x :: a => by
  have ih := sumW_bd m a
  have hw := wantV_bd m x
  show 0 ≤ wantV m x + sumW m a ∧ wantV m x + sumW m a ≤ 1024 * ((a.length + 1 : Nat) : Int)
  omega
theorem sumP_put (m : SmyV) (q : List PaceV) (e : PaceV) : sumP m (putV q e) = sumP m q + wantV m e.2 := by
 have h := sumP_app m (q.take (lessN e q)) (q.drop (lessN e q))
 rw [List.take_append_drop] at h
 unfold putV
 rw [sumP_app, h]
 show _ + (wantV m e.2 + _) = _
 omega
theorem usedF_sum (m : SmyV) (but : Int) : ∀ (q : List PaceV) (n : Int), (∀ e ∈ q, e.2 ≠ but) → q.foldl (fun n e => if e.2 = but then n else n + wantV m e.2) n = n + sumP m q
 | [], n, _ => by show n = n + 0; omega
 | e :: q, n, h => by
  have h0 := h e (by simp)
  have ih := usedF_sum m but q (if e.2 = but then n else n + wantV m e.2) (fun x hx => h x (by simp [hx]))
  rw [List.foldl_cons, ih, if_neg h0]
  show _ = n + (wantV m e.2 + sumP m q)
  omega
theorem usedV_sum (m : SmyV) (b : Int) : usedV m b (-1) = sumP m (atV m.smiths b m.smiths.length) := by
 have := usedF_sum m (-1) (atV m.smiths b m.smiths.length) 0 (fun e he => by
  obtain ⟨i, _, _, _, rfl⟩ := (atV_mem m.smiths b e m.smiths.length).1 he
  show (i : Int) ≠ -1
  omega)
 unfold usedV usedL
 omega
theorem at_is (b : Int) (s : SmithV) : atB b s = decide (s.2.1 = b ∧ presS s = true) := by
 unfold atB presS
 rw [Bool.eq_iff_iff]
 simp only [alBae, alDte, beq_iff_eq]
 exact ⟨fun h => ⟨h.2, h.1⟩, fun h => ⟨h.2, h.1⟩⟩
theorem where_sum (m : SmyV) (ss : List SmithV) (b : Int) : ∀ k, sumW m (whereTo (atB b) ss k) = sumP m (atV ss b k)
 | 0 => rfl
 | k + 1 => by
  have ih := where_sum m ss b k
  by_cases hat : (recAt ss k).2.1 = b ∧ presS (recAt ss k) = true
  ·rw [whereTo_yes (by rw [at_is]; exact decide_eq_true hat), sumW_snoc, atV_yes hat.1 hat.2, sumP_put, ih]
  ·rw [whereTo_no (by rw [at_is]; exact decide_eq_false hat), atV_no hat, ih]
theorem used_where (m : SmyV) (b : Int) : sumW m (whereTo (atB b) m.smiths m.smiths.length) = usedV m b (-1) := by rw [where_sum, usedV_sum]
theorem sumW_step (m : SmyV) {ws : List Int} {k : Nat} (h : k < ws.length) : sumW m (ws.take (k + 1)) = sumW m (ws.take k) + wantV m (recAt ws k) := by rw [take_snoc_at h, sumW_snoc]
structure Wants (m : SmyV) : Prop where
 guilds : guildsB m.guilds = true
 each : ∀ i, i < m.smiths.length → (recAt m.smiths i).1 ≠ 0 → isB m.guilds (recAt m.smiths i).2.2.2.2.1 = true ∧ pairB (recAt m.smiths i).2.2.2.2.2.1 (recAt m.smiths i).2.2.2.2.2.2.1 = true
theorem Loose.wants {m : SmyV} (h : Loose m) : Wants m := by
 have hd := h.head
 unfold headB at hd
 simp only [alBae, alDte] at hd
 refine ⟨hd.2.1, fun i hi hs => ?_⟩
 obtain ⟨hp, hg, _⟩ := h.limits hi hs
 have hgs := hd.2.1
 generalize recAt m.smiths i = s at *
 obtain ⟨st, be, rk, my, gu, lo, hi, hd, ca, ut, wk⟩ := s
 obtain ⟨_, _, _, _, ⟨g0, g5⟩, hpair, _⟩ := presB_of hp
 simp only at hg
 exact ⟨by unfold isB; rw [hgs, inB_t g0 (by omega)]; rfl, hpair⟩
theorem withM_at (m : SmyV) {k : Nat} (hk : k < m.smiths.length) (b : Int) (i : Nat) : recAt (withM m (k : Int) b).smiths i = if i = k then atBench (recAt m.smiths k) b else recAt m.smiths i := by
 unfold withM
 simp only [alInc]
 exact recAt_set hk i
theorem Wants.with {m : SmyV} (h : Wants m) {k : Nat} (hk : k < m.smiths.length) (hs : (recAt m.smiths k).1 ≠ 0) (b : Int) : Wants (withM m (k : Int) b) := by
 refine ⟨h.guilds, fun i hi hne => ?_⟩
 have hi' : i < m.smiths.length := by unfold withM at hi; simpa using hi
 rw [withM_at m hk] at hne ⊢
 by_cases e : i = k
 ·rw [if_pos e]; exact h.each k hk hs
 ·rw [if_neg e] at hne ⊢; exact h.each i hi' hne
def openB (m : SmyV) (b : Int) : Bool := hasB m.desks.length b && (recAt m.desks b.toNat).1
def needL (m : SmyV) (bs : List Int) : Int := bs.foldl (fun n b => if openB m b then max n (usedV m b (-1)) else n) 0
def workL (m : SmyV) (bs : List Int) : Int := bs.foldl (fun n b => n + usedV m b (-1)) 0
theorem needL_snoc (m : SmyV) (bs : List Int) (b : Int) : needL m (bs ++ [b]) = if openB m b then max (needL m bs) (usedV m b (-1)) else needL m bs := by unfold needL; rw [List.foldl_append]; rfl
theorem workL_snoc (m : SmyV) (bs : List Int) (b : Int) : workL m (bs ++ [b]) = workL m bs + usedV m b (-1) := by unfold workL; rw [List.foldl_append]; rfl
theorem needF_bd (m : SmyV) (hl : m.smiths.length ≤ 12) : ∀ (bs : List Int) (n : Int), 0 ≤ n → n ≤ 12288 → 0 ≤ bs.foldl (fun n b => if openB m b then max n (usedV m b (-1)) else n) n ∧ bs.foldl (fun n b => if openB m b then max n (usedV m b (-1)) else n) n ≤ 12288
 | [], n, h0, h1 => ⟨h0, h1⟩
 | b :: bs, n, h0, h1 => by
  have hu := usedV_bd m b (-1)
  refine needF_bd m hl bs (if openB m b then max n (usedV m b (-1)) else n) ?_ ?_ <;> split <;> omega
theorem needL_bd (m : SmyV) (hl : m.smiths.length ≤ 12) (bs : List Int) : 0 ≤ needL m bs ∧ needL m bs ≤ 12288 := needF_bd m hl bs 0 (by omega) (by omega)
theorem workF_bd (m : SmyV) (hl : m.smiths.length ≤ 12) : ∀ (bs : List Int) (n : Int), 0 ≤ n → 0 ≤ bs.foldl (fun n b => n + usedV m b (-1)) n ∧ bs.foldl (fun n b => n + usedV m b (-1)) n ≤ n + 12288 * bs.length
 | [], n, h0 => ⟨h0, by simp⟩
 | b :: bs, n, h0 => by
  have hu := usedV_bd m b (-1)
  have ih := workF_bd m hl bs (n + usedV m b (-1)) (by omega)
  refine ⟨ih.1, Int.le_trans ih.2 ?_⟩
  simp only [alLlc, Int.natCast_add, Int.natCast_one]
  omega
theorem workL_bd (m : SmyV) (hl : m.smiths.length ≤ 12) (bs : List Int) : 0 ≤ workL m bs ∧ workL m bs ≤ 12288 * bs.length := by
 have := workF_bd m hl bs 0 (by omega)
 unfold workL; omega
theorem room_set {m : SmyV} (h : Sane m) {r : Nat} (hr : r < m.rooms.length) {b : Nat} (hb : b < 8) : memB (setV m.rooms (r : Int)) (b : Int) = true ↔ b < m.desks.length ∧ (roomN m.rooms b : Int) = (r : Int) := by
 have hR : isRoom m.rooms (r : Int) = true := by unfold isRoom; rw [h.hall, inB_t (by omega) (by omega)]; rfl
 have ha := (hallB_of h.hall).2.2.1
 have h0 := benches_hall h.hall r (by omega)
 have h1 := benches_hall h.hall (r + 1) (by omega)
 have hm := benchSum_mono ha (i := r) 1 (by omega)
 have hm0 := benchSum_mono ha (i := r + 1) (m.rooms.length - (r + 1)) (by omega)
 rw [show r + 1 + (m.rooms.length - (r + 1)) = m.rooms.length by omega, List.take_length] at hm0
 have h8 := h.eight
 have hd := h.desks
 rw [setV_t hR, alInc, bits_mem h0.1 hm (by omega) (by omega) (by omega), decide_eq_true_iff]
 constructor
 ·intro hx
  have hbd : b < m.desks.length := by omega
  exact ⟨hbd, by rw [(room_is (h.bench hbd) hr).2 hx]⟩
 ·rintro ⟨hbd, e⟩
  exact (room_is (h.bench hbd) hr).1 (by omega)
theorem room_upto {m : SmyV} (h : Sane m) {r : Nat} (hr : r < m.rooms.length) : ∀ k : Nat, k ≤ m.desks.length → needL m (upto (setV m.rooms (r : Int)) k) = (usedIn m r k).1 ∧ workL m (upto (setV m.rooms (r : Int)) k) = (usedIn m r k).2
 | 0, _ => ⟨rfl, rfl⟩
 | k + 1, hk => by
  have ih := room_upto h hr k (by omega)
  have h8 := h.eight
  have hs := room_set h hr (b := k) (by omega)
  by_cases e : (roomN m.rooms k : Int) = (r : Int)
  ·rw [upto_hit (hs.2 ⟨by omega, e⟩), needL_snoc, workL_snoc, ih.1, ih.2]
   have ho : openB m (k : Int) = (recAt m.desks k).1 := by
    unfold openB hasB
    rw [alInc, decide_eq_true (show (0 : Int) ≤ (k : Int) by omega), decide_eq_true (show (k : Int) < (m.desks.length : Int) by omega)]
    simp
   rw [ho]
   show _ = (if _ then _ else _ : Int × Int).1 ∧ _ = (if _ then _ else _ : Int × Int).2
   rw [if_pos e]
   exact ⟨rfl, rfl⟩
  ·have hn : memB (setV m.rooms (r : Int)) (k : Int) = false := by
    cases hc : memB (setV m.rooms (r : Int)) (k : Int)
    ·rfl
    ·exact absurd (hs.1 hc).2 e
   rw [upto_miss hn]
   show _ = (if _ then _ else _ : Int × Int).1 ∧ _ = (if _ then _ else _ : Int × Int).2
   rw [if_neg e]
   exact ih
theorem room_mems {m : SmyV} (h : Sane m) {r : Nat} (hr : r < m.rooms.length) : needL m (mems (setV m.rooms (r : Int))) = (usedIn m r m.desks.length).1 ∧ workL m (mems (setV m.rooms (r : Int))) = (usedIn m r m.desks.length).2 := by
 have key : ∀ d k : Nat, m.desks.length + d = k → k ≤ 8 → upto (setV m.rooms (r : Int)) k = upto (setV m.rooms (r : Int)) m.desks.length := by
  intro d
  induction d with
  | zero => intro k hk _; rw [← hk]; rfl
  | succ d ih =>
   intro k hk h8
   obtain ⟨j, rfl⟩ : ∃ j, k = j + 1 := ⟨k - 1, by omega⟩
   have hn : memB (setV m.rooms (r : Int)) (j : Int) = false := by
    cases hc : memB (setV m.rooms (r : Int)) (j : Int)
    ·rfl
    ·have := ((room_set h hr (b := j) (by omega)).1 hc).1; omega
   rw [upto_miss hn]
   exact ih j (by omega) (by omega)
 have h8 := h.eight
 have e := key (8 - m.desks.length) 8 (by omega) (by omega)
 unfold mems
 rw [e]
 exact room_upto h hr m.desks.length (alNlr _)
def coalWithOfV (m : SmyV) (who b : Int) : Int := if smyB m && (whoB m who && openB m b) then coalWithV m who b else -1
open Go.ChangeShapes Go.WideShapes Go.ChangeAt Go.RowKit Go.Sort Go.Proofs.Tryz
set_option maxRecDepth 100000
theorem where_at {m : SmyV} {b : Int} {k : Nat} (hk : k < (whereTo (atB b) m.smiths m.smiths.length).length) : ∃ i : Nat, i < m.smiths.length ∧ recAt (whereTo (atB b) m.smiths m.smiths.length) k = (i : Int) := by
 obtain ⟨i, hi, e, _⟩ := (whereTo_mem (atB b) m.smiths _ m.smiths.length).1 (recAt_mem hk)
 exact ⟨i, hi, e⟩
theorem wantOf_w {w : World} {v0 v1 v2 v3 v4 : Value} {m : SmyV} {k : Nat} (h : Smy w v0 v1 v2 v3 v4 m) (hL : Wants m) (hk : k < m.smiths.length) (hs : (recAt m.smiths k).1 ≠ 0) : cB 122 #[.agg #[v0, v1, v2, v3, v4, .int .i64 m.now], .int .i64 (k : Int)] w (.int .i64 (wantV m (k : Int))) := by
 have hw : wantV m (k : Int) = wantS m.guilds (recAt m.smiths k) := rfl
 rw [hw]
 clear hw
 have Hg0 := hide h.guilds
 obtain ⟨a0, p0, rfl, _, _⟩ := IsRooms.shape h.rooms
 obtain ⟨a1, p1, rfl, _, _⟩ := IsRec.shape h.guilds
 obtain ⟨a2, p2, rfl, hc2, hm2, r2⟩ := h.smiths
 obtain ⟨a3, p3, rfl, _, _⟩ := IsRec.shape h.desks
 obtain ⟨a4, p4, rfl, _, _⟩ := IsRec.shape h.paces
 clear h
 obtain ⟨hg1, hpair⟩ := hL.each k hk hs
 rcases r2 with e0 | ⟨sb, off, rfl, hbw, hcl⟩
 ·rw [e0] at hk; simp at hk
 have hk1 : (k : Int) < (m.smiths.length : Int) := by omega
 obtain ⟨d0, d1, d2, d3, d4, d5, d6, d7, d8, d9, d10⟩ := smith_cells hcl hk
 clear hcl hs hL
 generalize recAt m.smiths k = ss at *
 obtain ⟨st, be, rk, my, gu, lo, hi, hd, ca, ut, wk⟩ := ss
 simp only at d0 d1 d2 d3 d4 d5 d6 d7 d8 d9 d10 hg1 hpair
 obtain ⟨nr, hnr⟩ := alAx (narV (bnd m.guilds gu) lo hi)
 have HW : Hid (withinV m.guilds gu lo hi = nr) := hide (by rw [← hnr]; exact withinV_t hg1 hpair)
 have HX : Hid (wantS m.guilds (st, be, rk, my, gu, lo, hi, hd, ca, ut, wk) = min (max ut nr.1) nr.2) := hide (by rw [← hnr]; rfl)
 rw [uh HX]
 clear hpair hg1 HX hnr
 obtain ⟨nl, nh⟩ := nr
 dsimp only
 have hne : sb ≠ w.heap.size := alNol hbw
 have hbw2 : sb < w.heap.size + 1 := by omega
 have BB : Hid (Below w.heap.size w ((w.alloc (.cells #[.slice a0 m.rooms.length p0, .slice a1 m.guilds.length p1, .slice (some ⟨sb, off, none⟩) m.smiths.length p2, .slice a3 m.desks.length p3, .slice a4 m.paces.length p4, .int .i64 m.now] 32)).alloc (.cells (I11 st be rk my gu lo hi hd ca ut wk) 38))) := hide (((ba _ _)).alloc (by simp) _)
 have ks : Hid (Blk ((w.alloc (.cells #[.slice a0 m.rooms.length p0, .slice a1 m.guilds.length p1, .slice (some ⟨sb, off, none⟩) m.smiths.length p2, .slice a3 m.desks.length p3, .slice a4 m.paces.length p4, .int .i64 m.now] 32)).alloc (.cells (I11 st be rk my gu lo hi hd ca ut wk) 38)) (w.heap.size + 1) 38 (I11 st be rk my gu lo hi hd ca ut wk)) := hide (by
  have k9 := Blk.new (w.alloc (.cells #[.slice a0 m.rooms.length p0, .slice a1 m.guilds.length p1, .slice (some ⟨sb, off, none⟩) m.smiths.length p2, .slice a3 m.desks.length p3, .slice a4 m.paces.length p4, .int .i64 m.now] 32)) 38 (I11 st be rk my gu lo hi hd ca ut wk)
  rw [alWsa] at k9
  exact k9)
 have kb : Hid (Blk ((w.alloc (.cells #[.slice a0 m.rooms.length p0, .slice a1 m.guilds.length p1, .slice (some ⟨sb, off, none⟩) m.smiths.length p2, .slice a3 m.desks.length p3, .slice a4 m.paces.length p4, .int .i64 m.now] 32)).alloc (.cells (I11 st be rk my gu lo hi hd ca ut wk) 38)) w.heap.size 32 #[.slice a0 m.rooms.length p0, .slice a1 m.guilds.length p1, .slice (some ⟨sb, off, none⟩) m.smiths.length p2, .slice a3 m.desks.length p3, .slice a4 m.paces.length p4, .int .i64 m.now]) := hide ((Blk.new w _ _).alloc _)
 have Hg2 := hide ((uh Hg0).below (uh BB))
 go_enter func122, ntmps122
 go_upto_region 2 with fail
 generalize (w.alloc (.cells #[.slice a0 m.rooms.length p0, .slice a1 m.guilds.length p1, .slice (some ⟨sb, off, none⟩) m.smiths.length p2, .slice a3 m.desks.length p3, .slice a4 m.paces.length p4, .int .i64 m.now] 32)).alloc (.cells (I11 st be rk my gu lo hi hd ca ut wk) 38) = W at *
 clear d0 d1 d2 d3 d4 d5 d6 d7 d8 d9 d10
 have c1 := (uh kb).cell (i := 1) (v := .slice a1 m.guilds.length p1) rfl
 have s4 := (uh ks).cell (i := 4) (v := .int .i64 gu) rfl
 have s5 := (uh ks).cell (i := 5) (v := .int .i64 lo) rfl
 have s6 := (uh ks).cell (i := 6) (v := .int .i64 hi) rfl
 go_wp2_with fail
 refine (implWithin_any gu lo hi (uh Hg2)).mono ?_
 rw [uh HW]
 rintro e w1 ⟨rfl, hb⟩
 replace ks := bl ks hb
 replace BB := bt BB hb
 clear hb c1 s4 s5 s6 HW
 have s9 := (uh ks).cell (i := 9) (v := .int .i64 ut) rfl
 go_wp2_with (go_at_call 185; refine (implClamped_any _ _ _ _).mono ?_; rintro e w' ⟨rfl, h9⟩; subst w')
 go_ret
 exact ⟨rfl, uh BB⟩
theorem wantOf_any {w : World} {v0 v1 v2 v3 v4 : Value} {m : SmyV} {k : Nat} (h : Smy w v0 v1 v2 v3 v4 m) (hL : Loose m) (hk : k < m.smiths.length) (hs : (recAt m.smiths k).1 ≠ 0) : cB 122 #[.agg #[v0, v1, v2, v3, v4, .int .i64 m.now], .int .i64 (k : Int)] w (.int .i64 (wantV m (k : Int))) := wantOf_w h hL.wants hk hs
theorem whoB_has {m : SmyV} (who : Int) : whoB m who = (hasB m.smiths.length who && !((recAt m.smiths who.toNat).1 == 0)) := by unfold whoB; rw [has_in]
theorem isThere_any {w : World} {v0 v1 v2 v3 v4 : Value} {m : SmyV} {who : Int} {q : Bool} (hq : whoB m who = q) (h : Smy w v0 v1 v2 v3 v4 m) : cB 121 #[.agg #[v0, v1, v2, v3, v4, .int .i64 m.now], .int .i64 who] w (.bool q) := by
 rw [whoB_has] at hq
 have Hq := hide hq
 clear hq
 obtain ⟨a0, p0, a1, p1, a2, p2, a3, p3, a4, p4, rfl, rfl, rfl, rfl, rfl, K⟩ := Bx.new h
 clear h
 go_enter func121, ntmps121
 go_wp2_with fail
 generalize w.alloc (.cells (S6 a0 p0 a1 p1 a2 p2 a3 p3 a4 p4 m) 32) = W at *
 obtain ⟨c0, c1, c2, c3, c4, c5⟩ := K.cells
 go_wp2_with fail
 refine ck (smithsOf_any _ _ _ _ _ _ _ _ _ _ _ _ _ _ _ _ _) fun w2 hb => ?_
 replace K := K.next hb
 clear hb c0 c1 c2 c3 c4 c5
 obtain ⟨qh, Hh⟩ := alAn (hasB m.smiths.length who)
 go_wp2_with fail
 refine (hasSmith_any _ _ _ who _).mono ?_
 rw [uh Hh]
 rintro e w3 ⟨rfl, h9⟩
 subst w3
 cases qh
 ·obtain rfl : q = false := by rw [← uh Hq, uh Hh]; rfl
  go_wp2_with fail
  go_ret
  exact ⟨rfl, K.bb⟩
 have hwb : 0 ≤ who ∧ who < (m.smiths.length : Int) := by have := uh Hh; unfold hasB at this; simpa using this
 obtain ⟨k, rfl⟩ : ∃ k : Nat, who = k := ⟨who.toNat, by omega⟩
 have hk : k < m.smiths.length := by omega
 have hk1 : (k : Int) < (m.smiths.length : Int) := by omega
 obtain ⟨_, _, hse, _, _, r2⟩ := K.smy.smiths
 cases hse
 rcases r2 with e0 | ⟨sb, off, rfl, hbw, hcl⟩
 ·rw [e0] at hk; simp at hk
 obtain ⟨d0, d1, d2, d3, d4, d5, d6, d7, d8, d9, d10⟩ := smith_cells hcl hk
 obtain ⟨_, _, c2, _, _, _⟩ := K.cells
 have HS : Hid (q = !((recAt m.smiths k).1 == 0)) := hide (by rw [← uh Hq, uh Hh, alInc]; rfl)
 clear hcl
 generalize recAt m.smiths k = ss at *
 obtain ⟨st, be, rk, my, gu, lo, hi, hd, ca, ut, wk⟩ := ss
 simp only at d0 d1 d2 d3 d4 d5 d6 d7 d8 d9 d10
 go_wp2_with fail
 refine ck (isGone_any st be rk my gu lo hi hd ca ut wk _) fun w4 hb => ?_
 replace K := K.next hb
 clear hb c2 d0 d1 d2 d3 d4 d5 d6 d7 d8 d9 d10
 obtain rfl : q = !(st == 0) := uh HS
 go_wp2_with fail
 go_ret
 exact ⟨rfl, K.bb⟩
theorem implWantOf_any {w : World} {v0 v1 v2 v3 v4 : Value} {m : SmyV} {who q : Int} (hq : wantOfV m who = q) (h : Smy w v0 v1 v2 v3 v4 m) : cB 60 #[.agg #[v0, v1, v2, v3, v4, .int .i64 m.now], .int .i64 who] w (.int .i64 q) := by
 have Hq := hide hq
 clear hq
 obtain ⟨ok, Hok⟩ := alAn (smyB m)
 obtain ⟨a0, p0, a1, p1, a2, p2, a3, p3, a4, p4, rfl, rfl, rfl, rfl, rfl, K⟩ := Bx.new h
 clear h
 go_enter func60, ntmps60
 go_wp2_with fail
 generalize w.alloc (.cells (S6 a0 p0 a1 p1 a2 p2 a3 p3 a4 p4 m) 32) = W at *
 refine ck (implSmithyOk_q _ _ _ _ _ _ _ _ (uh Hok) K.smy) fun w1 hb => ?_
 replace K := K.next hb
 clear hb
 cases ok
 ·obtain rfl : q = -1 := by rw [← uh Hq]; unfold wantOfV; rw [uh Hok]; rfl
  go_wp2_with fail
  go_ret
  exact ⟨rfl, K.bb⟩
 obtain ⟨qh, Hh⟩ := alAn (whoB m who)
 obtain ⟨c0, c1, c2, c3, c4, c5⟩ := K.cells
 go_wp2_with fail
 refine ck (isThere_any (uh Hh) K.smy) fun w2 hb => ?_
 replace K := K.next hb
 clear hb c0 c1 c2 c3 c4 c5
 cases qh
 ·obtain rfl : q = -1 := by rw [← uh Hq]; unfold wantOfV; rw [uh Hh]; simp
  go_wp2_with fail
  go_ret
  exact ⟨rfl, K.bb⟩
 obtain ⟨k, rfl, hk, hs⟩ := whoB_of (uh Hh)
 obtain rfl : q = wantV m (k : Int) := by rw [← uh Hq]; unfold wantOfV; rw [uh Hok, uh Hh]; rfl
 obtain ⟨c0, c1, c2, c3, c4, c5⟩ := K.cells
 go_wp2_with fail
 refine ck (wantOf_any K.smy (smy_loose (uh Hok)) hk hs) fun w3 hb => ?_
 replace K := K.next hb
 clear hb c0 c1 c2 c3 c4 c5
 go_wp2_with fail
 go_ret
 exact ⟨rfl, K.bb⟩
set_option maxRecDepth 100000
theorem usedAt_any {w : World} {v0 v1 v2 v3 v4 : Value} {m : SmyV} {b q : Int} (hq : usedV m b (-1) = q) (h : Smy w v0 v1 v2 v3 v4 m) (hW : Wants m) (hl : m.smiths.length ≤ 12) : cB 238 #[.agg #[v0, v1, v2, v3, v4, .int .i64 m.now], .int .i64 b] w (.int .i64 q) := by
 have Hq := hide hq
 clear hq
 have HW := hide hW
 clear hW
 obtain ⟨a0, p0, a1, p1, a2, p2, a3, p3, a4, p4, rfl, rfl, rfl, rfl, rfl, K⟩ := Bx.new h
 clear h
 go_enter func238, ntmps238
 go_upto_region 2 with fail
 generalize w.alloc (.cells (S6 a0 p0 a1 p1 a2 p2 a3 p3 a4 p4 m) 32) = W at *
 obtain ⟨c0, c1, c2, c3, c4, c5⟩ := K.cells
 go_wp2_with fail
 refine (whoIsAt_any b K.smy (by omega)).mono ?_
 rintro e w1 ⟨vn, rfl, hn, hb⟩
 obtain ⟨na, nc, rfl⟩ := RecAt.shape hn
 have HN := hide hn
 replace K := K.next hb
 clear hb hn c0 c1 c2 c3 c4 c5
 have Hwh := hide (fun k hk => where_at (m := m) (b := b) (k := k) hk)
 have Hat := hide (fun x hx => (whereTo_mem (atB b) m.smiths x m.smiths.length).1 hx)
 have hwl := whereTo_len (atB b) m.smiths m.smiths.length
 rw [← used_where] at Hq
 generalize whereTo (atB b) m.smiths m.smiths.length = ws at *
 go_wp2_with fail
 go_loopw [5, 12] (fun u i wr => ∃ k : Nat, k ≤ ws.length ∧ i = .int .i64 k ∧ u = .int .i64 (sumW m (ws.take k)) ∧ Bx w wr w.heap.size a0 p0 a1 p1 a2 p2 a3 p3 a4 p4 m ∧ Below w1.heap.size w1 wr) (fun _ i _ => ws.length - (intOf i).toNat)
 case atStart => exact ⟨0, alNzl _, rfl, rfl, K, alBrf _ _⟩
 case round =>
  obtain ⟨k, hk, rfl, rfl, hK, hb0⟩ := hrel
  clear K
  have K := hK
  have BB := hide hb0
  clear hK hb0
  have hub := sumW_bd m (ws.take k)
  have htl : (ws.take k).length ≤ ws.length := by simp; omega
  by_cases hlt : k < ws.length
  ·have hlt1 : (k : Int) < (ws.length : Int) := by omega
   obtain ⟨g, hga, _, hgl, hcl, _⟩ := RecAt.view encNum_len (by omega) (uh HN) rfl (by omega)
   cases hga
   have z0 := hcl k hlt 0 _ rfl
   simp only [Nat.mul_one, Nat.add_zero] at z0
   have hgw : g < w1.heap.size := hgl
   rw [← (uh BB).cell (p := ⟨g, k, none⟩) hgw] at z0
   obtain ⟨i, hi, hiw⟩ := uh Hwh k hlt
   obtain ⟨_, _, hi2, hat⟩ := uh Hat _ (recAt_mem hlt)
   have hpi : (recAt m.smiths i).1 ≠ 0 := by
    rw [hiw] at hi2
    obtain rfl := Int.ofNat.inj hi2
    intro e
    unfold atB at hat
    rw [e] at hat
    simp at hat
   clear hcl hi2 hat
   have HS : Hid (sumW m (ws.take (k + 1)) = sumW m (ws.take k) + wantV m (i : Int)) := hide (by rw [sumW_step m hlt, hiw])
   rw [hiw] at z0
   have hwb := wantV_bd m (i : Int)
   have HC := hide (fun (X : World) (hX : Smy X (.slice a0 m.rooms.length p0) (.slice a1 m.guilds.length p1) (.slice a2 m.smiths.length p2) (.slice a3 m.desks.length p3) (.slice a4 m.paces.length p4) m) => wantOf_w hX (uh HW) hi hpi)
   generalize sumW m (ws.take k) = us at *
   generalize wantV m (i : Int) = wa at *
   have hgr : g < wr.heap.size := alNll hgw (uh BB).size
   obtain ⟨c0, c1, c2, c3, c4, c5⟩ := K.cells
   go_wp2_with fail
   refine ck (uh HC _ K.smy) fun w2 hb => ?_
   replace K := K.next hb
   replace BB := bt BB hb
   clear hb c0 c1 c2 c3 c4 c5 z0
   have hlen12 : (ws.length : Int) ≤ 12 := by omega
   go_wp2_with fail
   go_roundw
   case rel => exact ⟨k + 1, by omega, by go_num, by rw [uh HS], K, uh BB⟩
   case measure => exact ms
  ·obtain rfl : k = ws.length := by omega
   rw [List.take_length] at *
   obtain rfl : q = sumW m ws := (uh Hq).symm
   go_wp2_with fail
   go_ret
   exact ⟨rfl, K.bb⟩
theorem hasOpen_any {w : World} {v0 v1 v2 v3 v4 : Value} {m : SmyV} {b : Int} {q : Bool} (hq : openB m b = q) (h : Smy w v0 v1 v2 v3 v4 m) : cB 61 #[.agg #[v0, v1, v2, v3, v4, .int .i64 m.now], .int .i64 b] w (.bool q) := by
 have Hq := hide hq
 clear hq
 obtain ⟨a0, p0, a1, p1, a2, p2, a3, p3, a4, p4, rfl, rfl, rfl, rfl, rfl, K⟩ := Bx.new h
 clear h
 go_enter func61, ntmps61
 go_wp2_with fail
 generalize w.alloc (.cells (S6 a0 p0 a1 p1 a2 p2 a3 p3 a4 p4 m) 32) = W at *
 refine ck (desksOf_any _ _ _ _ _ _ _ _ _ _ _ _ _ _ _ _ _) fun w2 hb => ?_
 replace K := K.next hb
 clear hb
 obtain ⟨qh, Hh⟩ := alAn (hasB m.desks.length b)
 go_wp2_with fail
 refine (hasDesk_any _ _ _ b _).mono ?_
 rw [uh Hh]
 rintro e w3 ⟨rfl, h9⟩
 subst w3
 cases qh
 ·obtain rfl : q = false := by rw [← uh Hq]; unfold openB; rw [uh Hh]; rfl
  go_wp2_with fail
  go_ret
  exact ⟨rfl, K.bb⟩
 have hbb : 0 ≤ b ∧ b < (m.desks.length : Int) := by have := uh Hh; unfold hasB at this; simpa using this
 obtain ⟨k, rfl⟩ : ∃ k : Nat, b = k := ⟨b.toNat, by omega⟩
 have hk : k < m.desks.length := by omega
 have hk1 : (k : Int) < (m.desks.length : Int) := by omega
 obtain ⟨_, _, hde, _, _, r3⟩ := K.smy.desks
 cases hde
 rcases r3 with e0 | ⟨db, off, rfl, hbw, hcl⟩
 ·rw [e0] at hk; simp at hk
 obtain ⟨d0, d1, d2⟩ := desk_cells hcl hk
 have hq2 : (recAt m.desks k).1 = q := by rw [← uh Hq]; unfold openB; rw [uh Hh, alInc]; rfl
 clear hcl Hq
 generalize recAt m.desks k = dd at *
 obtain ⟨op, wo, mk⟩ := dd
 simp only at d0 d1 d2 hq2
 subst hq2
 obtain ⟨c0, c1, c2, c3, c4, c5⟩ := K.cells
 go_wp2_with fail
 refine ck (isOpen_any op wo mk _) fun w4 hb => ?_
 replace K := K.next hb
 clear hb c0 c1 c2 c3 c4 c5 d0 d1 d2
 go_wp2_with fail
 go_ret
 exact ⟨rfl, K.bb⟩
open Go.ChangeShapes Go.WideShapes Go.ChangeAt Go.RowKit Go.Sort Go.Shelf Go.Proofs.Tryz
set_option maxRecDepth 100000
attribute [local go_sem] Oper.semAt_some
theorem below_others {W X : World} (h : Below W.heap.size W X) : KeepsOthers W X := ⟨h.size, fun k o hk _ => (h.block k (Array.getElem?_eq_some_iff.1 hk).1).trans hk⟩
theorem below_boxes {W X : World} (h : Below W.heap.size W X) {B : Nat} {t : TypeId} : KeepsBox B t W X := fun v hv => (h.block B hv.lt).trans hv
theorem below_boxed {W X : World} (h : Below W.heap.size W X) {B : Nat} {t : TypeId} {v : Value} (hv : Boxed W B t v) : Boxed X B t v := (h.block B hv.lt).trans hv
def Rnd (w : World) (f : List Int → Int) (a0 : Option Addr) (p0 : Nat) (a1 : Option Addr) (p1 : Nat) (a2 : Option Addr) (p2 : Nat) (a3 : Option Addr) (p3 : Nat) (a4 : Option Addr) (p4 : Nat) (m : SmyV) (pre : List Int) (W : World) : Prop := Boxed W (w.heap.size + 1) 2 (.int .i64 (f pre)) ∧ Bx w W w.heap.size a0 p0 a1 p1 a2 p2 a3 p3 a4 p4 m
theorem rnd_own (w : World) (f : List Int → Int) (a0 : Option Addr) (p0 : Nat) (a1 : Option Addr) (p1 : Nat) (a2 : Option Addr) (p2 : Nat) (a3 : Option Addr) (p3 : Nat) (a4 : Option Addr) (p4 : Nat) (m : SmyV) (hs : Smy w (.slice a0 m.rooms.length p0) (.slice a1 m.guilds.length p1) (.slice a2 m.smiths.length p2) (.slice a3 m.desks.length p3) (.slice a4 m.paces.length p4) m) {B : Nat} (hB : w.heap.size ≤ B) : OwnFrom B (Rnd w f a0 p0 a1 p1 a2 p2 a3 p3 a4 p4 m) := by
 rintro pre W X row ⟨h1, h2⟩ hg hr
 have h4 := h2.bb.grown hg h2.bb.size (fun k e => alNlt hB (hr k e).1)
 refine ⟨h1.kept hg (fun e => ?_), hs.below h4, (hg.block _ h2.blk.lt (fun e => ?_)).trans h2.blk, h4⟩
 ·obtain ⟨_, o, ho, hc⟩ := hr _ e.symm
  rw [show W.heap[w.heap.size + 1]? = _ from h1] at ho; cases ho; cases hc
 ·obtain ⟨_, o, ho, hc⟩ := hr _ e.symm
  rw [show W.heap[w.heap.size]? = _ from h2.blk] at ho; cases ho; cases hc
theorem rnd_step {w W W1 W2 : World} {f : List Int → Int} {a0 a1 a2 a3 a4 : Option Addr} {p0 p1 p2 p3 p4 : Nat} {m : SmyV} {pre : List Int} {x v nl : Int} {B S : Nat} (hs : Smy w (.slice a0 m.rooms.length p0) (.slice a1 m.guilds.length p1) (.slice a2 m.smiths.length p2) (.slice a3 m.desks.length p3) (.slice a4 m.paces.length p4) m) (hko : KeepsOthers W W1) (hkb : KeepsBox S 2 W W1) (hb : Below W1.heap.size W1 W2) (hv : Boxed W1 (w.heap.size + 1) 2 (.int .i64 nl)) (hK : Bx w W1 w.heap.size a0 p0 a1 p1 a2 p2 a3 p3 a4 p4 m) (hS : w.heap.size + 1 < S) (e : f (pre ++ [x]) = v) :
  KeepsFrom B W (W2.setCell ⟨w.heap.size + 1, 0, none⟩ (.int .i64 v)) ∧ KeepsBox S 2 W (W2.setCell ⟨w.heap.size + 1, 0, none⟩ (.int .i64 v)) ∧ Rnd w f a0 p0 a1 p1 a2 p2 a3 p3 a4 p4 m (pre ++ [x]) (W2.setCell ⟨w.heap.size + 1, 0, none⟩ (.int .i64 v)) := by
 have hK2 := hK.next hb
 have hbb : Below w.heap.size w (W2.setCell ⟨w.heap.size + 1, 0, none⟩ (.int .i64 v)) := hK2.bb.setCell (p := ⟨w.heap.size + 1, 0, none⟩) (Nat.le_succ _) _
 refine ⟨((hko.trans (below_others hb)).trans (KeepsOthers.setCell _ _ _)).from _, fun u hu => (below_boxed hb (hkb u hu)).other (by omega) _, ?_, hs.below hbb, hK2.blk.other (a := ⟨w.heap.size + 1, 0, none⟩) (by show w.heap.size ≠ w.heap.size + 1; omega) _, hbb⟩
 rw [e]
 exact (below_boxed hb hv).set _
theorem needIn_in (n : Nat) (hn : 3 ≤ n) {w : World} {v0 v1 v2 v3 v4 : Value} {m : SmyV} {r : Nat} (h : Smy w v0 v1 v2 v3 v4 m) (hS : Sane m) (hW : Wants m) (hr : r < m.rooms.length) : CallsIn Fence.wide n prog 188 #[.agg #[v0, v1, v2, v3, v4, .int .i64 m.now], .int .i64 (r : Int)] w fun e w' => e = .returned (.int .i64 (needL m (mems (setV m.rooms (r : Int))))) ∧ Below w.heap.size w w' := by
 have h1 : 1 ≤ n := by omega
 have hmo : prog.follows .mixedOrders = true := by kernel_rfl
 have hl := hS.few
 have HW := hide hW
 have Hs := hide h
 clear hS hW
 obtain ⟨a0, p0, a1, p1, a2, p2, a3, p3, a4, p4, rfl, rfl, rfl, rfl, rfl, K⟩ := Bx.new h
 clear h
 obtain ⟨st, hst⟩ := alAx (setV m.rooms (r : Int))
 rw [hst]
 have Hst := hide hst
 clear hst
 refine callsIn_of_wp_marks func188 rfl trivial ?_ rfl
 simp only [ntmps188, List.size_toArray, alLlc, alLln, Nat.reduceAdd, Nat.reduceSub, Array.replicate_succ, Array.replicate_zero, List.push_toArray, List.append_toArray, List.nil_append, List.cons_append]
 gi_wp2_with fail
 have bN := Boxed.new (w.alloc (.cells (S6 a0 p0 a1 p1 a2 p2 a3 p3 a4 p4 m) 32)) 2 (.int .i64 0)
 rw [alWsa] at bN
 replace K := K.alloc (.cells #[.int .i64 0] 2)
 generalize (w.alloc (.cells (S6 a0 p0 a1 p1 a2 p2 a3 p3 a4 p4 m) 32)).alloc (.cells #[.int .i64 0] 2) = W0 at *
 refine ⟨trivial, ?_⟩
 refine (callsIn_wide.2 (implBenchSet_any (r : Int) K.smy.rooms)).mono ?_
 rw [uh Hst]
 rintro e w1 ⟨rfl, hb⟩
 dsimp only
 replace bN := below_boxed hb bN
 replace K := K.next hb
 clear hb Hst
 gi_wp2_with (refine ⟨trivial, ?_⟩; gi_at_call 236; refine (membersOf_in (n - 1) _ _).mono ?_; rintro e w' ⟨rfl, rfl⟩)
 have bS := Boxed.new w1 2 (.int .i64 st)
 have hsz := K.bb.size
 refine wpIn_rangeFunc_ownG rfl h1 (gf := 288) (lb := #[.pointer (some ⟨w1.heap.size, 0, none⟩)]) rfl trivial (enters_of func288 (by kernel_rfl) rfl)
  (members_stops (n - 1) (by omega) w1.heap.size st _ bS) (fun h k => h.trans k) (KeepsBox.putObj (by simp)) (alBrf _ _) (fun _ => rfl)
  (Rnd w (needL m) a0 p0 a1 p1 a2 p2 a3 p3 a4 p4 m) (fun _ _ _ => False)
  (rnd_own w (needL m) a0 p0 a1 p1 a2 p2 a3 p3 a4 p4 m (uh Hs) (by simp; omega))
  (fun _ _ _ _ _ hs _ _ => hs)
  ⟨bN.alloc _, K.alloc _⟩
  (fun x => { tmps := #[.agg (S6 a0 p0 a1 p1 a2 p2 a3 p3 a4 p4 m), .int .i64 (r : Int), .pointer (some ⟨w.heap.size, 0, none⟩), undef, .int .i64 0, .pointer (some ⟨w.heap.size + 1, 0, none⟩), .int .i64 x, .pointer (some ⟨w.heap.size, 0, none⟩), .agg #[.slice a0 m.rooms.length p0], .int .i64 (r : Int), .int .i64 st, .func (.func 288) #[] #[.pointer (some ⟨w1.heap.size, 0, none⟩)], .int .i64 x, undef, undef, undef, undef, undef, undef, undef, undef, undef], defers := [] }) ?assign ?body ?done ?stop
 case assign =>
  intro l x W K hK
  gi_wp2
  exact hK
 case body =>
  rintro l pre x W ⟨hv, hK⟩ hlt
  have hc := hv.cell
  have hf := hv.frozen
  obtain ⟨c0, c1, c2, c3, c4, c5⟩ := hK.cells
  obtain ⟨us, hus⟩ := alAx (usedV m x (-1))
  have hub := usedV_bd m x (-1)
  rw [hus] at hub
  have Hus := hide hus
  obtain ⟨q, hq⟩ := alAx (openB m x)
  have HN := hide (needL_snoc m pre x)
  have hnb := needL_bd m hl pre
  rw [hq, hus] at HN
  clear hus
  generalize needL m pre = nl at *
  gi_wp2_with fail
  refine ⟨trivial, fun _ => (by omega), ?_⟩
  refine (CallsIn.inRound l (callsIn_wide.2 (hasOpen_any hq hK.smy))).mono ?_
  rintro e W1 ⟨rfl, hb⟩
  dsimp only
  have hko := below_others hb
  have hkb := below_boxes hb (B := w1.heap.size) (t := 2)
  replace hv := below_boxed hb hv
  replace hK := hK.next hb
  clear hb hc hf c0 c1 c2 c3 c4 c5
  cases q
  ·gi_wp2_with fail
   exact ⟨hko.from _, hkb, by rw [show Rnd w (needL m) a0 p0 a1 p1 a2 p2 a3 p3 a4 p4 m (pre ++ [x]) W1 = (Boxed W1 (w.heap.size + 1) 2 (.int .i64 (needL m (pre ++ [x]))) ∧ Bx w W1 w.heap.size a0 p0 a1 p1 a2 p2 a3 p3 a4 p4 m) from rfl, uh HN]; exact ⟨hv, hK⟩⟩
  have hc := hv.cell
  have hf := hv.frozen
  obtain ⟨c0, c1, c2, c3, c4, c5⟩ := hK.cells
  gi_wp2_with fail
  gi_region_with_o (refine ⟨trivial, fun _ => (by omega), ?_⟩; gi_at_call 238; refine (CallsIn.inRound l (callsIn_wide.2 (usedAt_any (uh Hus) ?_ (uh HW) hl))).mono ?_; exact hK.smy.below (alBrf _ _).drew; rintro e W2 ⟨rfl, hb2⟩; have Hb2 : Hid (Below W1.heap.size W1 W2) := hide ⟨hb2.os, hb2.tape, hb2.output, hb2.size, hb2.block⟩; have hv2 := below_boxed (uh Hb2) hv; have hc2 := hv2.cell; have hf2 := hv2.frozen; clear hb2)
  all_goals
   exact rnd_step (uh Hs) hko hkb (uh Hb2) hv hK bN.lt (by rw [uh HN]; simp only [if_true]; omega)
 case done =>
  rintro D ys W hD rfl ⟨hv, hK⟩ hDf
  have hc := hv.cell
  gi_wp2
  refine ⟨by simp, .inl ⟨_, _, rfl, run_takeDeferred hDf, ?_⟩⟩
  exact ⟨_, results_tmp rfl _ _ _, rfl, hK.bb.trans (belowK_b (w := w) (alNlr _) W D _ _ (by simp at hD; omega) hDf rfl rfl)⟩
 case stop =>
  rintro D c pre W _ _ h _
  exact h.elim
theorem needIn_any {w : World} {v0 v1 v2 v3 v4 : Value} {m : SmyV} {r : Nat} (h : Smy w v0 v1 v2 v3 v4 m) (hS : Sane m) (hW : Wants m) (hr : r < m.rooms.length) : cB 188 #[.agg #[v0, v1, v2, v3, v4, .int .i64 m.now], .int .i64 (r : Int)] w (.int .i64 (needL m (mems (setV m.rooms (r : Int))))) := callsIn_wide.1 (needIn_in 3 (alNlr _) h hS hW hr)
theorem workIn_in (n : Nat) (hn : 3 ≤ n) {w : World} {v0 v1 v2 v3 v4 : Value} {m : SmyV} {r : Nat} (h : Smy w v0 v1 v2 v3 v4 m) (hS : Sane m) (hW : Wants m) (hr : r < m.rooms.length) : CallsIn Fence.wide n prog 189 #[.agg #[v0, v1, v2, v3, v4, .int .i64 m.now], .int .i64 (r : Int)] w fun e w' => e = .returned (.int .i64 (workL m (mems (setV m.rooms (r : Int))))) ∧ Below w.heap.size w w' := by
 have h1 : 1 ≤ n := by omega
 have hmo : prog.follows .mixedOrders = true := by kernel_rfl
 have hl := hS.few
 have HW := hide hW
 have Hs := hide h
 clear hS hW
 obtain ⟨a0, p0, a1, p1, a2, p2, a3, p3, a4, p4, rfl, rfl, rfl, rfl, rfl, K⟩ := Bx.new h
 clear h
 obtain ⟨st, hst⟩ := alAx (setV m.rooms (r : Int))
 rw [hst]
 have Hst := hide hst
 clear hst
 refine callsIn_of_wp_marks func189 rfl trivial ?_ rfl
 simp only [ntmps189, List.size_toArray, alLlc, alLln, Nat.reduceAdd, Nat.reduceSub, Array.replicate_succ, Array.replicate_zero, List.push_toArray, List.append_toArray, List.nil_append, List.cons_append]
 gi_wp2_with fail
 have bN := Boxed.new (w.alloc (.cells (S6 a0 p0 a1 p1 a2 p2 a3 p3 a4 p4 m) 32)) 2 (.int .i64 0)
 rw [alWsa] at bN
 replace K := K.alloc (.cells #[.int .i64 0] 2)
 generalize (w.alloc (.cells (S6 a0 p0 a1 p1 a2 p2 a3 p3 a4 p4 m) 32)).alloc (.cells #[.int .i64 0] 2) = W0 at *
 refine ⟨trivial, ?_⟩
 refine (callsIn_wide.2 (implBenchSet_any (r : Int) K.smy.rooms)).mono ?_
 rw [uh Hst]
 rintro e w1 ⟨rfl, hb⟩
 dsimp only
 replace bN := below_boxed hb bN
 replace K := K.next hb
 clear hb Hst
 gi_wp2_with (refine ⟨trivial, ?_⟩; gi_at_call 236; refine (membersOf_in (n - 1) _ _).mono ?_; rintro e w' ⟨rfl, rfl⟩)
 have bS := Boxed.new w1 2 (.int .i64 st)
 have hsz := K.bb.size
 refine wpIn_rangeFunc_ownG rfl h1 (gf := 288) (lb := #[.pointer (some ⟨w1.heap.size, 0, none⟩)]) rfl trivial (enters_of func288 (by kernel_rfl) rfl)
  (members_stops (n - 1) (by omega) w1.heap.size st _ bS) (fun h k => h.trans k) (KeepsBox.putObj (by simp)) (alBrf _ _) (fun _ => rfl)
  (Rnd w (workL m) a0 p0 a1 p1 a2 p2 a3 p3 a4 p4 m) (fun _ _ _ => False)
  (rnd_own w (workL m) a0 p0 a1 p1 a2 p2 a3 p3 a4 p4 m (uh Hs) (by simp; omega))
  (fun _ _ _ _ _ hs _ _ => hs)
  ⟨bN.alloc _, K.alloc _⟩
  (fun x => { tmps := #[.agg (S6 a0 p0 a1 p1 a2 p2 a3 p3 a4 p4 m), .int .i64 (r : Int), .pointer (some ⟨w.heap.size, 0, none⟩), undef, .int .i64 0, .pointer (some ⟨w.heap.size + 1, 0, none⟩), .int .i64 x, .pointer (some ⟨w.heap.size, 0, none⟩), .agg #[.slice a0 m.rooms.length p0], .int .i64 (r : Int), .int .i64 st, .func (.func 288) #[] #[.pointer (some ⟨w1.heap.size, 0, none⟩)], .int .i64 x, undef, undef, undef, undef, undef, undef], defers := [] }) ?assign ?body ?done ?stop
 case assign =>
  intro l x W K hK
  gi_wp2
  exact hK
 case body =>
  rintro l pre x W ⟨hv, hK⟩ hlt
  have hc := hv.cell
  have hf := hv.frozen
  obtain ⟨c0, c1, c2, c3, c4, c5⟩ := hK.cells
  obtain ⟨us, hus⟩ := alAx (usedV m x (-1))
  have hub := usedV_bd m x (-1)
  rw [hus] at hub
  have Hus := hide hus
  have HN := hide (workL_snoc m pre x)
  have hnb := workL_bd m hl pre
  rw [hus] at HN
  clear hus
  generalize workL m pre = nl at *
  obtain ⟨W1, hW1⟩ : ∃ X, X = W := ⟨_, rfl⟩
  subst hW1
  have hwr : IntKind.i64.wrap (nl + us) = nl + us := by rw [IntKind.wrap_i64]; omega
  gi_wp2_with fail
  gi_region_with_o (refine ⟨trivial, fun _ => (by omega), ?_⟩; gi_at_call 238; refine (CallsIn.inRound l (callsIn_wide.2 (usedAt_any (uh Hus) ?_ (uh HW) hl))).mono ?_; exact hK.smy.below (alBrf _ _).drew; rintro e W2 ⟨rfl, hb2⟩; have Hb2 : Hid (Below W1.heap.size W1 W2) := hide ⟨hb2.os, hb2.tape, hb2.output, hb2.size, hb2.block⟩; have hv2 := below_boxed (uh Hb2) hv; have hc2 := hv2.cell; have hf2 := hv2.frozen; clear hb2)
  all_goals
   exact rnd_step (uh Hs) (KeepsOthers.refl _) (fun _ h => h) (uh Hb2) hv hK bN.lt (by rw [uh HN])
 case done =>
  rintro D ys W hD rfl ⟨hv, hK⟩ hDf
  have hc := hv.cell
  gi_wp2
  refine ⟨by simp, .inl ⟨_, _, rfl, run_takeDeferred hDf, ?_⟩⟩
  exact ⟨_, results_tmp rfl _ _ _, rfl, hK.bb.trans (belowK_b (w := w) (alNlr _) W D _ _ (by simp at hD; omega) hDf rfl rfl)⟩
 case stop =>
  rintro D c pre W _ _ h _
  exact h.elim
theorem workIn_any {w : World} {v0 v1 v2 v3 v4 : Value} {m : SmyV} {r : Nat} (h : Smy w v0 v1 v2 v3 v4 m) (hS : Sane m) (hW : Wants m) (hr : r < m.rooms.length) : cB 189 #[.agg #[v0, v1, v2, v3, v4, .int .i64 m.now], .int .i64 (r : Int)] w (.int .i64 (workL m (mems (setV m.rooms (r : Int))))) := callsIn_wide.1 (workIn_in 3 (alNlr _) h hS hW hr)
end Go.Proofs.YtgdpaigcmoifbaaGreat
namespace Go.Proofs.YtgdpaigcmoifbaaGreat
open Go.ChangeShapes Go.WideShapes Go.ChangeAt Go.RowKit Go.Sort Go.Shelf Go.Proofs.Tryz
set_option linter.unusedVariables false
set_option maxRecDepth 100000
theorem Bx.of {w : World} {a0 a1 a2 a3 a4 : Option Addr} {p0 p1 p2 p3 p4 : Nat} {m : SmyV} (h : Smy w (.slice a0 m.rooms.length p0) (.slice a1 m.guilds.length p1) (.slice a2 m.smiths.length p2) (.slice a3 m.desks.length p3) (.slice a4 m.paces.length p4) m) : Bx w (w.alloc (.cells (S6 a0 p0 a1 p1 a2 p2 a3 p3 a4 p4 m) 32)) w.heap.size a0 p0 a1 p1 a2 p2 a3 p3 a4 p4 m := ⟨h.alloc _, Blk.new _ _ _, (ba _ _)⟩
theorem costsIn_any {w : World} {a0 a1 a2 a3 a4 : Option Addr} {p0 p1 p2 p3 p4 : Nat} {m : SmyV} (h : Smy w (.slice a0 m.rooms.length p0) (.slice a1 m.guilds.length p1) (.slice a2 m.smiths.length p2) (.slice a3 m.desks.length p3) (.slice a4 m.paces.length p4) m) : Calls prog 127 #[.agg (S6 a0 p0 a1 p1 a2 p2 a3 p3 a4 p4 m)] w fun e w' => e = .returned (.func (Fn.func 186) #[] #[.pointer (some ⟨w.heap.size, 0, none⟩)]) ∧ Bx w w' w.heap.size a0 p0 a1 p1 a2 p2 a3 p3 a4 p4 m := by
 have K := Bx.of h
 clear h
 go_enter func127, ntmps127
 go_wp2_with fail
 go_ret
 exact ⟨rfl, K⟩
theorem costs1_any {w0 w : World} {R r : Nat} {a0 a1 a2 a3 a4 : Option Addr} {p0 p1 p2 p3 p4 : Nat} {m : SmyV} (K : Bx w0 w R a0 p0 a1 p1 a2 p2 a3 p3 a4 p4 m) (hS : Sane m) (hW : Wants m) (hr : r < m.rooms.length) : cB 186 #[.int .i64 (r : Int), .pointer (some ⟨R, 0, none⟩)] w (.int .i64 (coalIn m r)) := by
 have hr1 : (r : Int) < (m.rooms.length : Int) := by omega
 have HM := hide (room_mems hS hr)
 have HN := hide (fun (X : World) (hX : Below w.heap.size w X) => needIn_any (K.smy.below hX) hS hW hr)
 have HK := hide (fun (X : World) (hX : Below w.heap.size w X) => workIn_any (K.smy.below hX) hS hW hr)
 clear hS hW
 have Hc : Hid (coalIn m r = leastV (roomAt m.rooms r) (needL m (mems (setV m.rooms (r : Int)))) (workL m (mems (setV m.rooms (r : Int))))) := hide (by rw [(uh HM).1, (uh HM).2]; rfl)
 rw [uh Hc]
 clear Hc HM
 obtain ⟨_, _, hre, _, _, r0⟩ := K.smy.rooms
 cases hre
 rcases r0 with e0 | ⟨rb, off, rfl, hbw, hcl⟩
 ·rw [e0] at hr; simp at hr
 obtain ⟨d0, pv, d1, hpv⟩ := hcl r hr
 clear hcl
 generalize needL m (mems (setV m.rooms (r : Int))) = ne at *
 generalize workL m (mems (setV m.rooms (r : Int))) = wo at *
 obtain ⟨⟨n, ps⟩, hrm⟩ := alAx (roomAt m.rooms r)
 rw [hrm] at d0 hpv ⊢
 clear hrm
 simp only at d0 hpv
 have Hpv := hide hpv
 obtain ⟨pa, pc, rfl, _, _, _⟩ := hpv
 obtain ⟨c0, c1, c2, c3, c4, c5⟩ := K.cells
 have k0 := alCrg c0
 have k1 := alCrg c1
 have k2 := alCrg c2
 have k3 := alCrg c3
 have k4 := alCrg c4
 have k5 := alCrg c5
 have k6 := alCrg d0
 have k7 := alCrg d1
 go_enter func186, ntmps186
 go_wp2_with fail
 refine wq ?_
 repeat (go_big_quiet_step (first | exact alCro (uh HN _ (alBrg _ _ _)) | exact alCro (uh HK _ (alBrg _ _ _)) | exact alCro (implLeastCoal_any _ _ _ ((uh Hpv).below (alBrg _ _ _)))))
 refine wpQuiet_nil ?_
 intro _ hw'
 obtain ⟨⟨dq, osq⟩, hw''⟩ := hw'
 subst hw''
 go_wp2_with fail
 go_ret
 exact ⟨rfl, alBrg _ _ _⟩
theorem together_any {w0 w : World} {R : Nat} {a0 a1 a2 a3 a4 b0 : Option Addr} {p0 p1 p2 p3 p4 q0 : Nat} {m : SmyV} (K : Bx w0 w R a0 p0 a1 p1 a2 p2 a3 p3 a4 p4 m) (hS : Sane m) (hW : Wants m) : cB 126 #[.slice b0 m.rooms.length q0, .func (Fn.func 186) #[] #[.pointer (some ⟨R, 0, none⟩)]] w (.int .i64 (coalAll m)) := by
 have h3 := (hallB_of hS.hall).2.1
 have Hbd := hide (coalTo_bd m)
 have HC := hide (fun (X : World) (hX : Below w.heap.size w X) (k : Nat) (hk : k < m.rooms.length) => costs1_any (K.next hX) hS hW hk)
 clear hS hW K
 go_enter func126, ntmps126
 go_wp2_with fail
 go_loopw [5, 9] (fun n i wr => ∃ k : Nat, k ≤ m.rooms.length ∧ i = .int .i64 k ∧ n = .int .i64 (coalTo m k) ∧ Below w.heap.size w wr) (fun _ i _ => m.rooms.length - (intOf i).toNat)
 case atStart => exact ⟨0, alNzl _, rfl, rfl, alBrf _ _⟩
 case round =>
  obtain ⟨k, hk, rfl, rfl, hb0⟩ := hrel
  obtain ⟨u0, u1⟩ := uh Hbd k
  obtain ⟨u2, u3⟩ := uh Hbd (k + 1)
  have hst : coalTo m (k + 1) = coalTo m k + coalIn m k := rfl
  rw [hst] at u2 u3
  have Hst := hide hst
  have BB := hide hb0
  clear hb0 hst
  by_cases hlt : k < m.rooms.length
  ·have hlt1 : (k : Int) < (m.rooms.length : Int) := by omega
   have HD := hide (uh HC wr (uh BB) k hlt)
   generalize coalIn m k = ci at *
   generalize coalTo m k = ct at *
   go_wp2_with fail
   refine ck (uh HD) fun w1 hb => ?_
   replace BB := bt BB hb
   clear hb HD
   go_wp2_with fail
   go_roundw
   case rel => exact ⟨k + 1, by omega, by go_num, by rw [uh Hst], uh BB⟩
   case measure => exact ms
  ·obtain rfl : k = m.rooms.length := by omega
   go_wp2_with fail
   go_ret
   exact ⟨rfl, uh BB⟩
open Go.ChangeShapes Go.WideShapes Go.ChangeAt Go.RowKit Go.Sort
def awayS (s : SmithV) : SmithV := (1, s.2)
def awayM (m : SmyV) (who : Int) : SmyV := { m with smiths := m.smiths.set who.toNat (awayS (recAt m.smiths who.toNat)) }
theorem away_at (m : SmyV) {k : Nat} (hk : k < m.smiths.length) (i : Nat) : recAt (awayM m (k : Int)).smiths i = if i = k then awayS (recAt m.smiths k) else recAt m.smiths i := by
 unfold awayM
 simp only [alInc]
 exact recAt_set hk i
theorem away_len (m : SmyV) (who : Int) : (awayM m who).smiths.length = m.smiths.length := by unfold awayM; simp
theorem away_want (m : SmyV) {k : Nat} (hk : k < m.smiths.length) (x : Int) : wantV (awayM m (k : Int)) x = wantV m x := by
 unfold wantV
 rw [away_at m hk]
 by_cases e : x.toNat = k
 ·rw [if_pos e, e]; rfl
 ·rw [if_neg e]; rfl
def sumB (m : SmyV) (but : Int) : List PaceV → Int
 | [] => 0
 | e :: q => (if e.2 = but then 0 else wantV m e.2) + sumB m but q
theorem sumB_app (m : SmyV) (but : Int) (a b : List PaceV) : sumB m but (a ++ b) = sumB m but a + sumB m but b := by
 induction a with
 | nil => show sumB m but b = 0 + sumB m but b; omega
 | cons e a ih => show _ + sumB m but (a ++ b) = _ + sumB m but a + sumB m but b; omega
theorem sumB_put (m : SmyV) (but : Int) (q : List PaceV) (e : PaceV) : sumB m but (putV q e) = sumB m but q + (if e.2 = but then 0 else wantV m e.2) := by
 have h := sumB_app m but (q.take (lessN e q)) (q.drop (lessN e q))
 rw [List.take_append_drop] at h
 unfold putV
 rw [sumB_app, h]
 show _ + ((if e.2 = but then 0 else wantV m e.2) + _) = _
 omega
theorem usedF_B (m : SmyV) (but : Int) : ∀ (q : List PaceV) (n : Int), q.foldl (fun n e => if e.2 = but then n else n + wantV m e.2) n = n + sumB m but q
 | [], n => by show n = n + 0; omega
 | e :: q, n => by
  have ih := usedF_B m but q (if e.2 = but then n else n + wantV m e.2)
  rw [List.foldl_cons, ih]
  show _ = n + ((if e.2 = but then 0 else wantV m e.2) + sumB m but q)
  split <;> omega
theorem usedV_B (m : SmyV) (b but : Int) : usedV m b but = sumB m but (atV m.smiths b m.smiths.length) := by
 have := usedF_B m but (atV m.smiths b m.smiths.length) 0
 unfold usedV usedL
 omega
theorem sum_away (m : SmyV) {k : Nat} (hk : k < m.smiths.length) (b : Int) : ∀ j, sumB (awayM m (k : Int)) (-1) (atV (awayM m (k : Int)).smiths b j) = sumB m (k : Int) (atV m.smiths b j)
 | 0 => rfl
 | j + 1 => by
  have ih := sum_away m hk b j
  by_cases e : j = k
  ·subst e
   rw [atV_no (ss := (awayM m (j : Int)).smiths) (by rw [away_at m hk, if_pos rfl]; rintro ⟨_, h⟩; cases h), ih]
   by_cases hat : (recAt m.smiths j).2.1 = b ∧ presS (recAt m.smiths j) = true
   ·rw [atV_yes hat.1 hat.2, sumB_put, if_pos rfl]; omega
   ·rw [atV_no hat]
  ·have hr : recAt (awayM m (k : Int)).smiths j = recAt m.smiths j := by rw [away_at m hk, if_neg e]
   by_cases hat : (recAt m.smiths j).2.1 = b ∧ presS (recAt m.smiths j) = true
   ·rw [atV_yes (ss := (awayM m (k : Int)).smiths) (by rw [hr]; exact hat.1) (by rw [hr]; exact hat.2), atV_yes hat.1 hat.2, sumB_put, sumB_put, ih, away_want m hk]
    show _ + (if (j : Int) = -1 then 0 else wantV m (j : Int)) = _ + (if (j : Int) = (k : Int) then 0 else wantV m (j : Int))
    rw [if_neg (by omega), if_neg (by omega)]
   ·rw [atV_no (ss := (awayM m (k : Int)).smiths) (by rw [hr]; exact hat), atV_no hat, ih]
theorem used_away (m : SmyV) {k : Nat} (hk : k < m.smiths.length) (b : Int) : usedV (awayM m (k : Int)) b (-1) = usedV m b (k : Int) := by
 rw [usedV_B, usedV_B, away_len]
 exact sum_away m hk b _
theorem Wants.away {m : SmyV} (h : Wants m) {k : Nat} (hk : k < m.smiths.length) (hs : (recAt m.smiths k).1 ≠ 0) : Wants (awayM m (k : Int)) := by
 refine ⟨h.guilds, fun i hi hne => ?_⟩
 rw [away_len] at hi
 rw [away_at m hk] at hne ⊢
 by_cases e : i = k
 ·rw [if_pos e]; exact h.each k hk hs
 ·rw [if_neg e] at hne ⊢; exact h.each i hi hne
abbrev BenchV := Int × Int × Int
def benchV (m : SmyV) (k : Nat) : BenchV := ((k : Int), usedV m (k : Int) (-1), forceV m.rooms (k : Int))
def openTo (m : SmyV) : Nat → List BenchV
 | 0 => []
 | k + 1 => if (recAt m.desks k).1 then openTo m k ++ [benchV m k] else openTo m k
theorem openTo_yes {m : SmyV} {k : Nat} (h : (recAt m.desks k).1 = true) : openTo m (k + 1) = openTo m k ++ [benchV m k] := by show (if _ then _ else _) = _; rw [if_pos h]
theorem openTo_no {m : SmyV} {k : Nat} (h : (recAt m.desks k).1 = false) : openTo m (k + 1) = openTo m k := by show (if _ then _ else _) = _; rw [h]; rfl
theorem openTo_len (m : SmyV) : ∀ k, (openTo m k).length ≤ k
 | 0 => alNlr _
 | k + 1 => by
  have := openTo_len m k
  unfold openTo
  split
  ·simp; omega
  ·omega
theorem openTo_mem (m : SmyV) (x : BenchV) : ∀ k, x ∈ openTo m k ↔ ∃ b : Nat, b < k ∧ (recAt m.desks b).1 = true ∧ x = benchV m b
 | 0 => by simp [openTo]
 | k + 1 => by
  have ih := openTo_mem m x k
  cases ho : (recAt m.desks k).1
  ·rw [openTo_no ho, ih]
   constructor
   ·rintro ⟨b, hb, h⟩; exact ⟨b, by omega, h⟩
   ·rintro ⟨b, hb, h1, h2⟩
    by_cases e : b = k
    ·subst e; rw [ho] at h1; cases h1
    ·exact ⟨b, by omega, h1, h2⟩
  ·rw [openTo_yes ho, List.mem_append, ih]
   constructor
   ·rintro (⟨b, hb, h⟩ | h)
    ·exact ⟨b, by omega, h⟩
    ·exact ⟨k, by omega, ho, by simpa using h⟩
   ·rintro ⟨b, hb, h1, h2⟩
    by_cases e : b = k
    ·subst e; right; simp [h2]
    ·left; exact ⟨b, by omega, h1, h2⟩
def butV (m : SmyV) (who : Int) (k : Nat) : BenchV := ((k : Int), usedV m (k : Int) who, forceV m.rooms (k : Int))
def mayTo (m : SmyV) (who : Int) : Nat → List BenchV
 | 0 => []
 | k + 1 => if mayAt m who k then mayTo m who k ++ [butV m who k] else mayTo m who k
theorem mayTo_yes {m : SmyV} {who : Int} {k : Nat} (h : mayAt m who k = true) : mayTo m who (k + 1) = mayTo m who k ++ [butV m who k] := by show (if _ then _ else _) = _; rw [if_pos h]
theorem mayTo_no {m : SmyV} {who : Int} {k : Nat} (h : mayAt m who k = false) : mayTo m who (k + 1) = mayTo m who k := by show (if _ then _ else _) = _; rw [h]; rfl
theorem mayTo_mem (m : SmyV) (who : Int) (x : BenchV) : ∀ k, x ∈ mayTo m who k ↔ ∃ b : Nat, b < k ∧ mayAt m who b = true ∧ x = butV m who b
 | 0 => by simp [mayTo]
 | k + 1 => by
  have ih := mayTo_mem m who x k
  cases ho : mayAt m who k
  ·rw [mayTo_no ho, ih]
   constructor
   ·rintro ⟨b, hb, h⟩; exact ⟨b, by omega, h⟩
   ·rintro ⟨b, hb, h1, h2⟩
    by_cases e : b = k
    ·subst e; rw [ho] at h1; cases h1
    ·exact ⟨b, by omega, h1, h2⟩
  ·rw [mayTo_yes ho, List.mem_append, ih]
   constructor
   ·rintro (⟨b, hb, h⟩ | h)
    ·exact ⟨b, by omega, h⟩
    ·exact ⟨k, by omega, ho, by simpa using h⟩
   ·rintro ⟨b, hb, h1, h2⟩
    by_cases e : b = k
    ·subst e; right; simp [h2]
    ·left; exact ⟨b, by omega, h1, h2⟩
theorem mayTo_len (m : SmyV) (who : Int) : ∀ k, (mayTo m who k).length ≤ k
 | 0 => alNlr _
 | k + 1 => by
  have := mayTo_len m who k
  unfold mayTo
  split
  ·simp; omega
  ·omega
def inMay (m : SmyV) (k : Nat) (x : BenchV) : Bool := bitB (recAt m.smiths k).2.2.2.1 x.1
theorem open_may (m : SmyV) {k : Nat} (hk : k < m.smiths.length) : ∀ n, (openTo (awayM m (k : Int)) n).filter (inMay m k) = mayTo m (k : Int) n
 | 0 => rfl
 | n + 1 => by
  have ih := open_may m hk n
  have hd : (awayM m (k : Int)).desks = m.desks := rfl
  have hm : mayAt m (k : Int) n = ((recAt m.desks n).1 && bitB (recAt m.smiths k).2.2.2.1 (n : Int)) := rfl
  have hi : inMay m k (benchV (awayM m (k : Int)) n) = bitB (recAt m.smiths k).2.2.2.1 (n : Int) := rfl
  cases ho : (recAt m.desks n).1
  ·rw [openTo_no (by rw [hd]; exact ho), ih, mayTo_no (by rw [hm, ho]; rfl)]
  ·rw [openTo_yes (by rw [hd]; exact ho), List.filter_append, ih]
   cases hb : bitB (recAt m.smiths k).2.2.2.1 (n : Int)
   ·rw [mayTo_no (by rw [hm, ho, hb]; rfl), List.filter_cons_of_neg (by rw [hi, hb]; simp)]
    simp
   ·rw [mayTo_yes (by rw [hm, ho, hb]; rfl), List.filter_cons_of_pos (by rw [hi, hb])]
    have hv : benchV (awayM m (k : Int)) n = butV m (k : Int) n := by unfold benchV butV; rw [used_away m hk]; rfl
    rw [hv]
    rfl
def forV (m : SmyV) (who : Int) : List BenchV := if smyB m && whoB m who then mayTo m who m.desks.length else []
def mayWorkV (m : SmyV) (who b : Int) : Bool := smyB m && (whoB m who && (isBenchB m b && mayAt m who b.toNat))
def fittingOfV (m : SmyV) (who : Int) : List Int := if smyB m && whoB m who then fittingL m who else []
def crowdedV (m : SmyV) : Bool := smyB m && crowdB m
def chosenOfV (m : SmyV) (who : Int) : Int := if smyB m && whoB m who then chosenV m who else -1
theorem for_may (m : SmyV) (who b : Int) : (forV m who).any (fun x => x.1 == b) = mayWorkV m who b := by
 unfold forV mayWorkV
 cases h1 : smyB m
 ·rfl
 cases h2 : whoB m who
 ·rfl
 simp only [Bool.and_self, if_true, Bool.true_and]
 rw [Bool.eq_iff_iff, List.any_eq_true, alBae]
 unfold isBenchB inB
 rw [decide_eq_true_iff]
 constructor
 ·rintro ⟨x, hx, he⟩
  obtain ⟨j, hj, hm, rfl⟩ := (mayTo_mem m who x _).1 hx
  have he2 : (j : Int) = b := by simpa [butV] using he
  subst he2
  exact ⟨⟨by omega, by omega⟩, by rw [alInc]; exact hm⟩
 ·rintro ⟨⟨h3, h4⟩, hm⟩
  exact ⟨butV m who b.toNat, (mayTo_mem m who _ _).2 ⟨b.toNat, by omega, hm, rfl⟩, by simp only [butV, beq_iff_eq]; omega⟩
def takesB (wn : Int) (x : BenchV) : Bool := fitsB wn x.2.1 x.2.2
theorem may_fit (m : SmyV) (who : Int) : ∀ k, ((mayTo m who k).filter (takesB (wantV m who))).map (·.1) = fitTo m who k
 | 0 => rfl
 | k + 1 => by
  have ih := may_fit m who k
  have hf : fitAt m who k = (mayAt m who k && takesB (wantV m who) (butV m who k)) := rfl
  cases hm : mayAt m who k
  ·rw [mayTo_no hm, ih]
   show _ = if _ then _ else _
   rw [hf, hm]; rfl
  ·rw [mayTo_yes hm, List.filter_append, List.map_append, ih]
   show _ = if _ then _ else _
   cases ht : takesB (wantV m who) (butV m who k)
   ·rw [hf, hm, ht, List.filter_cons_of_neg (by rw [ht]; simp)]; simp
   ·rw [hf, hm, ht, List.filter_cons_of_pos ht]; rfl
def roomStep (a : Int × Int) (x : BenchV) : Int × Int := if a.1 = -1 ∨ a.2 < spareV x.2.1 x.2.2 then (x.1, spareV x.2.1 x.2.2) else a
def roomL (l : List BenchV) : Int × Int := l.foldl roomStep (-1, 0)
theorem roomL_snoc (l : List BenchV) (x : BenchV) : roomL (l ++ [x]) = roomStep (roomL l) x := by unfold roomL; rw [List.foldl_append]; rfl
theorem may_most (m : SmyV) (who : Int) : ∀ k, roomL (mayTo m who k) = mostTo m who k
 | 0 => rfl
 | k + 1 => by
  have ih := may_most m who k
  have ho := most_or m who k
  have hn : ((mostTo m who k).1 < 0) ↔ (mostTo m who k).1 = -1 := by
   rcases ho with ⟨e, _⟩ | ⟨b, _, e, _⟩
   ·rw [e]; omega
   ·rw [e]; omega
  have hM : mostTo m who (k + 1) = if mayAt m who k && (decide ((mostTo m who k).1 < 0) || decide ((mostTo m who k).2 < spareV (usedV m k who) (forceV m.rooms k))) then ((k : Int), spareV (usedV m k who) (forceV m.rooms k)) else mostTo m who k := rfl
  rw [hM]
  cases hm : mayAt m who k
  ·rw [mayTo_no hm, ih]; rfl
  ·rw [mayTo_yes hm, roomL_snoc, ih]
   show (if (mostTo m who k).1 = -1 ∨ (mostTo m who k).2 < spareV (usedV m k who) (forceV m.rooms k) then _ else _) = _
   by_cases hc : (mostTo m who k).1 = -1 ∨ (mostTo m who k).2 < spareV (usedV m k who) (forceV m.rooms k)
   ·rw [if_pos hc, if_pos (by rw [Bool.true_and, Bool.or_eq_true, decide_eq_true_iff, decide_eq_true_iff, hn]; exact hc)]; rfl
   ·rw [if_neg hc, if_neg (by rw [Bool.true_and, Bool.or_eq_true, decide_eq_true_iff, decide_eq_true_iff, hn]; exact hc)]
def cheapStep (m : SmyV) (who : Int) (a : Int × Int) (b : Int) : Int × Int := if a.1 = -1 ∨ coalWithV m who b < a.2 ∨ (coalWithV m who b = a.2 ∧ b = (recAt m.smiths who.toNat).2.1) then (b, coalWithV m who b) else a
def cheapL (m : SmyV) (who : Int) (f : List Int) : Int × Int := f.foldl (cheapStep m who) (-1, 0)
theorem cheapL_snoc (m : SmyV) (who : Int) (f : List Int) (b : Int) : cheapL m who (f ++ [b]) = cheapStep m who (cheapL m who f) b := by unfold cheapL; rw [List.foldl_append]; rfl
theorem cheap_fold (m : SmyV) (who : Int) : ∀ (f : List Int) (a : Int × Int), 0 ≤ a.1 → (∀ x ∈ f, 0 ≤ x) → f.foldl (cheapStep m who) a = f.foldl (stepBest m who) a
 | [], a, _, _ => rfl
 | b :: f, a, h0, hf => by
  have e : cheapStep m who a b = stepBest m who a b := by
   unfold cheapStep stepBest
   by_cases hc : coalWithV m who b < a.2 ∨ (coalWithV m who b = a.2 ∧ b = (recAt m.smiths who.toNat).2.1)
   ·rw [if_pos hc, if_pos (.inr hc)]
   ·rw [if_neg hc, if_neg (not_or.2 ⟨by omega, hc⟩)]
  rw [List.foldl_cons, List.foldl_cons, e]
  refine cheap_fold m who f _ ?_ (fun x hx => hf x (List.mem_cons_of_mem _ hx))
  unfold stepBest
  split
  ·exact hf b (by simp)
  ·exact h0
theorem cheap_best (m : SmyV) (who : Int) {f : List Int} (h : 0 < f.length) (hf : ∀ x ∈ f, 0 ≤ x) : cheapL m who f = bestTo m who f f.length := by
 obtain ⟨x, r, rfl⟩ : ∃ x r, f = x :: r := by
  cases f with
  | nil => simp at h
  | cons x r => exact ⟨x, r, rfl⟩
 unfold cheapL bestTo
 rw [List.take_length, List.foldl_cons]
 show r.foldl (cheapStep m who) (cheapStep m who (-1, 0) x) = r.foldl (stepBest m who) (x, coalWithV m who x)
 have e : cheapStep m who (-1, 0) x = (x, coalWithV m who x) := by unfold cheapStep; rw [if_pos (.inl rfl)]
 rw [e]
 exact cheap_fold m who r _ (hf x (by simp)) (fun y hy => hf y (by simp [hy]))
theorem fitL_mem {m : SmyV} {who x : Int} (h : x ∈ fittingL m who) : ∃ b : Nat, b < m.desks.length ∧ x = (b : Int) ∧ mayAt m who b = true := by
 obtain ⟨b, hb, e, hf⟩ := (fitTo_mem m who x m.desks.length).1 h
 unfold fitAt at hf
 simp only [alBae] at hf
 exact ⟨b, hb, e, hf.1⟩
theorem take_snocR {α : Type} [Inhabited α] {l : List α} {k : Nat} (h : k < l.length) : l.take (k + 1) = l.take k ++ [recAt l k] := by
 rw [List.take_succ_eq_append_getElem h, recAt_get h]
theorem may_bd {m : SmyV} (h : Loose m) {k : Nat} (hk : k < m.smiths.length) (hs : (recAt m.smiths k).1 ≠ 0) : 0 ≤ (recAt m.smiths k).2.2.2.1 ∧ (recAt m.smiths k).2.2.2.1 ≤ 255 := by
 obtain ⟨hp, _, _⟩ := h.limits hk hs
 generalize recAt m.smiths k = s at *
 obtain ⟨st, be, rk, my, gu, lo, hi, hd, ca, ut, wk⟩ := s
 obtain ⟨_, _, _, ⟨y0, y1⟩, _⟩ := presB_of hp
 show 0 ≤ my ∧ my ≤ 255
 omega
theorem open_at {m : SmyV} {k : Nat} (hk : k < m.desks.length) : openB m (k : Int) = (recAt m.desks k).1 := by
 unfold openB hasB
 rw [alInc, decide_eq_true (show (0 : Int) ≤ (k : Int) by omega), decide_eq_true (show (k : Int) < (m.desks.length : Int) by omega)]
 simp
theorem crowd_any (m : SmyV) : (openTo m m.desks.length).any (fun x => muchB x.2.1 x.2.2) = crowdB m := by
 unfold crowdB
 rw [Bool.eq_iff_iff, List.any_eq_true, List.any_eq_true]
 constructor
 ·rintro ⟨x, hx, hm⟩
  obtain ⟨b, hb, ho, rfl⟩ := (openTo_mem m x _).1 hx
  exact ⟨b, List.mem_range.2 hb, by unfold crowdAt; rw [ho]; exact hm⟩
 ·rintro ⟨b, hb, hc⟩
  unfold crowdAt at hc
  simp only [alBae] at hc
  exact ⟨benchV m b, (openTo_mem m _ _).2 ⟨b, List.mem_range.1 hb, hc.1, rfl⟩, hc.2⟩
theorem any_no {α : Type} [Inhabited α] {p : α → Bool} {l : List α} (h : ∀ i, i < l.length → p (recAt l i) = false) : l.any p = false := by
 rw [List.any_eq_false]
 intro x hx
 obtain ⟨i, hi, rfl⟩ := List.getElem_of_mem hx
 rw [← recAt_get hi, h i hi]
 simp
theorem any_yes {α : Type} [Inhabited α] {p : α → Bool} {l : List α} {i : Nat} (hi : i < l.length) (h : p (recAt l i) = true) : l.any p = true := List.any_eq_true.2 ⟨_, recAt_mem hi, h⟩
theorem filter_yes {α : Type} [Inhabited α] {p : α → Bool} {l : List α} {j : Nat} (hj : j < l.length) (h : p (recAt l j) = true) : (l.take (j + 1)).filter p = (l.take j).filter p ++ [recAt l j] := by
 rw [take_snocR hj, List.filter_append, List.filter_cons_of_pos h]; rfl
theorem filter_no {α : Type} [Inhabited α] {p : α → Bool} {l : List α} {j : Nat} (hj : j < l.length) (h : p (recAt l j) = false) : (l.take (j + 1)).filter p = (l.take j).filter p := by
 rw [take_snocR hj, List.filter_append, List.filter_cons_of_neg (by rw [h]; simp)]; simp
theorem room_next {l : List BenchV} {j : Nat} (hj : j < l.length) : roomL (l.take (j + 1)) = roomStep (roomL (l.take j)) (recAt l j) := by rw [take_snocR hj, roomL_snoc]
theorem cheap_next {m : SmyV} {who : Int} {l : List Int} {j : Nat} (hj : j < l.length) : cheapL m who (l.take (j + 1)) = cheapStep m who (cheapL m who (l.take j)) (recAt l j) := by rw [take_snocR hj, cheapL_snoc]
open Go.ChangeShapes Go.WideShapes Go.ChangeAt Go.RowKit Go.Sort Go.Proofs.Tryz
def encBench (x : BenchV) : List Value := [.iface 225 (.agg #[.int .i64 x.1, .int .i64 x.2.1, .int .i64 x.2.2])]
theorem encBench_len (x : BenchV) : (encBench x).length = 1 := rfl
abbrev BenchesAt (n₀ : Nat) (w : World) (v : Value) (xs : List BenchV) : Prop := RecAt 88 1 encBench n₀ w v xs
theorem infoBench : (prog.info? 88).map (fun i => (i.zero, i.size, i.bytes)) = some (some .nilIface, 1, 16) := by kernel_rfl
theorem bench_cell {w : World} {g : Nat} {xs : List BenchV} (h : ∀ j, j < xs.length → ∀ i u, (encBench (recAt xs j))[i]? = some u → w.cell? ⟨g, j * 1 + i, none⟩ = some u) {j : Nat} (hj : j < xs.length) : w.cell? ⟨g, j, none⟩ = some (.iface 225 (.agg #[.int .i64 (recAt xs j).1, .int .i64 (recAt xs j).2.1, .int .i64 (recAt xs j).2.2])) := by
 have := h j hj 0 _ rfl
 simpa using this
theorem run_append_bench {w : World} {base t ty : Nat} (ht : prog.underlying t = some (.slice 88)) {v x : Value} {ps qs : List BenchV} (hown : BenchesAt base w v ps) (hx : IsRec 1 encBench w x qs) (hb : ps.length + qs.length ≤ 4000) (hbase : base ≤ w.heap.size) :
  ∃ v' w', (Builtin.append_ #[t, t] ty #[v, x]).run prog w = .ok v' w' ∧ BenchesAt base w' v' (ps ++ qs) ∧ w.grownBy w' v.ownBlock ∧ (v'.ownBlock = v.ownBlock ∨ v'.ownBlock = some w.heap.size) := by
 obtain ⟨i0, hi, hz0, hz1, hz2⟩ := parts_of infoBench
 obtain ⟨a, c, rfl, hc, hm, hr⟩ := hx
 by_cases h0 : qs = []
 ·subst h0
  refine ⟨v, w, run_append_none ht hi hown a c, by simpa using hown, grown_refl _ _, .inl rfl⟩
 ·rcases hr with hr | ⟨b, off, rfl, hlt, hcl⟩
  ·exact absurd hr h0
  ·obtain ⟨v', w', hr, h2, h3, _, h5⟩ := run_append_own_at (P := prog) w base t ty 88 i0 .nilIface 1 16 ht hi hz0 hz1 hz2 rfl (by omega) v ps.length _ hown ⟨b, off, none⟩ qs.length c (flat encBench qs) (flat_len encBench_len qs)
    (rec_cells encBench_len (by omega) hcl) (flat_one (fun x u hu => by rcases List.mem_singleton.1 hu with rfl; rfl) qs) (by simp only [maxLen]; omega) (by omega) hbase
   refine ⟨v', w', hr, ?_, h3, h5⟩
   unfold BenchesAt RecAt
   rw [flat_append, List.length_append]
   exact h2
theorem wpList_append_bench {w : World} {ops : Array Oper} {rest : List Oper} {o : Oper} {a : Act} {Q : Exit → Act → World → Prop} (hgd : o.guard = none) (s x : Operand) (t : TypeId) (ht : prog.underlying t = some (.slice 88))
  (ho : o.op = .call { callee := .builtin .append, args := #[s, x], argTypes := #[t, t] }) (base : Nat) (v u : Value) (ps qs : List BenchV) (hs : a.eval s = v) (hx : a.eval x = u) (hown : BenchesAt base w v ps) (hr : IsRec 1 encBench w u qs)
  (hb : ps.length + qs.length ≤ 4000) (hbase : base ≤ w.heap.size)
  (h : ∀ v' w', BenchesAt base w' v' (ps ++ qs) → w.grownBy w' v.ownBlock → (v'.ownBlock = v.ownBlock ∨ v'.ownBlock = some w.heap.size) → wpList prog ops Q rest (a.put o.dst v') w') :
  wpList prog ops Q (o :: rest) a w := by
 refine wpList_plain hgd fun K hK => ?_
 obtain ⟨v', w', hrun, h2, h3, h5⟩ := run_append_bench (ty := o.type) ht hown hr hb hbase
 unfold Oper.wp execOp
 simp only [ho, resolve, invoke, builtin, Sem.run_bind, Sem.run_pure, Result.andThen_ok, List.map_toArray, List.map_cons, List.map_nil, hs, hx, hrun]
 exact hK _ _ (h v' w' h2 h3 h5)
theorem usedIn_no {m : SmyV} {room : Int} {k : Nat} (h : ¬ (roomN m.rooms k : Int) = room) : usedIn m room (k + 1) = usedIn m room k := by show (if _ then _ else _) = _; rw [if_neg h]
theorem usedIn_yes {m : SmyV} {room : Int} {k : Nat} (h : (roomN m.rooms k : Int) = room) : usedIn m room (k + 1) = ((if (recAt m.desks k).1 then max (usedIn m room k).1 (usedV m k (-1)) else (usedIn m room k).1), (usedIn m room k).2 + usedV m k (-1)) := by show (if _ then _ else _) = _; rw [if_pos h]
theorem l13Used_any {w : World} {v0 v1 v2 v3 v4 : Value} {m : SmyV} (room : Int) (h : Smy w v0 v1 v2 v3 v4 m) (hS : Sane m) :
  cB 190 #[.agg #[v0, v1, v2, v3, v4, .int .i64 m.now], .int .i64 room] w (.tuple #[.int .i64 (usedIn m room m.desks.length).1, .int .i64 (usedIn m room m.desks.length).2]) := by
 have Hv := hide (h.alloc (.cells #[v0, v1, v2, v3, v4, .int .i64 m.now] 32))
 obtain ⟨a0, p0, a1, p1, a2, p2, a3, p3, a4, p4, rfl, rfl, rfl, rfl, rfl, _, _, _, _, _, _, _, _, _, _⟩ := h.five
 clear h
 have HS := hide hS
 obtain ⟨BB0, kb0⟩ := one_box0 w 32 (S6 a0 p0 a1 p1 a2 p2 a3 p3 a4 p4 m)
 have h8 := hS.eight
 have hbd := usedIn_bd m room hS.few
 have Hbd := hide hbd
 clear hS hbd
 go_enter func190, ntmps190
 go_wp2_with fail
 go_loopw [6, 7, 8] (fun mo al i wr => ∃ k : Nat, k ≤ m.desks.length ∧ i = .int .i64 k ∧ mo = .int .i64 (usedIn m room k).1 ∧ al = .int .i64 (usedIn m room k).2 ∧ Blk wr w.heap.size 32 (S6 a0 p0 a1 p1 a2 p2 a3 p3 a4 p4 m) ∧ Smy wr (.slice a0 m.rooms.length p0) (.slice a1 m.guilds.length p1) (.slice a2 m.smiths.length p2) (.slice a3 m.desks.length p3) (.slice a4 m.paces.length p4) m ∧ Below w.heap.size w wr) (fun _ _ i _ => m.desks.length - (intOf i).toNat)
 case atStart => exact ⟨0, alNzl _, rfl, rfl, rfl, uh kb0, uh Hv, uh BB0⟩
 case round =>
  obtain ⟨k, hk, rfl, rfl, rfl, hkb, hv, hb0⟩ := hrel
  obtain ⟨⟨u0, u1⟩, u2, u3⟩ := uh Hbd k
  have kb := hide hkb
  have Hv1 := hide hv
  have BB := hide hb0
  clear hkb hv hb0 kb0 BB0 Hv
  obtain ⟨c0, c1, c2, c3, c4, c5⟩ := (uh kb).c6
  by_cases hlt : k < m.desks.length
  ·have hlt1 : (k : Int) < (m.desks.length : Int) := by omega
   have Hno := hide (fun hh => usedIn_no (m := m) (room := room) (k := k) hh)
   have Hyes := hide (fun hh => usedIn_yes (m := m) (room := room) (k := k) hh)
   obtain ⟨⟨mo, al⟩, hmo⟩ := alAx (usedIn m room k)
   rw [hmo] at u0 u1 u2 u3 Hno Hyes ⊢
   simp only at u0 u1 u2 u3 Hyes ⊢
   clear hmo
   go_wp2_with fail
   refine ck (l4Room_any (k : Int) (uh Hv1).rooms ((uh HS).bench hlt)) fun w1 hb => ?_
   replace kb := bl kb hb
   replace Hv1 := hide ((uh Hv1).below hb)
   replace BB := bt BB hb
   clear hb c0 c1 c2 c3 c4 c5
   obtain ⟨rn, hrn⟩ : ∃ r : Int, (roomN m.rooms k : Int) = r := ⟨_, rfl⟩
   rw [hrn] at Hno Hyes ⊢
   clear hrn
   by_cases hr : rn = room
   rotate_left
   ·have hrb : (rn == room) = false := by simpa using hr
    go_wp2_with fail
    go_roundw
    case rel => exact ⟨k + 1, by omega, by go_num, by rw [uh Hno hr], by rw [uh Hno hr], uh kb, uh Hv1, uh BB⟩
    case measure => exact ms
   have hrb : (rn == room) = true := by simpa using hr
   obtain ⟨c0, c1, c2, c3, c4, c5⟩ := (uh kb).c6
   go_wp2_with fail
   refine ck (l11Used_any (k : Int) (-1) (uh Hv1) (uh HS).guilded (by have := (uh HS).few; omega)) fun w2 hb => ?_
   replace kb := bl kb hb
   replace Hv1 := hide ((uh Hv1).below hb)
   replace BB := bt BB hb
   clear hb c0 c1 c2 c3 c4 c5
   have hub := usedV_bd m (k : Int) (-1)
   have hfew := (uh HS).few
   have hy := uh Hyes hr
   generalize usedV m (k : Int) (-1) = us at *
   obtain ⟨_, _, hde, _, _, r3⟩ := (uh Hv1).desks
   cases hde
   rcases r3 with e0 | ⟨db, off, rfl, hbw, hcl⟩
   ·rw [e0] at hlt; simp at hlt
   obtain ⟨d0, _, _⟩ := desk_cells hcl hlt
   clear hcl
   obtain ⟨op, hop⟩ := alAx ((recAt m.desks k).1)
   rw [hop] at d0 hy
   have Hy := hide hy
   clear hop hy Hno Hyes
   have c3 := (uh kb).cell (i := 3) (v := .slice (some ⟨db, off, none⟩) m.desks.length p3) rfl
   cases op
   ·go_wp2_with fail
    go_roundw
    case rel => exact ⟨k + 1, by omega, by go_num, by rw [uh Hy]; rfl, by rw [uh Hy], uh kb, uh Hv1, uh BB⟩
    case measure => exact ms
   ·go_wp2_with (go_at_call 120; refine (l1Max_any _ _ _).mono ?_; rintro e w' ⟨rfl, h9⟩; subst w')
    go_roundw
    case rel => exact ⟨k + 1, by omega, by go_num, by rw [uh Hy]; rfl, by rw [uh Hy], uh kb, uh Hv1, uh BB⟩
    case measure => exact ms
  ·obtain rfl : k = m.desks.length := by omega
   go_wp2_with fail
   go_ret2
   exact ⟨rfl, uh BB⟩
theorem l13Coal_any {w : World} {v0 v1 v2 v3 v4 : Value} {m : SmyV} {r : Nat} (h : Smy w v0 v1 v2 v3 v4 m) (hS : Sane m) (hr : r < m.rooms.length) :
  cB 130 #[.agg #[v0, v1, v2, v3, v4, .int .i64 m.now], .int .i64 (r : Int)] w (.int .i64 (coalIn m r)) := by
 have Hv := hide (h.alloc (.cells #[v0, v1, v2, v3, v4, .int .i64 m.now] 32))
 obtain ⟨a0, p0, a1, p1, a2, p2, a3, p3, a4, p4, rfl, rfl, rfl, rfl, rfl, _, _, _, _, _, _, _, _, _, _⟩ := h.five
 clear h
 have HS := hide hS
 obtain ⟨BB0, kb0⟩ := one_box0 w 32 (S6 a0 p0 a1 p1 a2 p2 a3 p3 a4 p4 m)
 have hr1 : (r : Int) < (m.rooms.length : Int) := by omega
 have Hc : Hid (coalIn m r = leastV (roomAt m.rooms r) (usedIn m (r : Int) m.desks.length).1 (usedIn m (r : Int) m.desks.length).2) := hide rfl
 rw [uh Hc]
 clear Hc hS
 obtain ⟨⟨n, ps⟩, hrm⟩ := alAx (roomAt m.rooms r)
 obtain ⟨mo, hmo⟩ := alAx ((usedIn m (r : Int) m.desks.length).1)
 obtain ⟨al, hal⟩ := alAx ((usedIn m (r : Int) m.desks.length).2)
 rw [hrm, hmo, hal]
 have Hrm := hide hrm
 have Hmo := hide hmo
 have Hal := hide hal
 clear hrm hmo hal
 go_enter func130, ntmps130
 go_wp2_with fail
 have hu := l13Used_any (r : Int) (uh Hv) (uh HS)
 rw [uh Hmo, uh Hal] at hu
 refine hu.mono ?_
 clear hu
 rintro e w1 ⟨rfl, hb⟩
 have kb := hide ((uh kb0).below hb (uh kb0).lt)
 replace Hv := hide ((uh Hv).below hb)
 have BB := hide ((uh BB0).trans (hb.mono (uh BB0).size))
 clear hb kb0 BB0
 obtain ⟨_, _, hre, _, _, r0⟩ := (uh Hv).rooms
 cases hre
 rcases r0 with e0 | ⟨rb, off, rfl, hbw, hcl⟩
 ·rw [e0] at hr; simp at hr
 obtain ⟨d0, pv, d1, hpv⟩ := hcl r hr
 rw [uh Hrm] at d0 hpv
 simp only at d0 hpv
 have Hpv := hide hpv
 obtain ⟨pa, pc, rfl, _, _, _⟩ := hpv
 have c0 := (uh kb).cell (i := 0) (v := .slice (some ⟨rb, off, none⟩) m.rooms.length p0) rfl
 clear hcl
 go_wp2_with fail
 refine ck (specLeastCoal_any n mo al (uh Hpv)) fun w2 hb => ?_
 replace BB := bt BB hb
 clear hb
 go_wp2_with fail
 go_ret
 exact ⟨rfl, uh BB⟩
theorem l13All_any {w : World} {v0 v1 v2 v3 v4 : Value} {m : SmyV} (h : Smy w v0 v1 v2 v3 v4 m) (hS : Sane m) :
  cB 66 #[.agg #[v0, v1, v2, v3, v4, .int .i64 m.now]] w (.int .i64 (coalAll m)) := by
 have Hv := hide (h.alloc (.cells #[v0, v1, v2, v3, v4, .int .i64 m.now] 32))
 obtain ⟨a0, p0, a1, p1, a2, p2, a3, p3, a4, p4, rfl, rfl, rfl, rfl, rfl, _, _, _, _, _, _, _, _, _, _⟩ := h.five
 clear h
 have HS := hide hS
 obtain ⟨BB0, kb0⟩ := one_box0 w 32 (S6 a0 p0 a1 p1 a2 p2 a3 p3 a4 p4 m)
 have h3 := (hallB_of hS.hall).2.1
 have Hbd := hide (coalTo_bd m)
 clear hS
 go_enter func66, ntmps66
 go_wp2_with fail
 go_loopw [3, 4] (fun n i wr => ∃ k : Nat, k ≤ m.rooms.length ∧ i = .int .i64 k ∧ n = .int .i64 (coalTo m k) ∧ Blk wr w.heap.size 32 (S6 a0 p0 a1 p1 a2 p2 a3 p3 a4 p4 m) ∧ Smy wr (.slice a0 m.rooms.length p0) (.slice a1 m.guilds.length p1) (.slice a2 m.smiths.length p2) (.slice a3 m.desks.length p3) (.slice a4 m.paces.length p4) m ∧ Below w.heap.size w wr) (fun _ i _ => m.rooms.length - (intOf i).toNat)
 case atStart => exact ⟨0, alNzl _, rfl, rfl, uh kb0, uh Hv, uh BB0⟩
 case round =>
  obtain ⟨k, hk, rfl, rfl, hkb, hv, hb0⟩ := hrel
  obtain ⟨u0, u1⟩ := uh Hbd k
  obtain ⟨u2, u3⟩ := uh Hbd (k + 1)
  have hst : coalTo m (k + 1) = coalTo m k + coalIn m k := rfl
  have kb := hide hkb
  have Hv1 := hide hv
  have BB := hide hb0
  clear hkb hv hb0 kb0 BB0 Hv
  obtain ⟨c0, c1, c2, c3, c4, c5⟩ := (uh kb).c6
  by_cases hlt : k < m.rooms.length
  ·have hlt1 : (k : Int) < (m.rooms.length : Int) := by omega
   go_wp2_with fail
   refine ck (l13Coal_any (uh Hv1) (uh HS) hlt) fun w1 hb => ?_
   replace kb := bl kb hb
   replace Hv1 := hide ((uh Hv1).below hb)
   replace BB := bt BB hb
   rw [hst] at u2 u3
   have Hst := hide hst
   clear hb c0 c1 c2 c3 c4 c5 hst
   generalize coalIn m k = ci at *
   generalize coalTo m k = ct at *
   go_wp2_with fail
   go_roundw
   case rel => exact ⟨k + 1, by omega, by go_num, by rw [uh Hst], uh kb, uh Hv1, uh BB⟩
   case measure => exact ms
  ·obtain rfl : k = m.rooms.length := by omega
   go_wp2_with fail
   go_ret
   exact ⟨rfl, uh BB⟩
set_option linter.unusedSimpArgs false
theorem l13With_any {w : World} {v0 v1 v2 v3 v4 : Value} {m : SmyV} {k : Nat} (b : Int) (h : Smy w v0 v1 v2 v3 v4 m) (hS : Sane m) (hp : m.paces.length ≤ 1000) (hk : k < m.smiths.length) (hs : (recAt m.smiths k).1 ≠ 0) :
  cB 65 #[.agg #[v0, v1, v2, v3, v4, .int .i64 m.now], .int .i64 (k : Int), .int .i64 b] w (.int .i64 (coalWithV m (k : Int) b)) := by
 have Hv := hide (h.alloc (.cells #[v0, v1, v2, v3, v4, .int .i64 m.now] 32))
 obtain ⟨a0, p0, a1, p1, a2, p2, a3, p3, a4, p4, rfl, rfl, rfl, rfl, rfl, _, _, _, _, _, _, _, _, _, _⟩ := h.five
 clear h
 have HF := hide (hS.few' hp)
 have HSW := hide (hS.with hk hs b)
 have Hc : Hid (coalWithV m (k : Int) b = coalAll (withM m (k : Int) b)) := hide rfl
 rw [uh Hc]
 have hk1 : (k : Int) < (m.smiths.length : Int) := by omega
 clear hS hp hs Hc
 have BB0 : Hid (Below w.heap.size w (w.alloc (.cells (S6 a0 p0 a1 p1 a2 p2 a3 p3 a4 p4 m) 32))) := hide ((ba _ _))
 go_enter func65, ntmps65
 go_wp2_with fail
 refine (l11Copy_any (uh Hv) (uh HF)).mono ?_
 rintro e w1 ⟨y0, y1, y2, y3, y4, oq, rfl, ho, hb⟩
 have k9 := ho.smy
 obtain ⟨b0, q0, b1, q1, b2, q2, b3, q3, b4, q4, rfl, rfl, rfl, rfl, rfl, _, _, _, _, _, _, _, _, _, _⟩ := k9.five
 have HO := hide (ho.mono (n₁ := w.heap.size) (by simp))
 have BB := hide ((uh BB0).trans (hb.mono (uh BB0).size))
 clear k9 ho hb BB0 Hv
 go_upto_region 2 with fail
 obtain ⟨W, hW, hba, ko⟩ := one_box w1 32 (S6 b0 q0 b1 q1 b2 q2 b3 q3 b4 q4 m)
 have LO : Hid (∀ i, OwnB (.slice b0 m.rooms.length q0) (.slice b1 m.guilds.length q1) (.slice b2 m.smiths.length q2) (.slice b3 m.desks.length q3) (.slice b4 m.paces.length q4) oq i → w.heap.size ≤ i ∧ i < w1.heap.size) := hide (fun i e => (uh HO).own e)
 replace HO := hide ((uh HO).below hba)
 replace BB := bt BB hba
 clear hba
 rw [hW]
 clear hW
 generalize w1.heap.size = ob at *
 obtain ⟨g2, hga, _, _, hc2, hz2⟩ := RecAt.view encSmith_len (by omega) (uh HO).smiths rfl (by omega)
 cases hga
 have hg2o := (uh LO g2 (.inr (.inr (.inr (.inl rfl)))))
 have s1 := hc2 k hk 1 _ rfl
 have f1 := hz2 (k * 11 + 1)
 have hp1 := (uh HO).putS rfl (j := k) (i := 1) hk (by omega) (.int .i64 b) (((recAt m.smiths k).1, b, (recAt m.smiths k).2.2)) rfl
 have hlen : (m.smiths.set k (((recAt m.smiths k).1, b, (recAt m.smiths k).2.2))).length = m.smiths.length := by simp
 have hs1 : recAt (m.smiths.set k (((recAt m.smiths k).1, b, (recAt m.smiths k).2.2))) k = (((recAt m.smiths k).1, b, (recAt m.smiths k).2.2)) := by rw [recAt_set hk, if_pos rfl]
 have hp2 := hp1.putS hlen.symm (j := k) (i := 0) (by show k < (m.smiths.set k _).length; omega) (by omega) (.int .i64 2) (atBench (recAt m.smiths k) b) (by show encSmith (atBench (recAt m.smiths k) b) = (encSmith (recAt (m.smiths.set k (((recAt m.smiths k).1, b, (recAt m.smiths k).2.2))) k)).set 0 _; rw [hs1]; rfl)
 obtain ⟨_, hga, _, _, hc3, hz3⟩ := RecAt.view encSmith_len (by omega) hp1.smiths hlen.symm (by show 0 < (m.smiths.set k _).length; omega)
 cases hga
 have s2 := hc3 k (by show k < (m.smiths.set k _).length; omega) 0 _ rfl
 have f2 := hz3 (k * 11)
 have x2 := (uh ko).cell (i := 2) (v := .slice (some ⟨g2, 0, none⟩) m.smiths.length q2) rfl
 have x3 := ((uh ko).other (a := ⟨g2, k * 11 + 1, none⟩) (by show ob ≠ g2; omega) (.int .i64 b)).cell (i := 2) (v := .slice (some ⟨g2, 0, none⟩) m.smiths.length q2) rfl
 simp only [Nat.add_zero, List.set_set] at hp2 s2 f2
 have hwm : ({ m with smiths := m.smiths.set k (atBench (recAt m.smiths k) b) } : SmyV) = withM m (k : Int) b := by unfold withM; simp
 rw [hwm] at hp2
 have HP := hide hp2.smy
 clear hc2 hz2 hc3 hz3 hp1 hp2 hwm hs1 hlen HO
 go_upto_region 4 with fail
 clear s1 f1 s2 f2 x2 x3
 replace ko : Hid (Blk ((W.setCell ⟨g2, k * 11 + 1, none⟩ (.int .i64 b)).setCell ⟨g2, k * 11, none⟩ (.int .i64 2)) ob 32 (S6 b0 q0 b1 q1 (some ⟨g2, 0, none⟩) q2 b3 q3 b4 q4 m)) := hide (((uh ko).other (a := ⟨g2, k * 11 + 1, none⟩) (by show ob ≠ g2; omega) _).other (a := ⟨g2, k * 11, none⟩) (by show ob ≠ g2; omega) _)
 replace BB : Hid (Below w.heap.size w ((W.setCell ⟨g2, k * 11 + 1, none⟩ (.int .i64 b)).setCell ⟨g2, k * 11, none⟩ (.int .i64 2))) := hide (((uh BB).setCell (p := ⟨g2, k * 11 + 1, none⟩) (by show w.heap.size ≤ g2; omega) _).setCell (p := ⟨g2, k * 11, none⟩) (by show w.heap.size ≤ g2; omega) _)
 generalize (W.setCell ⟨g2, k * 11 + 1, none⟩ (.int .i64 b)).setCell ⟨g2, k * 11, none⟩ (.int .i64 2) = W3 at *
 obtain ⟨c0, c1, c2, c3, c4, c5⟩ := (uh ko).c6
 go_wp2_with fail
 refine ck (l13All_any (m := withM m (k : Int) b) (uh HP) (uh HSW)) fun w5 hb => ?_
 replace BB := bt BB hb
 clear hb
 go_wp2_with fail
 go_ret
 exact ⟨rfl, uh BB⟩
theorem Calls.same_below {P : Program} {f : FuncId} {args : Array Value} {w : World} {v : Value} (h : Calls P f args w fun e w' => e = .returned v ∧ w' = w) : Calls P f args w fun e w' => e = .returned v ∧ Below w.heap.size w w' :=
 h.mono fun e w' ⟨he, hw⟩ => ⟨he, by rw [hw]; exact alBrf _ _⟩
theorem l14May_any {w : World} {v0 v1 v2 v3 v4 : Value} {m : SmyV} {k b : Nat} (h : Smy w v0 v1 v2 v3 v4 m) (hk : k < m.smiths.length) (hb : b < m.desks.length) (h7 : b ≤ 7) (y0 : 0 ≤ (recAt m.smiths k).2.2.2.1) (y1 : (recAt m.smiths k).2.2.2.1 ≤ 255) :
  cB 75 #[.agg #[v0, v1, v2, v3, v4, .int .i64 m.now], .int .i64 (k : Int), .int .i64 (b : Int)] w (.bool (mayAt m (k : Int) b)) := by
 have hm : mayAt m (k : Int) b = ((recAt m.desks b).1 && bitB (recAt m.smiths k).2.2.2.1 b) := rfl
 rw [hm]
 clear hm
 obtain ⟨a0, p0, rfl, _, _⟩ := IsRooms.shape h.rooms
 obtain ⟨a1, p1, rfl, _, _⟩ := IsRec.shape h.guilds
 obtain ⟨a4, p4, rfl, _, _⟩ := IsRec.shape h.paces
 obtain ⟨a2, p2, rfl, _, _, r2⟩ := h.smiths
 obtain ⟨a3, p3, rfl, _, _, r3⟩ := h.desks
 clear h
 rcases r2 with e0 | ⟨sb, so, rfl, hbs, hcs⟩
 ·rw [e0] at hk; simp at hk
 rcases r3 with e0 | ⟨db, dof, rfl, hbd, hcd⟩
 ·rw [e0] at hb; simp at hb
 obtain ⟨_, _, _, s3, _⟩ := smith_cells hcs hk
 obtain ⟨d0, _, _⟩ := desk_cells hcd hb
 have hk1 : (k : Int) < (m.smiths.length : Int) := by omega
 have hb1 : (b : Int) < (m.desks.length : Int) := by omega
 clear hcs hcd
 generalize (recAt m.smiths k).2.2.2.1 = my at *
 generalize (recAt m.desks b).1 = op at *
 cases op
 all_goals
  go_enter func75, ntmps75
  go_wp2_with (go_at_call 135; refine (l2Has_any my (b : Int) _ y0 y1 (by omega) (by omega)).mono ?_; rintro e w' ⟨rfl, h9⟩; subst w')
  go_ret
  exact ⟨rfl, (ba _ _)⟩
theorem l14Crowded_any {w : World} {v0 v1 v2 v3 v4 : Value} {m : SmyV} (h : Smy w v0 v1 v2 v3 v4 m) (hS : Sane m) :
  cB 86 #[.agg #[v0, v1, v2, v3, v4, .int .i64 m.now]] w (.bool (crowdB m)) := by
 have Hv := hide (h.alloc (.cells #[v0, v1, v2, v3, v4, .int .i64 m.now] 32))
 obtain ⟨a0, p0, a1, p1, a2, p2, a3, p3, a4, p4, rfl, rfl, rfl, rfl, rfl, _, _, _, _, _, _, _, _, _, _⟩ := h.five
 clear h
 obtain ⟨BB0, kb0⟩ := one_box0 w 32 (S6 a0 p0 a1 p1 a2 p2 a3 p3 a4 p4 m)
 have HS := hide hS
 have h8 := hS.eight
 clear hS
 have hyes : ∀ k, k < m.desks.length → crowdAt m k = true → crowdB m = true := fun k hk hc => List.any_eq_true.2 ⟨k, List.mem_range.2 hk, hc⟩
 have hno : (∀ k, k < m.desks.length → crowdAt m k = false) → crowdB m = false := fun hn => by
  unfold crowdB
  rw [List.any_eq_false]
  intro k hk
  rw [hn k (List.mem_range.1 hk)]
  simp
 have Hyes := hide hyes
 have Hno := hide hno
 clear hyes hno
 go_enter func86, ntmps86
 go_wp2_with fail
 go_loopw [3] (fun i wr => ∃ k : Nat, k ≤ m.desks.length ∧ i = .int .i64 k ∧ (∀ j, j < k → crowdAt m j = false) ∧ Blk wr w.heap.size 32 (S6 a0 p0 a1 p1 a2 p2 a3 p3 a4 p4 m) ∧ Smy wr (.slice a0 m.rooms.length p0) (.slice a1 m.guilds.length p1) (.slice a2 m.smiths.length p2) (.slice a3 m.desks.length p3) (.slice a4 m.paces.length p4) m ∧ Below w.heap.size w wr) (fun i _ => m.desks.length - (intOf i).toNat)
 case atStart => exact ⟨0, alNzl _, rfl, fun j hj => by omega, uh kb0, uh Hv, uh BB0⟩
 case round =>
  obtain ⟨k, hk, rfl, hn, hkb, hv, hb0⟩ := hrel
  have Hn := hide hn
  have kb := hide hkb
  have Hv1 := hide hv
  have BB := hide hb0
  clear hkb hv hb0 kb0 BB0 Hv hn
  obtain ⟨c0, c1, c2, c3, c4, c5⟩ := (uh kb).c6
  by_cases hlt : k < m.desks.length
  ·have hlt1 : (k : Int) < (m.desks.length : Int) := by omega
   have Hc : Hid (crowdAt m k = ((recAt m.desks k).1 && muchB (usedV m (k : Int) (-1)) (forceV m.rooms (k : Int)))) := hide rfl
   obtain ⟨_, _, hde, _, _, r3⟩ := (uh Hv1).desks
   cases hde
   rcases r3 with e0 | ⟨db, off, rfl, hbw, hcl⟩
   ·rw [e0] at hlt; simp at hlt
   obtain ⟨d0, _, _⟩ := desk_cells hcl hlt
   clear hcl
   have hfo := forceV_t ((uh HS).bench hlt)
   have Hu := hide (fun (W : World) (hW : Below wr.heap.size wr W) => l11Used_any (k : Int) (-1) ((uh Hv1).below hW) (uh HS).guilded (by have := (uh HS).few; omega))
   have Hf := hide (fun (W : World) (hW : Below wr.heap.size wr W) => l4Force_any (k : Int) ((uh Hv1).below hW).rooms ((uh HS).bench hlt))
   rw [← hfo] at Hf
   clear hfo
   generalize usedV m (k : Int) (-1) = us at *
   generalize forceV m.rooms (k : Int) = fo at *
   generalize (recAt m.desks k).1 = op at *
   have y0 := alCrg c0
   have y1 := alCrg c1
   have y2 := alCrg c2
   have y3 := alCrg c3
   have y4 := alCrg c4
   have y5 := alCrg c5
   have z0 := alCrg d0
   obtain ⟨mu, hmu⟩ := alAx (muchB us fo)
   have Ht := hide (fun (W : World) => Calls.same_below (specTooMuch_any us fo W))
   rw [hmu] at Hc Ht
   clear hmu
   cases op
   ·go_wp2_with fail
    refine wq ?_
    repeat (go_big_quiet_step (first | exact alCro (uh Hu _ (alBrg _ _ _)) | exact alCro (uh Hf _ (alBrg _ _ _)) | exact alCro (uh Ht _)))
    refine wpQuiet_nil ?_
    intro _ hw'
    obtain ⟨⟨dq, osq⟩, hw''⟩ := hw'
    subst hw''
    go_wp2_with fail
    go_roundw
    case rel => exact ⟨k + 1, by omega, by go_num, next_all (uh Hn) (uh Hc), (uh kb).below (alBrg _ _ _) (uh kb).lt, (uh Hv1).below (alBrg _ _ _), (uh BB).trans ((alBrg _ _ _).mono (uh BB).size)⟩
    case measure => exact ms
   ·cases mu
    ·go_wp2_with fail
     refine wq ?_
     repeat (go_big_quiet_step (first | exact alCro (uh Hu _ (alBrg _ _ _)) | exact alCro (uh Hf _ (alBrg _ _ _)) | exact alCro (uh Ht _)))
     refine wpQuiet_nil ?_
     intro _ hw'
     obtain ⟨⟨dq, osq⟩, hw''⟩ := hw'
     subst hw''
     go_wp2_with fail
     go_roundw
     case rel => exact ⟨k + 1, by omega, by go_num, next_all (uh Hn) (uh Hc), (uh kb).below (alBrg _ _ _) (uh kb).lt, (uh Hv1).below (alBrg _ _ _), (uh BB).trans ((alBrg _ _ _).mono (uh BB).size)⟩
     case measure => exact ms
    ·go_wp2_with fail
     refine wq ?_
     repeat (go_big_quiet_step (first | exact alCro (uh Hu _ (alBrg _ _ _)) | exact alCro (uh Hf _ (alBrg _ _ _)) | exact alCro (uh Ht _)))
     refine wpQuiet_nil ?_
     intro _ hw'
     obtain ⟨⟨dq, osq⟩, hw''⟩ := hw'
     subst hw''
     go_wp2_with fail
     go_ret
     exact ⟨ret_bool (uh Hyes k hlt (uh Hc)).symm, (uh BB).trans ((alBrg _ _ _).mono (uh BB).size)⟩
  ·obtain rfl : k = m.desks.length := by omega
   go_wp2_with fail
   go_ret
   exact ⟨ret_bool (uh Hno (uh Hn)).symm, uh BB⟩
end Go.Proofs.YtgdpaigcmoifbaaGreat
