/- What the proof rests on, part 8: lists and numbers, how they lie in memory, and contracts of the calls. No condition but those that a theorem names. -/
import Derived.Test.YtmfmfdiphlkdiaaGreatXt01
import Derived.Test.YtmfmfdiphlkdiaaGreatXt02
import Derived.Test.YtmfmfdiphlkdiaaGreatXt03
import Derived.Test.YtmfmfdiphlkdiaaGreatXt04
import Derived.Test.YtmfmfdiphlkdiaaGreatXt05
import Derived.Test.YtmfmfdiphlkdiaaGreatXt06
import Derived.Test.YtmfmfdiphlkdiaaGreatXt07
import Derived.ChangeKeysEq
import Derived.Laws.StructEq
import Derived.WalkMore
import Derived.Below
import Derived.Deep.DeepCutAuto
import Derived.BigQuiet
import Derived.Lib.QuietBelow
import Derived.WalkKit
import Derived.ProofKit
import Derived.OpenShut
import Derived.Outline
import Derived.Deep.RegionHeld3
import Derived.Deep.DrawnRows
import Derived.BigRegion
import Derived.Deep.RegionLawGrows
import Derived.Deep.RegionWith
import Derived.Deep.QuietTactic
import Derived.Laws.OwnMore
import Derived.OwnWalk
import Derived.Maps.AppendAt
import Derived.Lib.SmallJoins
import Derived.Deep.Fields
import Derived.Deep.Slices
import Derived.OrdersHeld
import Derived.Deep.RegionHeldLaw
/- A smithy that is turned, as plain lists: the first one at each bench works, all others there wait; and turned it is right, where it was right but for who works. Lists and numbers alone; no condition but those that a theorem names. -/
namespace Go.Proofs.YtmfmfdiphlkdiaaGreat
open Go.ChangeShapes Go.WideShapes Go.ChangeAt Go.RowKit Go.Sort
set_option linter.unusedVariables false

/-- One in another state. -/
def stS (s : SmithV) (st : Int) : SmithV := (st, s.2)
/-- All of a queue wait. -/
def waitAll (ss : List SmithV) (q : List PaceV) : List SmithV := q.foldl (fun ss e => ss.set e.2.toNat (stS (recAt ss e.2.toNat) 2)) ss
theorem waitAll_snoc (ss : List SmithV) (q : List PaceV) (e : PaceV) : waitAll ss (q ++ [e]) = (waitAll ss q).set e.2.toNat (stS (recAt (waitAll ss q) e.2.toNat) 2) := by
  unfold waitAll; rw [List.foldl_append]; rfl
theorem waitAll_len (q : List PaceV) : ∀ ss : List SmithV, (waitAll ss q).length = ss.length := by
  induction q with
  | nil => intro ss; rfl
  | cons e q ih => intro ss; show (waitAll (ss.set e.2.toNat (stS (recAt ss e.2.toNat) 2)) q).length = _; rw [ih, List.length_set]
theorem waitAll_at (q : List PaceV) : ∀ (ss : List SmithV) (i : Nat), (∀ e ∈ q, 0 ≤ e.2 ∧ e.2 < ss.length) → ((∃ e ∈ q, e.2 = (i : Int)) → recAt (waitAll ss q) i = stS (recAt ss i) 2) ∧ ((∀ e ∈ q, e.2 ≠ (i : Int)) → recAt (waitAll ss q) i = recAt ss i) := by
  induction q with
  | nil =>
    intro ss i h
    exact ⟨fun ⟨e, he, _⟩ => (List.not_mem_nil he).elim, fun _ => rfl⟩
  | cons e q ih =>
    intro ss i h
    obtain ⟨e0, e1⟩ := h e (by simp)
    have hs := recAt_set (x := stS (recAt ss e.2.toNat) 2) (show e.2.toNat < ss.length by omega) i
    obtain ⟨i1, i2⟩ := ih (ss.set e.2.toNat (stS (recAt ss e.2.toNat) 2)) i (fun x hx => by rw [List.length_set]; exact h x (List.mem_cons_of_mem _ hx))
    show ((∃ x ∈ e :: q, x.2 = (i : Int)) → recAt (waitAll (ss.set e.2.toNat (stS (recAt ss e.2.toNat) 2)) q) i = _) ∧ ((∀ x ∈ e :: q, x.2 ≠ (i : Int)) → recAt (waitAll (ss.set e.2.toNat (stS (recAt ss e.2.toNat) 2)) q) i = _)
    constructor
    · rintro ⟨x, hx, hxi⟩
      by_cases hq : ∃ y ∈ q, y.2 = (i : Int)
      · rw [i1 hq, hs]
        split
        · rename_i he; rw [he]; rfl
        · rfl
      · rw [i2 (fun y hy e => hq ⟨y, hy, e⟩), hs]
        rcases List.mem_cons.1 hx with rfl | hx
        · rw [if_pos (by omega)]
          rw [show x.2.toNat = i by omega]
        · exact absurd ⟨x, hx, hxi⟩ hq
    · intro hn
      rw [i2 (fun y hy => hn y (List.mem_cons_of_mem _ hy)), hs, if_neg]
      have := hn e (by simp)
      omega

def turnedD (ss : List SmithV) (b : Int) (d : DeskV) : DeskV := match atV ss b ss.length with
  | [] => (d.1, -1, d.2.2)
  | e :: _ => (d.1, e.2, markedV d.2.2 e.1)
/-- One bench is turned. -/
def turnB (m : SmyV) (b : Nat) : SmyV := match atV m.smiths b m.smiths.length with
  | [] => { m with desks := m.desks.set b ((recAt m.desks b).1, -1, (recAt m.desks b).2.2) }
  | e :: t => { m with smiths := (waitAll m.smiths (e :: t)).set e.2.toNat (stS (recAt (waitAll m.smiths (e :: t)) e.2.toNat) 3), desks := m.desks.set b ((recAt m.desks b).1, e.2, markedV (recAt m.desks b).2.2 e.1) }
def turnK (m : SmyV) : Nat → SmyV
  | 0 => m
  | k + 1 => turnB (turnK m k) k
def turnV (m : SmyV) : SmyV := turnK m m.desks.length
theorem turnB_same (m : SmyV) (b : Nat) : (turnB m b).rooms = m.rooms ∧ (turnB m b).guilds = m.guilds ∧ (turnB m b).paces = m.paces ∧ (turnB m b).now = m.now ∧ (turnB m b).smiths.length = m.smiths.length ∧ (turnB m b).desks.length = m.desks.length := by
  unfold turnB
  split
  · simp
  · simp [waitAll_len]
theorem turnK_same (m : SmyV) : ∀ k, (turnK m k).rooms = m.rooms ∧ (turnK m k).guilds = m.guilds ∧ (turnK m k).paces = m.paces ∧ (turnK m k).now = m.now ∧ (turnK m k).smiths.length = m.smiths.length ∧ (turnK m k).desks.length = m.desks.length
  | 0 => ⟨rfl, rfl, rfl, rfl, rfl, rfl⟩
  | k + 1 => by
    obtain ⟨h1, h2, h3, h4, h5, h6⟩ := turnK_same m k
    obtain ⟨g1, g2, g3, g4, g5, g6⟩ := turnB_same (turnK m k) k
    exact ⟨g1.trans h1, g2.trans h2, g3.trans h3, g4.trans h4, g5.trans h5, g6.trans h6⟩
theorem turnB_smith (m : SmyV) (b : Nat) {i : Nat} (hi : i < m.smiths.length) : recAt (turnB m b).smiths i = if (recAt m.smiths i).2.1 = (b : Int) ∧ presS (recAt m.smiths i) = true then stS (recAt m.smiths i) (if firstAt m.smiths b = (i : Int) then 3 else 2) else recAt m.smiths i := by
  have hq := atV_mem m.smiths (b : Int)
  have hf : firstAt m.smiths (b : Int) = match atV m.smiths (b : Int) m.smiths.length with
    | [] => -1
    | h :: _ => h.2 := rfl
  unfold turnB
  split
  · rename_i h0
    rw [if_neg]
    intro hp
    have := (hq (hadS (recAt m.smiths i), (i : Int)) m.smiths.length).2 ⟨i, hi, hp.1, hp.2, rfl⟩
    rw [h0] at this
    exact List.not_mem_nil this
  · rename_i e t h0
    rw [h0] at hf
    simp only at hf
    have hin : ∀ x ∈ e :: t, 0 ≤ x.2 ∧ x.2 < m.smiths.length := by
      intro x hx
      rw [← h0] at hx
      obtain ⟨j, hj, _, _, rfl⟩ := (hq x _).1 hx
      exact ⟨by show (0 : Int) ≤ (j : Int); omega, by show (j : Int) < _; omega⟩
    obtain ⟨w1, w2⟩ := waitAll_at (e :: t) m.smiths i hin
    obtain ⟨e0, e1⟩ := hin e (by simp)
    show recAt ((waitAll m.smiths (e :: t)).set e.2.toNat _) i = _
    rw [recAt_set (by rw [waitAll_len]; omega)]
    by_cases hp : (recAt m.smiths i).2.1 = (b : Int) ∧ presS (recAt m.smiths i) = true
    · have hmem : (hadS (recAt m.smiths i), (i : Int)) ∈ e :: t := by rw [← h0]; exact (hq _ _).2 ⟨i, hi, hp.1, hp.2, rfl⟩
      rw [if_pos hp, hf]
      by_cases hie : i = e.2.toNat
      · rw [if_pos hie, if_pos (by omega), ← hie, w1 ⟨_, hmem, rfl⟩]
        rfl
      · rw [if_neg hie, if_neg (by omega), w1 ⟨_, hmem, rfl⟩]
    · have hnm : ∀ x ∈ e :: t, x.2 ≠ (i : Int) := by
        intro x hx hxi
        rw [← h0] at hx
        obtain ⟨j, hj, j1, j2, rfl⟩ := (hq x _).1 hx
        have : j = i := by have : (j : Int) = (i : Int) := hxi
                           omega
        subst this
        exact hp ⟨j1, j2⟩
      rw [if_neg hp, if_neg (by have := hnm e (by simp); omega), w2 hnm]
theorem turnB_desk (m : SmyV) {b : Nat} (hb : b < m.desks.length) (j : Nat) : recAt (turnB m b).desks j = if j = b then turnedD m.smiths b (recAt m.desks b) else recAt m.desks j := by
  have hf : turnedD m.smiths (b : Int) (recAt m.desks b) = match atV m.smiths (b : Int) m.smiths.length with
    | [] => ((recAt m.desks b).1, -1, (recAt m.desks b).2.2)
    | e :: _ => ((recAt m.desks b).1, e.2, markedV (recAt m.desks b).2.2 e.1) := rfl
  unfold turnB
  split
  · rename_i h0
    rw [h0] at hf
    rw [hf, ← recAt_set hb]
  · rename_i e t h0
    rw [h0] at hf
    rw [hf, ← recAt_set hb]
theorem turnB_alike (m : SmyV) (b : Nat) : Alike m.smiths (turnB m b).smiths m.smiths.length := by
  intro i hi
  rw [turnB_smith m b hi]
  split
  · rename_i hp
    refine ⟨rfl, ?_, rfl⟩
    rw [hp.2]
    split <;> rfl
  · exact ⟨rfl, rfl, rfl⟩
theorem Alike.trans {a b c : List SmithV} {k : Nat} (h : Alike a b k) (g : Alike b c k) : Alike a c k := fun i hi => ⟨(g i hi).1.trans (h i hi).1, (g i hi).2.1.trans (h i hi).2.1, (g i hi).2.2.trans (h i hi).2.2⟩
theorem turnK_alike (m : SmyV) : ∀ k, Alike m.smiths (turnK m k).smiths m.smiths.length
  | 0 => fun _ _ => ⟨rfl, rfl, rfl⟩
  | k + 1 => by
    have h := turnB_alike (turnK m k) k
    rw [(turnK_same m k).2.2.2.2.1] at h
    exact (turnK_alike m k).trans h
theorem turnK_atV (m : SmyV) (k : Nat) (b : Int) : atV (turnK m k).smiths b (turnK m k).smiths.length = atV m.smiths b m.smiths.length := by
  rw [(turnK_same m k).2.2.2.2.1]
  exact atV_alike b _ (turnK_alike m k)
theorem turnK_first (m : SmyV) (k : Nat) (b : Int) : firstAt (turnK m k).smiths b = firstAt m.smiths b := by unfold firstAt; rw [turnK_atV]
theorem turnK_turnedD (m : SmyV) (k : Nat) (b : Int) (d : DeskV) : turnedD (turnK m k).smiths b d = turnedD m.smiths b d := by unfold turnedD; rw [turnK_atV]
theorem turnK_smith (m : SmyV) {i : Nat} (hi : i < m.smiths.length) : ∀ k : Nat, recAt (turnK m k).smiths i = if (0 ≤ (recAt m.smiths i).2.1 ∧ (recAt m.smiths i).2.1 < (k : Int)) ∧ presS (recAt m.smiths i) = true then stS (recAt m.smiths i) (if firstAt m.smiths (recAt m.smiths i).2.1 = (i : Int) then 3 else 2) else recAt m.smiths i
  | 0 => by rw [if_neg (by omega)]; rfl
  | k + 1 => by
    have ih := turnK_smith m hi k
    have ha := turnK_alike m k i hi
    show recAt (turnB (turnK m k) k).smiths i = _
    rw [turnB_smith _ _ (by rw [(turnK_same m k).2.2.2.2.1]; exact hi), ha.1, ha.2.1, turnK_first]
    by_cases hp : presS (recAt m.smiths i) = true
    · by_cases hb : (recAt m.smiths i).2.1 = (k : Int)
      · have hc : (0 ≤ (recAt m.smiths i).2.1 ∧ (recAt m.smiths i).2.1 < ((k + 1 : Nat) : Int)) ∧ presS (recAt m.smiths i) = true := ⟨by omega, hp⟩
        rw [if_pos ⟨hb, hp⟩, if_pos hc, ih, if_neg (by omega), hb]
      · rw [if_neg (fun h => hb h.1), ih]
        by_cases hk : 0 ≤ (recAt m.smiths i).2.1 ∧ (recAt m.smiths i).2.1 < (k : Int)
        · have hc : (0 ≤ (recAt m.smiths i).2.1 ∧ (recAt m.smiths i).2.1 < ((k + 1 : Nat) : Int)) ∧ presS (recAt m.smiths i) = true := ⟨by omega, hp⟩
          rw [if_pos ⟨hk, hp⟩, if_pos hc]
        · rw [if_neg (fun h => hk h.1), if_neg (fun h => hk (by omega))]
    · rw [if_neg (fun h => hp h.2), ih, if_neg (fun h => hp h.2), if_neg (fun h => hp h.2)]
theorem turnK_desk (m : SmyV) (j : Nat) : ∀ k : Nat, k ≤ m.desks.length → recAt (turnK m k).desks j = if j < k then turnedD m.smiths j (recAt m.desks j) else recAt m.desks j
  | 0, _ => by rw [if_neg (by omega)]; rfl
  | k + 1, hk => by
    have ih := turnK_desk m j k (by omega)
    show recAt (turnB (turnK m k) k).desks j = _
    rw [turnB_desk _ (by rw [(turnK_same m k).2.2.2.2.2]; omega)]
    by_cases hjk : j = k
    · subst hjk
      rw [if_pos rfl, if_pos (by omega), turnK_turnedD, ih, if_neg (by omega)]
    · rw [if_neg hjk, ih]
      by_cases h : j < k
      · rw [if_pos h, if_pos (by omega)]
      · rw [if_neg h, if_neg (by omega)]

/-! ### What is right but for who works -/
structure Loose (m : SmyV) : Prop where
  head : headB m = true
  desk : ∀ j, j < m.desks.length → deskB (recAt m.desks j) = true
  pace : ∀ j, j < m.paces.length → paceInB m j = true
  here : ∀ i, i < m.smiths.length → hereB m (recAt m.smiths i) = true
  seat : ∀ i, i < m.smiths.length → seatB m (recAt m.smiths i) = true
  openD : ∃ j, j < m.desks.length ∧ (recAt m.desks j).1 = true
theorem loose_of {m : SmyV} (h : looseB m = true) : Loose m := by
  unfold looseB upDesks upPaces upSmiths upOpen at h
  simp only [Bool.and_eq_true] at h
  obtain ⟨h1, h2, h3, h4, h5⟩ := h
  have h4' := fun i hi => all_at h4 (k := i) hi
  simp only [Bool.and_eq_true] at h4'
  obtain ⟨j, hj, ho⟩ := List.any_eq_true.1 h5
  exact ⟨h1, fun j hj => all_at h2 hj, fun j hj => all_at h3 hj, fun i hi => (h4' i hi).1, fun i hi => (h4' i hi).2, j, List.mem_range.1 hj, ho⟩
/-- Who waits or works: where, and what of it is within which limits. -/
theorem Loose.at {m : SmyV} (h : Loose m) {i : Nat} (hi : i < m.smiths.length) (hp : presS (recAt m.smiths i) = true) : 0 ≤ (recAt m.smiths i).2.1 ∧ (recAt m.smiths i).2.1 < m.desks.length ∧ (recAt m.desks (recAt m.smiths i).2.1.toNat).1 = true ∧ bitB (recAt m.smiths i).2.2.2.1 (recAt m.smiths i).2.1 = true ∧ bandB (hadS (recAt m.smiths i)) (recAt m.desks (recAt m.smiths i).2.1.toNat).2.2 = true := by
  obtain ⟨b0, b1, _⟩ := hereB_of (h.here i hi) hp
  have hs := h.seat i hi
  unfold seatB at hs
  rw [hp] at hs
  simp only [Bool.not_true, Bool.false_or, Bool.and_eq_true] at hs
  exact ⟨b0, b1, hs.1, hs.2.1, hs.2.2⟩
theorem bandB_of {had mark : Int} (h : bandB had mark = true) : -1000000000000 ≤ had ∧ had ≤ 1000000000000 ∧ -1000000000000 ≤ mark ∧ mark ≤ 1000000000000 ∧ -20000 ≤ had - mark ∧ had - mark ≤ 63000 := by
  unfold bandB at h
  simp only [Bool.and_eq_true] at h
  have h1 := inB_of h.1
  have h2 := inB_of h.2.1
  have h3 := inB_of h.2.2
  omega
theorem bandB_t {had mark : Int} (h0 : -1000000000000 ≤ had) (h1 : had ≤ 1000000000000) (h2 : -1000000000000 ≤ mark) (h3 : mark ≤ 1000000000000) (h4 : -20000 ≤ had - mark) (h5 : had - mark ≤ 63000) : bandB had mark = true := by
  unfold bandB; rw [inB_t h0 h1, inB_t h2 h3, inB_t h4 h5]; rfl
theorem deskB_of {d : DeskV} (h : deskB d = true) : -900000000000 ≤ d.2.2 ∧ d.2.2 ≤ 900000000000 := inB_of h

/-- In the state 2 or 3 one is as right as in the other. -/
theorem smithB_st {s : SmithV} {st : Int} (h : smithB s = true) (hp : presS s = true) (h0 : 1 ≤ st) (h1 : st ≤ 3) : smithB (stS s st) = true := by
  obtain ⟨x0, be, rk, my, gu, lo, hi, hd, ca, ut, wk⟩ := s
  have hx : x0 ≠ 0 := by intro e; subst e; cases hp
  unfold smithB at h ⊢
  rw [goneB_st (x := (x0, be, rk, my, gu, lo, hi, hd, ca, ut, wk)) hx, Bool.false_or] at h
  unfold presB at h
  simp only [Bool.and_eq_true] at h
  obtain ⟨g0, g⟩ := h
  have : presB (stS (x0, be, rk, my, gu, lo, hi, hd, ca, ut, wk) st) = true := by
    unfold presB stS
    simp only [Bool.and_eq_true]
    exact ⟨inB_t h0 h1, g⟩
  rw [this, Bool.or_true]
theorem hereB_st {m : SmyV} {s : SmithV} {st : Int} (h : hereB m s = true) (hp : presS s = true) (h0 : 1 ≤ st) (h1 : st ≤ 3) : hereB m (stS s st) = true := by
  unfold hereB at h ⊢
  simp only [Bool.and_eq_true, Bool.or_eq_true] at h ⊢
  refine ⟨smithB_st h.1 hp h0 h1, .inr ?_⟩
  rcases h.2 with e | e
  · have : s.1 = 0 := by simpa using e
    unfold presS at hp
    rw [this] at hp
    cases hp
  · exact e
/-- Which fields rightness of a smith's place looks at. -/
theorem hereB_same {m m' : SmyV} (hg : m'.guilds.length = m.guilds.length) (hd : m'.desks.length = m.desks.length) (s : SmithV) : hereB m' s = hereB m s := by unfold hereB; rw [hg, hd]

end Go.Proofs.YtmfmfdiphlkdiaaGreat

/- Contracts of chapter 10's functions and of their models: what each call returns. No condition but those that a theorem names. -/
namespace Go.Proofs.YtmfmfdiphlkdiaaGreat
open Go.ChangeShapes Go.WideShapes Go.ChangeAt Go.RowKit Go.Sort
set_option linter.unusedVariables false
set_option maxRecDepth 100000

theorem band_equal (a b c d : Int) (w : World) : (Op.equalIn 10000 214 (.agg #[.int .i64 a, .int .i64 b]) (.agg #[.int .i64 c, .int .i64 d])).run Tryz.prog w = .ok (a == c && b == d) w := by
  have u := Tryz.underlying2
  have ag := Tryz.isAgg2
  have z := Tryz.sizeOf2
  have hc : Tryz.prog.cellsOf 2 = 1 := by kernel_rfl
  obtain ⟨i, hi⟩ := Option.isSome_iff_exists.1 (show (Tryz.prog.info? 2).isSome = true by kernel_rfl)
  rw [show (10000 : Nat) = 9999 + 1 from rfl, run_equalIn_array w 9999 _ _ Tryz.underlying214 hi, hc]
  simp only [show List.range 2 = [0, 1] from rfl, Op.eqItems]
  go_simp
  by_cases h : a = c
  · subst h
    by_cases h2 : b = d
    · subst h2; simp
    · simp [h2]
  · simp [h]
theorem band_eql (a b c d : Int) (w : World) : (binOp .eql 214 (.agg #[.int .i64 a, .int .i64 b]) (.agg #[.int .i64 c, .int .i64 d])).run Tryz.prog w = .ok (.bool (a == c && b == d)) w := by
  rw [run_eql_struct, band_equal]; rfl

theorem bandStretched_any (lo hi n : Int) (w : World) : Calls Tryz.prog 247 #[.agg #[.int .i64 lo, .int .i64 hi], .int .i64 n] w fun e w' => e = .returned (.agg #[.int .i64 (min lo n), .int .i64 (max hi n)]) ∧ Below w.heap.size w w' := by
  by_cases h1 : lo ≤ n
  all_goals
    by_cases h2 : hi < n
    all_goals
      go_enter Tryz.func247, Tryz.ntmps247
      go_wp2_with fail
      exact bodyPost_ret (v := .agg #[.int .i64 (min lo n), .int .i64 (max hi n)]) (by simp [results, Tryz.results247, go_sem]; omega) rfl ⟨rfl, ((Below.refl _ _).alloc (Nat.le_refl _) _).alloc (by simp) _⟩

theorem bandOf_any (m : Int) (w : World) (m0 : -1000000000000 ≤ m) (m1 : m ≤ 1000000000000) : Calls Tryz.prog 214 #[.int .i64 m] w fun e w' => e = .returned (.agg #[.int .i64 (m - 20000), .int .i64 (m + 63000)]) ∧ Below w.heap.size w w' := by
  go_enter Tryz.func214, Tryz.ntmps214
  go_wp2_with fail
  exact bodyPost_ret (v := .agg #[.int .i64 (m - 20000), .int .i64 (m + 63000)]) (by simp [results, Tryz.results214, go_sem]) rfl ⟨rfl, (Below.refl _ _).alloc (Nat.le_refl _) _⟩

/-- The least and the greatest of a band that is stretched to a list. -/
def loL (lo : Int) (zs : List Int) : Int := zs.foldl min lo
def hiL (hi : Int) (zs : List Int) : Int := zs.foldl max hi
theorem loL_le (zs : List Int) : ∀ lo, loL lo zs ≤ lo := by
  induction zs with
  | nil => intro lo; exact Int.le_refl _
  | cons z zs ih => intro lo; exact Int.le_trans (ih (min lo z)) (Int.min_le_left _ _)
theorem hiL_ge (zs : List Int) : ∀ hi, hi ≤ hiL hi zs := by
  induction zs with
  | nil => intro hi; exact Int.le_refl _
  | cons z zs ih => intro hi; exact Int.le_trans (Int.le_max_left _ _) (ih (max hi z))
theorem stretched_is (zs : List Int) : ∀ lo hi, (loL lo zs == lo && hiL hi zs == hi) = zs.all fun z => inB z lo hi := by
  induction zs with
  | nil => intro lo hi; simp [loL, hiL]
  | cons z zs ih =>
    intro lo hi
    show (loL (min lo z) zs == lo && hiL (max hi z) zs == hi) = (inB z lo hi && zs.all fun z => inB z lo hi)
    cases hz : inB z lo hi
    · have hn : ¬ (lo ≤ z ∧ z ≤ hi) := of_decide_eq_false hz
      have h1 := loL_le zs (min lo z)
      have h2 := hiL_ge zs (max hi z)
      simp only [Bool.false_and, Bool.and_eq_false_iff, beq_eq_false_iff_ne]
      omega
    · obtain ⟨h1, h2⟩ := inB_of hz
      rw [show min lo z = lo by omega, show max hi z = hi by omega, ih]; rfl
theorem loL_snoc {lo : Int} {zs : List Int} {k : Nat} (hk : k < zs.length) : loL lo (zs.take (k + 1)) = min (loL lo (zs.take k)) (zs.getD k 0) := by
  unfold loL; rw [List.take_succ_eq_append_getElem hk, List.foldl_append]; simp [List.getD, List.getElem?_eq_getElem hk]
theorem hiL_snoc {hi : Int} {zs : List Int} {k : Nat} (hk : k < zs.length) : hiL hi (zs.take (k + 1)) = max (hiL hi (zs.take k)) (zs.getD k 0) := by
  unfold hiL; rw [List.take_succ_eq_append_getElem hk, List.foldl_append]; simp [List.getD, List.getElem?_eq_getElem hk]

attribute [local go_sem ↓] band_eql
set_option maxHeartbeats 400000 in
theorem bandHolds_any (lo hi : Int) (b cap : Nat) (zs : List Int) (w : World) (hl : zs.length ≤ 1000) (hb : b < w.heap.size) (hc : ∀ k, k < zs.length → w.cell? ⟨b, k, none⟩ = some (.int .i64 (zs.getD k 0))) :
    Calls Tryz.prog 215 #[.agg #[.int .i64 lo, .int .i64 hi], .slice (some ⟨b, 0, none⟩) zs.length cap] w fun e w' => e = .returned (.bool (zs.all fun z => inB z lo hi)) ∧ Below w.heap.size w w' := by
  have Hc := hide hc
  clear hc
  go_enter Tryz.func215, Tryz.ntmps215
  go_wp2_with fail
  go_loopw [11] (fun i wr => ∃ k : Nat, k ≤ zs.length ∧ i = .int .i64 k ∧ Blk wr (w.heap.size + 1) 214 #[.int .i64 (loL lo (zs.take k)), .int .i64 (hiL hi (zs.take k))] ∧ Blk wr w.heap.size 214 #[.int .i64 lo, .int .i64 hi] ∧ Below w.heap.size w wr) (fun i _ => zs.length - (intOf i).toNat)
  case atStart =>
    refine ⟨0, Nat.zero_le _, rfl, ?_, (Blk.new w _ _).alloc _, ((Below.refl _ _).alloc (Nat.le_refl _) _).alloc (by simp) _⟩
    have := Blk.new (w.alloc (.cells #[.int .i64 lo, .int .i64 hi] 214)) 214 #[.int .i64 lo, .int .i64 hi]
    simpa [loL, hiL] using this
  case round =>
    obtain ⟨k, hk, rfl, hs, ho, hbl⟩ := hrel
    have Hs := hide hs
    have Ho := hide ho
    have Hb := hide hbl
    by_cases hlt : k < zs.length
    · have c0 := unhide Hc k hlt
      rw [← hbl.cell (p := ⟨b, k, none⟩) hb] at c0
      have e1 := loL_snoc (lo := lo) hlt
      have e2 := hiL_snoc (hi := hi) hlt
      have s0 := hs.cell (i := 0) rfl
      have s1 := hs.cell (i := 1) rfl
      have g0 := hs.free 0
      have g1 := hs.free 1
      generalize zs.getD k 0 = z at *
      generalize loL lo (zs.take k) = x at *
      generalize hiL hi (zs.take k) = y at *
      have E1 := hide e1
      have E2 := hide e2
      clear e1 e2 hs ho hbl
      go_wp2_with fail
      refine (bandStretched_any x y z _).mono ?_
      rintro e w1 ⟨rfl, hb1⟩
      have hs1 := (unhide Hs).below hb1 (unhide Hs).lt
      have Hs1 := hide hs1
      have Ho1 : Hid (Blk w1 w.heap.size 214 #[.int .i64 lo, .int .i64 hi]) := hide ((unhide Ho).below hb1 (unhide Ho).lt)
      have B1 : Hid (Below w.heap.size w w1) := hide ((unhide Hb).trans (hb1.mono (unhide Hb).size))
      have s0 := hs1.cell (i := 0) rfl
      have s1 := hs1.cell (i := 1) rfl
      have g0 := hs1.free 0
      have g1 := hs1.free 1
      clear hs1 hb1
      go_wp2_with fail
      go_roundw
      case rel =>
        refine ⟨k + 1, by omega, by go_num, ?_, ?_, ?_⟩
        · rw [unhide E1, unhide E2]
          simpa using ((unhide Hs1).set 0 (.int .i64 (min x z))).set 1 (.int .i64 (max y z))
        · exact ((unhide Ho1).other (by simp) _).other (by simp) _
        · exact ((unhide B1).setCell (by simp) _).setCell (by simp) _
      case measure => simp [intOf]; omega
    · obtain rfl : k = zs.length := by omega
      rw [List.take_length] at hs
      have e3 := stretched_is zs lo hi
      have s0 := hs.cell (i := 0) rfl
      have s1 := hs.cell (i := 1) rfl
      have o0 := ho.cell (i := 0) rfl
      have o1 := ho.cell (i := 1) rfl
      generalize loL lo zs = x at *
      generalize hiL hi zs = y at *
      have E3 := hide e3
      clear e3 hs ho hbl Hs
      go_wp2_with fail
      go_ret
      exact ⟨ret_bool (unhide E3), unhide Hb⟩

theorem areHads_any (b cap : Nat) (zs : List Int) (w : World) (hl : zs.length ≤ 1000) (hb : b < w.heap.size) (hc : ∀ k, k < zs.length → w.cell? ⟨b, k, none⟩ = some (.int .i64 (zs.getD k 0))) :
    Calls Tryz.prog 185 #[.slice (some ⟨b, 0, none⟩) zs.length cap] w fun e w' => e = .returned (.bool (zs.all fun z => inB z (-1000000000000) 1000000000000)) ∧ Below w.heap.size w w' := by
  have Hc := hide hc
  clear hc
  go_enter Tryz.func185, Tryz.ntmps185
  go_wp2_with fail
  refine (bandHolds_any _ _ b cap zs _ hl hb (unhide Hc)).mono ?_
  rintro e w1 ⟨rfl, hb1⟩
  have B1 := hide hb1
  clear hb1
  go_wp2_with fail
  go_ret
  exact ⟨rfl, unhide B1⟩

theorem implInBand_any (h m : Int) (w : World) : Calls Tryz.prog 179 #[.int .i64 h, .int .i64 m] w fun e w' => e = .returned (.bool (inBandB h m)) ∧ Below w.heap.size w w' := by
  cases hh : hadB h && hadB m
  · have hs : inBandB h m = false := by unfold inBandB; rw [hh]; rfl
    have Hs := hide hs
    clear hs
    go_enter Tryz.func179, Tryz.ntmps179
    go_wp2_with fail
    refine (areHads_any _ _ [h, m] _ (by simp) (by simp) ?_).mono ?_
    · intro k hk
      simp at hk
      match k, hk with
      | 0, _ => simp
      | 1, _ => simp
    rintro e w1 ⟨rfl, hb⟩
    rw [hads2, hh]
    have B1 : Hid (Below w.heap.size w w1) := hide (((Below.refl _ _).alloc (Nat.le_refl _) _).trans (hb.mono (by simp)))
    clear hb
    go_wp2_with fail
    go_ret
    exact ⟨ret_bool (unhide Hs).symm, unhide B1⟩
  · have hs : inBandB h m = inB (h - m) (-20000) 63000 := by unfold inBandB; rw [hh]; rfl
    have Hs := hide hs
    have h' := hh
    simp only [Bool.and_eq_true] at h'
    obtain ⟨m0, m1⟩ := had_of h'.2
    clear hs h'
    go_enter Tryz.func179, Tryz.ntmps179
    go_wp2_with fail
    refine (areHads_any _ _ [h, m] _ (by simp) (by simp) ?_).mono ?_
    · intro k hk
      simp at hk
      match k, hk with
      | 0, _ => simp
      | 1, _ => simp
    rintro e w1 ⟨rfl, hb⟩
    rw [hads2, hh]
    have B1 : Hid (Below w.heap.size w w1) := hide (((Below.refl _ _).alloc (Nat.le_refl _) _).trans (hb.mono (by simp)))
    clear hb
    go_wp2_with fail
    refine (bandOf_any m _ m0 m1).mono ?_
    rintro e w2 ⟨rfl, hb⟩
    have B2 : Hid (Below w.heap.size w w2) := hide ((unhide B1).trans (hb.mono (unhide B1).size))
    clear hb B1
    go_wp2_with fail
    refine (bandHolds_any _ _ _ _ [h] _ (by simp) (by simp) ?_).mono ?_
    · intro k hk
      simp at hk
      subst hk
      simp
    rintro e w3 ⟨rfl, hb⟩
    rw [band_at]
    have B3 : Hid (Below w.heap.size w w3) := hide (((unhide B2).alloc (unhide B2).size _).trans (hb.mono (by have := (unhide B2).size; simp; omega)))
    clear hb B2
    go_wp2_with fail
    go_ret
    exact ⟨ret_bool (unhide Hs).symm, unhide B3⟩

theorem implMarked_any (m f : Int) (w : World) : Calls Tryz.prog 134 #[.int .i64 m, .int .i64 f] w fun e w' => e = .returned (.int .i64 (markedV m f)) ∧ Below w.heap.size w w' := by
  cases hh : hadB m && hadB f
  · have hs : markedV m f = m := by unfold markedV; rw [hh]; rfl
    have Hs := hide hs
    clear hs
    go_enter Tryz.func134, Tryz.ntmps134
    go_wp2_with fail
    refine (areHads_any _ _ [m, f] _ (by simp) (by simp) ?_).mono ?_
    · intro k hk
      simp at hk
      match k, hk with
      | 0, _ => simp
      | 1, _ => simp
    rintro e w1 ⟨rfl, hb⟩
    rw [hads2, hh]
    have B1 : Hid (Below w.heap.size w w1) := hide (((Below.refl _ _).alloc (Nat.le_refl _) _).trans (hb.mono (by simp)))
    clear hb
    go_wp2_with fail
    go_ret
    exact ⟨ret_int (unhide Hs).symm, unhide B1⟩
  · have hs : markedV m f = min (max m f) 900000000000 := by unfold markedV; rw [hh]; rfl
    have Hs := hide hs
    clear hs
    go_enter Tryz.func134, Tryz.ntmps134
    go_wp2_with fail
    refine (areHads_any _ _ [m, f] _ (by simp) (by simp) ?_).mono ?_
    · intro k hk
      simp at hk
      match k, hk with
      | 0, _ => simp
      | 1, _ => simp
    rintro e w1 ⟨rfl, hb⟩
    rw [hads2, hh]
    have B1 : Hid (Below w.heap.size w w1) := hide (((Below.refl _ _).alloc (Nat.le_refl _) _).trans (hb.mono (by simp)))
    clear hb
    go_wp2_with fail
    refine (implClamped_any m f 900000000000 _).mono ?_
    rintro e w2 ⟨rfl, hw2⟩
    subst w2
    go_wp2_with fail
    go_ret
    exact ⟨ret_int (unhide Hs).symm, unhide B1⟩

theorem bandHad_any (x : Int) (w : World) : Calls Tryz.prog 126 #[.int .i64 x] w fun e w' => e = .returned (.bool (hadB x)) ∧ w' = w := by
  go_enter Tryz.func126, Tryz.ntmps126
  go_wp2_with (go_at_call 110; refine (l1In_any _ _ _ _).mono ?_; rintro e w' ⟨rfl, rfl⟩)
  go_ret
  exact ⟨rfl, rfl⟩
theorem bandHad_v {x : Int} {r : Bool} (h : hadB x = r) (w : World) : Calls Tryz.prog 126 #[.int .i64 x] w fun e w' => e = .returned (.bool r) ∧ w' = w := by
  rw [← h]; exact bandHad_any x w

theorem specMarked_any (m f : Int) (w : World) : Calls Tryz.prog 138 #[.int .i64 m, .int .i64 f] w fun e w' => e = .returned (.int .i64 (markedV m f)) ∧ w' = w := by
  cases h1 : hadB m
  · have hs : markedV m f = m := by unfold markedV; rw [h1]; rfl
    have Hs := hide hs
    have H1 := hide h1
    clear hs h1
    go_enter Tryz.func138, Tryz.ntmps138
    go_wp2_with (go_at_call 126; refine (bandHad_v (unhide H1) _).mono ?_; rintro e w' ⟨rfl, rfl⟩)
    go_ret
    exact ⟨ret_int (unhide Hs).symm, rfl⟩
  cases h2 : hadB f
  · have hs : markedV m f = m := by unfold markedV; rw [h1, h2]; rfl
    have Hs := hide hs
    have H1 := hide h1
    have H2 := hide h2
    clear hs h1 h2
    go_enter Tryz.func138, Tryz.ntmps138
    go_wp2_with (go_at_call 126; first | (refine (bandHad_v (unhide H1) _).mono ?_; rintro e w' ⟨rfl, rfl⟩) | (refine (bandHad_v (unhide H2) _).mono ?_; rintro e w' ⟨rfl, rfl⟩))
    go_ret
    exact ⟨ret_int (unhide Hs).symm, rfl⟩
  have hs : markedV m f = min (max m f) 900000000000 := by unfold markedV; rw [h1, h2]; rfl
  have Hs := hide hs
  have H1 := hide h1
  have H2 := hide h2
  clear hs h1 h2
  go_enter Tryz.func138, Tryz.ntmps138
  go_wp2_with (first | (go_at_call 106; refine (l1Max_any _ _ _).mono ?_; rintro e w' ⟨rfl, rfl⟩) | (go_at_call 170; refine (l1Min_any _ _ _).mono ?_; rintro e w' ⟨rfl, rfl⟩) | (go_at_call 126; first | (refine (bandHad_v (unhide H1) _).mono ?_; rintro e w' ⟨rfl, rfl⟩) | (refine (bandHad_v (unhide H2) _).mono ?_; rintro e w' ⟨rfl, rfl⟩)))
  go_ret
  exact ⟨ret_int (unhide Hs).symm, rfl⟩

end Go.Proofs.YtmfmfdiphlkdiaaGreat

/- Whose turn it is: the model's l12Turn, in a smithy that the call made. Conditions: those that each theorem names. -/
namespace Go.Proofs.YtmfmfdiphlkdiaaGreat
open Go.ChangeShapes Go.WideShapes Go.ChangeAt Go.RowKit Go.Sort
set_option linter.unusedVariables false
set_option linter.unusedSimpArgs false

theorem Two.ents {p q : Option Nat} {w w' : World} {B : Nat} {v : Value} {ps : List PaceV} (h : EntsAt B w v ps) (ht : Two p q w w') (hp : ∀ k, p = some k → k < B) (hq : ∀ k, q = some k → k < B) : EntsAt B w' v ps :=
  EntsAt.same h fun k e => ht.block k (h.lt e).2 (fun e' => by have := hp k e'; have := (h.lt e).1; omega) (fun e' => by have := hq k e'; have := (h.lt e).1; omega)
theorem Two.cell {p q : Option Nat} {w w' : World} (h : Two p q w w') {a : Addr} (ha : a.block < w.heap.size) (hp : p ≠ some a.block) (hq : q ≠ some a.block) : w'.cell? a = w.cell? a := World.cell?_of_block (w := w) (h.block a.block ha hp hq)
theorem take_one {q : List PaceV} {j : Nat} (hj : j < q.length) : q.take (j + 1) = q.take j ++ [paceAt q j] := by
  rw [List.take_succ_eq_append_getElem hj]; unfold paceAt; simp [List.getD, hj]

theorem turnB_nil {m : SmyV} {b : Nat} (h : atV m.smiths b m.smiths.length = []) : turnB m b = { m with desks := m.desks.set b ((recAt m.desks b).1, -1, (recAt m.desks b).2.2) } := by
  unfold turnB; rw [h]
theorem turnB_cons {m : SmyV} {b : Nat} {e : PaceV} {t : List PaceV} (h : atV m.smiths b m.smiths.length = e :: t) : turnB m b = { m with smiths := (waitAll m.smiths (e :: t)).set e.2.toNat (stS (recAt (waitAll m.smiths (e :: t)) e.2.toNat) 3), desks := m.desks.set b ((recAt m.desks b).1, e.2, markedV (recAt m.desks b).2.2 e.1) } := by
  unfold turnB; rw [h]

set_option maxRecDepth 100000 in
set_option maxHeartbeats 16000000 in
theorem l12Turn_any {w : World} {R n₀ : Nat} {v0 v1 v2 v3 v4 : Value} {m : SmyV} {qs : List (RoomV × Value)} (kb : Blk w R 32 #[v0, v1, v2, v3, v4, .int .i64 m.now]) (hf : FullSmy n₀ w v0 v1 v2 v3 v4 m qs) (h2 : v2.ownBlock ≠ some R) (h3 : v3.ownBlock ≠ some R) (hl : m.smiths.length ≤ 800) (hd : m.desks.length ≤ 1000) :
    Calls Tryz.prog 75 #[.pointer (some ⟨R, 0, none⟩)] w fun e w' => e = .returned (.tuple #[]) ∧ FullSmy n₀ w' v0 v1 v2 v3 v4 (turnV m) qs ∧ Two v2.ownBlock v3.ownBlock w w' := by
  obtain ⟨a2, p2, rfl⟩ := RecAt.shape hf.smiths
  obtain ⟨a3, p3, rfl⟩ := RecAt.shape hf.desks
  by_cases hnd : m.desks.length = 0
  · have hz : turnV m = m := by unfold turnV; rw [hnd]; rfl
    have c3 := kb.cell (i := 3) (v := .slice a3 m.desks.length p3) rfl
    have HF := hide hf
    rw [hz]
    have hz0 : ¬ (0 : Int) < (m.desks.length : Int) := by omega
    clear hz hf kb hnd
    go_enter Tryz.func75, Tryz.ntmps75
    go_wp2_with fail
    go_loopw [2] (fun i wr => i = .int .i64 0 ∧ wr = w) (fun i _ => 0)
    case atStart => exact ⟨rfl, rfl⟩
    case round =>
      obtain ⟨rfl, hwr⟩ := hrel
      subst hwr
      go_wp2_with fail
      go_end0
      exact ⟨rfl, unhide HF, Two.refl _ _ _⟩
  obtain ⟨g3, rfl, hg3, hg3w, _, _⟩ := RecAt.view encDesk_len (by omega) hf.desks rfl (by omega)
  have Kb := hide kb
  have H2 := hide h2
  have H3 : Hid (g3 ≠ R) := hide (fun e => h3 (by rw [e]; rfl))
  have HF := hide hf
  have L2 : Hid (∀ i, (Value.slice a2 m.smiths.length p2).ownBlock = some i → i < w.heap.size) := hide (fun i e => (RecAt.lt hf.smiths e).2)
  clear kb h2 h3 hf
  go_enter Tryz.func75, Tryz.ntmps75
  go_wp2_with fail
  go_loopw [2] (fun i wr => ∃ k : Nat, k ≤ m.desks.length ∧ i = .int .i64 k ∧ FullSmy n₀ wr v0 v1 (.slice a2 m.smiths.length p2) (.slice (some ⟨g3, 0, none⟩) m.desks.length p3) v4 (turnK m k) qs ∧ Two (Value.slice a2 m.smiths.length p2).ownBlock (some g3) w wr) (fun i _ => m.desks.length - (intOf i).toNat)
  case atStart => exact ⟨0, Nat.zero_le _, rfl, unhide HF, Two.refl _ _ _⟩
  case round =>
    obtain ⟨k, hk, rfl, hf1, htw⟩ := hrel
    obtain ⟨e1, e2, e3, e4, e5, e6⟩ := turnK_same m k
    have Tw := hide htw
    have hgw : g3 < wr.heap.size := Nat.lt_of_lt_of_le hg3w htw.size
    have hszr := htw.size
    have hkb1 := (unhide Kb).two htw (unhide H2) (fun e => unhide H3 (by cases e; rfl))
    have K1 := hide hkb1
    clear htw hkb1
    by_cases hlt : k < m.desks.length
    rotate_left
    · obtain rfl : k = m.desks.length := by omega
      have c3 := (unhide K1).cell (i := 3) (v := .slice (some ⟨g3, 0, none⟩) m.desks.length p3) rfl
      have hno : ¬ ((m.desks.length : Nat) : Int) < (m.desks.length : Int) := by omega
      have HF1 := hide hf1
      clear hf1
      go_wp2_with fail
      go_end0
      exact ⟨rfl, unhide HF1, unhide Tw⟩
    have hstep : turnK m (k + 1) = turnB (turnK m k) k := rfl
    generalize turnK m k = m1 at *
    have Hstep := hide hstep
    clear hstep
    have c0 := (unhide K1).cell (i := 0) (v := v0) rfl
    have c1 := (unhide K1).cell (i := 1) (v := v1) rfl
    have c2 := (unhide K1).cell (i := 2) (v := .slice a2 m.smiths.length p2) rfl
    have c3 := (unhide K1).cell (i := 3) (v := .slice (some ⟨g3, 0, none⟩) m.desks.length p3) rfl
    have c4 := (unhide K1).cell (i := 4) (v := v4) rfl
    have c5 := (unhide K1).cell (i := 5) (v := .int .i64 m.now) rfl
    have hat := l11At_any (k : Int) hf1.smy (by rw [e5]; exact hl)
    rw [e4, e5] at hat
    have Hat := hide hat
    have HF1 := hide hf1
    clear hat hf1
    go_wp2_with fail
    refine (unhide Hat).mono ?_
    rintro e w1 ⟨v', rfl, he, hb⟩
    clear c0 c1 c2 c3 c4 c5 Hat
    have hmem := atV_mem m1.smiths (k : Int)
    have hlq := atV_len m1.smiths (k : Int) m.smiths.length
    have HN : Hid (atV m1.smiths (k : Int) m.smiths.length = [] → turnB m1 k = { m1 with desks := m1.desks.set k ((recAt m1.desks k).1, -1, (recAt m1.desks k).2.2) }) := hide (fun h => turnB_nil (by rw [e5]; exact h))
    have HC : Hid (∀ e t, atV m1.smiths (k : Int) m.smiths.length = e :: t → turnB m1 k = { m1 with smiths := (waitAll m1.smiths (e :: t)).set e.2.toNat (stS (recAt (waitAll m1.smiths (e :: t)) e.2.toNat) 3), desks := m1.desks.set k ((recAt m1.desks k).1, e.2, markedV (recAt m1.desks k).2.2 e.1) }) := hide (fun e t h => turnB_cons (by rw [e5]; exact h))
    have hmq : ∀ x ∈ atV m1.smiths (k : Int) m.smiths.length, ∃ j : Nat, j < m.smiths.length ∧ x.2 = (j : Int) := fun x hx => by
      obtain ⟨j, hj, _, _, rfl⟩ := (hmem x m.smiths.length).1 hx
      exact ⟨j, hj, rfl⟩
    have Hm := hide hmq
    clear hmem hmq
    generalize atV m1.smiths (k : Int) m.smiths.length = q at *
    obtain ⟨qa, qc, rfl⟩ := EntsAt.shape he
    have HE := hide he
    replace HF1 := hide ((unhide HF1).below hb)
    replace K1 := hide ((unhide K1).below hb (unhide K1).lt)
    replace Tw := hide ((unhide Tw).trans (Two.of_below hb))
    have hgw1 : g3 < w1.heap.size := Nat.lt_of_lt_of_le hgw hb.size
    have hwr1 := hb.size
    clear he hb
    obtain ⟨⟨o, wh, mk⟩, hrk⟩ : ∃ d, recAt m1.desks k = d := ⟨_, rfl⟩
    rw [hrk] at HN HC
    simp only at HN HC
    have Hrk := hide hrk
    have hkd : k < m1.desks.length := by omega
    have hset : ∀ d, recAt (m1.desks.set k d) k = d := fun d => by rw [recAt_set hkd, if_pos rfl]
    have Hset := hide hset
    clear hset
    -- Who = -1
    obtain ⟨_, hga, _, _, hc3, hz3⟩ := RecAt.view encDesk_len (by omega) (unhide HF1).desks e6.symm (by omega)
    cases hga
    have d1 := hc3 k (by omega) 1 _ rfl
    rw [hrk] at d1
    have f1 := hz3 (k * 3 + 1)
    have c3 := (unhide K1).cell (i := 3) (v := .slice (some ⟨g3, 0, none⟩) m.desks.length p3) rfl
    have hput := (unhide HF1).putD e6.symm (j := k) (i := 1) (by omega) (by omega) (.int .i64 (-1)) (o, -1, mk) (by rw [hrk]; rfl)
    have HF2 := hide hput
    have hns : Two (Value.slice a2 m.smiths.length p2).ownBlock (some g3) w1 (w1.setCell ⟨g3, k * 3 + 1, none⟩ (.int .i64 (-1))) := Two.of_set w1 (.inr rfl) _ _
    have K2 := hide ((unhide K1).two hns (unhide H2) (fun e => unhide H3 (by cases e; rfl)))
    have Tw2 := hide ((unhide Tw).trans hns)
    have hlow2 : ∀ i, (Value.slice a2 m.smiths.length p2).ownBlock = some i → i < wr.heap.size := fun i e => Nat.lt_of_lt_of_le (unhide L2 i e) hszr
    have Low2 := hide hlow2
    have HE2 := hide (Two.ents (unhide HE) hns hlow2 (fun i e => by cases e; exact hgw))
    clear hput hns hlow2 hc3 hz3 hrk
    go_upto_region 5 with fail
    clear d1 f1 c3 K1 Tw HE HF1
    generalize w1.setCell ⟨g3, k * 3 + 1, none⟩ (.int .i64 (-1)) = X at *
    have hsm : ∀ i, i ∈ [0] → True := fun _ _ => trivial
    clear hsm
    go_wp2_with fail
    go_loopw [4] (fun i wi => ∃ j : Nat, j ≤ q.length ∧ i = .int .i64 j ∧ FullSmy n₀ wi v0 v1 (.slice a2 m.smiths.length p2) (.slice (some ⟨g3, 0, none⟩) m.desks.length p3) v4 { m1 with smiths := waitAll m1.smiths (q.take j), desks := m1.desks.set k (o, -1, mk) } qs ∧ Two (Value.slice a2 m.smiths.length p2).ownBlock (some g3) X wi) (fun i _ => q.length - (intOf i).toNat)
    case atStart => exact ⟨0, Nat.zero_le _, rfl, by simpa [waitAll] using unhide HF2, Two.refl _ _ _⟩
    case round =>
      obtain ⟨wi, rfl⟩ : ∃ x, x = wr := ⟨wr, rfl⟩
      obtain ⟨j, hj, rfl, hf3, htw3⟩ := hrel
      have HF3 := hide hf3
      have Tw3 := hide htw3
      have K3 := hide ((unhide K2).two htw3 (unhide H2) (fun e => unhide H3 (by cases e; rfl)))
      have HE3 := hide (Two.ents (unhide HE2) htw3 (unhide Low2) (fun i e => by cases e; exact hgw))
      clear hf3 htw3
      by_cases hjl : j < q.length
      · obtain ⟨_, _, hqe, _, _, hr⟩ := EntsAt.paces (unhide HE3)
        cases hqe
        rcases hr with e0 | ⟨eb, eo, rfl, hbw, hcl⟩
        · rw [e0] at hjl; simp at hjl
        obtain ⟨c0, c1⟩ := hcl j hjl
        obtain ⟨i0, hi0, hie⟩ := unhide Hm _ (paceAt_mem hjl)
        rw [hie] at c1
        have Htk : Hid (waitAll m1.smiths (q.take (j + 1)) = (waitAll m1.smiths (q.take j)).set i0 (stS (recAt (waitAll m1.smiths (q.take j)) i0) 2)) := hide (by rw [take_one hjl, waitAll_snoc, hie]; simp)
        have hwl : (waitAll m1.smiths (q.take j)).length = m.smiths.length := by rw [waitAll_len, e5]
        obtain ⟨g2, rfl, hg2, hg2w, hc2, hz2⟩ := RecAt.view encSmith_len (by omega) (unhide HF3).smiths hwl.symm (by show 0 < (waitAll m1.smiths (q.take j)).length; omega)
        have s0 := hc2 i0 (by show i0 < (waitAll m1.smiths (q.take j)).length; omega) 0 _ rfl
        have f0 := hz2 (i0 * 11)
        have hput := (unhide HF3).putS hwl.symm (j := i0) (i := 0) (by show i0 < (waitAll m1.smiths (q.take j)).length; omega) (by omega) (.int .i64 2) (stS (recAt (waitAll m1.smiths (q.take j)) i0) 2) rfl
        simp only [Nat.add_zero] at s0 hput
        have HF4 := hide hput
        have c2 := (unhide K3).cell (i := 2) (v := .slice (some ⟨g2, 0, none⟩) m.smiths.length p2) rfl
        clear hcl hc2 hz2 hput hie c0 hwl
        have hi1 : (i0 : Int) < (m.smiths.length : Int) := by omega
        go_wp2_with fail
        refine wp_region_last (S := fun w' => w'.cell? ⟨R, 2, none⟩ = some (.slice (some ⟨g2, 0, none⟩) m.smiths.length p2) ∧ w'.cell? ⟨eb, eo + j * 2 + 1, none⟩ = some (.int .i64 (i0 : Int))) (by kernel_rfl) (List.cons_ne_nil _ _) (by kernel_rfl) ⟨c2, c1⟩ (fun hHeld => ?_)
        simp only [List.dropLast_cons_cons, List.dropLast_singleton, List.length_cons, List.length_nil, Nat.zero_add, Nat.reduceAdd]
        (refine wpAnyH_take (i := 0) (v := ?_) rfl (by kernel_rfl) (by kernel_rfl) (by kernel_rfl) (fun _ _ _ h => h) (Or.inl ⟨by rfl, ?_⟩) (by assumption) ?_; rotate_left; (intro W9 hSw; (try dsimp only at hSw); go_simp; (try with_reducible rfl)); (try simp only [Act.put, List.setIfInBounds_toArray, List.set_cons_zero, List.set_cons_succ]))
        (refine wpAnyH_take (i := 1) (v := ?_) rfl (by kernel_rfl) (by kernel_rfl) (by kernel_rfl) (fun _ _ _ h => h) (Or.inl ⟨by rfl, ?_⟩) (by assumption) ?_; rotate_left; (intro W9 hSw; (try dsimp only at hSw); go_simp; (try with_reducible rfl)); (try simp only [Act.put, List.setIfInBounds_toArray, List.set_cons_zero, List.set_cons_succ]))
        (refine wpAnyH_take (i := 2) (v := ?_) rfl (by kernel_rfl) (by kernel_rfl) (by kernel_rfl) (fun _ _ _ h => h) (Or.inl ⟨by rfl, ?_⟩) (by assumption) ?_; rotate_left; (intro W9 hSw; (try dsimp only at hSw); go_simp; (try with_reducible rfl)); (try simp only [Act.put, List.setIfInBounds_toArray, List.set_cons_zero, List.set_cons_succ]))
        (refine wpAnyH_take (i := 3) (v := ?_) rfl (by kernel_rfl) (by kernel_rfl) (by kernel_rfl) (fun _ _ _ h => h) (Or.inl ⟨by rfl, ?_⟩) (by assumption) ?_; rotate_left; (intro W9 hSw; (try dsimp only at hSw); go_simp; (try with_reducible rfl)); (try simp only [Act.put, List.setIfInBounds_toArray, List.set_cons_zero, List.set_cons_succ]))
        (refine wpAnyH_take (i := 4) (v := ?_) rfl (by kernel_rfl) (by kernel_rfl) (by kernel_rfl) (fun _ _ _ h => h) (Or.inl ⟨by rfl, ?_⟩) (by assumption) ?_; rotate_left; (intro W9 hSw; (try dsimp only at hSw); go_simp; (try with_reducible rfl)); (try simp only [Act.put, List.setIfInBounds_toArray, List.set_cons_zero, List.set_cons_succ]))
        (refine wpAnyH_take (i := 5) (v := ?_) rfl (by kernel_rfl) (by kernel_rfl) (by kernel_rfl) (fun _ _ _ h => h) (Or.inl ⟨by rfl, ?_⟩) (by assumption) ?_; rotate_left; (intro W9 hSw; (try dsimp only at hSw); go_simp; (try with_reducible rfl)); (try simp only [Act.put, List.setIfInBounds_toArray, List.set_cons_zero, List.set_cons_succ]))
        (refine wpAnyH_take (i := 6) (v := ?_) rfl (by kernel_rfl) (by kernel_rfl) (by kernel_rfl) (fun _ _ _ h => h) (Or.inl ⟨by rfl, ?_⟩) (by assumption) ?_; rotate_left; (intro W9 hSw; (try dsimp only at hSw); go_simp; (try with_reducible rfl)); (try simp only [Act.put, List.setIfInBounds_toArray, List.set_cons_zero, List.set_cons_succ]))
        (refine wpAnyH_take (i := 7) (v := ?_) rfl (by kernel_rfl) (by kernel_rfl) (by kernel_rfl) (fun _ _ _ h => h) (Or.inl ⟨by rfl, ?_⟩) (by assumption) ?_; rotate_left; (intro W9 hSw; (try dsimp only at hSw); go_simp; (try with_reducible rfl)); (try simp only [Act.put, List.setIfInBounds_toArray, List.set_cons_zero, List.set_cons_succ]))
        (refine wpAnyH_take (i := 8) (v := ?_) rfl (by kernel_rfl) (by kernel_rfl) (by kernel_rfl) (fun _ _ _ h => h) (Or.inl ⟨by rfl, ?_⟩) (by assumption) ?_; rotate_left; (intro W9 hSw; (try dsimp only at hSw); go_simp; (try with_reducible rfl)); (try simp only [Act.put, List.setIfInBounds_toArray, List.set_cons_zero, List.set_cons_succ]))
        (refine wpAnyH_take (i := 9) (v := ?_) rfl (by kernel_rfl) (by kernel_rfl) (by kernel_rfl) (fun _ _ _ h => h) (Or.inl ⟨by rfl, ?_⟩) (by assumption) ?_; rotate_left; (intro W9 hSw; (try dsimp only at hSw); go_simp; (try with_reducible rfl)); (try simp only [Act.put, List.setIfInBounds_toArray, List.set_cons_zero, List.set_cons_succ]))
        (refine wpAnyH_take (i := 10) (v := ?_) rfl (by kernel_rfl) (by kernel_rfl) (by kernel_rfl) (fun _ _ _ h => h) (Or.inl ⟨by rfl, ?_⟩) (by assumption) ?_; rotate_left; (intro W9 hSw; (try dsimp only at hSw); go_simp; (try with_reducible rfl)); (try simp only [Act.put, List.setIfInBounds_toArray, List.set_cons_zero, List.set_cons_succ]))
        refine wpAnyH_done (by kernel_rfl) ?_ _
        refine tailQ_run rfl rfl ?_
        go_simp
        clear hHeld
        go_wp2_with fail
        go_roundw
        case rel => exact ⟨j + 1, by omega, by go_num, by rw [unhide Htk]; exact (unhide HF4).below (Below.refl _ _).drew, ((unhide Tw3).trans (Two.of_set _ (.inl rfl) _ _)).trans (Two.of_below (Below.refl _ _).drew)⟩
        case measure => simp [intOf]; omega
      · obtain rfl : j = q.length := by omega
        rw [List.take_length] at HF3
        cases q with
        | nil =>
          clear HC
          go_wp2_with fail
          go_roundw
          case rel => exact ⟨k + 1, by omega, by go_num, by rw [unhide Hstep, unhide HN rfl]; exact unhide HF3, (unhide Tw2).trans (unhide Tw3)⟩
          case measure => simp [intOf]; omega
        | cons e t =>
          obtain ⟨_, _, hqe, _, _, hr⟩ := EntsAt.paces (unhide HE3)
          cases hqe
          rcases hr with e0 | ⟨eb, eo, rfl, hbw, hcl⟩
          · cases e0
          obtain ⟨c0, c1⟩ := hcl 0 (by simp)
          obtain ⟨i0, hi0, hie⟩ := unhide Hm e (by simp)
          have hp0 : paceAt (e :: t) 0 = e := rfl
          rw [hp0] at c0 c1
          rw [hie] at c1
          simp only [Nat.zero_mul, Nat.add_zero] at c0 c1
          have hcons := unhide HC e t rfl
          rw [hie] at hcons
          simp only [show ((i0 : Int)).toNat = i0 by simp] at hcons
          have Hcons := hide hcons
          obtain ⟨hd0, hhd⟩ : ∃ x, e.1 = x := ⟨_, rfl⟩
          rw [hhd] at c0 Hcons
          clear hcons hhd hie hp0 hcl HN HC
          have hwl : (waitAll m1.smiths (e :: t)).length = m.smiths.length := by rw [waitAll_len, e5]
          obtain ⟨g2, rfl, hg2, hg2w, _, _⟩ := RecAt.view encSmith_len (by omega) (unhide HF3).smiths hwl.symm (by show 0 < (waitAll m1.smiths (e :: t)).length; omega)
          have hD1 : (m1.desks.set k (o, -1, mk)).length = m.desks.length := by simp [e6]
          have hD2 : ∀ d, (m1.desks.set k d).length = m.desks.length := fun d => by simp [e6]
          have heb := (EntsAt.lt (unhide HE3) (k := eb) rfl).1
          have hg2r := unhide Low2 g2 rfl
          have hlen : (e :: t).length = t.length + 1 := rfl
          have hlpos : (0 : Int) < ((t.length + 1 : Nat) : Int) := by omega
          rw [hlen] at *
          obtain ⟨_, hga, _, _, hcd, hzd⟩ := RecAt.view encDesk_len (by omega) (unhide HF3).desks hD1.symm (by show 0 < (m1.desks.set k (o, -1, mk)).length; omega)
          cases hga
          have d1 := hcd k (by show k < (m1.desks.set k (o, -1, mk)).length; omega) 1 _ rfl
          have f1 := hzd (k * 3 + 1)
          have c3 := (unhide K3).cell (i := 3) (v := .slice (some ⟨g3, 0, none⟩) m.desks.length p3) rfl
          have hne2 : (Value.slice (some ⟨g2, 0, none⟩) m.smiths.length p2).ownBlock ≠ some eb := fun e9 => by have e8 : g2 = eb := Option.some.inj e9; omega
          have hne3 : (some g3 : Option Nat) ≠ some eb := fun e9 => by have e8 : g3 = eb := Option.some.inj e9; omega
          have hput1 := (unhide HF3).putD hD1.symm (j := k) (i := 1) (by show k < (m1.desks.set k (o, -1, mk)).length; omega) (by omega) (.int .i64 (i0 : Int)) (o, (i0 : Int), mk) (by show encDesk (o, (i0 : Int), mk) = (encDesk (recAt (m1.desks.set k (o, -1, mk)) k)).set 1 _; rw [unhide Hset]; rfl)
          simp only [List.set_set] at hput1
          have HF4 : Hid (FullSmy n₀ (wi.setCell ⟨g3, k * 3 + 1, none⟩ (.int .i64 (i0 : Int))).drew v0 v1 (.slice (some ⟨g2, 0, none⟩) m.smiths.length p2) (.slice (some ⟨g3, 0, none⟩) m.desks.length p3) v4 { m1 with smiths := waitAll m1.smiths (e :: t), desks := m1.desks.set k (o, (i0 : Int), mk) } qs) := hide (hput1.below (Below.refl _ _).drew)
          have T4 : Two (Value.slice (some ⟨g2, 0, none⟩) m.smiths.length p2).ownBlock (some g3) wi (wi.setCell ⟨g3, k * 3 + 1, none⟩ (.int .i64 (i0 : Int))).drew := (Two.of_set wi (.inr rfl) _ _).trans (Two.of_below (Below.refl _ _).drew)
          have K4 := hide ((unhide K3).two T4 (unhide H2) (fun e9 => unhide H3 (by cases e9; rfl)))
          have x0 := (T4.cell (a := ⟨eb, eo, none⟩) hbw hne2 hne3).trans c0
          have x1 := (T4.cell (a := ⟨eb, eo + 1, none⟩) hbw hne2 hne3).trans c1
          have hbw4 : eb < ((wi.setCell ⟨g3, k * 3 + 1, none⟩ (.int .i64 (i0 : Int))).drew).heap.size := Nat.lt_of_lt_of_le hbw T4.size
          replace Tw3 := hide ((unhide Tw3).trans T4)
          clear hput1 T4 hcd hzd HE3 HF3
          go_wp2_with fail
          refine wp_region_last (S := fun w' => w'.cell? ⟨R, 3, none⟩ = some (.slice (some ⟨g3, 0, none⟩) m.desks.length p3) ∧ w'.cell? ⟨eb, eo + 1, none⟩ = some (.int .i64 (i0 : Int))) (by kernel_rfl) (List.cons_ne_nil _ _) (by kernel_rfl) ⟨c3, c1⟩ (fun hHeld => ?_)
          simp only [List.dropLast_cons_cons, List.dropLast_singleton, List.length_cons, List.length_nil, Nat.zero_add, Nat.reduceAdd]
          (refine wpAnyH_take (i := 0) (v := ?_) rfl (by kernel_rfl) (by kernel_rfl) (by kernel_rfl) (fun _ _ _ h => h) (Or.inl ⟨by rfl, ?_⟩) (by assumption) ?_; rotate_left; (intro W9 hSw; (try dsimp only at hSw); go_simp; (try with_reducible rfl)); (try simp only [Act.put, List.setIfInBounds_toArray, List.set_cons_zero, List.set_cons_succ]))
          (refine wpAnyH_take (i := 1) (v := ?_) rfl (by kernel_rfl) (by kernel_rfl) (by kernel_rfl) (fun _ _ _ h => h) (Or.inl ⟨by rfl, ?_⟩) (by assumption) ?_; rotate_left; (intro W9 hSw; (try dsimp only at hSw); go_simp; (try with_reducible rfl)); (try simp only [Act.put, List.setIfInBounds_toArray, List.set_cons_zero, List.set_cons_succ]))
          (refine wpAnyH_take (i := 2) (v := ?_) rfl (by kernel_rfl) (by kernel_rfl) (by kernel_rfl) (fun _ _ _ h => h) (Or.inl ⟨by rfl, ?_⟩) (by assumption) ?_; rotate_left; (intro W9 hSw; (try dsimp only at hSw); go_simp; (try with_reducible rfl)); (try simp only [Act.put, List.setIfInBounds_toArray, List.set_cons_zero, List.set_cons_succ]))
          (refine wpAnyH_take (i := 3) (v := ?_) rfl (by kernel_rfl) (by kernel_rfl) (by kernel_rfl) (fun _ _ _ h => h) (Or.inl ⟨by rfl, ?_⟩) (by assumption) ?_; rotate_left; (intro W9 hSw; (try dsimp only at hSw); go_simp; (try with_reducible rfl)); (try simp only [Act.put, List.setIfInBounds_toArray, List.set_cons_zero, List.set_cons_succ]))
          (refine wpAnyH_take (i := 4) (v := ?_) rfl (by kernel_rfl) (by kernel_rfl) (by kernel_rfl) (fun _ _ _ h => h) (Or.inl ⟨by rfl, ?_⟩) (by assumption) ?_; rotate_left; (intro W9 hSw; (try dsimp only at hSw); go_simp; (try with_reducible rfl)); (try simp only [Act.put, List.setIfInBounds_toArray, List.set_cons_zero, List.set_cons_succ]))
          (refine wpAnyH_take (i := 5) (v := ?_) rfl (by kernel_rfl) (by kernel_rfl) (by kernel_rfl) (fun _ _ _ h => h) (Or.inl ⟨by rfl, ?_⟩) (by assumption) ?_; rotate_left; (intro W9 hSw; (try dsimp only at hSw); go_simp; (try with_reducible rfl)); (try simp only [Act.put, List.setIfInBounds_toArray, List.set_cons_zero, List.set_cons_succ]))
          (refine wpAnyH_take (i := 6) (v := ?_) rfl (by kernel_rfl) (by kernel_rfl) (by kernel_rfl) (fun _ _ _ h => h) (Or.inl ⟨by rfl, ?_⟩) (by assumption) ?_; rotate_left; (intro W9 hSw; (try dsimp only at hSw); go_simp; (try with_reducible rfl)); (try simp only [Act.put, List.setIfInBounds_toArray, List.set_cons_zero, List.set_cons_succ]))
          (refine wpAnyH_take (i := 7) (v := ?_) rfl (by kernel_rfl) (by kernel_rfl) (by kernel_rfl) (fun _ _ _ h => h) (Or.inl ⟨by rfl, ?_⟩) (by assumption) ?_; rotate_left; (intro W9 hSw; (try dsimp only at hSw); go_simp; (try with_reducible rfl)); (try simp only [Act.put, List.setIfInBounds_toArray, List.set_cons_zero, List.set_cons_succ]))
          (refine wpAnyH_take (i := 8) (v := ?_) rfl (by kernel_rfl) (by kernel_rfl) (by kernel_rfl) (fun _ _ _ h => h) (Or.inl ⟨by rfl, ?_⟩) (by assumption) ?_; rotate_left; (intro W9 hSw; (try dsimp only at hSw); go_simp; (try with_reducible rfl)); (try simp only [Act.put, List.setIfInBounds_toArray, List.set_cons_zero, List.set_cons_succ]))
          (refine wpAnyH_take (i := 9) (v := ?_) rfl (by kernel_rfl) (by kernel_rfl) (by kernel_rfl) (fun _ _ _ h => h) (Or.inl ⟨by rfl, ?_⟩) (by assumption) ?_; rotate_left; (intro W9 hSw; (try dsimp only at hSw); go_simp; (try with_reducible rfl)); (try simp only [Act.put, List.setIfInBounds_toArray, List.set_cons_zero, List.set_cons_succ]))
          (refine wpAnyH_take (i := 10) (v := ?_) rfl (by kernel_rfl) (by kernel_rfl) (by kernel_rfl) (fun _ _ _ h => h) (Or.inl ⟨by rfl, ?_⟩) (by assumption) ?_; rotate_left; (intro W9 hSw; (try dsimp only at hSw); go_simp; (try with_reducible rfl)); (try simp only [Act.put, List.setIfInBounds_toArray, List.set_cons_zero, List.set_cons_succ]))
          refine wpAnyH_done (by kernel_rfl) ?_ _
          refine tailQ_run rfl rfl ?_
          go_simp
          clear hHeld
          clear d1 f1 c3 c0 c1 hbw K3
          generalize (wi.setCell ⟨g3, k * 3 + 1, none⟩ (.int .i64 (i0 : Int))).drew = Y at *
          -- the mark
          obtain ⟨_, hga, _, _, hcd, hzd⟩ := RecAt.view encDesk_len (by omega) (unhide HF4).desks (hD2 _).symm (by show 0 < (m1.desks.set k _).length; rw [hD2]; omega)
          cases hga
          have d2 := hcd k (by show k < (m1.desks.set k _).length; rw [hD2]; omega) 2 _ rfl
          have d2' : Y.cell? ⟨g3, k * 3 + 2, none⟩ = some (.int .i64 mk) := by
            have h9 : recAt (m1.desks.set k (o, (i0 : Int), mk)) k = (o, (i0 : Int), mk) := unhide Hset _
            rw [show (({ m1 with smiths := waitAll m1.smiths (e :: t), desks := m1.desks.set k (o, (i0 : Int), mk) } : SmyV)).desks = m1.desks.set k (o, (i0 : Int), mk) from rfl, h9] at d2
            exact d2
          have f2 := hzd (k * 3 + 2)
          have c3 := (unhide K4).cell (i := 3) (v := .slice (some ⟨g3, 0, none⟩) m.desks.length p3) rfl
          have hput2 := (unhide HF4).putD (hD2 _).symm (j := k) (i := 2) (by show k < (m1.desks.set k _).length; rw [hD2]; omega) (by omega) (.int .i64 (markedV mk hd0)) (o, (i0 : Int), markedV mk hd0) (by show encDesk (o, (i0 : Int), markedV mk hd0) = (encDesk (recAt (m1.desks.set k (o, (i0 : Int), mk)) k)).set 2 _; rw [unhide Hset]; rfl)
          simp only [List.set_set] at hput2
          have HF5 : Hid (FullSmy n₀ (Y.setCell ⟨g3, k * 3 + 2, none⟩ (.int .i64 (markedV mk hd0))).drew v0 v1 (.slice (some ⟨g2, 0, none⟩) m.smiths.length p2) (.slice (some ⟨g3, 0, none⟩) m.desks.length p3) v4 { m1 with smiths := waitAll m1.smiths (e :: t), desks := m1.desks.set k (o, (i0 : Int), markedV mk hd0) } qs) := hide (hput2.below (Below.refl _ _).drew)
          have T5 : Two (Value.slice (some ⟨g2, 0, none⟩) m.smiths.length p2).ownBlock (some g3) Y (Y.setCell ⟨g3, k * 3 + 2, none⟩ (.int .i64 (markedV mk hd0))).drew := (Two.of_set Y (.inr rfl) _ _).trans (Two.of_below (Below.refl _ _).drew)
          have K5 := hide ((unhide K4).two T5 (unhide H2) (fun e9 => unhide H3 (by cases e9; rfl)))
          have y1 := (T5.cell (a := ⟨eb, eo + 1, none⟩) hbw4 hne2 hne3).trans x1
          replace Tw3 := hide ((unhide Tw3).trans T5)
          clear hput2 T5 hcd hzd HF4 d2
          go_wp2_with fail
          refine wp_region_last (S := fun w' => w'.cell? ⟨R, 3, none⟩ = some (.slice (some ⟨g3, 0, none⟩) m.desks.length p3) ∧ w'.cell? ⟨g3, k * 3 + 2, none⟩ = some (.int .i64 mk) ∧ w'.cell? ⟨eb, eo, none⟩ = some (.int .i64 hd0)) (by kernel_rfl) (List.cons_ne_nil _ _) (by kernel_rfl) ⟨c3, d2', x0⟩ (fun hHeld => ?_)
          simp only [List.dropLast_cons_cons, List.dropLast_singleton, List.length_cons, List.length_nil, Nat.zero_add, Nat.reduceAdd]
          (refine wpAnyH_take (i := 0) (v := ?_) rfl (by kernel_rfl) (by kernel_rfl) (by kernel_rfl) (fun _ _ _ h => h) (Or.inl ⟨by rfl, ?_⟩) (by assumption) ?_; rotate_left; (intro W9 hSw; (try dsimp only at hSw); go_simp; (try with_reducible rfl)); (try simp only [Act.put, List.setIfInBounds_toArray, List.set_cons_zero, List.set_cons_succ]))
          (refine wpAnyH_take (i := 1) (v := ?_) rfl (by kernel_rfl) (by kernel_rfl) (by kernel_rfl) (fun _ _ _ h => h) (Or.inl ⟨by rfl, ?_⟩) (by assumption) ?_; rotate_left; (intro W9 hSw; (try dsimp only at hSw); go_simp; (try with_reducible rfl)); (try simp only [Act.put, List.setIfInBounds_toArray, List.set_cons_zero, List.set_cons_succ]))
          (refine wpAnyH_take (i := 2) (v := ?_) rfl (by kernel_rfl) (by kernel_rfl) (by kernel_rfl) (fun _ _ _ h => h) (Or.inl ⟨by rfl, ?_⟩) (by assumption) ?_; rotate_left; (intro W9 hSw; (try dsimp only at hSw); go_simp; (try with_reducible rfl)); (try simp only [Act.put, List.setIfInBounds_toArray, List.set_cons_zero, List.set_cons_succ]))
          (refine wpAnyH_take (i := 3) (v := ?_) rfl (by kernel_rfl) (by kernel_rfl) (by kernel_rfl) (fun _ _ _ h => h) (Or.inl ⟨by rfl, ?_⟩) (by assumption) ?_; rotate_left; (intro W9 hSw; (try dsimp only at hSw); go_simp; (try with_reducible rfl)); (try simp only [Act.put, List.setIfInBounds_toArray, List.set_cons_zero, List.set_cons_succ]))
          (refine wpAnyH_take (i := 4) (v := ?_) rfl (by kernel_rfl) (by kernel_rfl) (by kernel_rfl) (fun _ _ _ h => h) (Or.inl ⟨by rfl, ?_⟩) (by assumption) ?_; rotate_left; (intro W9 hSw; (try dsimp only at hSw); go_simp; (try with_reducible rfl)); (try simp only [Act.put, List.setIfInBounds_toArray, List.set_cons_zero, List.set_cons_succ]))
          (refine wpAnyH_take (i := 5) (v := ?_) rfl (by kernel_rfl) (by kernel_rfl) (by kernel_rfl) (fun _ _ _ h => h) (Or.inl ⟨by rfl, ?_⟩) (by assumption) ?_; rotate_left; (intro W9 hSw; (try dsimp only at hSw); go_simp; (try with_reducible rfl)); (try simp only [Act.put, List.setIfInBounds_toArray, List.set_cons_zero, List.set_cons_succ]))
          (refine wpAnyH_take (i := 6) (v := ?_) rfl (by kernel_rfl) (by kernel_rfl) (by kernel_rfl) (fun _ _ _ h => h) (Or.inl ⟨by rfl, ?_⟩) (by assumption) ?_; rotate_left; (intro W9 hSw; (try dsimp only at hSw); go_simp; (try with_reducible rfl)); (try simp only [Act.put, List.setIfInBounds_toArray, List.set_cons_zero, List.set_cons_succ]))
          (refine wpAnyH_take (i := 7) (v := ?_) rfl (by kernel_rfl) (by kernel_rfl) (by kernel_rfl) (fun _ _ _ h => h) (Or.inl ⟨by rfl, ?_⟩) (by assumption) ?_; rotate_left; (intro W9 hSw; (try dsimp only at hSw); go_simp; (try with_reducible rfl)); (try simp only [Act.put, List.setIfInBounds_toArray, List.set_cons_zero, List.set_cons_succ]))
          (refine wpAnyH_take (i := 8) (v := ?_) rfl (by kernel_rfl) (by kernel_rfl) (by kernel_rfl) (fun _ _ _ h => h) (Or.inl ⟨by rfl, ?_⟩) (by assumption) ?_; rotate_left; (intro W9 hSw; (try dsimp only at hSw); go_simp; (try with_reducible rfl)); (try simp only [Act.put, List.setIfInBounds_toArray, List.set_cons_zero, List.set_cons_succ]))
          (refine wpAnyH_take (i := 9) (v := ?_) rfl (by kernel_rfl) (by kernel_rfl) (by kernel_rfl) (fun _ _ _ h => h) (Or.inl ⟨by rfl, ?_⟩) (by assumption) ?_; rotate_left; (intro W9 hSw; (try dsimp only at hSw); go_simp; (try with_reducible rfl)); (try simp only [Act.put, List.setIfInBounds_toArray, List.set_cons_zero, List.set_cons_succ]))
          (refine wpAnyH_take (i := 10) (v := ?_) rfl (by kernel_rfl) (by kernel_rfl) (by kernel_rfl) (fun _ _ _ h => h) (Or.inl ⟨by rfl, ?_⟩) (by assumption) ?_; rotate_left; (intro W9 hSw; (try dsimp only at hSw); go_simp; (try with_reducible rfl)); (try simp only [Act.put, List.setIfInBounds_toArray, List.set_cons_zero, List.set_cons_succ]))
          (refine wpAnyH_take (i := 11) (v := ?_) rfl (by kernel_rfl) (by kernel_rfl) (by kernel_rfl) (fun _ _ _ h => h) (Or.inl ⟨by rfl, ?_⟩) (by assumption) ?_; rotate_left; (intro W9 hSw; (try dsimp only at hSw); go_simp; (try with_reducible rfl)); (try simp only [Act.put, List.setIfInBounds_toArray, List.set_cons_zero, List.set_cons_succ]))
          (refine wpAnyH_take (i := 12) (v := ?_) rfl (by kernel_rfl) (by kernel_rfl) (by kernel_rfl) (fun _ _ _ h => h) (Or.inl ⟨by rfl, ?_⟩) (by assumption) ?_; rotate_left; (intro W9 hSw; (try dsimp only at hSw); go_simp; (try with_reducible rfl)); (try simp only [Act.put, List.setIfInBounds_toArray, List.set_cons_zero, List.set_cons_succ]))
          (refine wpAnyH_take (i := 13) (v := ?_) rfl (by kernel_rfl) (by kernel_rfl) (by kernel_rfl) (fun _ _ _ h => h) (Or.inl ⟨by rfl, ?_⟩) (by assumption) ?_; rotate_left; (intro W9 hSw; (try dsimp only at hSw); go_simp; (try with_reducible rfl)); (try simp only [Act.put, List.setIfInBounds_toArray, List.set_cons_zero, List.set_cons_succ]))
          (refine wpAnyH_take (i := 14) (v := ?_) rfl (by kernel_rfl) (by kernel_rfl) (by kernel_rfl) (fun _ _ _ h => h) (Or.inl ⟨by rfl, ?_⟩) (by assumption) ?_; rotate_left; (intro W9 hSw; (try dsimp only at hSw); go_simp; (try with_reducible rfl)); (try simp only [Act.put, List.setIfInBounds_toArray, List.set_cons_zero, List.set_cons_succ]))
          (refine wpAnyH_take (i := 15) (v := ?_) rfl (by kernel_rfl) (by kernel_rfl) (by kernel_rfl) (fun _ _ _ h => h) (Or.inl ⟨by rfl, ?_⟩) (by assumption) ?_; rotate_left; (intro W9 hSw; (try dsimp only at hSw); go_simp; (try with_reducible rfl)); (try simp only [Act.put, List.setIfInBounds_toArray, List.set_cons_zero, List.set_cons_succ]))
          (refine wpAnyH_take (i := 16) (v := ?_) rfl (by kernel_rfl) (by kernel_rfl) (by kernel_rfl) (fun _ _ _ h => h) (Or.inl ⟨by rfl, ?_⟩) (by assumption) ?_; rotate_left; (intro W9 hSw; (try dsimp only at hSw); go_simp; (try with_reducible rfl)); (try simp only [Act.put, List.setIfInBounds_toArray, List.set_cons_zero, List.set_cons_succ]))
          refine wpAnyH_ready (rs := [17]) (by kernel_rfl) (by simp) ?_
          refine AllReadyH.cons rfl (fun K hK => ?_) AllReadyH.nil
          go_simp
          refine (specMarked_any mk hd0 _).mono ?_
          rintro e9 w9 ⟨rfl, hw9⟩
          subst w9
          refine hK.out _ _ hHeld (fun hHeld => ?_)
          clear hK K
          (try simp only [Act.put, List.setIfInBounds_toArray, List.set_cons_zero, List.set_cons_succ])
          (refine wpAnyH_take (i := 18) (v := ?_) rfl (by kernel_rfl) (by kernel_rfl) (by kernel_rfl) (fun _ _ _ h => h) (Or.inl ⟨by rfl, ?_⟩) (by assumption) ?_; rotate_left; (intro W9 hSw; (try dsimp only at hSw); go_simp; (try with_reducible rfl)); (try simp only [Act.put, List.setIfInBounds_toArray, List.set_cons_zero, List.set_cons_succ]))
          (refine wpAnyH_take (i := 19) (v := ?_) rfl (by kernel_rfl) (by kernel_rfl) (by kernel_rfl) (fun _ _ _ h => h) (Or.inl ⟨by rfl, ?_⟩) (by assumption) ?_; rotate_left; (intro W9 hSw; (try dsimp only at hSw); go_simp; (try with_reducible rfl)); (try simp only [Act.put, List.setIfInBounds_toArray, List.set_cons_zero, List.set_cons_succ]))
          refine wpAnyH_done (by kernel_rfl) ?_ _
          refine tailQ_run rfl rfl ?_
          go_simp
          clear hHeld
          clear d2' f2 c3 x0 x1 hbw4 K4
          generalize (Y.setCell ⟨g3, k * 3 + 2, none⟩ (.int .i64 (markedV mk hd0))).drew = Z at *
          -- it works
          obtain ⟨_, hga, _, _, hc2, hz2⟩ := RecAt.view encSmith_len (by omega) (unhide HF5).smiths hwl.symm (by show 0 < (waitAll m1.smiths (e :: t)).length; omega)
          cases hga
          have s0 := hc2 i0 (by show i0 < (waitAll m1.smiths (e :: t)).length; omega) 0 _ rfl
          have f0 := hz2 (i0 * 11)
          have c2 := (unhide K5).cell (i := 2) (v := .slice (some ⟨g2, 0, none⟩) m.smiths.length p2) rfl
          have hput3 := (unhide HF5).putS hwl.symm (j := i0) (i := 0) (by show i0 < (waitAll m1.smiths (e :: t)).length; omega) (by omega) (.int .i64 3) (stS (recAt (waitAll m1.smiths (e :: t)) i0) 3) rfl
          simp only [Nat.add_zero] at s0 hput3
          have HF6 := hide hput3
          have hi1 : (i0 : Int) < (m.smiths.length : Int) := by omega
          clear hput3 hc2 hz2 HF5
          go_wp2_with fail
          refine wp_region_last (S := fun w' => w'.cell? ⟨R, 2, none⟩ = some (.slice (some ⟨g2, 0, none⟩) m.smiths.length p2) ∧ w'.cell? ⟨eb, eo + 1, none⟩ = some (.int .i64 (i0 : Int))) (by kernel_rfl) (List.cons_ne_nil _ _) (by kernel_rfl) ⟨c2, y1⟩ (fun hHeld => ?_)
          simp only [List.dropLast_cons_cons, List.dropLast_singleton, List.length_cons, List.length_nil, Nat.zero_add, Nat.reduceAdd]
          (refine wpAnyH_take (i := 0) (v := ?_) rfl (by kernel_rfl) (by kernel_rfl) (by kernel_rfl) (fun _ _ _ h => h) (Or.inl ⟨by rfl, ?_⟩) (by assumption) ?_; rotate_left; (intro W9 hSw; (try dsimp only at hSw); go_simp; (try with_reducible rfl)); (try simp only [Act.put, List.setIfInBounds_toArray, List.set_cons_zero, List.set_cons_succ]))
          (refine wpAnyH_take (i := 1) (v := ?_) rfl (by kernel_rfl) (by kernel_rfl) (by kernel_rfl) (fun _ _ _ h => h) (Or.inl ⟨by rfl, ?_⟩) (by assumption) ?_; rotate_left; (intro W9 hSw; (try dsimp only at hSw); go_simp; (try with_reducible rfl)); (try simp only [Act.put, List.setIfInBounds_toArray, List.set_cons_zero, List.set_cons_succ]))
          (refine wpAnyH_take (i := 2) (v := ?_) rfl (by kernel_rfl) (by kernel_rfl) (by kernel_rfl) (fun _ _ _ h => h) (Or.inl ⟨by rfl, ?_⟩) (by assumption) ?_; rotate_left; (intro W9 hSw; (try dsimp only at hSw); go_simp; (try with_reducible rfl)); (try simp only [Act.put, List.setIfInBounds_toArray, List.set_cons_zero, List.set_cons_succ]))
          (refine wpAnyH_take (i := 3) (v := ?_) rfl (by kernel_rfl) (by kernel_rfl) (by kernel_rfl) (fun _ _ _ h => h) (Or.inl ⟨by rfl, ?_⟩) (by assumption) ?_; rotate_left; (intro W9 hSw; (try dsimp only at hSw); go_simp; (try with_reducible rfl)); (try simp only [Act.put, List.setIfInBounds_toArray, List.set_cons_zero, List.set_cons_succ]))
          (refine wpAnyH_take (i := 4) (v := ?_) rfl (by kernel_rfl) (by kernel_rfl) (by kernel_rfl) (fun _ _ _ h => h) (Or.inl ⟨by rfl, ?_⟩) (by assumption) ?_; rotate_left; (intro W9 hSw; (try dsimp only at hSw); go_simp; (try with_reducible rfl)); (try simp only [Act.put, List.setIfInBounds_toArray, List.set_cons_zero, List.set_cons_succ]))
          (refine wpAnyH_take (i := 5) (v := ?_) rfl (by kernel_rfl) (by kernel_rfl) (by kernel_rfl) (fun _ _ _ h => h) (Or.inl ⟨by rfl, ?_⟩) (by assumption) ?_; rotate_left; (intro W9 hSw; (try dsimp only at hSw); go_simp; (try with_reducible rfl)); (try simp only [Act.put, List.setIfInBounds_toArray, List.set_cons_zero, List.set_cons_succ]))
          (refine wpAnyH_take (i := 6) (v := ?_) rfl (by kernel_rfl) (by kernel_rfl) (by kernel_rfl) (fun _ _ _ h => h) (Or.inl ⟨by rfl, ?_⟩) (by assumption) ?_; rotate_left; (intro W9 hSw; (try dsimp only at hSw); go_simp; (try with_reducible rfl)); (try simp only [Act.put, List.setIfInBounds_toArray, List.set_cons_zero, List.set_cons_succ]))
          (refine wpAnyH_take (i := 7) (v := ?_) rfl (by kernel_rfl) (by kernel_rfl) (by kernel_rfl) (fun _ _ _ h => h) (Or.inl ⟨by rfl, ?_⟩) (by assumption) ?_; rotate_left; (intro W9 hSw; (try dsimp only at hSw); go_simp; (try with_reducible rfl)); (try simp only [Act.put, List.setIfInBounds_toArray, List.set_cons_zero, List.set_cons_succ]))
          (refine wpAnyH_take (i := 8) (v := ?_) rfl (by kernel_rfl) (by kernel_rfl) (by kernel_rfl) (fun _ _ _ h => h) (Or.inl ⟨by rfl, ?_⟩) (by assumption) ?_; rotate_left; (intro W9 hSw; (try dsimp only at hSw); go_simp; (try with_reducible rfl)); (try simp only [Act.put, List.setIfInBounds_toArray, List.set_cons_zero, List.set_cons_succ]))
          (refine wpAnyH_take (i := 9) (v := ?_) rfl (by kernel_rfl) (by kernel_rfl) (by kernel_rfl) (fun _ _ _ h => h) (Or.inl ⟨by rfl, ?_⟩) (by assumption) ?_; rotate_left; (intro W9 hSw; (try dsimp only at hSw); go_simp; (try with_reducible rfl)); (try simp only [Act.put, List.setIfInBounds_toArray, List.set_cons_zero, List.set_cons_succ]))
          refine wpAnyH_done (by kernel_rfl) ?_ _
          refine tailQ_run rfl rfl ?_
          go_simp
          clear hHeld
          go_wp2_with fail
          go_roundw
          case rel => exact ⟨k + 1, by omega, by go_num, by rw [unhide Hstep, unhide Hcons]; exact (unhide HF6).below (Below.refl _ _).drew, ((unhide Tw2).trans (unhide Tw3)).trans ((Two.of_set _ (.inl rfl) _ _).trans (Two.of_below (Below.refl _ _).drew))⟩
          case measure => simp [intOf]; omega

end Go.Proofs.YtmfmfdiphlkdiaaGreat

/- What one wants, and what is used at a bench: the model's l11Want, l11Who, l11Used. Conditions: the smithy can be read; what each theorem names. -/
namespace Go.Proofs.YtmfmfdiphlkdiaaGreat
open Go.ChangeShapes Go.WideShapes Go.ChangeAt Go.RowKit Go.Sort
set_option linter.unusedVariables false

/-- Right guilds, and each smith's is there who is not gone. -/
structure Guilded (m : SmyV) : Prop where
  guilds : guildsB m.guilds = true
  lo : ∀ i, i < m.smiths.length → (recAt m.smiths i).1 ≠ 0 → -1 ≤ (recAt m.smiths i).2.2.2.2.1
  hi : ∀ i, i < m.smiths.length → (recAt m.smiths i).1 ≠ 0 → (recAt m.smiths i).2.2.2.2.1 < m.guilds.length
end Go.Proofs.YtmfmfdiphlkdiaaGreat

/- Whatever is changed, a smithy stays right: each change as plain lists, and that it keeps what is right but for who works. Lists and numbers alone; no condition but those that a theorem names. -/
namespace Go.Proofs.YtmfmfdiphlkdiaaGreat
open Go.ChangeShapes Go.WideShapes Go.ChangeAt Go.RowKit Go.Sort
set_option linter.unusedVariables false

theorem here_iff {m : SmyV} {s : SmithV} : hereB m s = true ↔ s = zeroS ∨ (presB s = true ∧ s.2.2.2.2.1 < m.guilds.length ∧ s.2.1 < m.desks.length) := by
  unfold hereB smithB
  simp only [Bool.and_eq_true, Bool.or_eq_true, decide_eq_true_eq]
  constructor
  · rintro ⟨hg | hp, hr⟩
    · exact .inl (goneB_of hg)
    · right
      refine ⟨hp, ?_⟩
      rcases hr with e | e
      · have : s.1 = 0 := by simpa using e
        rw [presB_st this] at hp
        cases hp
      · exact e
  · rintro (rfl | ⟨hp, hr⟩)
    · exact ⟨.inl goneB_zero, .inl rfl⟩
    · exact ⟨.inr hp, .inr hr⟩
theorem smy_loose {m : SmyV} (h : smyB m = true) : Loose m := by
  unfold smyB at h
  simp only [Bool.and_eq_true] at h
  exact loose_of h.1

/-- One who is there and not gone: all of its limits. -/
theorem Loose.limits {m : SmyV} (h : Loose m) {k : Nat} (hk : k < m.smiths.length) (hs : (recAt m.smiths k).1 ≠ 0) : presB (recAt m.smiths k) = true ∧ (recAt m.smiths k).2.2.2.2.1 < m.guilds.length ∧ (recAt m.smiths k).2.1 < m.desks.length := by
  rcases here_iff.1 (h.here k hk) with e | e
  · rw [e] at hs; exact absurd rfl hs
  · exact e

end Go.Proofs.YtmfmfdiphlkdiaaGreat

/- Rest, Leave, Ranked, Limited, Granted, Opened, joined: as plain lists; and each keeps a smithy right. Lists and numbers alone; no condition but those that a theorem names. -/
namespace Go.Proofs.YtmfmfdiphlkdiaaGreat
open Go.ChangeShapes Go.WideShapes Go.ChangeAt Go.RowKit Go.Sort
set_option linter.unusedVariables false

def zeroM : SmyV := ⟨[], [], [], [], [], 0⟩
theorem few_of {m : SmyV} (h : Loose m) : Few m := by
  have hd := h.head
  unfold headB at hd
  simp only [Bool.and_eq_true, decide_eq_true_eq] at hd
  obtain ⟨h1, h2, h3, h4, h5, _⟩ := hd
  obtain ⟨r1, r2, r3, r4⟩ := hallB_of h1
  have hg := (guildsB_of h2).2
  refine ⟨by omega, fun r hr => ?_, by omega, by omega, by omega, by omega⟩
  have hrb := List.all_eq_true.1 r3 r hr
  unfold roomB at hrb
  simp only [Bool.and_eq_true] at hrb
  have := inB_of hrb.2.1
  omega
end Go.Proofs.YtmfmfdiphlkdiaaGreat

/- What a smithy must be for what it costs and which bench is chosen to be told: lists alone. No condition but those that a theorem names. -/
namespace Go.Proofs.YtmfmfdiphlkdiaaGreat
open Go.ChangeShapes Go.WideShapes Go.ChangeAt Go.RowKit Go.Sort
set_option linter.unusedVariables false

structure Sane (m : SmyV) : Prop where
  hall : hallB m.rooms = true
  desks : (m.desks.length : Int) = benchSum m.rooms
  guilded : Guilded m
  few : m.smiths.length ≤ 12
theorem Sane.eight {m : SmyV} (h : Sane m) : m.desks.length ≤ 8 := by have := (hallB_of h.hall).2.2.2; have := h.desks; omega
theorem Loose.sane {m : SmyV} (h : Loose m) : Sane m := by
  have hd := h.head
  unfold headB at hd
  simp only [Bool.and_eq_true, decide_eq_true_eq] at hd
  obtain ⟨h1, h2, h3, h4, _⟩ := hd
  refine ⟨h1, h4, ⟨h2, fun i hi hs => ?_, fun i hi hs => (h.limits hi hs).2.1⟩, h3⟩
  have hp := (h.limits hi hs).1
  generalize recAt m.smiths i = s at *
  obtain ⟨st, be, rk, my, gu, lo', hi', hd, ca, ut, wk⟩ := s
  exact (presB_of hp).2.2.2.2.1.1
end Go.Proofs.YtmfmfdiphlkdiaaGreat

/- Come, Wake, Allowed, joined, asked, Ticked: as plain lists; and each keeps a smithy right. Lists and numbers alone; no condition but those that a theorem names. -/
namespace Go.Proofs.YtmfmfdiphlkdiaaGreat
open Go.ChangeShapes Go.WideShapes Go.ChangeAt Go.RowKit Go.Sort
set_option linter.unusedVariables false

theorem smy_twelve {m : SmyV} (h : Loose m) : m.smiths.length ≤ 12 := by
  have hd := h.head
  unfold headB at hd
  simp only [Bool.and_eq_true, decide_eq_true_eq] at hd
  exact hd.2.2.1
end Go.Proofs.YtmfmfdiphlkdiaaGreat

/- What the program asks of a smithy, as plain lists; and that it is what the model asks. Lists and numbers alone; no condition but those that a theorem names. -/
namespace Go.Proofs.YtmfmfdiphlkdiaaGreat
open Go.ChangeShapes Go.WideShapes Go.ChangeAt Go.RowKit Go.Sort
set_option linter.unusedVariables false

/-- Of the first k, the places where it is so. -/
def whereTo {α : Type} [Inhabited α] (p : α → Bool) (xs : List α) : Nat → List Int
  | 0 => []
  | k + 1 => if p (recAt xs k) then whereTo p xs k ++ [(k : Int)] else whereTo p xs k
theorem whereTo_yes {α : Type} [Inhabited α] {p : α → Bool} {xs : List α} {k : Nat} (h : p (recAt xs k) = true) : whereTo p xs (k + 1) = whereTo p xs k ++ [(k : Int)] := by rw [whereTo, if_pos h]
theorem whereTo_no {α : Type} [Inhabited α] {p : α → Bool} {xs : List α} {k : Nat} (h : p (recAt xs k) = false) : whereTo p xs (k + 1) = whereTo p xs k := by rw [whereTo, if_neg (by simp [h])]
theorem whereTo_len {α : Type} [Inhabited α] (p : α → Bool) (xs : List α) : ∀ k, (whereTo p xs k).length ≤ k
  | 0 => Nat.le_refl _
  | k + 1 => by
    have := whereTo_len p xs k
    unfold whereTo
    split
    · simp; omega
    · omega
theorem whereTo_mem {α : Type} [Inhabited α] (p : α → Bool) (xs : List α) (x : Int) : ∀ k, x ∈ whereTo p xs k ↔ ∃ i : Nat, i < k ∧ x = (i : Int) ∧ p (recAt xs i) = true
  | 0 => by simp [whereTo]
  | k + 1 => by
    have ih := whereTo_mem p xs x k
    cases h : p (recAt xs k)
    · rw [whereTo_no h, ih]
      constructor
      · rintro ⟨i, hi, h1, h2⟩
        exact ⟨i, by omega, h1, h2⟩
      · rintro ⟨i, hi, h1, h2⟩
        by_cases hik : i = k
        · subst hik; rw [h] at h2; cases h2
        · exact ⟨i, by omega, h1, h2⟩
    · rw [whereTo_yes h, List.mem_append, ih]
      constructor
      · rintro (⟨i, hi, h1, h2⟩ | h1)
        · exact ⟨i, by omega, h1, h2⟩
        · exact ⟨k, by omega, by simpa using h1, h⟩
      · rintro ⟨i, hi, h1, h2⟩
        by_cases hik : i = k
        · subst hik; right; simp [h1]
        · exact .inl ⟨i, by omega, h1, h2⟩
theorem whereTo_any {α : Type} [Inhabited α] (p : α → Bool) (xs : List α) : ∀ k, decide (0 < (whereTo p xs k).length) = (List.range k).any fun j => p (recAt xs j)
  | 0 => rfl
  | k + 1 => by
    have ih := whereTo_any p xs k
    rw [any_up, ← ih]
    cases h : p (recAt xs k)
    · rw [whereTo_no h]; simp
    · rw [whereTo_yes h]; simp
def allTo {α : Type} [Inhabited α] (p : α → Bool) (xs : List α) (k : Nat) : Bool := (List.range k).all fun j => p (recAt xs j)
theorem allTo_no {α : Type} [Inhabited α] {p : α → Bool} {xs : List α} {k n : Nat} (hk : k < n) (h : p (recAt xs k) = false) : allTo p xs n = false := all_no (p := fun j => p (recAt xs j)) hk h
theorem allTo_up {α : Type} [Inhabited α] {p : α → Bool} {xs : List α} {k : Nat} (h : allTo p xs k = true) (h2 : p (recAt xs k) = true) : allTo p xs (k + 1) = true := by unfold allTo at h ⊢; rw [all_up, h, h2]; rfl
theorem allTo_and {α : Type} [Inhabited α] (p q : α → Bool) (xs : List α) : ∀ k, (allTo p xs k && allTo q xs k) = allTo (fun x => p x && q x) xs k
  | 0 => rfl
  | k + 1 => by
    have ih := allTo_and p q xs k
    unfold allTo at ih ⊢
    rw [all_up, all_up, all_up, ← ih]
    generalize ((List.range k).all fun j => p (recAt xs j)) = a
    generalize ((List.range k).all fun j => q (recAt xs j)) = b
    cases a <;> cases b <;> cases hp : p (recAt xs k) <;> cases hq : q (recAt xs k) <;> simp [hp, hq]
theorem allTo_congr {α : Type} [Inhabited α] {p q : α → Bool} (xs : List α) (h : ∀ x, p x = q x) (k : Nat) : allTo p xs k = allTo q xs k := by unfold allTo; congr 1; funext j; exact h _

def hasB (n : Nat) (i : Int) : Bool := decide (0 ≤ i) && decide (i < n)
def atB (b : Int) (s : SmithV) : Bool := (s.1 == 2 || s.1 == 3) && s.2.1 == b
def worksB (b : Int) (s : SmithV) : Bool := s.1 == 3 && s.2.1 == b
def thereB (n : Nat) (s : SmithV) : Bool := s.1 == 0 || (s.2.2.2.2.1 == -1 || hasB n s.2.2.2.2.1)
def placeB (ds : List DeskV) (s : SmithV) : Bool := s.1 == 0 || (hasB ds.length s.2.1 && (s.1 == 1 || ((recAt ds s.2.1.toNat).1 && (memB s.2.2.2.1 s.2.1 && inBandB s.2.2.2.2.2.2.2.1 (recAt ds s.2.1.toNat).2.2))))
def smithsIB (ss : List SmithV) (n : Nat) : Bool := decide (ss.length ≤ 12) && (allTo smithB ss ss.length && allTo (thereB n) ss ss.length)
def desksIB (ds : List DeskV) (n : Int) : Bool := decide ((ds.length : Int) = n) && (allTo deskB ds ds.length && decide (0 < (whereTo (fun d : DeskV => d.1) ds ds.length).length))
def pacesIB (ps : List Int) (rs : List RoomV) : Bool := decide (ps.length = rs.length) && (List.range ps.length).all fun j => hasB (roomAt rs j).2.length (recAt ps j)
def partsIB (m : SmyV) : Bool := hallB m.rooms && (guildsB m.guilds && (smithsIB m.smiths m.guilds.length && (desksIB m.desks (benchSum m.rooms) && (pacesIB m.paces m.rooms && inB m.now 0 1000000))))
def inPlaceIB (m : SmyV) : Bool := partsIB m && allTo (placeB m.desks) m.smiths m.smiths.length
def turnIB (m : SmyV) (b : Nat) : Bool := if (recAt m.desks b).2.1 = -1 then decide ((whereTo (atB b) m.smiths m.smiths.length).length = 0) else decide ((whereTo (worksB b) m.smiths m.smiths.length).length = 1) && decide (recAt (whereTo (worksB b) m.smiths m.smiths.length) 0 = (recAt m.desks b).2.1)
def turnsIB (m : SmyV) : Bool := (List.range m.desks.length).all (turnIB m)
def smyIB (m : SmyV) : Bool := inPlaceIB m && turnsIB m

theorem band_same (h m : Int) : inBandB h m = bandB h m := by
  unfold inBandB bandB hadB
  rw [Bool.and_assoc]
theorem one_same (m : SmyV) (s : SmithV) : (smithB s && (thereB m.guilds.length s && placeB m.desks s)) = (hereB m s && seatB m s) := by
  cases hs : smithB s
  · unfold hereB; rw [hs]; rfl
  · have hh : hereB m s = (s.1 == 0 || (decide (s.2.2.2.2.1 < m.guilds.length) && decide (s.2.1 < m.desks.length))) := by unfold hereB; rw [hs]; rfl
    rw [hh, Bool.true_and]
    unfold smithB at hs
    simp only [Bool.or_eq_true] at hs
    rcases hs with hg | hp
    · have e := goneB_of hg
      subst e
      rfl
    · obtain ⟨st, be, rk, my, gu, lo, hi, hd, ca, ut, wk⟩ := s
      obtain ⟨⟨s1, s2⟩, ⟨b1, b2⟩, _, ⟨m1, m2⟩, ⟨g1, g2⟩, _⟩ := presB_of hp
      have hmem : memB my be = bitB my be := memB_t (inB_t (by omega) (by omega)) (inB_t (by omega) (by omega))
      have hst0 : (st == 0) = false := by simp; omega
      have hgu : (gu == -1 || hasB m.guilds.length gu) = decide (gu < m.guilds.length) := by
        unfold hasB
        by_cases e : gu = -1
        · subst e; simp; omega
        · have : (gu == -1) = false := by simpa using e
          rw [this, Bool.false_or, show decide (0 ≤ gu) = true from decide_eq_true (by omega), Bool.true_and]
      have hbe : hasB m.desks.length be = decide (be < m.desks.length) := by
        unfold hasB
        rw [show decide (0 ≤ be) = true from decide_eq_true (by omega), Bool.true_and]
      have hpr : presS (st, be, rk, my, gu, lo, hi, hd, ca, ut, wk) = !(st == 1) := by
        unfold presS
        rcases (by omega : st = 1 ∨ st = 2 ∨ st = 3) with e | e | e <;> subst e <;> rfl
      unfold thereB placeB seatB
      simp only
      rw [hst0, hgu, hbe, hpr, hmem, band_same, Bool.not_not]
      simp only [Bool.false_or, Bool.and_assoc]
theorem scan_same (ss : List SmithV) (b : Int) : ∀ k : Nat,
    (match scanV ss b k with
      | none => 2 ≤ (whereTo (worksB b) ss k).length
      | some (wk, wt) => ((wk = -1 ∧ whereTo (worksB b) ss k = []) ∨ (0 ≤ wk ∧ whereTo (worksB b) ss k = [wk])) ∧ ((whereTo (atB b) ss k = []) ↔ (whereTo (worksB b) ss k = [] ∧ wt = false)))
  | 0 => by simp [scanV, whereTo]
  | k + 1 => by
    have ih := scan_same ss b k
    unfold scanV
    cases hsc : scanV ss b k with
    | none =>
      rw [hsc] at ih
      simp only at ih ⊢
      unfold whereTo
      split
      · simp; omega
      · exact ih
    | some r =>
      obtain ⟨wk, wt⟩ := r
      rw [hsc] at ih
      simp only at ih ⊢
      by_cases hat : (recAt ss k).2.1 = b ∧ presS (recAt ss k) = true
      · rw [if_pos hat]
        have hA : atB b (recAt ss k) = true := by
          have h2 := hat.2
          unfold presS at h2
          unfold atB
          rw [h2, hat.1]; simp
        by_cases h2 : (recAt ss k).1 = 2
        · rw [if_pos h2]
          have hW : worksB b (recAt ss k) = false := by unfold worksB; rw [h2]; rfl
          rw [whereTo_no hW, whereTo_yes hA]
          exact ⟨ih.1, by simp⟩
        · rw [if_neg h2]
          have h3 : (recAt ss k).1 = 3 := by
            have := hat.2
            unfold presS at this
            simp only [Bool.or_eq_true, beq_iff_eq] at this
            omega
          have hW : worksB b (recAt ss k) = true := by unfold worksB; rw [h3, hat.1]; simp
          rw [whereTo_yes hW, whereTo_yes hA]
          by_cases hwk : 0 ≤ wk
          · rw [if_pos hwk]
            rcases ih.1 with ⟨e, _⟩ | ⟨_, e⟩
            · omega
            · simp only
              rw [e]; simp
          · rw [if_neg hwk]
            rcases ih.1 with ⟨_, e⟩ | ⟨e, _⟩
            · simp only
              rw [e]; simp
            · omega
      · rw [if_neg hat]
        have hA : atB b (recAt ss k) = false := by
          cases hc : atB b (recAt ss k)
          · rfl
          · exfalso
            apply hat
            unfold atB at hc
            simp only [Bool.and_eq_true, beq_iff_eq] at hc
            exact ⟨hc.2, by unfold presS; exact hc.1⟩
        have hW : worksB b (recAt ss k) = false := by
          cases hc : worksB b (recAt ss k)
          · rfl
          · exfalso
            apply hat
            unfold worksB at hc
            simp only [Bool.and_eq_true, beq_iff_eq] at hc
            exact ⟨hc.2, by unfold presS; rw [hc.1]; rfl⟩
        rw [whereTo_no hW, whereTo_no hA]
        exact ih
theorem turn_same (m : SmyV) (b : Nat) : turnIB m b = benchOkB m b := by
  have h := scan_same m.smiths b m.smiths.length
  unfold turnIB benchOkB
  cases hsc : scanV m.smiths b m.smiths.length with
  | none =>
    rw [hsc] at h
    simp only at h ⊢
    split
    · have : whereTo (atB b) m.smiths m.smiths.length ≠ [] := by
        intro e
        have hx : recAt (whereTo (worksB b) m.smiths m.smiths.length) 0 ∈ whereTo (worksB b) m.smiths m.smiths.length := recAt_mem (by omega)
        obtain ⟨i, hi, _, hw⟩ := (whereTo_mem _ _ _ _).1 hx
        have : (i : Int) ∈ whereTo (atB b) m.smiths m.smiths.length := (whereTo_mem _ _ _ _).2 ⟨i, hi, rfl, by
          unfold worksB at hw
          simp only [Bool.and_eq_true, beq_iff_eq] at hw
          unfold atB
          rw [hw.1, hw.2]; simp⟩
        rw [e] at this
        cases this
      simp only [List.length_eq_zero_iff, this, decide_false]
    · rw [show decide ((whereTo (worksB b) m.smiths m.smiths.length).length = 1) = false from decide_eq_false (by omega), Bool.false_and]
  | some r =>
    obtain ⟨wk, wt⟩ := r
    rw [hsc] at h
    simp only at h ⊢
    obtain ⟨h1, h2⟩ := h
    generalize whereTo (worksB b) m.smiths m.smiths.length = ws at *
    generalize whereTo (atB b) m.smiths m.smiths.length = az at *
    generalize (recAt m.desks b).2.1 = who at *
    by_cases hw : who = -1
    · subst hw
      simp only [if_true, List.length_eq_zero_iff]
      rcases h1 with ⟨rfl, rfl⟩ | ⟨hk, rfl⟩
      · cases wt
        · simp at h2; simp [h2]
        · simp at h2; simp [h2]
      · have hne : az ≠ [] := by
          intro e
          have := (h2.1 e).1
          cases this
        have : ((-1 : Int) == wk) = false := by simp; omega
        rw [this]
        simp [hne]
    · rw [if_neg hw]
      rcases h1 with ⟨rfl, rfl⟩ | ⟨hk, rfl⟩
      · have : (who == -1) = false := by simpa using hw
        rw [this]; simp
      · have h0 : decide (wk < 0) = false := decide_eq_false (by omega)
        rw [h0, Bool.and_false, Bool.not_false, Bool.and_true]
        simp only [List.length_cons, List.length_nil, decide_true, Bool.true_and]
        show decide (wk = who) = (who == wk)
        by_cases e : wk = who
        · subst e; simp
        · rw [decide_eq_false e]; symm; simp; omega
theorem has_in (n : Nat) (i : Int) : hasB n i = inB i 0 ((n : Int) - 1) := by
  unfold hasB inB
  by_cases h0 : 0 ≤ i <;> by_cases h1 : i < n
  · rw [decide_eq_true h0, decide_eq_true h1, decide_eq_true (show 0 ≤ i ∧ i ≤ (n : Int) - 1 by omega)]; rfl
  · rw [decide_eq_true h0, decide_eq_false h1, decide_eq_false (show ¬ (0 ≤ i ∧ i ≤ (n : Int) - 1) by omega)]; rfl
  · rw [decide_eq_false h0, decide_eq_false (show ¬ (0 ≤ i ∧ i ≤ (n : Int) - 1) by omega)]; rfl
  · rw [decide_eq_false h0, decide_eq_false (show ¬ (0 ≤ i ∧ i ≤ (n : Int) - 1) by omega)]; rfl
theorem loose_same (m : SmyV) : inPlaceIB m = looseB m := by
  have e1 : upSmiths m m.smiths.length = (allTo smithB m.smiths m.smiths.length && (allTo (thereB m.guilds.length) m.smiths m.smiths.length && allTo (placeB m.desks) m.smiths m.smiths.length)) := by
    rw [allTo_and, allTo_and]
    exact (allTo_congr m.smiths (one_same m) m.smiths.length).symm
  have e2 : pacesIB m.paces m.rooms = (decide (m.paces.length = m.rooms.length) && upPaces m m.paces.length) := by
    unfold pacesIB upPaces
    congr 2
    funext j
    unfold paceInB
    exact has_in _ _
  have e3 : decide (0 < (whereTo (fun d : DeskV => d.1) m.desks m.desks.length).length) = upOpen m m.desks.length := whereTo_any _ _ _
  unfold inPlaceIB partsIB looseB headB smithsIB desksIB
  rw [e1, e2, e3]
  have e4 : allTo deskB m.desks m.desks.length = upDesks m m.desks.length := rfl
  rw [e4]
  generalize hallB m.rooms = x1
  generalize guildsB m.guilds = x2
  generalize decide (m.smiths.length ≤ 12) = x3
  generalize allTo smithB m.smiths m.smiths.length = x4
  generalize allTo (thereB m.guilds.length) m.smiths m.smiths.length = x5
  generalize decide ((m.desks.length : Int) = benchSum m.rooms) = x6
  generalize upDesks m m.desks.length = x7
  generalize upOpen m m.desks.length = x8
  generalize decide (m.paces.length = m.rooms.length) = x9
  generalize upPaces m m.paces.length = x10
  generalize inB m.now 0 1000000 = x11
  generalize allTo (placeB m.desks) m.smiths m.smiths.length = x12
  rw [Bool.eq_iff_iff]
  simp only [Bool.and_eq_true]
  constructor
  · rintro ⟨⟨a1, a2, ⟨a3, a4, a5⟩, ⟨a6, a7, a8⟩, ⟨a9, a10⟩, a11⟩, a12⟩
    exact ⟨⟨a1, a2, a3, a6, a9, a11⟩, a7, a10, ⟨a4, a5, a12⟩, a8⟩
  · rintro ⟨⟨a1, a2, a3, a6, a9, a11⟩, a7, a10, ⟨a4, a5, a12⟩, a8⟩
    exact ⟨⟨a1, a2, ⟨a3, a4, a5⟩, ⟨a6, a7, a8⟩, ⟨a9, a10⟩, a11⟩, a12⟩
theorem smy_same (m : SmyV) : smyIB m = smyB m := by
  unfold smyIB smyB turnsIB
  rw [loose_same, show turnIB m = benchOkB m from funext (turn_same m)]

/-! ### The program's queue -/
/-- Those of a list of places, put into a queue one after the other. -/
def queueOf (ss : List SmithV) (ps : List Int) : List PaceV := ps.foldl (fun q i => putV q (hadS (recAt ss i.toNat), i)) []
theorem queueOf_snoc (ss : List SmithV) (ps : List Int) (i : Int) : queueOf ss (ps ++ [i]) = putV (queueOf ss ps) (hadS (recAt ss i.toNat), i) := by unfold queueOf; rw [List.foldl_append]; rfl
theorem queueOf_at (ss : List SmithV) (b : Int) : ∀ k, queueOf ss (whereTo (atB b) ss k) = atV ss b k
  | 0 => rfl
  | k + 1 => by
    have ih := queueOf_at ss b k
    by_cases hat : (recAt ss k).2.1 = b ∧ presS (recAt ss k) = true
    · have hA : atB b (recAt ss k) = true := by
        have h2 := hat.2
        unfold presS at h2
        unfold atB
        rw [h2, hat.1]; simp
      rw [whereTo_yes hA, queueOf_snoc, ih, atV_yes hat.1 hat.2]
      rfl
    · have hA : atB b (recAt ss k) = false := by
        cases hc : atB b (recAt ss k)
        · rfl
        · exfalso
          apply hat
          unfold atB at hc
          simp only [Bool.and_eq_true, beq_iff_eq] at hc
          exact ⟨hc.2, by unfold presS; exact hc.1⟩
      rw [whereTo_no hA, atV_no hat, ih]
theorem take_snoc_at {ps : List Int} {k : Nat} (h : k < ps.length) : ps.take (k + 1) = ps.take k ++ [recAt ps k] := by
  unfold recAt
  rw [List.take_add_one, List.getD, List.getElem?_eq_getElem h]; rfl
/-- Who is at a bench of what is right but for who works can be queued. -/
theorem at_queue {m : SmyV} (h : Loose m) (b : Int) (k : Nat) (hk : k ≤ m.smiths.length) : queueB (atV m.smiths b k) = true := by
  have hd := h.head
  unfold headB at hd
  simp only [Bool.and_eq_true, decide_eq_true_eq] at hd
  have hl := atV_len m.smiths b k
  have h12 := hd.2.2.1
  refine queueB_isQ ⟨by omega, fun p hp => ?_, ?_, atV_whos _ _ _⟩
  · obtain ⟨i, hi, h1, h2, rfl⟩ := (atV_mem m.smiths b p k).1 hp
    have := bandB_of (h.at (i := i) (by omega) h2).2.2.2.2
    unfold entB
    rw [inB_t (by omega) (by omega), inB_t (by omega) (by show (i : Int) ≤ 99; omega)]; rfl
  · refine ((atV_ris m.smiths b k).and (atV_whos m.smiths b k)).imp fun {x y} hxy => ?_
    have h1 := hxy.1
    have h2 := hxy.2
    rw [ltB_f] at h1
    rw [ltB_t]
    omega
theorem whereTo_sub {α : Type} [Inhabited α] (p : α → Bool) (xs : List α) : ∀ n k : Nat, ∃ j, j ≤ n ∧ (whereTo p xs n).take k = whereTo p xs j
  | 0, k => ⟨0, Nat.le_refl _, by simp [whereTo]⟩
  | n + 1, k => by
    obtain ⟨j, hj, e⟩ := whereTo_sub p xs n k
    cases h : p (recAt xs n)
    · rw [whereTo_no h]; exact ⟨j, by omega, e⟩
    · rw [whereTo_yes h]
      by_cases hk : k ≤ (whereTo p xs n).length
      · rw [List.take_append_of_le_length hk]; exact ⟨j, by omega, e⟩
      · refine ⟨n + 1, Nat.le_refl _, ?_⟩
        rw [whereTo_yes h, List.take_of_length_le (by simp; omega)]
/-- As far as it goes, the program's queue is right. -/
theorem part_queue {m : SmyV} (h : Loose m) (b : Int) (k : Nat) : queueB (queueOf m.smiths ((whereTo (atB b) m.smiths m.smiths.length).take k)) = true := by
  obtain ⟨j, hj, e⟩ := whereTo_sub (atB b) m.smiths m.smiths.length k
  rw [e, queueOf_at]
  exact at_queue h b j hj

end Go.Proofs.YtmfmfdiphlkdiaaGreat

/- Misfit, Waiting, Levelled as plain lists: each move keeps a smithy right, and there is an end of moves. Lists and numbers alone; no condition but those that a theorem names. -/
namespace Go.Proofs.YtmfmfdiphlkdiaaGreat
open Go.ChangeShapes Go.WideShapes Go.ChangeAt Go.RowKit Go.Sort
set_option linter.unusedVariables false

/-! ### Counting -/
def idleB (m : SmyV) (b : Nat) : Bool := (recAt m.desks b).1 && decide ((atV m.smiths b m.smiths.length).length = 0)
end Go.Proofs.YtmfmfdiphlkdiaaGreat

