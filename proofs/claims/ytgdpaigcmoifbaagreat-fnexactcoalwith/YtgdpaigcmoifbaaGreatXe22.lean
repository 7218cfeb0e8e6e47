/- Part 22 of what the proof rests on. No condition but those that a theorem names. -/
import Derived.Test.YtgdpaigcmoifbaaGreatXe13
import Derived.Test.YtgdpaigcmoifbaaGreatXe17
import Derived.Test.YtgdpaigcmoifbaaGreatXe18
set_option maxHeartbeats 8000000
set_option maxRecDepth 100000
namespace Go.Proofs.YtgdpaigcmoifbaaGreat
open Go.ChangeShapes Go.WideShapes Go.ChangeAt Go.RowKit Go.Sort Go.Proofs.Tryz
set_option linter.unusedVariables false
set_option maxRecDepth 100000
def openD1 (d : DeskV) : Bool := d.1
theorem hasDesk_any (a : Option Addr) (n cap : Nat) (i : Int) (w : World) : cE 124 #[.slice a n cap, .int .i64 i] w (.bool (hasB n i)) := by
 by_cases h0 : 0 ≤ i
 ·by_cases h1 : i < (n : Int)
  all_goals
   go_enter func124, ntmps124
   go_wp2_with fail
   go_ret
   exact ⟨ret_bool (by unfold hasB; simp [h0, h1]), rfl⟩
 ·go_enter func124, ntmps124
  go_wp2_with fail
  go_ret
  exact ⟨ret_bool (by unfold hasB; simp; omega), rfl⟩
theorem hasSmith_any (a : Option Addr) (n cap : Nat) (i : Int) (w : World) : cE 182 #[.slice a n cap, .int .i64 i] w (.bool (hasB n i)) := by
 by_cases h0 : 0 ≤ i
 ·by_cases h1 : i < (n : Int)
  all_goals
   go_enter func182, ntmps182
   go_wp2_with fail
   go_ret
   exact ⟨ret_bool (by unfold hasB; simp [h0, h1]), rfl⟩
 ·go_enter func182, ntmps182
  go_wp2_with fail
  go_ret
  exact ⟨ret_bool (by unfold hasB; simp; omega), rfl⟩
theorem hasGuild_any (a : Option Addr) (n cap : Nat) (i : Int) (w : World) : cE 296 #[.slice a n cap, .int .i64 i] w (.bool (hasB n i)) := by
 by_cases h0 : 0 ≤ i
 ·by_cases h1 : i < (n : Int)
  all_goals
   go_enter func296, ntmps296
   go_wp2_with fail
   go_ret
   exact ⟨ret_bool (by unfold hasB; simp [h0, h1]), rfl⟩
 ·go_enter func296, ntmps296
  go_wp2_with fail
  go_ret
  exact ⟨ret_bool (by unfold hasB; simp; omega), rfl⟩
theorem hasPace_any (a : Option Addr) (n cap : Nat) (i : Int) (w : World) : cE 254 #[.slice a n cap, .int .i64 i] w (.bool (hasB n i)) := by
 by_cases h0 : 0 ≤ i
 ·by_cases h1 : i < (n : Int)
  all_goals
   go_enter func254, ntmps254
   go_wp2_with fail
   go_ret
   exact ⟨ret_bool (by unfold hasB; simp [h0, h1]), rfl⟩
 ·go_enter func254, ntmps254
  go_wp2_with fail
  go_ret
  exact ⟨ret_bool (by unfold hasB; simp; omega), rfl⟩
theorem isGone_any (st be rk my gu lo hi hd ca ut wk : Int) (w : World) : cB 183 #[.agg (I11 st be rk my gu lo hi hd ca ut wk)] w (.bool (st == 0)) := by
 go_enter func183, ntmps183
 go_wp2_with fail
 go_ret
 exact ⟨rfl, (ba _ _)⟩
theorem isAway_any (st be rk my gu lo hi hd ca ut wk : Int) (w : World) : cB 220 #[.agg (I11 st be rk my gu lo hi hd ca ut wk)] w (.bool (st == 1)) := by
 go_enter func220, ntmps220
 go_wp2_with fail
 go_ret
 exact ⟨rfl, (ba _ _)⟩
theorem isOpen_any (op : Bool) (who mk : Int) (w : World) : cB 125 #[.agg #[.bool op, .int .i64 who, .int .i64 mk]] w (.bool op) := by
 go_enter func125, ntmps125
 go_wp2_with fail
 go_ret
 exact ⟨rfl, (ba _ _)⟩
theorem hasMark_any (op : Bool) (who mk : Int) (w : World) : cB 252 #[.agg #[.bool op, .int .i64 who, .int .i64 mk]] w (.bool (deskB (op, who, mk))) := by
 go_enter func252, ntmps252
 go_wp2_with fail
 refine (liesFrom_any _ _ _ _).mono ?_
 rintro e w' ⟨rfl, h9⟩
 subst w'
 go_wp2_with fail
 go_ret
 exact ⟨rfl, (ba _ _)⟩
theorem isAt_any (st be rk my gu lo hi hd ca ut wk b : Int) (w : World) : cB 210 #[.agg (I11 st be rk my gu lo hi hd ca ut wk), .int .i64 b] w (.bool (atB b (st, be, rk, my, gu, lo, hi, hd, ca, ut, wk))) := by
 by_cases h2 : st = 2
 ·subst h2
  go_enter func210, ntmps210
  go_wp2_with fail
  go_ret
  exact ⟨ret_bool (by unfold atB; simp), (ba _ _)⟩
 have n2 : (st == 2) = false := by simpa using h2
 by_cases h3 : st = 3
 ·subst h3
  go_enter func210, ntmps210
  go_wp2_with fail
  go_ret
  exact ⟨ret_bool (by unfold atB; simp), (ba _ _)⟩
 have n3 : (st == 3) = false := by simpa using h3
 go_enter func210, ntmps210
 go_wp2_with fail
 go_ret
 exact ⟨ret_bool (by unfold atB; simp [n2, n3]), (ba _ _)⟩
theorem worksAt_any (st be rk my gu lo hi hd ca ut wk b : Int) (w : World) : cB 292 #[.agg (I11 st be rk my gu lo hi hd ca ut wk), .int .i64 b] w (.bool (worksB b (st, be, rk, my, gu, lo, hi, hd, ca, ut, wk))) := by
 by_cases h3 : st = 3
 ·subst h3
  go_enter func292, ntmps292
  go_wp2_with fail
  go_ret
  exact ⟨ret_bool (by unfold worksB; simp), (ba _ _)⟩
 have n3 : (st == 3) = false := by simpa using h3
 go_enter func292, ntmps292
 go_wp2_with fail
 go_ret
 exact ⟨ret_bool (by unfold worksB; simp [n3]), (ba _ _)⟩
theorem whoIsAt1_any (st be rk my gu lo hi hd ca ut wk b : Int) (R : Nat) (w : World) (hc : w.cell? ⟨R, 0, none⟩ = some (.int .i64 b)) (hR : R < w.heap.size) : cB 209 #[.agg (I11 st be rk my gu lo hi hd ca ut wk), .pointer (some ⟨R, 0, none⟩)] w (.bool (atB b (st, be, rk, my, gu, lo, hi, hd, ca, ut, wk))) := by
 have hne : R ≠ w.heap.size := alNol hR
 go_enter func209, ntmps209
 go_wp2_with fail
 refine ck (isAt_any st be rk my gu lo hi hd ca ut wk b _) fun w1 hb => ?_
 have Hb := hide (((alBrf w.heap.size w).alloc (alNlr _) _).trans (hb.mono (by simp)))
 clear hb
 go_wp2_with fail
 go_ret
 exact ⟨rfl, uh Hb⟩
theorem whoWorksAt1_any (st be rk my gu lo hi hd ca ut wk b : Int) (R : Nat) (w : World) (hc : w.cell? ⟨R, 0, none⟩ = some (.int .i64 b)) (hR : R < w.heap.size) : cB 291 #[.agg (I11 st be rk my gu lo hi hd ca ut wk), .pointer (some ⟨R, 0, none⟩)] w (.bool (worksB b (st, be, rk, my, gu, lo, hi, hd, ca, ut, wk))) := by
 have hne : R ≠ w.heap.size := alNol hR
 go_enter func291, ntmps291
 go_wp2_with fail
 refine ck (worksAt_any st be rk my gu lo hi hd ca ut wk b _) fun w1 hb => ?_
 have Hb := hide (((alBrf w.heap.size w).alloc (alNlr _) _).trans (hb.mono (by simp)))
 clear hb
 go_wp2_with fail
 go_ret
 exact ⟨rfl, uh Hb⟩
theorem guildIsThere_any (st be rk my gu lo hi hd ca ut wk : Int) (a : Option Addr) (n cap : Nat) (w : World) : cB 250 #[.agg (I11 st be rk my gu lo hi hd ca ut wk), .slice a n cap] w (.bool (thereB n (st, be, rk, my, gu, lo, hi, hd, ca, ut, wk))) := by
 have hx : ∀ q : Bool, Calls prog 250 #[.agg (I11 st be rk my gu lo hi hd ca ut wk), .slice a n cap] w (fun e w' => e = .returned (.bool q) ∧ Below w.heap.size w w') → q = thereB n (st, be, rk, my, gu, lo, hi, hd, ca, ut, wk) → cB 250 #[.agg (I11 st be rk my gu lo hi hd ca ut wk), .slice a n cap] w (.bool (thereB n (st, be, rk, my, gu, lo, hi, hd, ca, ut, wk))) := fun q h e => by rw [← e]; exact h
 by_cases h0 : st = 0
 ·subst h0
  refine hx true ?_ (by unfold thereB; simp)
  go_enter func250, ntmps250
  go_wp2_with fail
  refine ck (isGone_any 0 be rk my gu lo hi hd ca ut wk _) fun w1 hb => ?_
  have Hb := hide (((alBrf w.heap.size w).alloc (alNlr _) _).trans (hb.mono (by simp)))
  clear hb
  go_wp2_with fail
  go_ret
  exact ⟨rfl, uh Hb⟩
 have n0 : (st == 0) = false := by simpa using h0
 by_cases h1 : gu = -1
 ·subst h1
  refine hx true ?_ (by unfold thereB; simp)
  go_enter func250, ntmps250
  go_wp2_with fail
  refine (isGone_any st be rk my (-1) lo hi hd ca ut wk _).mono ?_
  rw [n0]
  rintro e w1 ⟨rfl, hb⟩
  have c4 : w1.cell? ⟨w.heap.size, 4, none⟩ = some (.int .i64 (-1)) := (hb.cell (p := ⟨w.heap.size, 4, none⟩) (by simp)).trans (cell_new _ rfl)
  have Hb := hide (((alBrf w.heap.size w).alloc (alNlr _) _).trans (hb.mono (by simp)))
  clear hb
  go_wp2_with fail
  go_ret
  exact ⟨rfl, uh Hb⟩
 have n1 : (gu == -1) = false := by simpa using h1
 refine hx (hasB n gu) ?_ (by unfold thereB; simp [n0, n1])
 go_enter func250, ntmps250
 go_wp2_with fail
 refine (isGone_any st be rk my gu lo hi hd ca ut wk _).mono ?_
 rw [n0]
 rintro e w1 ⟨rfl, hb⟩
 have c4 : w1.cell? ⟨w.heap.size, 4, none⟩ = some (.int .i64 gu) := (hb.cell (p := ⟨w.heap.size, 4, none⟩) (by simp)).trans (cell_new _ rfl)
 have Hb := hide (((alBrf w.heap.size w).alloc (alNlr _) _).trans (hb.mono (by simp)))
 clear hb
 go_wp2_with fail
 refine ck (hasGuild_any a n cap gu _) fun w2 h9 => ?_
 subst w2
 go_wp2_with fail
 go_ret
 exact ⟨rfl, uh Hb⟩
theorem smithsOk1_any (st be rk my gu lo hi hd ca ut wk : Int) (R : Nat) (a : Option Addr) (n cap : Nat) (w : World) (hc : w.cell? ⟨R, 0, none⟩ = some (.slice a n cap)) (hR : R < w.heap.size) : cB 249 #[.agg (I11 st be rk my gu lo hi hd ca ut wk), .pointer (some ⟨R, 0, none⟩)] w (.bool (thereB n (st, be, rk, my, gu, lo, hi, hd, ca, ut, wk))) := by
 have hne : R ≠ w.heap.size := alNol hR
 go_enter func249, ntmps249
 go_wp2_with fail
 refine ck (guildIsThere_any st be rk my gu lo hi hd ca ut wk a n cap _) fun w1 hb => ?_
 have Hb := hide (((alBrf w.heap.size w).alloc (alNlr _) _).trans (hb.mono (by simp)))
 clear hb
 go_wp2_with fail
 go_ret
 exact ⟨rfl, uh Hb⟩
theorem Calls.bool_of {P : Program} {f : FuncId} {args : Array Value} {w : World} {q q' : Bool} (h : Calls P f args w fun e w' => e = .returned (.bool q) ∧ Below w.heap.size w w') (e : q = q') : Calls P f args w fun e w' => e = .returned (.bool q') ∧ Below w.heap.size w w' := by rw [← e]; exact h
theorem isInPlace_any (st be rk my gu lo hi hd ca ut wk : Int) {v : Value} {ds : List DeskV} {w : World} (h : IsDesks w v ds) : cB 165 #[.agg (I11 st be rk my gu lo hi hd ca ut wk), v] w (.bool (placeB ds (st, be, rk, my, gu, lo, hi, hd, ca, ut, wk))) := by
 obtain ⟨a, cap, rfl, hc, hm, hr⟩ := h
 have Hr := hide hr
 clear hr
 by_cases h0 : st = 0
 ·subst h0
  refine Calls.bool_of (q := true) ?_ (by unfold placeB; simp)
  go_enter func165, ntmps165
  go_wp2_with fail
  refine ck (isGone_any 0 be rk my gu lo hi hd ca ut wk _) fun w1 hb => ?_
  have Hb := hide (((alBrf w.heap.size w).alloc (alNlr _) _).trans (hb.mono (by simp)))
  clear hb
  go_wp2_with fail
  go_ret
  exact ⟨rfl, uh Hb⟩
 have n0 : (st == 0) = false := by simpa using h0
 cases hh : hasB ds.length be
 ·refine Calls.bool_of (q := false) ?_ (by unfold placeB; simp only [n0, hh]; rfl)
  have Hh := hide hh
  clear hh
  go_enter func165, ntmps165
  go_wp2_with fail
  refine (isGone_any st be rk my gu lo hi hd ca ut wk _).mono ?_
  rw [n0]
  rintro e w1 ⟨rfl, hb⟩
  have c1 : w1.cell? ⟨w.heap.size, 1, none⟩ = some (.int .i64 be) := (hb.cell (p := ⟨w.heap.size, 1, none⟩) (by simp)).trans (cell_new _ rfl)
  have Hb := hide (((alBrf w.heap.size w).alloc (alNlr _) _).trans (hb.mono (by simp)))
  clear hb
  go_wp2_with fail
  refine (hasDesk_any a ds.length cap be _).mono ?_
  rw [uh Hh]
  rintro e w2 ⟨rfl, h9⟩
  subst w2
  go_wp2_with fail
  go_ret
  exact ⟨rfl, uh Hb⟩
 have hbe : 0 ≤ be ∧ be < (ds.length : Int) := by unfold hasB at hh; simpa using hh
 obtain ⟨j, rfl⟩ : ∃ j : Nat, be = j := ⟨be.toNat, by omega⟩
 have hj : j < ds.length := by omega
 have hj1 : (j : Int) < (ds.length : Int) := by omega
 rcases uh Hr with e0 | ⟨b, off, rfl, hbw, hcl⟩
 ·rw [e0] at hj; simp at hj
 obtain ⟨t0, t1, t2⟩ := desk_cells hcl hj
 have hD : placeB ds (st, (j : Int), rk, my, gu, lo, hi, hd, ca, ut, wk) = (st == 1 || ((recAt ds j).1 && (memB my j && inBandB hd (recAt ds j).2.2))) := by
  unfold placeB
  simp only [n0, hh, alInc, Bool.false_or, Bool.true_and]
 have HD := hide hD
 have Hh := hide hh
 clear hD hh hcl Hr
 generalize recAt ds j = d at *
 obtain ⟨op, who, mk⟩ := d
 simp only at t0 t1 t2
 obtain ⟨qm, hqm⟩ := alAx (memB my j)
 have Hm := hide hqm
 obtain ⟨qb, Hbd⟩ := alAn (inBandB hd mk)
 clear hqm
 refine Calls.bool_of (q := (st == 1 || (op && (qm && qb)))) ?_ (by rw [uh HD, uh Hm, uh Hbd])
 clear HD
 go_enter func165, ntmps165
 go_wp2_with fail
 refine (isGone_any st (j : Int) rk my gu lo hi hd ca ut wk _).mono ?_
 rw [n0]
 rintro e w1 ⟨rfl, hb⟩
 have SB : Hid (Blk w1 w.heap.size 38 (I11 st j rk my gu lo hi hd ca ut wk)) := hide ((Blk.new w _ _).below hb (by simp))
 have Hb := hide (((alBrf w.heap.size w).alloc (alNlr _) _).trans (hb.mono (by simp)))
 rw [← (uh Hb).cell (p := ⟨b, off + j * 3, none⟩) hbw] at t0
 rw [← (uh Hb).cell (p := ⟨b, off + j * 3 + 1, none⟩) hbw] at t1
 rw [← (uh Hb).cell (p := ⟨b, off + j * 3 + 2, none⟩) hbw] at t2
 clear hb
 have s1 := (uh SB).cell (i := 1) (v := .int .i64 j) rfl
 go_wp2_with fail
 refine (hasDesk_any _ ds.length cap (j : Int) _).mono ?_
 rw [uh Hh]
 rintro e w2 ⟨rfl, h9⟩
 subst w2
 clear s1
 have s1 := (uh SB).cell (i := 1) (v := .int .i64 j) rfl
 have hbw1 : b < w1.heap.size := alNll hbw (uh Hb).size
 have hl0 := (uh SB).lt
 go_upto_region 6 with fail
 clear t0 t1 t2 s1
 replace SB : Hid (Blk (w1.alloc (.cells #[.bool op, .int .i64 who, .int .i64 mk] 40)) w.heap.size 38 (I11 st j rk my gu lo hi hd ca ut wk)) := hide ((uh SB).alloc _)
 have DB : Hid (Blk (w1.alloc (.cells #[.bool op, .int .i64 who, .int .i64 mk] 40)) w1.heap.size 40 #[.bool op, .int .i64 who, .int .i64 mk]) := hide (Blk.new w1 _ _)
 replace Hb : Hid (Below w.heap.size w (w1.alloc (.cells #[.bool op, .int .i64 who, .int .i64 mk] 40))) := hide ((uh Hb).alloc (uh Hb).size _)
 generalize w1.alloc (.cells #[.bool op, .int .i64 who, .int .i64 mk] 40) = W at *
 generalize w1.heap.size = db at *
 obtain ⟨s0, s1, s2, s3, s4, s5, s6, s7, s8, s9, s10⟩ := (uh SB).c11
 go_wp2_with fail
 refine ck (isAway_any st (j : Int) rk my gu lo hi hd ca ut wk _) fun w3 hb => ?_
 replace SB := bl SB hb
 replace DB := bl DB hb
 replace Hb := hide ((uh Hb).trans (hb.mono (uh Hb).size))
 clear hb s0 s1 s2 s3 s4 s5 s6 s7 s8 s9 s10
 by_cases h1 : st = 1
 ·subst h1
  go_wp2_with fail
  go_ret
  exact ⟨ret_bool (by simp), uh Hb⟩
 have n1 : (st == 1) = false := by simpa using h1
 rw [n1]
 have g0 := (uh DB).cell (i := 0) (v := .bool op) rfl
 have g1 := (uh DB).cell (i := 1) (v := .int .i64 who) rfl
 have g2 := (uh DB).cell (i := 2) (v := .int .i64 mk) rfl
 go_wp2_with fail
 refine ck (isOpen_any op who mk _) fun w4 hb => ?_
 replace SB := bl SB hb
 replace DB := bl DB hb
 replace Hb := hide ((uh Hb).trans (hb.mono (uh Hb).size))
 clear hb g0 g1 g2
 cases op
 ·go_wp2_with fail
  go_ret
  exact ⟨ret_bool (by simp [h1]), uh Hb⟩
 have s1 := (uh SB).cell (i := 1) (v := .int .i64 j) rfl
 have s3 := (uh SB).cell (i := 3) (v := .int .i64 my) rfl
 have s7 := (uh SB).cell (i := 7) (v := .int .i64 hd) rfl
 have g2 := (uh DB).cell (i := 2) (v := .int .i64 mk) rfl
 go_wp2_with fail
 refine (implInSet_any my (j : Int) _).mono ?_
 rw [uh Hm]
 rintro e w5 ⟨rfl, h9⟩
 subst w5
 cases qm
 ·go_wp2_with fail
  go_ret
  exact ⟨ret_bool (by simp [h1]), uh Hb⟩
 go_wp2_with fail
 refine (implInBand_any hd mk _).mono ?_
 rw [uh Hbd]
 rintro e w6 ⟨rfl, hb⟩
 replace Hb := hide ((uh Hb).trans (hb.mono (uh Hb).size))
 clear hb
 go_wp2_with fail
 go_ret
 exact ⟨ret_bool (by simp [h1]), uh Hb⟩
theorem all_m {w : World} {v : Value} {ss : List SmithV} (h : IsSmiths w v ss) {f : FuncId} {cap : Array Value} {av : Int → Int → Int → Int → Int → Int → Int → Int → Int → Int → Int → Array Value} {p : SmithV → Bool} (hp : ∀ (st be rk my gu lo hi hd ca ut wk : Int) {W : World}, Below w.heap.size w W → Calls prog f (av st be rk my gu lo hi hd ca ut wk) W fun e w' => e = .returned (.bool (p (st, be, rk, my, gu, lo, hi, hd, ca, ut, wk))) ∧ Below W.heap.size W w')
  (s : ∀ (p : SmithV → Bool), IsSmiths w v ss → Hid (∀ (st be rk my gu lo hi hd ca ut wk : Int) {W : World}, Below w.heap.size w W → Calls prog f (av st be rk my gu lo hi hd ca ut wk) W fun e w' => e = .returned (.bool (p (st, be, rk, my, gu, lo, hi, hd, ca, ut, wk))) ∧ Below W.heap.size W w') → cB 163 #[v, .func (Fn.func f) #[] cap] w (.bool (allTo p ss ss.length)) := by
  intro p h Hp
  obtain ⟨a, cap, rfl, hc, hm, hr⟩ := h
  have Hr := hide hr
  clear hr
  go_enter func163, ntmps163
  go_wp2_with fail
  go_loopw [9] (fun i wr => ∃ k : Nat, k ≤ ss.length ∧ i = .int .i64 k ∧ allTo p ss k = true ∧ Below w.heap.size w wr) (fun i _ => ss.length - (intOf i).toNat)
  case atStart => exact ⟨0, alNzl _, rfl, rfl, alBrf _ _⟩
  case round =>
   obtain ⟨k, hk, rfl, hst, hb0⟩ := hrel
   have Hst := hide hst
   have BB := hide hb0
   by_cases hlt : k < ss.length
   ·have hlt1 : (k : Int) < (ss.length : Int) := by omega
    rcases uh Hr with e0 | ⟨b, off, rfl, hbw, hcl⟩
    ·rw [e0] at hlt; simp at hlt
    obtain ⟨d0, d1, d2, d3, d4, d5, d6, d7, d8, d9, d10⟩ := smith_cells hcl hlt
    rw [← hb0.cell (p := ⟨b, off + k * 11, none⟩) hbw] at d0
    rw [← hb0.cell (p := ⟨b, off + k * 11 + 1, none⟩) hbw] at d1
    rw [← hb0.cell (p := ⟨b, off + k * 11 + 2, none⟩) hbw] at d2
    rw [← hb0.cell (p := ⟨b, off + k * 11 + 3, none⟩) hbw] at d3
    rw [← hb0.cell (p := ⟨b, off + k * 11 + 4, none⟩) hbw] at d4
    rw [← hb0.cell (p := ⟨b, off + k * 11 + 5, none⟩) hbw] at d5
    rw [← hb0.cell (p := ⟨b, off + k * 11 + 6, none⟩) hbw] at d6
    rw [← hb0.cell (p := ⟨b, off + k * 11 + 7, none⟩) hbw] at d7
    rw [← hb0.cell (p := ⟨b, off + k * 11 + 8, none⟩) hbw] at d8
    rw [← hb0.cell (p := ⟨b, off + k * 11 + 9, none⟩) hbw] at d9
    rw [← hb0.cell (p := ⟨b, off + k * 11 + 10, none⟩) hbw] at d10
    have HU := hide (fun hh => allTo_up (p := p) (xs := ss) (k := k) hst hh)
    have HN := hide (fun hh => allTo_no (p := p) (xs := ss) hlt hh)
    clear hcl hst hb0
    generalize recAt ss k = s at *
    obtain ⟨st, be, rk, my, gu, lo, hi, hd, ca, ut, wk⟩ := s
    simp only at d0 d1 d2 d3 d4 d5 d6 d7 d8 d9 d10
    have hbr : b < wr.heap.size := alNll hbw (uh BB).size
    go_wp2_with fail
    clear d0 d1 d2 d3 d4 d5 d6 d7 d8 d9 d10
    obtain ⟨q, Hq⟩ := alAn (p (st, be, rk, my, gu, lo, hi, hd, ca, ut, wk))
    have hba : Below wr.heap.size wr (wr.alloc (.cells (I11 st be rk my gu lo hi hd ca ut wk) 38)) := ba _ _
    replace BB := bt BB hba
    clear hba
    refine (uh Hp st be rk my gu lo hi hd ca ut wk (uh BB)).mono ?_
    rw [uh Hq]
    rintro e w1 ⟨rfl, hb⟩
    replace BB := bt BB hb
    clear hb
    cases q
    ·go_wp2_with fail
     go_ret
     exact ⟨ret_bool (uh HN (uh Hq)).symm, uh BB⟩
    ·go_wp2_with fail
     go_roundw
     case rel => exact ⟨k + 1, by omega, by go_num, uh HU (uh Hq), uh BB⟩
     case measure => exact ms
   ·obtain rfl : k = ss.length := by omega
    go_wp2_with fail
    go_ret
    exact ⟨ret_bool (uh Hst).symm, uh BB⟩) : cB 163 #[v, .func (Fn.func f) #[] cap] w (.bool (allTo p ss ss.length)) := s p h (hide hp)
theorem allOk_any {w : World} {v : Value} {ss : List SmithV} (h : IsSmiths w v ss) : cB 163 #[v, .func (Fn.func 248) #[] #[]] w (.bool (allTo smithB ss ss.length)) := all_m h (fun st be rk my gu lo hi hd ca ut wk _ hb => implSmithOk_any st be rk my gu lo hi hd ca ut wk _)
theorem allThere_any {w : World} {v : Value} {ss : List SmithV} {R n gc : Nat} {ga : Option Addr} (h : IsSmiths w v ss) (hc0 : w.cell? ⟨R, 0, none⟩ = some (.slice ga n gc)) (hR : R < w.heap.size) : cB 163 #[v, .func (Fn.func 249) #[] #[.pointer (some ⟨R, 0, none⟩)]] w (.bool (allTo (thereB n) ss ss.length)) := all_m h (fun st be rk my gu lo hi hd ca ut wk _ hb => smithsOk1_any st be rk my gu lo hi hd ca ut wk R ga n gc _ (((hb.cell (p := ⟨R, 0, none⟩) hR).trans hc0)) (alNll hR hb.size))
theorem allMark_any {w : World} {v : Value} {ss : List DeskV} (h : IsDesks w v ss) : cB 251 #[v, .func (Fn.func 252) #[] #[]] w (.bool (allTo deskB ss ss.length)) := by
 obtain ⟨a, cap, rfl, hc, hm, hr⟩ := h
 have Hr := hide hr
 clear hr
 go_enter func251, ntmps251
 go_wp2_with fail
 go_loopw [9] (fun i wr => ∃ k : Nat, k ≤ ss.length ∧ i = .int .i64 k ∧ allTo deskB ss k = true ∧ Below w.heap.size w wr) (fun i _ => ss.length - (intOf i).toNat)
 case atStart => exact ⟨0, alNzl _, rfl, rfl, alBrf _ _⟩
 case round =>
  obtain ⟨k, hk, rfl, hst, hb0⟩ := hrel
  have Hst := hide hst
  have BB := hide hb0
  by_cases hlt : k < ss.length
  ·have hlt1 : (k : Int) < (ss.length : Int) := by omega
   rcases uh Hr with e0 | ⟨b, off, rfl, hbw, hcl⟩
   ·rw [e0] at hlt; simp at hlt
   obtain ⟨d0, d1, d2⟩ := desk_cells hcl hlt
   rw [← hb0.cell (p := ⟨b, off + k * 3, none⟩) hbw] at d0
   rw [← hb0.cell (p := ⟨b, off + k * 3 + 1, none⟩) hbw] at d1
   rw [← hb0.cell (p := ⟨b, off + k * 3 + 2, none⟩) hbw] at d2
   have HU := hide (fun hh => allTo_up (p := deskB) (xs := ss) (k := k) hst hh)
   have HN := hide (fun hh => allTo_no (p := deskB) (xs := ss) hlt hh)
   clear hcl hst hb0
   generalize recAt ss k = s at *
   obtain ⟨op, who, mk⟩ := s
   simp only at d0 d1 d2
   have hbr : b < wr.heap.size := alNll hbw (uh BB).size
   go_wp2_with fail
   clear d0 d1 d2
   obtain ⟨q, Hq⟩ := alAn (deskB (op, who, mk))
   have hba : Below wr.heap.size wr (wr.alloc (.cells #[.bool op, .int .i64 who, .int .i64 mk] 40)) := ba _ _
   replace BB := bt BB hba
   clear hba
   refine (hasMark_any op who mk _).mono ?_
   rw [uh Hq]
   rintro e w1 ⟨rfl, hb⟩
   replace BB := bt BB hb
   clear hb
   cases q
   ·go_wp2_with fail
    go_ret
    exact ⟨ret_bool (uh HN (uh Hq)).symm, uh BB⟩
   ·go_wp2_with fail
    go_roundw
    case rel => exact ⟨k + 1, by omega, by go_num, uh HU (uh Hq), uh BB⟩
    case measure => exact ms
  ·obtain rfl : k = ss.length := by omega
   go_wp2_with fail
   go_ret
   exact ⟨ret_bool (uh Hst).symm, uh BB⟩
theorem where_m {w : World} {v : Value} {ss : List SmithV} (h : IsSmiths w v ss) (hl : ss.length ≤ 1000) {f : FuncId} {cap : Array Value} {av : Int → Int → Int → Int → Int → Int → Int → Int → Int → Int → Int → Array Value} {p : SmithV → Bool} (hp : ∀ (st be rk my gu lo hi hd ca ut wk : Int) {W : World}, Below w.heap.size w W → Calls prog f (av st be rk my gu lo hi hd ca ut wk) W fun e w' => e = .returned (.bool (p (st, be, rk, my, gu, lo, hi, hd, ca, ut, wk))) ∧ Below W.heap.size W w')
  (s : ∀ (p : SmithV → Bool), IsSmiths w v ss → ss.length ≤ 1000 → Hid (∀ (st be rk my gu lo hi hd ca ut wk : Int) {W : World}, Below w.heap.size w W → Calls prog f (av st be rk my gu lo hi hd ca ut wk) W fun e w' => e = .returned (.bool (p (st, be, rk, my, gu, lo, hi, hd, ca, ut, wk))) ∧ Below W.heap.size W w') → Calls prog 208 #[v, .func (Fn.func f) #[] cap] w fun e w' => ∃ v', e = .returned v' ∧ NumsAt w.heap.size w' v' (whereTo p ss ss.length) ∧ Below w.heap.size w w' := by
  intro p h hl Hp
  obtain ⟨a, cap, rfl, hc, hm, hr⟩ := h
  have Hr := hide hr
  clear hr
  go_enter func208, ntmps208
  go_wp2_with fail
  go_loopw [5, 11] (fun l i wr => ∃ k : Nat, k ≤ ss.length ∧ i = .int .i64 k ∧ NumsAt w.heap.size wr l (whereTo p ss k) ∧ Below w.heap.size w wr) (fun _ i _ => ss.length - (intOf i).toNat)
  case atStart => exact ⟨0, alNzl _, rfl, recs_empty rfl (alNlr _), (ba _ _)⟩
  case round =>
   obtain ⟨k, hk, rfl, hln, hb0⟩ := hrel
   obtain ⟨la, lc, rfl⟩ := RecAt.shape hln
   have HL := hide hln
   have BB := hide hb0
   have hfl := whereTo_len p ss k
   clear hln
   by_cases hlt : k < ss.length
   ·have hlt1 : (k : Int) < (ss.length : Int) := by omega
    rcases uh Hr with e0 | ⟨b, off, rfl, hbw, hcl⟩
    ·rw [e0] at hlt; simp at hlt
    obtain ⟨d0, d1, d2, d3, d4, d5, d6, d7, d8, d9, d10⟩ := smith_cells hcl hlt
    rw [← hb0.cell (p := ⟨b, off + k * 11, none⟩) hbw] at d0
    rw [← hb0.cell (p := ⟨b, off + k * 11 + 1, none⟩) hbw] at d1
    rw [← hb0.cell (p := ⟨b, off + k * 11 + 2, none⟩) hbw] at d2
    rw [← hb0.cell (p := ⟨b, off + k * 11 + 3, none⟩) hbw] at d3
    rw [← hb0.cell (p := ⟨b, off + k * 11 + 4, none⟩) hbw] at d4
    rw [← hb0.cell (p := ⟨b, off + k * 11 + 5, none⟩) hbw] at d5
    rw [← hb0.cell (p := ⟨b, off + k * 11 + 6, none⟩) hbw] at d6
    rw [← hb0.cell (p := ⟨b, off + k * 11 + 7, none⟩) hbw] at d7
    rw [← hb0.cell (p := ⟨b, off + k * 11 + 8, none⟩) hbw] at d8
    rw [← hb0.cell (p := ⟨b, off + k * 11 + 9, none⟩) hbw] at d9
    rw [← hb0.cell (p := ⟨b, off + k * 11 + 10, none⟩) hbw] at d10
    have HY := hide (fun hh => whereTo_yes (p := p) (xs := ss) (k := k) hh)
    have HN := hide (fun hh => whereTo_no (p := p) (xs := ss) (k := k) hh)
    clear hcl hb0
    generalize recAt ss k = s at *
    obtain ⟨st, be, rk, my, gu, lo, hi, hd, ca, ut, wk⟩ := s
    simp only at d0 d1 d2 d3 d4 d5 d6 d7 d8 d9 d10
    have hbr : b < wr.heap.size := alNll hbw (uh BB).size
    go_wp2_with fail
    clear d0 d1 d2 d3 d4 d5 d6 d7 d8 d9 d10
    obtain ⟨q, Hq⟩ := alAn (p (st, be, rk, my, gu, lo, hi, hd, ca, ut, wk))
    have hba : Below wr.heap.size wr (wr.alloc (.cells (I11 st be rk my gu lo hi hd ca ut wk) 38)) := ba _ _
    replace BB := bt BB hba
    replace HL := hide (RecAt.later (uh HL) hba)
    clear hba
    refine (uh Hp st be rk my gu lo hi hd ca ut wk (uh BB)).mono ?_
    rw [uh Hq]
    rintro e w1 ⟨rfl, hb⟩
    replace BB := bt BB hb
    replace HL := hide (RecAt.later (uh HL) hb)
    clear hb
    cases q
    ·go_wp2_with fail
     go_roundw
     case rel => exact ⟨k + 1, by omega, by go_num, by rw [uh HN (uh Hq)]; exact uh HL, uh BB⟩
     case measure => exact ms
    ·have hsx := (uh BB).size
     go_wp2_with (at_builtin; refine wpList_append_recs tyN rfl (.tmp 19) (.tmp 21) 157 underlying157 rfl w.heap.size _ _ (whereTo p ss k) [(k : Int)] rfl rfl (RecAt.later (uh HL) ((ba _ _))) (recs_one (k : Int) rfl (alNlr _) (by omega)) (by simp; omega) (by simp; omega) ?_; intro u9 w9 hp9 hg9 hat9; have HP9 := hide hp9; have HG9 := hide hg9; clear hp9 hg9 hat9)
     have hgo : ∀ i, (Value.slice la (whereTo p ss k).length lc).ownBlock = some i → w.heap.size ≤ i := fun i e => (RecAt.lt (uh HL) e).1
     have hb9 : Below w.heap.size w1 w9 := ((alBrf _ _).alloc hsx _).trans ((alBrf _ _).grown (uh HG9) (by simp; omega) hgo)
     have hb8 := (uh BB).trans hb9
     go_wp2_with fail
     go_roundw
     case rel => exact ⟨k + 1, by omega, by go_num, by rw [uh HY (uh Hq)]; exact uh HP9, hb8⟩
     case measure => exact ms
   ·obtain rfl : k = ss.length := by omega
    go_wp2_with fail
    go_ret
    exact ⟨_, rfl, uh HL, uh BB⟩) : Calls prog 208 #[v, .func (Fn.func f) #[] cap] w fun e w' => ∃ v', e = .returned v' ∧ NumsAt w.heap.size w' v' (whereTo p ss ss.length) ∧ Below w.heap.size w w' := s p h hl (hide hp)
theorem whereAt_any {w : World} {v : Value} {ss : List SmithV} {R : Nat} {bn : Int} (h : IsSmiths w v ss) (hl : ss.length ≤ 1000) (hc0 : w.cell? ⟨R, 0, none⟩ = some (.int .i64 bn)) (hR : R < w.heap.size) : Calls prog 208 #[v, .func (Fn.func 209) #[] #[.pointer (some ⟨R, 0, none⟩)]] w fun e w' => ∃ v', e = .returned v' ∧ NumsAt w.heap.size w' v' (whereTo (atB bn) ss ss.length) ∧ Below w.heap.size w w' := where_m h hl (fun st be rk my gu lo hi hd ca ut wk _ hb => whoIsAt1_any st be rk my gu lo hi hd ca ut wk bn R _ (((hb.cell (p := ⟨R, 0, none⟩) hR).trans hc0)) (alNll hR hb.size))
theorem whereWorks_any {w : World} {v : Value} {ss : List SmithV} {R : Nat} {bn : Int} (h : IsSmiths w v ss) (hl : ss.length ≤ 1000) (hc0 : w.cell? ⟨R, 0, none⟩ = some (.int .i64 bn)) (hR : R < w.heap.size) : Calls prog 208 #[v, .func (Fn.func 291) #[] #[.pointer (some ⟨R, 0, none⟩)]] w fun e w' => ∃ v', e = .returned v' ∧ NumsAt w.heap.size w' v' (whereTo (worksB bn) ss ss.length) ∧ Below w.heap.size w w' := where_m h hl (fun st be rk my gu lo hi hd ca ut wk _ hb => whoWorksAt1_any st be rk my gu lo hi hd ca ut wk bn R _ (((hb.cell (p := ⟨R, 0, none⟩) hR).trans hc0)) (alNll hR hb.size))
theorem whereOpen_any {w : World} {v : Value} {ss : List DeskV} (h : IsDesks w v ss) (hl : ss.length ≤ 1000) : Calls prog 253 #[v, .func (Fn.func 125) #[] #[]] w fun e w' => ∃ v', e = .returned v' ∧ NumsAt w.heap.size w' v' (whereTo openD1 ss ss.length) ∧ Below w.heap.size w w' := by
 obtain ⟨a, cap, rfl, hc, hm, hr⟩ := h
 have Hr := hide hr
 clear hr
 go_enter func253, ntmps253
 go_wp2_with fail
 go_loopw [5, 11] (fun l i wr => ∃ k : Nat, k ≤ ss.length ∧ i = .int .i64 k ∧ NumsAt w.heap.size wr l (whereTo openD1 ss k) ∧ Below w.heap.size w wr) (fun _ i _ => ss.length - (intOf i).toNat)
 case atStart => exact ⟨0, alNzl _, rfl, recs_empty rfl (alNlr _), (ba _ _)⟩
 case round =>
  obtain ⟨k, hk, rfl, hln, hb0⟩ := hrel
  obtain ⟨la, lc, rfl⟩ := RecAt.shape hln
  have HL := hide hln
  have BB := hide hb0
  have hfl := whereTo_len openD1 ss k
  clear hln
  by_cases hlt : k < ss.length
  ·have hlt1 : (k : Int) < (ss.length : Int) := by omega
   rcases uh Hr with e0 | ⟨b, off, rfl, hbw, hcl⟩
   ·rw [e0] at hlt; simp at hlt
   obtain ⟨d0, d1, d2⟩ := desk_cells hcl hlt
   rw [← hb0.cell (p := ⟨b, off + k * 3, none⟩) hbw] at d0
   rw [← hb0.cell (p := ⟨b, off + k * 3 + 1, none⟩) hbw] at d1
   rw [← hb0.cell (p := ⟨b, off + k * 3 + 2, none⟩) hbw] at d2
   have HY := hide (fun hh => whereTo_yes (p := openD1) (xs := ss) (k := k) hh)
   have HN := hide (fun hh => whereTo_no (p := openD1) (xs := ss) (k := k) hh)
   clear hcl hb0
   generalize recAt ss k = s at *
   obtain ⟨op, who, mk⟩ := s
   simp only at d0 d1 d2
   have hbr : b < wr.heap.size := alNll hbw (uh BB).size
   go_wp2_with fail
   clear d0 d1 d2
   obtain ⟨q, Hq⟩ := alAn (openD1 (op, who, mk))
   have hba : Below wr.heap.size wr (wr.alloc (.cells #[.bool op, .int .i64 who, .int .i64 mk] 40)) := ba _ _
   replace BB := bt BB hba
   replace HL := hide (RecAt.later (uh HL) hba)
   clear hba
   refine ck (Calls.bool_of (isOpen_any op who mk _) (uh Hq)) fun w1 hb => ?_
   replace BB := bt BB hb
   replace HL := hide (RecAt.later (uh HL) hb)
   clear hb
   cases q
   ·go_wp2_with fail
    go_roundw
    case rel => exact ⟨k + 1, by omega, by go_num, by rw [uh HN (uh Hq)]; exact uh HL, uh BB⟩
    case measure => exact ms
   ·have hsx := (uh BB).size
    go_wp2_with (at_builtin; refine wpList_append_recs tyN rfl (.tmp 19) (.tmp 21) 157 underlying157 rfl w.heap.size _ _ (whereTo openD1 ss k) [(k : Int)] rfl rfl (RecAt.later (uh HL) ((ba _ _))) (recs_one (k : Int) rfl (alNlr _) (by omega)) (by simp; omega) (by simp; omega) ?_; intro u9 w9 hp9 hg9 hat9; have HP9 := hide hp9; have HG9 := hide hg9; clear hp9 hg9 hat9)
    have hgo : ∀ i, (Value.slice la (whereTo openD1 ss k).length lc).ownBlock = some i → w.heap.size ≤ i := fun i e => (RecAt.lt (uh HL) e).1
    have hb9 : Below w.heap.size w1 w9 := ((alBrf _ _).alloc hsx _).trans ((alBrf _ _).grown (uh HG9) (by simp; omega) hgo)
    have hb8 := (uh BB).trans hb9
    go_wp2_with fail
    go_roundw
    case rel => exact ⟨k + 1, by omega, by go_num, by rw [uh HY (uh Hq)]; exact uh HP9, hb8⟩
    case measure => exact ms
  ·obtain rfl : k = ss.length := by omega
   go_wp2_with fail
   go_ret
   exact ⟨_, rfl, uh HL, uh BB⟩
set_option maxRecDepth 100000
theorem allInPlace1_any (st be rk my gu lo hi hd ca ut wk : Int) {R n3 p3 : Nat} {a3 : Option Addr} {ds : List DeskV} {w : World} (hc : w.cell? ⟨R, 3, none⟩ = some (.slice a3 n3 p3)) (hR : R < w.heap.size) (h : IsDesks w (.slice a3 n3 p3) ds) : cB 164 #[.agg (I11 st be rk my gu lo hi hd ca ut wk), .pointer (some ⟨R, 0, none⟩)] w (.bool (placeB ds (st, be, rk, my, gu, lo, hi, hd, ca, ut, wk))) := by
 have hne : R ≠ w.heap.size := alNol hR
 have HD := hide h
 clear h
 go_enter func164, ntmps164
 go_wp2_with fail
 refine ck (isInPlace_any st be rk my gu lo hi hd ca ut wk ((uh HD).below ((ba _ _)))) fun w1 hb => ?_
 have Hb := hide (((alBrf w.heap.size w).alloc (alNlr _) _).trans (hb.mono (by simp)))
 clear hb
 go_wp2_with fail
 go_ret
 exact ⟨rfl, uh Hb⟩
theorem allPlace_any {w : World} {v : Value} {ss : List SmithV} {R n3 p3 : Nat} {a3 : Option Addr} {ds : List DeskV} (h : IsSmiths w v ss) (hc0 : w.cell? ⟨R, 3, none⟩ = some (.slice a3 n3 p3)) (hR : R < w.heap.size) (hds : IsDesks w (.slice a3 n3 p3) ds) : cB 163 #[v, .func (Fn.func 164) #[] #[.pointer (some ⟨R, 0, none⟩)]] w (.bool (allTo (placeB ds) ss ss.length)) := all_m h (fun st be rk my gu lo hi hd ca ut wk _ hb => allInPlace1_any st be rk my gu lo hi hd ca ut wk (((hb.cell (p := ⟨R, 3, none⟩) hR).trans hc0)) (alNll hR hb.size) (hds.below hb))
theorem smithsOf_any (a0 a1 a2 a3 a4 : Option Addr) (n0 n1 n2 n3 n4 p0 p1 p2 p3 p4 : Nat) (now : Int) (w : World) : cB 162 #[.agg #[.slice a0 n0 p0, .slice a1 n1 p1, .slice a2 n2 p2, .slice a3 n3 p3, .slice a4 n4 p4, .int .i64 now]] w (.slice a2 n2 p2) := by
 go_enter func162, ntmps162
 go_wp2_with fail
 go_ret
 exact ⟨rfl, (ba _ _)⟩
theorem desksOf_any (a0 a1 a2 a3 a4 : Option Addr) (n0 n1 n2 n3 n4 p0 p1 p2 p3 p4 : Nat) (now : Int) (w : World) : cB 123 #[.agg #[.slice a0 n0 p0, .slice a1 n1 p1, .slice a2 n2 p2, .slice a3 n3 p3, .slice a4 n4 p4, .int .i64 now]] w (.slice a3 n3 p3) := by
 go_enter func123, ntmps123
 go_wp2_with fail
 go_ret
 exact ⟨rfl, (ba _ _)⟩
theorem smithsOk_any {w : World} {v v1 : Value} {ss : List SmithV} {gs : List GuildV} (h : IsSmiths w v ss) (h1 : IsGuilds w v1 gs) : cB 215 #[v, v1] w (.bool (smithsIB ss gs.length)) := by
 have Hv := hide h
 obtain ⟨a, cap, rfl, _, _⟩ := IsRec.shape h
 obtain ⟨ga, gc, rfl, _, _⟩ := IsRec.shape h1
 clear h h1
 obtain ⟨q1, hq1⟩ := alAx (allTo smithB ss ss.length)
 obtain ⟨q2, hq2⟩ := alAx (allTo (thereB gs.length) ss ss.length)
 have H1 := hide hq1
 have H2 := hide hq2
 by_cases hl : ss.length ≤ 12
 ·refine Calls.bool_of (q := (q1 && q2)) ?_ (by unfold smithsIB; rw [hq1, hq2, decide_eq_true hl, Bool.true_and])
  have hl1 : (ss.length : Int) ≤ 12 := by omega
  clear hq1 hq2
  have HW := hide ((uh Hv).below ((alBrf _ _).alloc (alNlr _) (.cells #[.slice ga gs.length gc] 27)))
  go_enter func215, ntmps215
  go_wp2_with fail
  refine (allOk_any (uh HW)).mono ?_
  rw [uh H1]
  rintro e w1 ⟨rfl, hb⟩
  replace HW := hide ((uh HW).below hb)
  have c0 : w1.cell? ⟨w.heap.size, 0, none⟩ = some (.slice ga gs.length gc) := (hb.cell (p := ⟨w.heap.size, 0, none⟩) (by simp)).trans (cell_new _ rfl)
  have hlt : w.heap.size < w1.heap.size := by have := hb.size; simp at this; omega
  have Hb := hide (((alBrf w.heap.size w).alloc (alNlr _) _).trans (hb.mono (by simp)))
  have HC := hide c0
  clear hb c0
  cases q1
  ·go_wp2_with fail
   go_ret
   exact ⟨rfl, uh Hb⟩
  go_wp2_with fail
  refine (allThere_any (uh HW) (uh HC) hlt).mono ?_
  rw [uh H2]
  rintro e w2 ⟨rfl, hb⟩
  replace Hb := hide ((uh Hb).trans (hb.mono (uh Hb).size))
  clear hb
  go_wp2_with fail
  go_ret
  exact ⟨ret_bool (by simp), uh Hb⟩
 ·refine Calls.bool_of (q := false) ?_ (by unfold smithsIB; rw [decide_eq_false hl]; rfl)
  have hl1 : ¬ ((ss.length : Int) ≤ 12) := by omega
  clear hq1 hq2
  go_enter func215, ntmps215
  go_wp2_with fail
  go_ret
  exact ⟨rfl, (ba _ _)⟩
theorem desksOk_any {w : World} {v : Value} {ds : List DeskV} {n : Int} (h : IsDesks w v ds) (hn : n ≤ 1000) : cB 216 #[v, .int .i64 n] w (.bool (desksIB ds n)) := by
 have Hv := hide h
 obtain ⟨a, cap, rfl, _, _⟩ := IsRec.shape h
 clear h
 obtain ⟨q1, hq1⟩ := alAx (allTo deskB ds ds.length)
 obtain ⟨ws, hws⟩ := alAx (whereTo openD1 ds ds.length)
 have H1 := hide hq1
 have H2 := hide hws
 by_cases hl : (ds.length : Int) = n
 ·refine Calls.bool_of (q := (q1 && decide (0 < ws.length))) ?_ (by unfold desksIB; rw [hq1, show whereTo (fun d : DeskV => d.1) ds ds.length = ws from hws, decide_eq_true hl, Bool.true_and])
  subst hl
  have hl1 : ds.length ≤ 1000 := by omega
  clear hq1 hws
  go_enter func216, ntmps216
  go_wp2_with fail
  refine (allMark_any (uh Hv)).mono ?_
  rw [uh H1]
  rintro e w1 ⟨rfl, hb⟩
  replace Hv := hide ((uh Hv).below hb)
  have Hb := hide hb
  clear hb
  cases q1
  ·go_wp2_with fail
   go_ret
   exact ⟨rfl, uh Hb⟩
  go_wp2_with fail
  refine (whereOpen_any (uh Hv) hl1).mono ?_
  rw [uh H2]
  rintro e w2 ⟨v2, rfl, hn2, hb⟩
  obtain ⟨la, lc, rfl⟩ := RecAt.shape hn2
  replace Hb := hide ((uh Hb).trans (hb.mono (uh Hb).size))
  clear hb hn2
  go_wp2_with fail
  go_ret
  exact ⟨ret_bool (by simp), uh Hb⟩
 ·refine Calls.bool_of (q := false) ?_ (by unfold desksIB; rw [decide_eq_false hl]; rfl)
  have hl1 : ((ds.length : Int) == n) = false := by simpa using hl
  clear hq1 hws
  go_enter func216, ntmps216
  go_wp2_with fail
  go_ret
  exact ⟨rfl, alBrf _ _⟩
theorem pacesIB_no {ps : List Int} {rs : List RoomV} {k : Nat} (hk : k < ps.length) (h : hasB (roomAt rs k).2.length (recAt ps k) = false) : pacesIB ps rs = false := by
 unfold pacesIB
 rw [all_no (p := fun j => hasB (roomAt rs j).2.length (recAt ps j)) hk h, Bool.and_false]
theorem pacesThere_any {w : World} {v v0 : Value} {ps : List Int} {rs : List RoomV} (h : IsNums w v ps) (h0 : IsRooms w v0 rs) : cB 218 #[v, v0] w (.bool (pacesIB ps rs)) := by
 obtain ⟨a, cap, rfl, hc, hm, hr⟩ := h
 obtain ⟨a0, cap0, rfl, hc0, hm0, hr0⟩ := h0
 have Hr := hide hr
 have Hr0 := hide hr0
 clear hr hr0
 by_cases hl : ps.length = rs.length
 ·have hl1 : (ps.length : Int) = (rs.length : Int) := by omega
  have hbn : ((ps.length : Int) != (rs.length : Int)) = false := by simp [hl]
  have Hall : Hid ((List.range ps.length).all (fun j => hasB (roomAt rs j).2.length (recAt ps j)) = true → pacesIB ps rs = true) := hide (fun e => by unfold pacesIB; rw [e, decide_eq_true hl]; rfl)
  have Hl := hide hl
  clear hl hl1
  go_enter func218, ntmps218
  go_wp2_with fail
  go_loopw [14] (fun i wr => ∃ k : Nat, k ≤ ps.length ∧ i = .int .i64 k ∧ (List.range k).all (fun j => hasB (roomAt rs j).2.length (recAt ps j)) = true ∧ Below w.heap.size w wr) (fun i _ => ps.length - (intOf i).toNat)
  case atStart => exact ⟨0, alNzl _, rfl, rfl, alBrf _ _⟩
  case round =>
   obtain ⟨k, hk, rfl, hst, hb0⟩ := hrel
   have Hst := hide hst
   have BB := hide hb0
   by_cases hlt : k < ps.length
   ·have hlt1 : (k : Int) < (ps.length : Int) := by omega
    have hlt2 : (k : Int) < (rs.length : Int) := by have := uh Hl; omega
    rcases uh Hr with e0 | ⟨b, off, rfl, hbw, hcl⟩
    ·rw [e0] at hlt; simp at hlt
    rcases uh Hr0 with e0 | ⟨b0, off0, rfl, hbw0, hcl0⟩
    ·rw [e0] at hlt2; simp at hlt2; omega
    have d0 := hcl k hlt 0 _ rfl
    simp only [Nat.mul_one, Nat.add_zero] at d0
    rw [← hb0.cell (p := ⟨b, off + k, none⟩) hbw] at d0
    obtain ⟨_, pv, g1, hpv⟩ := hcl0 k (by have := uh Hl; omega)
    obtain ⟨pa, pc, rfl, _, _, _⟩ := hpv
    rw [← hb0.cell (p := ⟨b0, off0 + k * 2 + 1, none⟩) hbw0] at g1
    have HU := hide (fun (hh : hasB (roomAt rs k).2.length (recAt ps k) = true) => (show (List.range (k + 1)).all (fun j => hasB (roomAt rs j).2.length (recAt ps j)) = true from by rw [all_up, hst, hh]; rfl))
    have HN := hide (fun hh => pacesIB_no (rs := rs) hlt hh)
    clear hcl hcl0 hst hb0
    generalize recAt ps k = x at *
    generalize (roomAt rs k).2.length = n at *
    obtain ⟨q, Hq⟩ := alAn (hasB n x)
    go_wp2_with fail
    refine (hasPace_any pa n pc x _).mono ?_
    rw [uh Hq]
    rintro e w1 ⟨rfl, h9⟩
    subst w1
    cases q
    ·go_wp2_with fail
     go_ret
     exact ⟨ret_bool (uh HN (uh Hq)).symm, uh BB⟩
    ·go_wp2_with fail
     go_roundw
     case rel => exact ⟨k + 1, by omega, by go_num, uh HU (uh Hq), uh BB⟩
     case measure => exact ms
   ·obtain rfl : k = ps.length := by omega
    go_wp2_with fail
    go_ret
    exact ⟨ret_bool (uh Hall (uh Hst)).symm, uh BB⟩
 ·refine Calls.bool_of (q := false) ?_ (by unfold pacesIB; rw [decide_eq_false hl]; rfl)
  have hbn : ((ps.length : Int) != (rs.length : Int)) = true := by simp; omega
  go_enter func218, ntmps218
  go_wp2_with fail
  go_ret
  exact ⟨rfl, alBrf _ _⟩
theorem Calls.same_below' {P : Program} {f : FuncId} {args : Array Value} {w : World} {v : Value} (h : Calls P f args w fun e w' => e = .returned v ∧ w' = w) : Calls P f args w fun e w' => e = .returned v ∧ Below w.heap.size w w' := h.mono fun e w' ⟨he, hw⟩ => ⟨he, by subst hw; exact alBrf _ _⟩
theorem Calls.int_of {P : Program} {f : FuncId} {args : Array Value} {w : World} {q q' : Int} (h : Calls P f args w fun e w' => e = .returned (.int .i64 q) ∧ Below w.heap.size w w') (e : q = q') : Calls P f args w fun e w' => e = .returned (.int .i64 q') ∧ Below w.heap.size w w' := by rw [← e]; exact h
theorem partsOk_any {w : World} {v0 v1 v2 v3 v4 : Value} {m : SmyV} (h : Smy w v0 v1 v2 v3 v4 m) : cB 161 #[.agg #[v0, v1, v2, v3, v4, .int .i64 m.now]] w (.bool (partsIB m)) := by
 have Hv := hide (h.alloc (.cells #[v0, v1, v2, v3, v4, .int .i64 m.now] 32))
 obtain ⟨a0, p0, a1, p1, a2, p2, a3, p3, a4, p4, rfl, rfl, rfl, rfl, rfl, _, _, _, _, _, _, _, _, _, _⟩ := h.five
 clear h
 obtain ⟨q1, hq1⟩ := alAx (hallB m.rooms)
 obtain ⟨q2, hq2⟩ := alAx (guildsB m.guilds)
 obtain ⟨q3, hq3⟩ := alAx (smithsIB m.smiths m.guilds.length)
 obtain ⟨q4, hq4⟩ := alAx (desksIB m.desks (benchesV m.rooms))
 obtain ⟨q5, hq5⟩ := alAx (pacesIB m.paces m.rooms)
 obtain ⟨q6, hq6⟩ := alAx (inB m.now 0 1000000)
 refine Calls.bool_of (q := (q1 && (q2 && (q3 && (q4 && (q5 && q6)))))) ?_ (by
  unfold partsIB
  rw [hq2, hq3, hq5, hq6]
  cases q1
  ·rw [hq1]; rfl
  ·rw [← benchesV_t hq1, hq4, hq1])
 have kb : Hid (Blk (w.alloc (.cells (S6 a0 p0 a1 p1 a2 p2 a3 p3 a4 p4 m) 32)) w.heap.size 32 (S6 a0 p0 a1 p1 a2 p2 a3 p3 a4 p4 m)) := hide (Blk.new w _ _)
 have BB : Hid (Below w.heap.size w (w.alloc (.cells (S6 a0 p0 a1 p1 a2 p2 a3 p3 a4 p4 m) 32))) := hide ((ba _ _))
 have hbv : benchesV m.rooms ≤ 1000 := by
  cases hb : hallB m.rooms
  ·rw [benchesV_f hb]; omega
  ·rw [benchesV_t hb]; have := (hallB_of hb).2.2.2; omega
 go_enter func161, ntmps161
 go_wp2_with fail
 generalize w.alloc (.cells (S6 a0 p0 a1 p1 a2 p2 a3 p3 a4 p4 m) 32) = W at *
 have H1 := hide (fun (X : World) (hX : Below W.heap.size W X) => Calls.bool_of (implHallOk_any ((uh Hv).below hX).rooms) hq1)
 have H2 := hide (fun (X : World) (hX : Below W.heap.size W X) => Calls.bool_of (implGuildsOk_any ((uh Hv).below hX).guilds) hq2)
 have H3 := hide (fun (X : World) (hX : Below W.heap.size W X) => Calls.bool_of (smithsOk_any ((uh Hv).below hX).smiths ((uh Hv).below hX).guilds) hq3)
 have H4a := hide (fun (X : World) (hX : Below W.heap.size W X) => implBenchesIn_any ((uh Hv).below hX).rooms)
 have H4 := hide (fun (X : World) (hX : Below W.heap.size W X) => Calls.bool_of (desksOk_any ((uh Hv).below hX).desks hbv) hq4)
 have H5 := hide (fun (X : World) (hX : Below W.heap.size W X) => Calls.bool_of (pacesThere_any ((uh Hv).below hX).paces ((uh Hv).below hX).rooms) hq5)
 have H6 := hide (fun (X : World) (hX : Below W.heap.size W X) => Calls.bool_of (Calls.same_below' (liesFrom_any 0 m.now 1000000 X)) hq6)
 clear hq1 hq2 hq3 hq4 hq5 hq6
 generalize benchesV m.rooms = nb at *
 obtain ⟨c0, c1, c2, c3, c4, c5⟩ := (uh kb).c6
 have y0 := alCrg c0
 have y1 := alCrg c1
 have y2 := alCrg c2
 have y3 := alCrg c3
 have y4 := alCrg c4
 have y5 := alCrg c5
 cases q1
 ·go_wp2_with fail
  refine wq ?_
  repeat (go_big_quiet_step (first | exact alCro (uh H1 _ (alBrg _ _ _)) | exact alCro (uh H2 _ (alBrg _ _ _)) | exact alCro (uh H3 _ (alBrg _ _ _)) | exact alCro (uh H4a _ (alBrg _ _ _)) | exact alCro (uh H4 _ (alBrg _ _ _)) | exact alCro (uh H5 _ (alBrg _ _ _)) | exact alCro (uh H6 _ (alBrg _ _ _))))
  refine wpQuiet_nil ?_
  intro _ hw'
  obtain ⟨⟨dq, osq⟩, hw''⟩ := hw'
  subst hw''
  go_wp2_with fail
  go_ret
  exact ⟨rfl, (uh BB).trans ((alBrg _ _ _).mono (uh BB).size)⟩
 cases q2
 ·go_wp2_with fail
  refine wq ?_
  repeat (go_big_quiet_step (first | exact alCro (uh H1 _ (alBrg _ _ _)) | exact alCro (uh H2 _ (alBrg _ _ _)) | exact alCro (uh H3 _ (alBrg _ _ _)) | exact alCro (uh H4a _ (alBrg _ _ _)) | exact alCro (uh H4 _ (alBrg _ _ _)) | exact alCro (uh H5 _ (alBrg _ _ _)) | exact alCro (uh H6 _ (alBrg _ _ _))))
  refine wpQuiet_nil ?_
  intro _ hw'
  obtain ⟨⟨dq, osq⟩, hw''⟩ := hw'
  subst hw''
  go_wp2_with fail
  go_ret
  exact ⟨rfl, (uh BB).trans ((alBrg _ _ _).mono (uh BB).size)⟩
 cases q3
 ·go_wp2_with fail
  refine wq ?_
  repeat (go_big_quiet_step (first | exact alCro (uh H1 _ (alBrg _ _ _)) | exact alCro (uh H2 _ (alBrg _ _ _)) | exact alCro (uh H3 _ (alBrg _ _ _)) | exact alCro (uh H4a _ (alBrg _ _ _)) | exact alCro (uh H4 _ (alBrg _ _ _)) | exact alCro (uh H5 _ (alBrg _ _ _)) | exact alCro (uh H6 _ (alBrg _ _ _))))
  refine wpQuiet_nil ?_
  intro _ hw'
  obtain ⟨⟨dq, osq⟩, hw''⟩ := hw'
  subst hw''
  go_wp2_with fail
  go_ret
  exact ⟨rfl, (uh BB).trans ((alBrg _ _ _).mono (uh BB).size)⟩
 cases q4
 ·go_wp2_with fail
  refine wq ?_
  repeat (go_big_quiet_step (first | exact alCro (uh H1 _ (alBrg _ _ _)) | exact alCro (uh H2 _ (alBrg _ _ _)) | exact alCro (uh H3 _ (alBrg _ _ _)) | exact alCro (uh H4a _ (alBrg _ _ _)) | exact alCro (uh H4 _ (alBrg _ _ _)) | exact alCro (uh H5 _ (alBrg _ _ _)) | exact alCro (uh H6 _ (alBrg _ _ _))))
  refine wpQuiet_nil ?_
  intro _ hw'
  obtain ⟨⟨dq, osq⟩, hw''⟩ := hw'
  subst hw''
  go_wp2_with fail
  go_ret
  exact ⟨rfl, (uh BB).trans ((alBrg _ _ _).mono (uh BB).size)⟩
 cases q5
 ·go_wp2_with fail
  refine wq ?_
  repeat (go_big_quiet_step (first | exact alCro (uh H1 _ (alBrg _ _ _)) | exact alCro (uh H2 _ (alBrg _ _ _)) | exact alCro (uh H3 _ (alBrg _ _ _)) | exact alCro (uh H4a _ (alBrg _ _ _)) | exact alCro (uh H4 _ (alBrg _ _ _)) | exact alCro (uh H5 _ (alBrg _ _ _)) | exact alCro (uh H6 _ (alBrg _ _ _))))
  refine wpQuiet_nil ?_
  intro _ hw'
  obtain ⟨⟨dq, osq⟩, hw''⟩ := hw'
  subst hw''
  go_wp2_with fail
  go_ret
  exact ⟨rfl, (uh BB).trans ((alBrg _ _ _).mono (uh BB).size)⟩
 go_wp2_with fail
 refine wq ?_
 repeat (go_big_quiet_step (first | exact alCro (uh H1 _ (alBrg _ _ _)) | exact alCro (uh H2 _ (alBrg _ _ _)) | exact alCro (uh H3 _ (alBrg _ _ _)) | exact alCro (uh H4a _ (alBrg _ _ _)) | exact alCro (uh H4 _ (alBrg _ _ _)) | exact alCro (uh H5 _ (alBrg _ _ _)) | exact alCro (uh H6 _ (alBrg _ _ _))))
 refine wpQuiet_nil ?_
 intro _ hw'
 obtain ⟨⟨dq, osq⟩, hw''⟩ := hw'
 subst hw''
 go_wp2_with fail
 go_ret
 exact ⟨ret_bool (by simp), (uh BB).trans ((alBrg _ _ _).mono (uh BB).size)⟩
theorem allInPlace_any {w : World} {v0 v1 v2 v3 v4 : Value} {m : SmyV} (h : Smy w v0 v1 v2 v3 v4 m) : cB 111 #[.agg #[v0, v1, v2, v3, v4, .int .i64 m.now]] w (.bool (inPlaceIB m)) := by
 have Hv := hide (h.alloc (.cells #[v0, v1, v2, v3, v4, .int .i64 m.now] 32))
 obtain ⟨a0, p0, a1, p1, a2, p2, a3, p3, a4, p4, rfl, rfl, rfl, rfl, rfl, _, _, _, _, _, _, _, _, _, _⟩ := h.five
 clear h
 obtain ⟨q1, hq1⟩ := alAx (partsIB m)
 obtain ⟨q2, hq2⟩ := alAx (allTo (placeB m.desks) m.smiths m.smiths.length)
 refine Calls.bool_of (q := (q1 && q2)) ?_ (by unfold inPlaceIB; rw [hq1, hq2])
 have H1 := hide hq1
 have H2 := hide hq2
 clear hq1 hq2
 have kb : Hid (Blk (w.alloc (.cells (S6 a0 p0 a1 p1 a2 p2 a3 p3 a4 p4 m) 32)) w.heap.size 32 (S6 a0 p0 a1 p1 a2 p2 a3 p3 a4 p4 m)) := hide (Blk.new w _ _)
 have BB : Hid (Below w.heap.size w (w.alloc (.cells (S6 a0 p0 a1 p1 a2 p2 a3 p3 a4 p4 m) 32))) := hide ((ba _ _))
 go_enter func111, ntmps111
 go_wp2_with fail
 generalize w.alloc (.cells (S6 a0 p0 a1 p1 a2 p2 a3 p3 a4 p4 m) 32) = W at *
 refine (partsOk_any (uh Hv)).mono ?_
 rw [uh H1]
 rintro e w1 ⟨rfl, hb⟩
 replace Hv := hide ((uh Hv).below hb)
 replace kb := bl kb hb
 replace BB := bt BB hb
 clear hb
 cases q1
 ·go_wp2_with fail
  go_ret
  exact ⟨rfl, uh BB⟩
 obtain ⟨c0, c1, c2, c3, c4, c5⟩ := (uh kb).c6
 go_wp2_with fail
 refine ck (smithsOf_any _ _ _ _ _ _ _ _ _ _ _ _ _ _ _ _ _) fun w2 hb => ?_
 replace Hv := hide ((uh Hv).below hb)
 replace kb := bl kb hb
 replace BB := bt BB hb
 clear hb c0 c1 c2 c3 c4 c5
 go_wp2_with fail
 refine (allPlace_any (uh Hv).smiths ((uh kb).cell (i := 3) rfl) (uh kb).lt (uh Hv).desks).mono ?_
 rw [uh H2]
 rintro e w3 ⟨rfl, hb⟩
 replace BB := bt BB hb
 clear hb
 go_wp2_with fail
 go_ret
 exact ⟨ret_bool (by simp), uh BB⟩
theorem whoIsAt_any {w : World} {v0 v1 v2 v3 v4 : Value} {m : SmyV} (b : Int) (h : Smy w v0 v1 v2 v3 v4 m) (hl : m.smiths.length ≤ 1000) : Calls prog 159 #[.agg #[v0, v1, v2, v3, v4, .int .i64 m.now], .int .i64 b] w fun e w' => ∃ v', e = .returned v' ∧ NumsAt w.heap.size w' v' (whereTo (atB b) m.smiths m.smiths.length) ∧ Below w.heap.size w w' := by
 have Hv := hide ((h.alloc (.cells #[v0, v1, v2, v3, v4, .int .i64 m.now] 32)).alloc (.cells #[.int .i64 b] 2))
 obtain ⟨a0, p0, a1, p1, a2, p2, a3, p3, a4, p4, rfl, rfl, rfl, rfl, rfl, _, _, _, _, _, _, _, _, _, _⟩ := h.five
 clear h
 have BB : Hid (Below w.heap.size w ((w.alloc (.cells (S6 a0 p0 a1 p1 a2 p2 a3 p3 a4 p4 m) 32)).alloc (.cells #[.int .i64 b] 2))) := hide (((ba _ _)).alloc (by simp) _)
 have kc : Hid (Blk ((w.alloc (.cells (S6 a0 p0 a1 p1 a2 p2 a3 p3 a4 p4 m) 32)).alloc (.cells #[.int .i64 b] 2)) (w.heap.size + 1) 2 #[.int .i64 b]) := hide (by
  have k := Blk.new (w.alloc (.cells (S6 a0 p0 a1 p1 a2 p2 a3 p3 a4 p4 m) 32)) 2 #[.int .i64 b]
  rw [alWsa] at k
  exact k)
 go_enter func159, ntmps159
 go_wp2_with fail
 generalize (w.alloc (.cells (S6 a0 p0 a1 p1 a2 p2 a3 p3 a4 p4 m) 32)).alloc (.cells #[.int .i64 b] 2) = W at *
 refine ck (smithsOf_any _ _ _ _ _ _ _ _ _ _ _ _ _ _ _ _ _) fun w2 hb => ?_
 replace Hv := hide ((uh Hv).below hb)
 replace kc := bl kc hb
 replace BB := bt BB hb
 clear hb
 go_wp2_with fail
 refine (whereAt_any (uh Hv).smiths hl ((uh kc).cell (i := 0) rfl) (uh kc).lt).mono ?_
 rintro e w3 ⟨v', rfl, hn, hb⟩
 have HN := hide (RecAt.mono hn (uh BB).size)
 replace BB := bt BB hb
 obtain ⟨la, lc, rfl⟩ := RecAt.shape hn
 clear hb hn
 go_wp2_with fail
 go_ret
 exact ⟨_, rfl, uh HN, uh BB⟩
theorem whoWorksAt_any {w : World} {v0 v1 v2 v3 v4 : Value} {m : SmyV} (b : Int) (h : Smy w v0 v1 v2 v3 v4 m) (hl : m.smiths.length ≤ 1000) : Calls prog 242 #[.agg #[v0, v1, v2, v3, v4, .int .i64 m.now], .int .i64 b] w fun e w' => ∃ v', e = .returned v' ∧ NumsAt w.heap.size w' v' (whereTo (worksB b) m.smiths m.smiths.length) ∧ Below w.heap.size w w' := by
 have Hv := hide ((h.alloc (.cells #[v0, v1, v2, v3, v4, .int .i64 m.now] 32)).alloc (.cells #[.int .i64 b] 2))
 obtain ⟨a0, p0, a1, p1, a2, p2, a3, p3, a4, p4, rfl, rfl, rfl, rfl, rfl, _, _, _, _, _, _, _, _, _, _⟩ := h.five
 clear h
 have BB : Hid (Below w.heap.size w ((w.alloc (.cells (S6 a0 p0 a1 p1 a2 p2 a3 p3 a4 p4 m) 32)).alloc (.cells #[.int .i64 b] 2))) := hide (((ba _ _)).alloc (by simp) _)
 have kc : Hid (Blk ((w.alloc (.cells (S6 a0 p0 a1 p1 a2 p2 a3 p3 a4 p4 m) 32)).alloc (.cells #[.int .i64 b] 2)) (w.heap.size + 1) 2 #[.int .i64 b]) := hide (by
  have k := Blk.new (w.alloc (.cells (S6 a0 p0 a1 p1 a2 p2 a3 p3 a4 p4 m) 32)) 2 #[.int .i64 b]
  rw [alWsa] at k
  exact k)
 go_enter func242, ntmps242
 go_wp2_with fail
 generalize (w.alloc (.cells (S6 a0 p0 a1 p1 a2 p2 a3 p3 a4 p4 m) 32)).alloc (.cells #[.int .i64 b] 2) = W at *
 refine ck (smithsOf_any _ _ _ _ _ _ _ _ _ _ _ _ _ _ _ _ _) fun w2 hb => ?_
 replace Hv := hide ((uh Hv).below hb)
 replace kc := bl kc hb
 replace BB := bt BB hb
 clear hb
 go_wp2_with fail
 refine (whereWorks_any (uh Hv).smiths hl ((uh kc).cell (i := 0) rfl) (uh kc).lt).mono ?_
 rintro e w3 ⟨v', rfl, hn, hb⟩
 have HN := hide (RecAt.mono hn (uh BB).size)
 replace BB := bt BB hb
 obtain ⟨la, lc, rfl⟩ := RecAt.shape hn
 clear hb hn
 go_wp2_with fail
 go_ret
 exact ⟨_, rfl, uh HN, uh BB⟩
theorem turnOk_any {w : World} {v0 v1 v2 v3 v4 : Value} {m : SmyV} {b : Nat} (h : Smy w v0 v1 v2 v3 v4 m) (hl : m.smiths.length ≤ 1000) (hb0 : b < m.desks.length) : cB 203 #[.agg #[v0, v1, v2, v3, v4, .int .i64 m.now], .int .i64 (b : Int)] w (.bool (turnIB m b)) := by
 have Hv := hide (h.alloc (.cells #[v0, v1, v2, v3, v4, .int .i64 m.now] 32))
 obtain ⟨a0, p0, rfl, _, _⟩ := IsRooms.shape h.rooms
 obtain ⟨a1, p1, rfl, _, _⟩ := IsRec.shape h.guilds
 obtain ⟨a2, p2, rfl, _, _⟩ := IsRec.shape h.smiths
 obtain ⟨a3, p3, rfl, hc3, hm3, r3⟩ := h.desks
 obtain ⟨a4, p4, rfl, _, _⟩ := IsRec.shape h.paces
 clear h
 rcases r3 with e0 | ⟨db, off, rfl, hbw, hcl⟩
 ·rw [e0] at hb0; simp at hb0
 obtain ⟨_, d1, _⟩ := desk_cells hcl hb0
 have hb1 : (b : Int) < (m.desks.length : Int) := by omega
 have hT : turnIB m b = if (recAt m.desks b).2.1 = -1 then decide ((whereTo (atB b) m.smiths m.smiths.length).length = 0) else decide ((whereTo (worksB b) m.smiths m.smiths.length).length = 1) && decide (recAt (whereTo (worksB b) m.smiths m.smiths.length) 0 = (recAt m.desks b).2.1) := rfl
 have HT := hide hT
 clear hT hcl
 generalize (recAt m.desks b).2.1 = who at *
 have hne : db ≠ w.heap.size := alNol hbw
 obtain ⟨BB, kb⟩ := one_box0 w 32 #[.slice a0 m.rooms.length p0, .slice a1 m.guilds.length p1, .slice a2 m.smiths.length p2, .slice (some ⟨db, off, none⟩) m.desks.length p3, .slice a4 m.paces.length p4, .int .i64 m.now]
 rw [← (uh BB).cell (p := ⟨db, off + b * 3 + 1, none⟩) hbw] at d1
 by_cases hw : who = -1
 ·subst hw
  obtain ⟨ws, hws⟩ := alAx (whereTo (atB b) m.smiths m.smiths.length)
  refine Calls.bool_of (q := decide (ws.length = 0)) ?_ (by rw [uh HT, if_pos rfl, hws])
  have Hws := hide hws
  clear hws HT
  go_enter func203, ntmps203
  go_upto_region 3 with fail
  generalize w.alloc (.cells #[.slice a0 m.rooms.length p0, .slice a1 m.guilds.length p1, .slice a2 m.smiths.length p2, .slice (some ⟨db, off, none⟩) m.desks.length p3, .slice a4 m.paces.length p4, .int .i64 m.now] 32) = W at *
  obtain ⟨c0, c1, c2, c3, c4, c5⟩ := (uh kb).c6
  go_wp2_with fail
  refine (whoIsAt_any (b : Int) (uh Hv) hl).mono ?_
  rw [uh Hws]
  rintro e w2 ⟨v', rfl, hn, hb⟩
  obtain ⟨la, lc, rfl⟩ := RecAt.shape hn
  replace BB := bt BB hb
  clear hb hn c0 c1 c2 c3 c4 c5
  go_wp2_with fail
  go_ret
  exact ⟨ret_bool (by rw [Bool.eq_iff_iff]; simp only [beq_iff_eq, alDte]; omega), uh BB⟩
 have nw : (who == -1) = false := by simpa using hw
 obtain ⟨ws, hws⟩ := alAx (whereTo (worksB b) m.smiths m.smiths.length)
 refine Calls.bool_of (q := decide (ws.length = 1) && decide (recAt ws 0 = who)) ?_ (by rw [uh HT, if_neg hw, hws])
 have Hws := hide hws
 clear hws HT
 go_enter func203, ntmps203
 go_upto_region 3 with fail
 generalize w.alloc (.cells #[.slice a0 m.rooms.length p0, .slice a1 m.guilds.length p1, .slice a2 m.smiths.length p2, .slice (some ⟨db, off, none⟩) m.desks.length p3, .slice a4 m.paces.length p4, .int .i64 m.now] 32) = W at *
 obtain ⟨c0, c1, c2, c3, c4, c5⟩ := (uh kb).c6
 go_wp2_with fail
 refine (whoWorksAt_any (b : Int) (uh Hv) hl).mono ?_
 rw [uh Hws]
 rintro e w2 ⟨v', rfl, hn, hb⟩
 obtain ⟨la, lc, rfl⟩ := RecAt.shape hn
 replace BB := bt BB hb
 have HN := hide hn
 clear hb hn c0 c1 c2 c3 c4 c5
 by_cases h1 : ws.length = 1
 ·obtain ⟨g, hga, _, _, hcl, _⟩ := RecAt.view encNum_len (by omega) (uh HN) rfl (by omega)
  cases hga
  have z0 := hcl 0 (by omega) 0 _ rfl
  simp only [Nat.zero_mul, Nat.add_zero] at z0
  have hl1 : ((ws.length : Int) == 1) = true := by simp; omega
  clear hcl
  have h01 : (0 : Int) < (ws.length : Int) := by omega
  obtain ⟨z, hz⟩ := alAx (recAt ws 0)
  rw [hz] at z0
  have Hz := hide hz
  clear hz
  go_wp2_with fail
  go_ret
  exact ⟨ret_bool (by rw [uh Hz, decide_eq_true h1, Bool.eq_iff_iff]; simp only [Bool.true_and, beq_iff_eq, alDte]), uh BB⟩
 ·have hl1 : ((ws.length : Int) == 1) = false := by simp; omega
  go_wp2_with fail
  go_ret
  exact ⟨ret_bool (by rw [decide_eq_false h1]; rfl), uh BB⟩
theorem turnsOk_any {w : World} {v0 v1 v2 v3 v4 : Value} {m : SmyV} (h : Smy w v0 v1 v2 v3 v4 m) (hl : m.smiths.length ≤ 1000) : cB 148 #[.agg #[v0, v1, v2, v3, v4, .int .i64 m.now]] w (.bool (turnsIB m)) := by
 have Hv := hide (h.alloc (.cells #[v0, v1, v2, v3, v4, .int .i64 m.now] 32))
 obtain ⟨a0, p0, a1, p1, a2, p2, a3, p3, a4, p4, rfl, rfl, rfl, rfl, rfl, _, _, _, _, _, _, _, _, _, _⟩ := h.five
 clear h
 obtain ⟨BB0, kb0⟩ := one_box0 w 32 (S6 a0 p0 a1 p1 a2 p2 a3 p3 a4 p4 m)
 go_enter func148, ntmps148
 go_wp2_with fail
 go_loopw [7] (fun i wr => ∃ k : Nat, k ≤ m.desks.length ∧ i = .int .i64 k ∧ (List.range k).all (turnIB m) = true ∧ Smy wr (.slice a0 m.rooms.length p0) (.slice a1 m.guilds.length p1) (.slice a2 m.smiths.length p2) (.slice a3 m.desks.length p3) (.slice a4 m.paces.length p4) m ∧ Blk wr w.heap.size 32 (S6 a0 p0 a1 p1 a2 p2 a3 p3 a4 p4 m) ∧ Below w.heap.size w wr) (fun i _ => m.desks.length - (intOf i).toNat)
 case atStart => exact ⟨0, alNzl _, rfl, rfl, uh Hv, uh kb0, uh BB0⟩
 case round =>
  obtain ⟨k, hk, rfl, hst, hv, hkb, hb0⟩ := hrel
  have Hst := hide hst
  have Hv1 := hide hv
  have kb := hide hkb
  have BB := hide hb0
  clear hv hkb hb0 kb0 BB0 Hv
  by_cases hlt : k < m.desks.length
  ·have hlt1 : (k : Int) < (m.desks.length : Int) := by omega
   have HU := hide (fun (hh : turnIB m k = true) => (show (List.range (k + 1)).all (turnIB m) = true from by rw [all_up, hst, hh]; rfl))
   have HN := hide (fun hh => (show turnsIB m = false from all_no (p := turnIB m) hlt hh))
   clear hst
   obtain ⟨q, Hq⟩ := alAn (turnIB m k)
   obtain ⟨c0, c1, c2, c3, c4, c5⟩ := (uh kb).c6
   go_wp2_with fail
   refine (turnOk_any (uh Hv1) hl hlt).mono ?_
   rw [uh Hq]
   rintro e w1 ⟨rfl, hb⟩
   replace Hv1 := hide ((uh Hv1).below hb)
   replace kb := bl kb hb
   replace BB := bt BB hb
   clear hb c0 c1 c2 c3 c4 c5
   cases q
   ·go_wp2_with fail
    go_ret
    exact ⟨ret_bool (uh HN (uh Hq)).symm, uh BB⟩
   ·go_wp2_with fail
    go_roundw
    case rel => exact ⟨k + 1, by omega, by go_num, uh HU (uh Hq), uh Hv1, uh kb, uh BB⟩
    case measure => exact ms
  ·obtain rfl : k = m.desks.length := by omega
   go_wp2_with fail
   go_ret
   exact ⟨ret_bool (uh Hst).symm, uh BB⟩
theorem parts_few {m : SmyV} (h : inPlaceIB m = true) : m.smiths.length ≤ 12 := by
 rw [loose_same] at h
 unfold looseB headB at h
 simp only [alBae, alDte] at h
 exact h.1.2.2.1
theorem implSmithyOk_any {w : World} {v0 v1 v2 v3 v4 : Value} {m : SmyV} (h : Smy w v0 v1 v2 v3 v4 m) : cB 83 #[.agg #[v0, v1, v2, v3, v4, .int .i64 m.now]] w (.bool (smyB m)) := by
 have Hv := hide (h.alloc (.cells #[v0, v1, v2, v3, v4, .int .i64 m.now] 32))
 obtain ⟨a0, p0, a1, p1, a2, p2, a3, p3, a4, p4, rfl, rfl, rfl, rfl, rfl, _, _, _, _, _, _, _, _, _, _⟩ := h.five
 clear h
 obtain ⟨q1, hq1⟩ := alAx (inPlaceIB m)
 obtain ⟨q2, hq2⟩ := alAx (turnsIB m)
 refine Calls.bool_of (q := (q1 && q2)) ?_ (by rw [← smy_same]; unfold smyIB; rw [hq1, hq2])
 have H1 := hide hq1
 have H2 := hide hq2
 clear hq1 hq2
 have kb : Hid (Blk (w.alloc (.cells (S6 a0 p0 a1 p1 a2 p2 a3 p3 a4 p4 m) 32)) w.heap.size 32 (S6 a0 p0 a1 p1 a2 p2 a3 p3 a4 p4 m)) := hide (Blk.new w _ _)
 have BB : Hid (Below w.heap.size w (w.alloc (.cells (S6 a0 p0 a1 p1 a2 p2 a3 p3 a4 p4 m) 32))) := hide ((ba _ _))
 go_enter func83, ntmps83
 go_wp2_with fail
 generalize w.alloc (.cells (S6 a0 p0 a1 p1 a2 p2 a3 p3 a4 p4 m) 32) = W at *
 refine (allInPlace_any (uh Hv)).mono ?_
 rw [uh H1]
 rintro e w1 ⟨rfl, hb⟩
 replace Hv := hide ((uh Hv).below hb)
 replace kb := bl kb hb
 replace BB := bt BB hb
 clear hb
 cases q1
 ·go_wp2_with fail
  go_ret
  exact ⟨rfl, uh BB⟩
 obtain ⟨c0, c1, c2, c3, c4, c5⟩ := (uh kb).c6
 go_wp2_with fail
 refine (turnsOk_any (uh Hv) (by have := parts_few (uh H1); omega)).mono ?_
 rw [uh H2]
 rintro e w2 ⟨rfl, hb⟩
 replace BB := bt BB hb
 clear hb c0 c1 c2 c3 c4 c5
 go_wp2_with fail
 go_ret
 exact ⟨ret_bool (by simp), uh BB⟩
theorem implSmithyOk_q (w : World) (v0 v1 v2 v3 v4 : Value) (m : SmyV) (q : Bool) (hq : smyB m = q) (h : Smy w v0 v1 v2 v3 v4 m) : cB 83 #[.agg #[v0, v1, v2, v3, v4, .int .i64 m.now]] w (.bool q) := Calls.bool_of (implSmithyOk_any h) hq
end Go.Proofs.YtgdpaigcmoifbaaGreat
