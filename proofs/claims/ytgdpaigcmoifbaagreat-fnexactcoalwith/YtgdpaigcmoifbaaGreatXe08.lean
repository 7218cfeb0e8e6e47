/- Part 8 of what the proof rests on. No condition but those that a theorem names. -/
import Derived.Test.YtgdpaigcmoifbaaGreatXe02
import Derived.Test.YtgdpaigcmoifbaaGreatXe03
import Derived.Laws.StructEq
set_option maxHeartbeats 8000000
set_option maxRecDepth 100000
namespace Go.Proofs.YtgdpaigcmoifbaaGreat
open Go.ChangeShapes Go.WideShapes Go.ChangeAt Go.RowKit Go.Sort
set_option linter.unusedVariables false
def presB (x : SmithV) : Bool :=
 inB x.1 1 3 && (inB x.2.1 0 7 && (inB x.2.2.1 (-5) 5 && (inB x.2.2.2.1 1 255 && (inB x.2.2.2.2.1 (-1) 5 && (pairB x.2.2.2.2.2.1 x.2.2.2.2.2.2.1 && (inB x.2.2.2.2.2.2.2.1 (-1000000000000) 1000000000000 &&
  (inB x.2.2.2.2.2.2.2.2.1 0 (weightV x.2.2.1 - 1) && (inB x.2.2.2.2.2.2.2.2.2.1 0 1024 && inB x.2.2.2.2.2.2.2.2.2.2 0 100000000000))))))))
def zeroS : SmithV := (0, 0, 0, 0, 0, 0, 0, 0, 0, 0, 0)
def sameB (x y : SmithV) : Bool := x.1 == y.1 && (x.2.1 == y.2.1 && (x.2.2.1 == y.2.2.1 && (x.2.2.2.1 == y.2.2.2.1 && (x.2.2.2.2.1 == y.2.2.2.2.1 && (x.2.2.2.2.2.1 == y.2.2.2.2.2.1 && (x.2.2.2.2.2.2.1 == y.2.2.2.2.2.2.1 && (x.2.2.2.2.2.2.2.1 == y.2.2.2.2.2.2.2.1 && (x.2.2.2.2.2.2.2.2.1 == y.2.2.2.2.2.2.2.2.1 && (x.2.2.2.2.2.2.2.2.2.1 == y.2.2.2.2.2.2.2.2.2.1 && (x.2.2.2.2.2.2.2.2.2.2 == y.2.2.2.2.2.2.2.2.2.2))))))))))
theorem sameB_refl (x : SmithV) : sameB x x = true := by unfold sameB; simp
theorem sameB_of {x y : SmithV} (h : sameB x y = true) : x = y := by
 obtain ⟨x0, x1, x2, x3, x4, x5, x6, x7, x8, x9, x10⟩ := x
 obtain ⟨y0, y1, y2, y3, y4, y5, y6, y7, y8, y9, y10⟩ := y
 unfold sameB at h
 simp only [alBae, beq_iff_eq] at h
 obtain ⟨rfl, rfl, rfl, rfl, rfl, rfl, rfl, rfl, rfl, rfl, rfl⟩ := h
 rfl
def goneB (x : SmithV) : Bool := sameB x zeroS
def smithB (x : SmithV) : Bool := goneB x || presB x
theorem weight_in (r : Int) : 0 ≤ weightV r ∧ weightV r ≤ 3125 := by
 cases h : inB r (-5) 5
 ·rw [weightV_none h]; omega
 ·rcases ranks h with rfl | rfl | rfl | rfl | rfl | rfl | rfl | rfl | rfl | rfl | rfl <;> decide
theorem presB_of {st be rk my gu lo hi hd ca ut wk : Int} (h : presB (st, be, rk, my, gu, lo, hi, hd, ca, ut, wk) = true) : (1 ≤ st ∧ st ≤ 3) ∧ (0 ≤ be ∧ be ≤ 7) ∧ inB rk (-5) 5 = true ∧ (1 ≤ my ∧ my ≤ 255) ∧ (-1 ≤ gu ∧ gu ≤ 5) ∧ pairB lo hi = true ∧ (-1000000000000 ≤ hd ∧ hd ≤ 1000000000000) ∧ (0 ≤ ca ∧ ca ≤ weightV rk - 1) ∧ (0 ≤ ut ∧ ut ≤ 1024) ∧ (0 ≤ wk ∧ wk ≤ 100000000000) := by
 unfold presB at h
 simp only [alBae] at h
 obtain ⟨h0, h1, h2, h3, h4, h5, h6, h7, h8, h9⟩ := h
 exact ⟨inB_of h0, inB_of h1, h2, inB_of h3, inB_of h4, h5, inB_of h6, inB_of h7, inB_of h8, inB_of h9⟩
theorem goneB_of {x : SmithV} (h : goneB x = true) : x = zeroS := sameB_of h
theorem goneB_zero : goneB zeroS = true := sameB_refl _
theorem goneB_st {x : SmithV} (h : x.1 ≠ 0) : goneB x = false := by
 cases hg : goneB x
 ·rfl
 ·exact absurd (show x.1 = 0 by rw [goneB_of hg]; rfl) h
theorem presB_st {x : SmithV} (h : x.1 = 0) : presB x = false := by
 unfold presB
 rw [h]
 rfl
open Go.ChangeShapes Go.WideShapes Go.ChangeAt Go.RowKit Go.Sort Go.Proofs.Tryz
theorem smith_equal (x0 x1 x2 x3 x4 x5 x6 x7 x8 x9 x10 y0 y1 y2 y3 y4 y5 y6 y7 y8 y9 y10 : Int) (w : World) : (Op.equalIn 10000 38 (.agg (I11 x0 x1 x2 x3 x4 x5 x6 x7 x8 x9 x10)) (.agg (I11 y0 y1 y2 y3 y4 y5 y6 y7 y8 y9 y10))).run prog w = .ok (sameB (x0, x1, x2, x3, x4, x5, x6, x7, x8, x9, x10) (y0, y1, y2, y3, y4, y5, y6, y7, y8, y9, y10)) w := by
 have u := underlying2
 have a := Tryz.isAgg2
 have z := Tryz.sizeOf2
 have hS : prog.underlying 38 = some (.struct (prog.fieldsOf 38)) := by kernel_rfl
 have hp : prog.stoodInHeld 38 = false := by kernel_rfl
 rw [show (10000 : Nat) = 9999 + 1 from rfl, run_equalIn_agg w 9999 38 _ _ hS hp]
 simp only [Program.fieldsOf, underlying38]
 go_simp
 unfold sameB
 by_cases h0 : x0 = y0
 rotate_left
 ·simp [h0]
 subst h0
 by_cases h1 : x1 = y1
 rotate_left
 ·simp [h1]
 subst h1
 by_cases h2 : x2 = y2
 rotate_left
 ·simp [h2]
 subst h2
 by_cases h3 : x3 = y3
 rotate_left
 ·simp [h3]
 subst h3
 by_cases h4 : x4 = y4
 rotate_left
 ·simp [h4]
 subst h4
 by_cases h5 : x5 = y5
 rotate_left
 ·simp [h5]
 subst h5
 by_cases h6 : x6 = y6
 rotate_left
 ·simp [h6]
 subst h6
 by_cases h7 : x7 = y7
 rotate_left
 ·simp [h7]
 subst h7
 by_cases h8 : x8 = y8
 rotate_left
 ·simp [h8]
 subst h8
 by_cases h9 : x9 = y9
 rotate_left
 ·simp [h9]
 subst h9
 by_cases h10 : x10 = y10
 rotate_left
 ·simp [h10]
 subst h10
 simp
theorem smith_eql (x0 x1 x2 x3 x4 x5 x6 x7 x8 x9 x10 y0 y1 y2 y3 y4 y5 y6 y7 y8 y9 y10 : Int) (w : World) : (binOp .eql 38 (.agg (I11 x0 x1 x2 x3 x4 x5 x6 x7 x8 x9 x10)) (.agg (I11 y0 y1 y2 y3 y4 y5 y6 y7 y8 y9 y10))).run prog w = .ok (.bool (sameB (x0, x1, x2, x3, x4, x5, x6, x7, x8, x9, x10) (y0, y1, y2, y3, y4, y5, y6, y7, y8, y9, y10))) w := by
 rw [run_eql_struct, smith_equal]; rfl
theorem smith_neq (x0 x1 x2 x3 x4 x5 x6 x7 x8 x9 x10 y0 y1 y2 y3 y4 y5 y6 y7 y8 y9 y10 : Int) (w : World) : (binOp .neq 38 (.agg (I11 x0 x1 x2 x3 x4 x5 x6 x7 x8 x9 x10)) (.agg (I11 y0 y1 y2 y3 y4 y5 y6 y7 y8 y9 y10))).run prog w = .ok (.bool (!sameB (x0, x1, x2, x3, x4, x5, x6, x7, x8, x9, x10) (y0, y1, y2, y3, y4, y5, y6, y7, y8, y9, y10))) w := by
 rw [run_neq_struct, smith_equal]; rfl
theorem implWeightOf_v {r x : Int} (h : weightV r = x) (w : World) : cE 331 #[.int .i64 r] w (.int .i64 x) := by
 have := implWeightOf_any r w; rw [h] at this; exact this
theorem specWeightOf_v {r x : Int} (h : weightV r = x) (w : World) : cE 196 #[.int .i64 r] w (.int .i64 x) := by
 have := specWeightOf_any r w; rw [h] at this; exact this
attribute [local go_sem ↓] smith_eql smith_neq
theorem specHad_any (n : Int) (w : World) : cE 195 #[.int .i64 n] w (.bool (inB n (-1000000000000) 1000000000000)) := by
 go_enter func195, ntmps195
 go_wp2_with (go_at_call 129; refine (l1In_any _ _ _ _).mono ?_; rintro e w' ⟨rfl, rfl⟩)
 go_ret
 exact ⟨rfl, rfl⟩
theorem specSmithOk_any (st be rk my gu lo hi hd ca ut wk : Int) (w : World) : cB 134 #[.agg (I11 st be rk my gu lo hi hd ca ut wk)] w (.bool (smithB (st, be, rk, my, gu, lo, hi, hd, ca, ut, wk))) := by
 by_cases hst : st = 0
 ·subst hst
  unfold smithB
  rw [presB_st rfl, Bool.or_false]
  obtain ⟨q, hq⟩ := alAx (goneB (0, be, rk, my, gu, lo, hi, hd, ca, ut, wk))
  rw [hq]
  have hz : sameB (0, be, rk, my, gu, lo, hi, hd, ca, ut, wk) (0, 0, 0, 0, 0, 0, 0, 0, 0, 0, 0) = q := hq
  clear hq
  go_enter func134, ntmps134
  go_wp2_with fail
  go_ret
  exact ⟨rfl, (ba _ _)⟩
 ·have hne : (st == 0) = false := by simpa using hst
  unfold smithB
  rw [goneB_st hst, Bool.false_or]
  unfold presB
  simp only
  obtain ⟨x0, x1⟩ := weight_in rk
  obtain ⟨x, hx⟩ := alAx (weightV rk)
  rw [hx] at x0 x1 ⊢
  have Hw := hide hx
  have hwr : IntKind.i64.wrap (x - 1) = x - 1 := by rw [IntKind.wrap_i64]; omega
  clear hx hst
  cases h0 : inB st 1 3
  ·go_enter func134, ntmps134
   go_wp2_with (first | (go_at_call 129; refine (l1In_any _ _ _ _).mono ?_; rintro e w' ⟨rfl, rfl⟩) | (go_at_call 194; refine (l3Rank_any _ _).mono ?_; rintro e w' ⟨rfl, rfl⟩) | (go_at_call 193; refine (l8Pair_any _ _ _).mono ?_; rintro e w' ⟨rfl, rfl⟩))
   go_ret
   exact ⟨rfl, (ba _ _)⟩
  cases h1 : inB be 0 7
  ·go_enter func134, ntmps134
   go_wp2_with (first | (go_at_call 129; refine (l1In_any _ _ _ _).mono ?_; rintro e w' ⟨rfl, rfl⟩) | (go_at_call 194; refine (l3Rank_any _ _).mono ?_; rintro e w' ⟨rfl, rfl⟩) | (go_at_call 193; refine (l8Pair_any _ _ _).mono ?_; rintro e w' ⟨rfl, rfl⟩))
   go_ret
   exact ⟨rfl, (ba _ _)⟩
  cases h2 : inB rk (-5) 5
  ·go_enter func134, ntmps134
   go_wp2_with (first | (go_at_call 129; refine (l1In_any _ _ _ _).mono ?_; rintro e w' ⟨rfl, rfl⟩) | (go_at_call 194; refine (l3Rank_any _ _).mono ?_; rintro e w' ⟨rfl, rfl⟩) | (go_at_call 193; refine (l8Pair_any _ _ _).mono ?_; rintro e w' ⟨rfl, rfl⟩))
   go_ret
   exact ⟨rfl, (ba _ _)⟩
  cases h3 : inB my 1 255
  ·go_enter func134, ntmps134
   go_wp2_with (first | (go_at_call 129; refine (l1In_any _ _ _ _).mono ?_; rintro e w' ⟨rfl, rfl⟩) | (go_at_call 194; refine (l3Rank_any _ _).mono ?_; rintro e w' ⟨rfl, rfl⟩) | (go_at_call 193; refine (l8Pair_any _ _ _).mono ?_; rintro e w' ⟨rfl, rfl⟩))
   go_ret
   exact ⟨rfl, (ba _ _)⟩
  cases h4 : inB gu (-1) 5
  ·go_enter func134, ntmps134
   go_wp2_with (first | (go_at_call 129; refine (l1In_any _ _ _ _).mono ?_; rintro e w' ⟨rfl, rfl⟩) | (go_at_call 194; refine (l3Rank_any _ _).mono ?_; rintro e w' ⟨rfl, rfl⟩) | (go_at_call 193; refine (l8Pair_any _ _ _).mono ?_; rintro e w' ⟨rfl, rfl⟩))
   go_ret
   exact ⟨rfl, (ba _ _)⟩
  cases h5 : pairB lo hi
  ·go_enter func134, ntmps134
   go_wp2_with (first | (go_at_call 129; refine (l1In_any _ _ _ _).mono ?_; rintro e w' ⟨rfl, rfl⟩) | (go_at_call 194; refine (l3Rank_any _ _).mono ?_; rintro e w' ⟨rfl, rfl⟩) | (go_at_call 193; refine (l8Pair_any _ _ _).mono ?_; rintro e w' ⟨rfl, rfl⟩))
   go_ret
   exact ⟨rfl, (ba _ _)⟩
  cases h6 : inB hd (-1000000000000) 1000000000000
  ·go_enter func134, ntmps134
   go_wp2_with (first | (go_at_call 129; refine (l1In_any _ _ _ _).mono ?_; rintro e w' ⟨rfl, rfl⟩) | (go_at_call 194; refine (l3Rank_any _ _).mono ?_; rintro e w' ⟨rfl, rfl⟩) | (go_at_call 193; refine (l8Pair_any _ _ _).mono ?_; rintro e w' ⟨rfl, rfl⟩))
   go_quiet (first | exact alCqs (l1In_any _ _ _ _) | exact alCqs (specHad_any _ _) | exact alCqs (specWeightOf_v (uh Hw) _) | exact alCqs (guildForce_any _ _))
   go_wp2_with fail
   go_ret
   exact ⟨rfl, drewN_below ((ba _ _)) _⟩
  cases h7 : inB ca 0 (x - 1)
  ·go_enter func134, ntmps134
   go_wp2_with (first | (go_at_call 129; refine (l1In_any _ _ _ _).mono ?_; rintro e w' ⟨rfl, rfl⟩) | (go_at_call 194; refine (l3Rank_any _ _).mono ?_; rintro e w' ⟨rfl, rfl⟩) | (go_at_call 193; refine (l8Pair_any _ _ _).mono ?_; rintro e w' ⟨rfl, rfl⟩))
   go_quiet (first | exact alCqs (l1In_any _ _ _ _) | exact alCqs (specHad_any _ _) | exact alCqs (specWeightOf_v (uh Hw) _) | exact alCqs (guildForce_any _ _))
   go_wp2_with fail
   go_ret
   exact ⟨rfl, drewN_below ((ba _ _)) _⟩
  cases h8 : inB ut 0 1024
  ·go_enter func134, ntmps134
   go_wp2_with (first | (go_at_call 129; refine (l1In_any _ _ _ _).mono ?_; rintro e w' ⟨rfl, rfl⟩) | (go_at_call 194; refine (l3Rank_any _ _).mono ?_; rintro e w' ⟨rfl, rfl⟩) | (go_at_call 193; refine (l8Pair_any _ _ _).mono ?_; rintro e w' ⟨rfl, rfl⟩))
   go_quiet (first | exact alCqs (l1In_any _ _ _ _) | exact alCqs (specHad_any _ _) | exact alCqs (specWeightOf_v (uh Hw) _) | exact alCqs (guildForce_any _ _))
   go_wp2_with fail
   go_ret
   exact ⟨rfl, drewN_below ((ba _ _)) _⟩
  cases h9 : inB wk 0 100000000000
  ·go_enter func134, ntmps134
   go_wp2_with (first | (go_at_call 129; refine (l1In_any _ _ _ _).mono ?_; rintro e w' ⟨rfl, rfl⟩) | (go_at_call 194; refine (l3Rank_any _ _).mono ?_; rintro e w' ⟨rfl, rfl⟩) | (go_at_call 193; refine (l8Pair_any _ _ _).mono ?_; rintro e w' ⟨rfl, rfl⟩))
   go_quiet (first | exact alCqs (l1In_any _ _ _ _) | exact alCqs (specHad_any _ _) | exact alCqs (specWeightOf_v (uh Hw) _) | exact alCqs (guildForce_any _ _))
   go_wp2_with fail
   go_ret
   exact ⟨rfl, drewN_below ((ba _ _)) _⟩
  go_enter func134, ntmps134
  go_wp2_with (first | (go_at_call 129; refine (l1In_any _ _ _ _).mono ?_; rintro e w' ⟨rfl, rfl⟩) | (go_at_call 194; refine (l3Rank_any _ _).mono ?_; rintro e w' ⟨rfl, rfl⟩) | (go_at_call 193; refine (l8Pair_any _ _ _).mono ?_; rintro e w' ⟨rfl, rfl⟩))
  go_quiet (first | exact alCqs (l1In_any _ _ _ _) | exact alCqs (specHad_any _ _) | exact alCqs (specWeightOf_v (uh Hw) _) | exact alCqs (guildForce_any _ _))
  go_wp2_with fail
  go_ret
  exact ⟨rfl, drewN_below ((ba _ _)) _⟩
end Go.Proofs.YtgdpaigcmoifbaaGreat
namespace Go.Proofs.YtgdpaigcmoifbaaGreat
open Go.ChangeShapes Go.WideShapes Go.ChangeAt Go.RowKit Go.Sort Go.Proofs.Tryz
set_option linter.unusedVariables false
def mkSmith (c : Int) : SmithV := (c, c + 1, c + 1 + 1, c + 1 + 1 + 1, c + 1 + 1 + 1 + 1, c + 1 + 1 + 1 + 1 + 1, c + 1 + 1 + 1 + 1 + 1 + 1, c + 1 + 1 + 1 + 1 + 1 + 1 + 1, c + 1 + 1 + 1 + 1 + 1 + 1 + 1 + 1, c + 1 + 1 + 1 + 1 + 1 + 1 + 1 + 1 + 1, c + 1 + 1 + 1 + 1 + 1 + 1 + 1 + 1 + 1 + 1)
theorem markSmithS_any {n₀ : Nat} {w : World} {v : Value} {ps : List SmithV} (c : Int) (h : SmithsAt n₀ w v ps) (hk0 : 0 ≤ c) (hk1 : c ≤ 1000000000000000) (hl : ps.length ≤ 10000000) :
  Calls prog 105 #[v, .int .i64 c] w fun e w' => e = .returned (.int .i64 (c + 11 * (ps.length : Int))) ∧ SmithsAt n₀ w' v (markL mkSmith 11 c ps.length) ∧ w.grownBy w' v.ownBlock := by
 have Hv := hide h
 obtain ⟨a, cap, rfl⟩ := RecAt.shape h
 clear h
 go_enter func105, ntmps105
 go_wp2_with fail
 go_loopw [5, 1] (fun i q wr => ∃ j : Nat, j ≤ ps.length ∧ i = .int .i64 j ∧ q = .int .i64 (c + 11 * (j : Int)) ∧ SmithsAt n₀ wr (.slice a ps.length cap) (markedL mkSmith 11 c ps j) ∧ w.grownBy wr (Value.ownBlock (.slice a ps.length cap))) (fun i _ _ => ps.length - (intOf i).toNat)
 case atStart => exact ⟨0, alNzl _, rfl, by simp, by rw [markedL_zero]; exact uh Hv, grown_refl _ _⟩
 case round =>
  obtain ⟨j, hj, rfl, rfl, hin, hgr⟩ := hrel
  by_cases hlt : j < ps.length
  ·have hfl := markedL_len (mk := mkSmith) (d := 11) (c := c) hj
   obtain ⟨g, rfl, _, _, hcells, hfz⟩ := RecAt.view encSmith_len (by omega) hin hfl.symm (by omega)
   have hq := fun i u hu => hcells j (by omega) i u hu
   generalize recAt (markedL mkSmith 11 c ps j) j = old at hq
   obtain ⟨o0, o1, o2, o3, o4, o5, o6, o7, o8, o9, o10⟩ := sc11 (hq)
   obtain ⟨f0, f1, f2, f3, f4, f5, f6, f7, f8, f9, f10⟩ := fy11 hfz (j * 11)
   simp only [Nat.add_zero] at o0
   have hp := RecAt.put encSmith_len (by omega) hin hfl.symm (j := j) (by omega) (mkSmith (c + 11 * (j : Int)))
   have hs9 := markedL_set (mk := mkSmith) (d := 11) (c := c) hlt
   rw [show ((11 : Nat) : Int) = 11 from rfl] at hs9
   have HS := hide hs9
   clear hs9
   have H1 := hide hp.1
   have H2 := hide (grown_trans hgr hp.2)
   clear hin hgr hcells hq hfz hp hfl
   go_wp2_with fail
   go_roundw
   case rel => exact ⟨j + 1, by omega, by go_num, by go_num, by have h9 := uh H1; rw [uh HS] at h9; exact h9, uh H2⟩
   case measure => exact ms
  ·obtain rfl : j = ps.length := by omega
   rw [markedL_all] at hin
   go_wp2_with fail
   go_ret
   exact ⟨rfl, hin, hgr⟩
def mkGuild (c : Int) : GuildV := (c, c + 1, c + 1 + 1)
theorem markGuildS_any {n₀ : Nat} {w : World} {v : Value} {ps : List GuildV} (c : Int) (h : GuildsAt n₀ w v ps) (hk0 : 0 ≤ c) (hk1 : c ≤ 1000000000000000) (hl : ps.length ≤ 10000000) :
  Calls prog 104 #[v, .int .i64 c] w fun e w' => e = .returned (.int .i64 (c + 3 * (ps.length : Int))) ∧ GuildsAt n₀ w' v (markL mkGuild 3 c ps.length) ∧ w.grownBy w' v.ownBlock := by
 have Hv := hide h
 obtain ⟨a, cap, rfl⟩ := RecAt.shape h
 clear h
 go_enter func104, ntmps104
 go_wp2_with fail
 go_loopw [5, 1] (fun i q wr => ∃ j : Nat, j ≤ ps.length ∧ i = .int .i64 j ∧ q = .int .i64 (c + 3 * (j : Int)) ∧ GuildsAt n₀ wr (.slice a ps.length cap) (markedL mkGuild 3 c ps j) ∧ w.grownBy wr (Value.ownBlock (.slice a ps.length cap))) (fun i _ _ => ps.length - (intOf i).toNat)
 case atStart => exact ⟨0, alNzl _, rfl, by simp, by rw [markedL_zero]; exact uh Hv, grown_refl _ _⟩
 case round =>
  obtain ⟨j, hj, rfl, rfl, hin, hgr⟩ := hrel
  by_cases hlt : j < ps.length
  ·have hfl := markedL_len (mk := mkGuild) (d := 3) (c := c) hj
   obtain ⟨g, rfl, _, _, hcells, hfz⟩ := RecAt.view encGuild_len (by omega) hin hfl.symm (by omega)
   have hq := fun i u hu => hcells j (by omega) i u hu
   generalize recAt (markedL mkGuild 3 c ps j) j = old at hq
   have o0 := hq 0 _ rfl
   have f0 := hfz (j * 3)
   have o1 := hq 1 _ rfl
   have f1 := hfz (j * 3 + 1)
   have o2 := hq 2 _ rfl
   have f2 := hfz (j * 3 + 2)
   simp only [Nat.add_zero] at o0
   have hp := RecAt.put encGuild_len (by omega) hin hfl.symm (j := j) (by omega) (mkGuild (c + 3 * (j : Int)))
   have hs9 := markedL_set (mk := mkGuild) (d := 3) (c := c) hlt
   rw [show ((3 : Nat) : Int) = 3 from rfl] at hs9
   have HS := hide hs9
   clear hs9
   have H1 := hide hp.1
   have H2 := hide (grown_trans hgr hp.2)
   clear hin hgr hcells hq hfz hp hfl
   go_wp2_with fail
   go_roundw
   case rel => exact ⟨j + 1, by omega, by go_num, by go_num, by have h9 := uh H1; rw [uh HS] at h9; exact h9, uh H2⟩
   case measure => exact ms
  ·obtain rfl : j = ps.length := by omega
   rw [markedL_all] at hin
   go_wp2_with fail
   go_ret
   exact ⟨rfl, hin, hgr⟩
end Go.Proofs.YtgdpaigcmoifbaaGreat
