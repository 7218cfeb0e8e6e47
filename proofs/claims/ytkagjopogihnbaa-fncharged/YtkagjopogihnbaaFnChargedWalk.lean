/- The law FnCharged: at every row of bytes what is charged is not lost. No condition but that the bytes can be read. -/
import Derived.Test.YtkagjopogihnbaaSmithDraw4
import Derived.Test.YtkagjopogihnbaaSmithLaws
import Derived.Lib.QuietBelow
namespace Go.Proofs.Ytkagjopogihnbaa
open Go.ChangeShapes Go.WideShapes Go.ChangeAt Go.RowKit Go.Sort
open Draw (IsRow Row row_of row_later big_yes big_no)
set_option linter.unusedVariables false

theorem smithB_zero : smithB zeroS = true := rfl
theorem charged_or {x y : SmithV} {work : Int} (h : chargedV x work = (y, false)) : (smithB x = false ∧ y = zeroS) ∨ (smithB x = true ∧ y = x) := by
  cases hg : goneB x
  · cases hp : presB x
    · rw [chargedV_wrong work hg hp] at h
      refine .inl ⟨by unfold smithB; rw [hg, hp]; rfl, (Prod.mk.inj h).1.symm⟩
    · refine .inr ⟨smithB_pres hp, ?_⟩
      cases hw : inB work 0 100000
      · rw [chargedV_no hp hw] at h
        exact (Prod.mk.inj h).1.symm
      · cases hq : presB (putOn x work)
        · rw [chargedV_in hp hw hq] at h
          exact (Prod.mk.inj h).1.symm
        · rw [chargedV_in hp hw hq] at h
          exact absurd (Prod.mk.inj h).2 (by decide)
  · rw [chargedV_gone work hg] at h
    refine .inr ⟨by unfold smithB; rw [hg]; rfl, ?_⟩
    rw [goneB_of hg]
    exact (Prod.mk.inj h).1.symm
theorem charged_is {x y : SmithV} {work : Int} (h : chargedV x work = (y, true)) : presB x = true ∧ inB work 0 100000 = true ∧ y = putOn x work ∧ smithB y = true := by
  cases hg : goneB x
  · cases hp : presB x
    · rw [chargedV_wrong work hg hp] at h
      exact absurd (Prod.mk.inj h).2 (by decide)
    · cases hw : inB work 0 100000
      · rw [chargedV_no hp hw] at h
        exact absurd (Prod.mk.inj h).2 (by decide)
      · cases hq : presB (putOn x work)
        · rw [chargedV_in hp hw hq] at h
          exact absurd (Prod.mk.inj h).2 (by decide)
        · rw [chargedV_in hp hw hq] at h
          have e := (Prod.mk.inj h).1
          refine ⟨rfl, rfl, e.symm, ?_⟩
          rw [← e]
          exact smithB_pres hq
  · rw [chargedV_gone work hg] at h
    exact absurd (Prod.mk.inj h).2 (by decide)
theorem reranked_is {x y : SmithV} {rank : Int} (h : rerankedV x rank = (y, true)) : y = reRank x rank ∧ smithB y = true := by
  cases hg : goneB x
  · cases hp : presB x
    · rw [rerankedV_wrong rank hg hp] at h
      exact absurd (Prod.mk.inj h).2 (by decide)
    · cases hw : inB rank (-5) 5
      · rw [rerankedV_no hp hw] at h
        exact absurd (Prod.mk.inj h).2 (by decide)
      · rw [rerankedV_yes hp hw] at h
        have e := (Prod.mk.inj h).1
        refine ⟨e.symm, ?_⟩
        rw [← e]
        exact smithB_pres (presB_reRank hp hw)
  · rw [rerankedV_gone rank hg] at h
    exact absurd (Prod.mk.inj h).2 (by decide)

theorem Blk.put11 {w : World} {R : Nat} {t : TypeId} {c0 c1 c2 c3 c4 c5 c6 c7 c8 c9 c10 : Value} (h : Blk w R t #[c0, c1, c2, c3, c4, c5, c6, c7, c8, c9, c10]) (v0 v1 v2 v3 v4 v5 v6 v7 v8 v9 v10 : Value) :
    Blk (((((((((((w.setCell ⟨R, 0, none⟩ v0).setCell ⟨R, 1, none⟩ v1).setCell ⟨R, 2, none⟩ v2).setCell ⟨R, 3, none⟩ v3).setCell ⟨R, 4, none⟩ v4).setCell ⟨R, 5, none⟩ v5).setCell ⟨R, 6, none⟩ v6).setCell ⟨R, 7, none⟩ v7).setCell ⟨R, 8, none⟩ v8).setCell ⟨R, 9, none⟩ v9).setCell ⟨R, 10, none⟩ v10) R t #[v0, v1, v2, v3, v4, v5, v6, v7, v8, v9, v10] := by
  have h0 : Blk (w.setCell ⟨R, 0, none⟩ v0) R t #[v0, c1, c2, c3, c4, c5, c6, c7, c8, c9, c10] := h.set 0 v0
  have h1 : Blk ((w.setCell ⟨R, 0, none⟩ v0).setCell ⟨R, 1, none⟩ v1) R t #[v0, v1, c2, c3, c4, c5, c6, c7, c8, c9, c10] := h0.set 1 v1
  have h2 : Blk (((w.setCell ⟨R, 0, none⟩ v0).setCell ⟨R, 1, none⟩ v1).setCell ⟨R, 2, none⟩ v2) R t #[v0, v1, v2, c3, c4, c5, c6, c7, c8, c9, c10] := h1.set 2 v2
  have h3 : Blk ((((w.setCell ⟨R, 0, none⟩ v0).setCell ⟨R, 1, none⟩ v1).setCell ⟨R, 2, none⟩ v2).setCell ⟨R, 3, none⟩ v3) R t #[v0, v1, v2, v3, c4, c5, c6, c7, c8, c9, c10] := h2.set 3 v3
  have h4 : Blk (((((w.setCell ⟨R, 0, none⟩ v0).setCell ⟨R, 1, none⟩ v1).setCell ⟨R, 2, none⟩ v2).setCell ⟨R, 3, none⟩ v3).setCell ⟨R, 4, none⟩ v4) R t #[v0, v1, v2, v3, v4, c5, c6, c7, c8, c9, c10] := h3.set 4 v4
  have h5 : Blk ((((((w.setCell ⟨R, 0, none⟩ v0).setCell ⟨R, 1, none⟩ v1).setCell ⟨R, 2, none⟩ v2).setCell ⟨R, 3, none⟩ v3).setCell ⟨R, 4, none⟩ v4).setCell ⟨R, 5, none⟩ v5) R t #[v0, v1, v2, v3, v4, v5, c6, c7, c8, c9, c10] := h4.set 5 v5
  have h6 : Blk (((((((w.setCell ⟨R, 0, none⟩ v0).setCell ⟨R, 1, none⟩ v1).setCell ⟨R, 2, none⟩ v2).setCell ⟨R, 3, none⟩ v3).setCell ⟨R, 4, none⟩ v4).setCell ⟨R, 5, none⟩ v5).setCell ⟨R, 6, none⟩ v6) R t #[v0, v1, v2, v3, v4, v5, v6, c7, c8, c9, c10] := h5.set 6 v6
  have h7 : Blk ((((((((w.setCell ⟨R, 0, none⟩ v0).setCell ⟨R, 1, none⟩ v1).setCell ⟨R, 2, none⟩ v2).setCell ⟨R, 3, none⟩ v3).setCell ⟨R, 4, none⟩ v4).setCell ⟨R, 5, none⟩ v5).setCell ⟨R, 6, none⟩ v6).setCell ⟨R, 7, none⟩ v7) R t #[v0, v1, v2, v3, v4, v5, v6, v7, c8, c9, c10] := h6.set 7 v7
  have h8 : Blk (((((((((w.setCell ⟨R, 0, none⟩ v0).setCell ⟨R, 1, none⟩ v1).setCell ⟨R, 2, none⟩ v2).setCell ⟨R, 3, none⟩ v3).setCell ⟨R, 4, none⟩ v4).setCell ⟨R, 5, none⟩ v5).setCell ⟨R, 6, none⟩ v6).setCell ⟨R, 7, none⟩ v7).setCell ⟨R, 8, none⟩ v8) R t #[v0, v1, v2, v3, v4, v5, v6, v7, v8, c9, c10] := h7.set 8 v8
  have h9 : Blk ((((((((((w.setCell ⟨R, 0, none⟩ v0).setCell ⟨R, 1, none⟩ v1).setCell ⟨R, 2, none⟩ v2).setCell ⟨R, 3, none⟩ v3).setCell ⟨R, 4, none⟩ v4).setCell ⟨R, 5, none⟩ v5).setCell ⟨R, 6, none⟩ v6).setCell ⟨R, 7, none⟩ v7).setCell ⟨R, 8, none⟩ v8).setCell ⟨R, 9, none⟩ v9) R t #[v0, v1, v2, v3, v4, v5, v6, v7, v8, v9, c10] := h8.set 9 v9
  have h10 : Blk (((((((((((w.setCell ⟨R, 0, none⟩ v0).setCell ⟨R, 1, none⟩ v1).setCell ⟨R, 2, none⟩ v2).setCell ⟨R, 3, none⟩ v3).setCell ⟨R, 4, none⟩ v4).setCell ⟨R, 5, none⟩ v5).setCell ⟨R, 6, none⟩ v6).setCell ⟨R, 7, none⟩ v7).setCell ⟨R, 8, none⟩ v8).setCell ⟨R, 9, none⟩ v9).setCell ⟨R, 10, none⟩ v10) R t #[v0, v1, v2, v3, v4, v5, v6, v7, v8, v9, v10] := h9.set 10 v10
  exact h10

attribute [local go_sem ↓] smith_eql smith_neq
set_option maxRecDepth 100000 in
set_option maxHeartbeats 16000000 in
theorem walkFnCharged (a0 : Option Addr) (len0 cap0 : Nat) (z0 : List Int) (w : World) (w0 : IsRow .u8 w a0 len0 cap0 z0) :
    Calls Try.prog 3 #[.slice a0 len0 cap0] w fun e w' => e = .returned (.bool true) ∧ Below w.heap.size w w' := by
  by_cases hbig : 4096 < len0
  · go_enter Try.func3, Try.ntmps3
    go_wp2_with fail
    refine (big_yes _ _ _ _ hbig).mono ?_
    rintro e w' ⟨rfl, rfl⟩
    go_wp2_with fail
    go_ret
    exact ⟨rfl, Below.refl _ _⟩
  have Hr := hide (row_of w0 (by omega))
  clear w0
  go_enter Try.func3, Try.ntmps3
  go_wp2_with fail
  refine (big_no _ _ _ _ (by omega)).mono ?_
  rintro e w' ⟨rfl, hw'⟩
  subst w'
  go_wp2_with fail
  refine (drawCharged_any _ _ _ _ (unhide Hr)).mono ?_
  rintro e w1 ⟨S0, work, rfl, hb⟩
  have BB := hide hb
  clear hb
  obtain ⟨X0, is, hC⟩ : ∃ y q, chargedV S0 work = (y, q) := ⟨_, _, rfl⟩
  obtain ⟨qs, hQ⟩ : ∃ q, smithB S0 = q := ⟨_, rfl⟩
  have h1 := implCharged_w hC
  have h2 := specCharged_w hC
  have HC := hide hC
  have HQ := hide hQ
  obtain ⟨st, be, rk, my, gu, lo, hi, hd, ca, ut, wk⟩ := S0
  obtain ⟨x0, x1, x2, x3, x4, x5, x6, x7, x8, x9, x10⟩ := X0
  have IC : Hid (∀ w : World, Calls Try.prog 9 #[.agg #[.int .i64 st, .int .i64 be, .int .i64 rk, .int .i64 my, .int .i64 gu, .int .i64 lo, .int .i64 hi, .int .i64 hd, .int .i64 ca, .int .i64 ut, .int .i64 wk], .int .i64 work] w fun e w' => e = .returned (.tuple #[.agg #[.int .i64 x0, .int .i64 x1, .int .i64 x2, .int .i64 x3, .int .i64 x4, .int .i64 x5, .int .i64 x6, .int .i64 x7, .int .i64 x8, .int .i64 x9, .int .i64 x10], .bool is]) ∧ Below w.heap.size w w') := hide h1
  have SC : Hid (∀ w : World, Calls Try.prog 12 #[.agg #[.int .i64 st, .int .i64 be, .int .i64 rk, .int .i64 my, .int .i64 gu, .int .i64 lo, .int .i64 hi, .int .i64 hd, .int .i64 ca, .int .i64 ut, .int .i64 wk], .int .i64 work] w fun e w' => e = .returned (.tuple #[.agg #[.int .i64 x0, .int .i64 x1, .int .i64 x2, .int .i64 x3, .int .i64 x4, .int .i64 x5, .int .i64 x6, .int .i64 x7, .int .i64 x8, .int .i64 x9, .int .i64 x10], .bool is]) ∧ Below w.heap.size w w') := hide h2
  have IO : Hid (∀ w : World, Calls Try.prog 13 #[.agg #[.int .i64 st, .int .i64 be, .int .i64 rk, .int .i64 my, .int .i64 gu, .int .i64 lo, .int .i64 hi, .int .i64 hd, .int .i64 ca, .int .i64 ut, .int .i64 wk]] w fun e w' => e = .returned (.bool qs) ∧ Below w.heap.size w w') := hide (fun w => by have := implSmithOk_any st be rk my gu lo hi hd ca ut wk w; rw [hQ] at this; exact this)
  have SO : Hid (∀ w : World, Calls Try.prog 14 #[.agg #[.int .i64 st, .int .i64 be, .int .i64 rk, .int .i64 my, .int .i64 gu, .int .i64 lo, .int .i64 hi, .int .i64 hd, .int .i64 ca, .int .i64 ut, .int .i64 wk]] w fun e w' => e = .returned (.bool qs) ∧ Below w.heap.size w w') := hide (fun w => by have := specSmithOk_any st be rk my gu lo hi hd ca ut wk w; rw [hQ] at this; exact this)
  clear h1 h2 hC hQ
  simp only [encSmith]
  go_wp2_with fail
  have hw1 : w.heap.size ≤ w1.heap.size := (unhide BB).size
  replace BB := hide ((unhide BB).alloc (unhide BB).size (.cells #[.int .i64 st, .int .i64 be, .int .i64 rk, .int .i64 my, .int .i64 gu, .int .i64 lo, .int .i64 hi, .int .i64 hd, .int .i64 ca, .int .i64 ut, .int .i64 wk] 25))
  have k3 : Hid (Blk (w1.alloc (.cells #[.int .i64 st, .int .i64 be, .int .i64 rk, .int .i64 my, .int .i64 gu, .int .i64 lo, .int .i64 hi, .int .i64 hd, .int .i64 ca, .int .i64 ut, .int .i64 wk] 25)) w1.heap.size 25 #[.int .i64 st, .int .i64 be, .int .i64 rk, .int .i64 my, .int .i64 gu, .int .i64 lo, .int .i64 hi, .int .i64 hd, .int .i64 ca, .int .i64 ut, .int .i64 wk]) := hide (Blk.new _ _ _)
  generalize w1.alloc (.cells #[.int .i64 st, .int .i64 be, .int .i64 rk, .int .i64 my, .int .i64 gu, .int .i64 lo, .int .i64 hi, .int .i64 hd, .int .i64 ca, .int .i64 ut, .int .i64 wk] 25) = W at *
  generalize w1.heap.size = b3 at *
  refine (unhide IC _).mono ?_
  rintro e w2 ⟨rfl, hb⟩
  replace k3 := hide ((unhide k3).below hb (unhide k3).lt)
  replace BB := hide ((unhide BB).trans (hb.mono (unhide BB).size))
  clear hb
  have lk3 := (unhide k3).lt
  go_wp2_with fail
  replace k3 := hide ((unhide k3).alloc (.cells #[.int .i64 x0, .int .i64 x1, .int .i64 x2, .int .i64 x3, .int .i64 x4, .int .i64 x5, .int .i64 x6, .int .i64 x7, .int .i64 x8, .int .i64 x9, .int .i64 x10] 25))
  replace BB := hide ((unhide BB).alloc (unhide BB).size (.cells #[.int .i64 x0, .int .i64 x1, .int .i64 x2, .int .i64 x3, .int .i64 x4, .int .i64 x5, .int .i64 x6, .int .i64 x7, .int .i64 x8, .int .i64 x9, .int .i64 x10] 25))
  have k5 : Hid (Blk (w2.alloc (.cells #[.int .i64 x0, .int .i64 x1, .int .i64 x2, .int .i64 x3, .int .i64 x4, .int .i64 x5, .int .i64 x6, .int .i64 x7, .int .i64 x8, .int .i64 x9, .int .i64 x10] 25)) w2.heap.size 25 #[.int .i64 x0, .int .i64 x1, .int .i64 x2, .int .i64 x3, .int .i64 x4, .int .i64 x5, .int .i64 x6, .int .i64 x7, .int .i64 x8, .int .i64 x9, .int .i64 x10]) := hide (Blk.new _ _ _)
  generalize w2.alloc (.cells #[.int .i64 x0, .int .i64 x1, .int .i64 x2, .int .i64 x3, .int .i64 x4, .int .i64 x5, .int .i64 x6, .int .i64 x7, .int .i64 x8, .int .i64 x9, .int .i64 x10] 25) = W at *
  generalize w2.heap.size = b5 at *
  refine (drawReranked_any _ _ _ _ (row_later (unhide Hr) (unhide BB))).mono ?_
  rintro e w3 ⟨Q0, rank, rfl, hb⟩
  replace k3 := hide ((unhide k3).below hb (unhide k3).lt)
  replace k5 := hide ((unhide k5).below hb (unhide k5).lt)
  replace BB := hide ((unhide BB).trans (hb.mono (unhide BB).size))
  clear hb
  have lk5 := (unhide k5).lt
  obtain ⟨Y0, re, hC⟩ : ∃ y q, rerankedV Q0 rank = (y, q) := ⟨_, _, rfl⟩
  have h1 := implReranked_w hC
  have h2 := specReranked_w hC
  have HR := hide hC
  obtain ⟨q0, q1, q2, q3, q4, q5, q6, q7, q8, q9, q10⟩ := Q0
  obtain ⟨y0, y1, y2, y3, y4, y5, y6, y7, y8, y9, y10⟩ := Y0
  have IR : Hid (∀ w : World, Calls Try.prog 11 #[.agg #[.int .i64 q0, .int .i64 q1, .int .i64 q2, .int .i64 q3, .int .i64 q4, .int .i64 q5, .int .i64 q6, .int .i64 q7, .int .i64 q8, .int .i64 q9, .int .i64 q10], .int .i64 rank] w fun e w' => e = .returned (.tuple #[.agg #[.int .i64 y0, .int .i64 y1, .int .i64 y2, .int .i64 y3, .int .i64 y4, .int .i64 y5, .int .i64 y6, .int .i64 y7, .int .i64 y8, .int .i64 y9, .int .i64 y10], .bool re]) ∧ Below w.heap.size w w') := hide h1
  have SR : Hid (∀ w : World, Calls Try.prog 15 #[.agg #[.int .i64 q0, .int .i64 q1, .int .i64 q2, .int .i64 q3, .int .i64 q4, .int .i64 q5, .int .i64 q6, .int .i64 q7, .int .i64 q8, .int .i64 q9, .int .i64 q10], .int .i64 rank] w fun e w' => e = .returned (.tuple #[.agg #[.int .i64 y0, .int .i64 y1, .int .i64 y2, .int .i64 y3, .int .i64 y4, .int .i64 y5, .int .i64 y6, .int .i64 y7, .int .i64 y8, .int .i64 y9, .int .i64 y10], .bool re]) ∧ Below w.heap.size w w') := hide h2
  clear h1 h2 hC
  simp only [encSmith]
  go_wp2_with fail
  replace k3 := hide ((unhide k3).alloc (.cells #[.int .i64 q0, .int .i64 q1, .int .i64 q2, .int .i64 q3, .int .i64 q4, .int .i64 q5, .int .i64 q6, .int .i64 q7, .int .i64 q8, .int .i64 q9, .int .i64 q10] 25))
  replace k5 := hide ((unhide k5).alloc (.cells #[.int .i64 q0, .int .i64 q1, .int .i64 q2, .int .i64 q3, .int .i64 q4, .int .i64 q5, .int .i64 q6, .int .i64 q7, .int .i64 q8, .int .i64 q9, .int .i64 q10] 25))
  replace BB := hide ((unhide BB).alloc (unhide BB).size (.cells #[.int .i64 q0, .int .i64 q1, .int .i64 q2, .int .i64 q3, .int .i64 q4, .int .i64 q5, .int .i64 q6, .int .i64 q7, .int .i64 q8, .int .i64 q9, .int .i64 q10] 25))
  have k7 : Hid (Blk (w3.alloc (.cells #[.int .i64 q0, .int .i64 q1, .int .i64 q2, .int .i64 q3, .int .i64 q4, .int .i64 q5, .int .i64 q6, .int .i64 q7, .int .i64 q8, .int .i64 q9, .int .i64 q10] 25)) w3.heap.size 25 #[.int .i64 q0, .int .i64 q1, .int .i64 q2, .int .i64 q3, .int .i64 q4, .int .i64 q5, .int .i64 q6, .int .i64 q7, .int .i64 q8, .int .i64 q9, .int .i64 q10]) := hide (Blk.new _ _ _)
  generalize w3.alloc (.cells #[.int .i64 q0, .int .i64 q1, .int .i64 q2, .int .i64 q3, .int .i64 q4, .int .i64 q5, .int .i64 q6, .int .i64 q7, .int .i64 q8, .int .i64 q9, .int .i64 q10] 25) = W at *
  generalize w3.heap.size = b7 at *
  refine (unhide IR _).mono ?_
  rintro e w4 ⟨rfl, hb⟩
  replace k3 := hide ((unhide k3).below hb (unhide k3).lt)
  replace k5 := hide ((unhide k5).below hb (unhide k5).lt)
  replace k7 := hide ((unhide k7).below hb (unhide k7).lt)
  replace BB := hide ((unhide BB).trans (hb.mono (unhide BB).size))
  clear hb
  have m3 := (unhide k3).lt
  have m5 := (unhide k5).lt
  have m7 := (unhide k7).lt
  have c0 := (unhide k3).cell (i := 0) (v := .int .i64 st) rfl
  have c1 := (unhide k3).cell (i := 1) (v := .int .i64 be) rfl
  have c2 := (unhide k3).cell (i := 2) (v := .int .i64 rk) rfl
  have c3 := (unhide k3).cell (i := 3) (v := .int .i64 my) rfl
  have c4 := (unhide k3).cell (i := 4) (v := .int .i64 gu) rfl
  have c5 := (unhide k3).cell (i := 5) (v := .int .i64 lo) rfl
  have c6 := (unhide k3).cell (i := 6) (v := .int .i64 hi) rfl
  have c7 := (unhide k3).cell (i := 7) (v := .int .i64 hd) rfl
  have c8 := (unhide k3).cell (i := 8) (v := .int .i64 ca) rfl
  have c9 := (unhide k3).cell (i := 9) (v := .int .i64 ut) rfl
  have c10 := (unhide k3).cell (i := 10) (v := .int .i64 wk) rfl
  go_wp2_with fail
  replace k3 := hide ((unhide k3).alloc (.cells #[.int .i64 y0, .int .i64 y1, .int .i64 y2, .int .i64 y3, .int .i64 y4, .int .i64 y5, .int .i64 y6, .int .i64 y7, .int .i64 y8, .int .i64 y9, .int .i64 y10] 25))
  replace k5 := hide ((unhide k5).alloc (.cells #[.int .i64 y0, .int .i64 y1, .int .i64 y2, .int .i64 y3, .int .i64 y4, .int .i64 y5, .int .i64 y6, .int .i64 y7, .int .i64 y8, .int .i64 y9, .int .i64 y10] 25))
  replace k7 := hide ((unhide k7).alloc (.cells #[.int .i64 y0, .int .i64 y1, .int .i64 y2, .int .i64 y3, .int .i64 y4, .int .i64 y5, .int .i64 y6, .int .i64 y7, .int .i64 y8, .int .i64 y9, .int .i64 y10] 25))
  replace BB := hide ((unhide BB).alloc (unhide BB).size (.cells #[.int .i64 y0, .int .i64 y1, .int .i64 y2, .int .i64 y3, .int .i64 y4, .int .i64 y5, .int .i64 y6, .int .i64 y7, .int .i64 y8, .int .i64 y9, .int .i64 y10] 25))
  have k9 : Hid (Blk (w4.alloc (.cells #[.int .i64 y0, .int .i64 y1, .int .i64 y2, .int .i64 y3, .int .i64 y4, .int .i64 y5, .int .i64 y6, .int .i64 y7, .int .i64 y8, .int .i64 y9, .int .i64 y10] 25)) w4.heap.size 25 #[.int .i64 y0, .int .i64 y1, .int .i64 y2, .int .i64 y3, .int .i64 y4, .int .i64 y5, .int .i64 y6, .int .i64 y7, .int .i64 y8, .int .i64 y9, .int .i64 y10]) := hide (Blk.new _ _ _)
  clear c0 c1 c2 c3 c4 c5 c6 c7 c8 c9 c10
  generalize w4.alloc (.cells #[.int .i64 y0, .int .i64 y1, .int .i64 y2, .int .i64 y3, .int .i64 y4, .int .i64 y5, .int .i64 y6, .int .i64 y7, .int .i64 y8, .int .i64 y9, .int .i64 y10] 25) = W at *
  generalize w4.heap.size = b9 at *
  refine (unhide SC _).mono ?_
  rintro e w5 ⟨rfl, hb⟩
  replace k3 := hide ((unhide k3).below hb (unhide k3).lt)
  replace k5 := hide ((unhide k5).below hb (unhide k5).lt)
  replace k7 := hide ((unhide k7).below hb (unhide k7).lt)
  replace k9 := hide ((unhide k9).below hb (unhide k9).lt)
  replace BB := hide ((unhide BB).trans (hb.mono (unhide BB).size))
  clear hb
  have n9 := (unhide k9).lt
  go_wp2_with fail
  replace k3 := hide ((unhide k3).alloc (.cells #[.int .i64 x0, .int .i64 x1, .int .i64 x2, .int .i64 x3, .int .i64 x4, .int .i64 x5, .int .i64 x6, .int .i64 x7, .int .i64 x8, .int .i64 x9, .int .i64 x10] 25))
  replace k5 := hide ((unhide k5).alloc (.cells #[.int .i64 x0, .int .i64 x1, .int .i64 x2, .int .i64 x3, .int .i64 x4, .int .i64 x5, .int .i64 x6, .int .i64 x7, .int .i64 x8, .int .i64 x9, .int .i64 x10] 25))
  replace k7 := hide ((unhide k7).alloc (.cells #[.int .i64 x0, .int .i64 x1, .int .i64 x2, .int .i64 x3, .int .i64 x4, .int .i64 x5, .int .i64 x6, .int .i64 x7, .int .i64 x8, .int .i64 x9, .int .i64 x10] 25))
  replace k9 := hide ((unhide k9).alloc (.cells #[.int .i64 x0, .int .i64 x1, .int .i64 x2, .int .i64 x3, .int .i64 x4, .int .i64 x5, .int .i64 x6, .int .i64 x7, .int .i64 x8, .int .i64 x9, .int .i64 x10] 25))
  replace BB := hide ((unhide BB).alloc (unhide BB).size (.cells #[.int .i64 x0, .int .i64 x1, .int .i64 x2, .int .i64 x3, .int .i64 x4, .int .i64 x5, .int .i64 x6, .int .i64 x7, .int .i64 x8, .int .i64 x9, .int .i64 x10] 25))
  have k11 : Hid (Blk (w5.alloc (.cells #[.int .i64 x0, .int .i64 x1, .int .i64 x2, .int .i64 x3, .int .i64 x4, .int .i64 x5, .int .i64 x6, .int .i64 x7, .int .i64 x8, .int .i64 x9, .int .i64 x10] 25)) w5.heap.size 25 #[.int .i64 x0, .int .i64 x1, .int .i64 x2, .int .i64 x3, .int .i64 x4, .int .i64 x5, .int .i64 x6, .int .i64 x7, .int .i64 x8, .int .i64 x9, .int .i64 x10]) := hide (Blk.new _ _ _)
  generalize w5.alloc (.cells #[.int .i64 x0, .int .i64 x1, .int .i64 x2, .int .i64 x3, .int .i64 x4, .int .i64 x5, .int .i64 x6, .int .i64 x7, .int .i64 x8, .int .i64 x9, .int .i64 x10] 25) = W at *
  generalize w5.heap.size = b11 at *
  have c0 := cell_regrown ((unhide k3).cell (i := 0) (v := .int .i64 st) rfl)
  have c1 := cell_regrown ((unhide k3).cell (i := 1) (v := .int .i64 be) rfl)
  have c2 := cell_regrown ((unhide k3).cell (i := 2) (v := .int .i64 rk) rfl)
  have c3 := cell_regrown ((unhide k3).cell (i := 3) (v := .int .i64 my) rfl)
  have c4 := cell_regrown ((unhide k3).cell (i := 4) (v := .int .i64 gu) rfl)
  have c5 := cell_regrown ((unhide k3).cell (i := 5) (v := .int .i64 lo) rfl)
  have c6 := cell_regrown ((unhide k3).cell (i := 6) (v := .int .i64 hi) rfl)
  have c7 := cell_regrown ((unhide k3).cell (i := 7) (v := .int .i64 hd) rfl)
  have c8 := cell_regrown ((unhide k3).cell (i := 8) (v := .int .i64 ca) rfl)
  have c9 := cell_regrown ((unhide k3).cell (i := 9) (v := .int .i64 ut) rfl)
  have c10 := cell_regrown ((unhide k3).cell (i := 10) (v := .int .i64 wk) rfl)
  have d0 := cell_regrown ((unhide k5).cell (i := 0) (v := .int .i64 x0) rfl)
  have d1 := cell_regrown ((unhide k5).cell (i := 1) (v := .int .i64 x1) rfl)
  have d2 := cell_regrown ((unhide k5).cell (i := 2) (v := .int .i64 x2) rfl)
  have d3 := cell_regrown ((unhide k5).cell (i := 3) (v := .int .i64 x3) rfl)
  have d4 := cell_regrown ((unhide k5).cell (i := 4) (v := .int .i64 x4) rfl)
  have d5 := cell_regrown ((unhide k5).cell (i := 5) (v := .int .i64 x5) rfl)
  have d6 := cell_regrown ((unhide k5).cell (i := 6) (v := .int .i64 x6) rfl)
  have d7 := cell_regrown ((unhide k5).cell (i := 7) (v := .int .i64 x7) rfl)
  have d8 := cell_regrown ((unhide k5).cell (i := 8) (v := .int .i64 x8) rfl)
  have d9 := cell_regrown ((unhide k5).cell (i := 9) (v := .int .i64 x9) rfl)
  have d10 := cell_regrown ((unhide k5).cell (i := 10) (v := .int .i64 x10) rfl)
  have p0 := cell_regrown ((unhide k11).cell (i := 0) (v := .int .i64 x0) rfl)
  have p1 := cell_regrown ((unhide k11).cell (i := 1) (v := .int .i64 x1) rfl)
  have p2 := cell_regrown ((unhide k11).cell (i := 2) (v := .int .i64 x2) rfl)
  have p3 := cell_regrown ((unhide k11).cell (i := 3) (v := .int .i64 x3) rfl)
  have p4 := cell_regrown ((unhide k11).cell (i := 4) (v := .int .i64 x4) rfl)
  have p5 := cell_regrown ((unhide k11).cell (i := 5) (v := .int .i64 x5) rfl)
  have p6 := cell_regrown ((unhide k11).cell (i := 6) (v := .int .i64 x6) rfl)
  have p7 := cell_regrown ((unhide k11).cell (i := 7) (v := .int .i64 x7) rfl)
  have p8 := cell_regrown ((unhide k11).cell (i := 8) (v := .int .i64 x8) rfl)
  have p9 := cell_regrown ((unhide k11).cell (i := 9) (v := .int .i64 x9) rfl)
  have p10 := cell_regrown ((unhide k11).cell (i := 10) (v := .int .i64 x10) rfl)
  have hxx : sameB (x0, x1, x2, x3, x4, x5, x6, x7, x8, x9, x10) (x0, x1, x2, x3, x4, x5, x6, x7, x8, x9, x10) = true := sameB_refl _
  refine wp_region_quiet_below (by kernel_rfl) (by kernel_rfl) ?_
  repeat (go_big_quiet_step (first | exact Calls.regrown_of (unhide IO _) | exact Calls.regrown_of (unhide SO _)))
  refine wpQuiet_nil ?_
  intro W6 hw'
  have hb : Below W.heap.size W W6 := by
    obtain ⟨⟨dq, osq⟩, hw''⟩ := hw'
    subst hw''
    exact below_regrown _ _ _
  clear hw' hxx k11 c0 c1 c2 c3 c4 c5 c6 c7 c8 c9 c10 d0 d1 d2 d3 d4 d5 d6 d7 d8 d9 d10 p0 p1 p2 p3 p4 p5 p6 p7 p8 p9 p10
  replace k3 := hide ((unhide k3).below hb (unhide k3).lt)
  replace k5 := hide ((unhide k5).below hb (unhide k5).lt)
  replace k7 := hide ((unhide k7).below hb (unhide k7).lt)
  replace k9 := hide ((unhide k9).below hb (unhide k9).lt)
  replace BB := hide ((unhide BB).trans (hb.mono (unhide BB).size))
  clear hb
  have c0 := (unhide k7).cell (i := 0) (v := .int .i64 q0) rfl
  have c1 := (unhide k7).cell (i := 1) (v := .int .i64 q1) rfl
  have c2 := (unhide k7).cell (i := 2) (v := .int .i64 q2) rfl
  have c3 := (unhide k7).cell (i := 3) (v := .int .i64 q3) rfl
  have c4 := (unhide k7).cell (i := 4) (v := .int .i64 q4) rfl
  have c5 := (unhide k7).cell (i := 5) (v := .int .i64 q5) rfl
  have c6 := (unhide k7).cell (i := 6) (v := .int .i64 q6) rfl
  have c7 := (unhide k7).cell (i := 7) (v := .int .i64 q7) rfl
  have c8 := (unhide k7).cell (i := 8) (v := .int .i64 q8) rfl
  have c9 := (unhide k7).cell (i := 9) (v := .int .i64 q9) rfl
  have c10 := (unhide k7).cell (i := 10) (v := .int .i64 q10) rfl
  go_wp2_with fail
  refine (unhide SR _).mono ?_
  rintro e w7 ⟨rfl, hb⟩
  clear c0 c1 c2 c3 c4 c5 c6 c7 c8 c9 c10
  replace k3 := hide ((unhide k3).below hb (unhide k3).lt)
  replace k5 := hide ((unhide k5).below hb (unhide k5).lt)
  replace k7 := hide ((unhide k7).below hb (unhide k7).lt)
  replace k9 := hide ((unhide k9).below hb (unhide k9).lt)
  replace BB := hide ((unhide BB).trans (hb.mono (unhide BB).size))
  clear hb
  have j3 := (unhide k3).lt
  have j5 := (unhide k5).lt
  have j7 := (unhide k7).lt
  have j9 := (unhide k9).lt
  have hyy : sameB (y0, y1, y2, y3, y4, y5, y6, y7, y8, y9, y10) (y0, y1, y2, y3, y4, y5, y6, y7, y8, y9, y10) = true := sameB_refl _
  cases re
  · cases is
    · rcases charged_or (unhide HC) with ⟨e1, e2⟩ | ⟨e1, e2⟩
      · have e3 := unhide HQ
        rw [e1] at e3
        subst e3
        cases e2
        have hss : sameB (0, 0, 0, 0, 0, 0, 0, 0, 0, 0, 0) (0, 0, 0, 0, 0, 0, 0, 0, 0, 0, 0) = true := sameB_refl _
        have c0 := (unhide k3).cell (i := 0) (v := .int .i64 st) rfl
        have c1 := (unhide k3).cell (i := 1) (v := .int .i64 be) rfl
        have c2 := (unhide k3).cell (i := 2) (v := .int .i64 rk) rfl
        have c3 := (unhide k3).cell (i := 3) (v := .int .i64 my) rfl
        have c4 := (unhide k3).cell (i := 4) (v := .int .i64 gu) rfl
        have c5 := (unhide k3).cell (i := 5) (v := .int .i64 lo) rfl
        have c6 := (unhide k3).cell (i := 6) (v := .int .i64 hi) rfl
        have c7 := (unhide k3).cell (i := 7) (v := .int .i64 hd) rfl
        have c8 := (unhide k3).cell (i := 8) (v := .int .i64 ca) rfl
        have c9 := (unhide k3).cell (i := 9) (v := .int .i64 ut) rfl
        have c10 := (unhide k3).cell (i := 10) (v := .int .i64 wk) rfl
        have d0 := (unhide k5).cell (i := 0) (v := .int .i64 0) rfl
        have d1 := (unhide k5).cell (i := 1) (v := .int .i64 0) rfl
        have d2 := (unhide k5).cell (i := 2) (v := .int .i64 0) rfl
        have d3 := (unhide k5).cell (i := 3) (v := .int .i64 0) rfl
        have d4 := (unhide k5).cell (i := 4) (v := .int .i64 0) rfl
        have d5 := (unhide k5).cell (i := 5) (v := .int .i64 0) rfl
        have d6 := (unhide k5).cell (i := 6) (v := .int .i64 0) rfl
        have d7 := (unhide k5).cell (i := 7) (v := .int .i64 0) rfl
        have d8 := (unhide k5).cell (i := 8) (v := .int .i64 0) rfl
        have d9 := (unhide k5).cell (i := 9) (v := .int .i64 0) rfl
        have d10 := (unhide k5).cell (i := 10) (v := .int .i64 0) rfl
        have p0 := (unhide k9).cell (i := 0) (v := .int .i64 y0) rfl
        have p1 := (unhide k9).cell (i := 1) (v := .int .i64 y1) rfl
        have p2 := (unhide k9).cell (i := 2) (v := .int .i64 y2) rfl
        have p3 := (unhide k9).cell (i := 3) (v := .int .i64 y3) rfl
        have p4 := (unhide k9).cell (i := 4) (v := .int .i64 y4) rfl
        have p5 := (unhide k9).cell (i := 5) (v := .int .i64 y5) rfl
        have p6 := (unhide k9).cell (i := 6) (v := .int .i64 y6) rfl
        have p7 := (unhide k9).cell (i := 7) (v := .int .i64 y7) rfl
        have p8 := (unhide k9).cell (i := 8) (v := .int .i64 y8) rfl
        have p9 := (unhide k9).cell (i := 9) (v := .int .i64 y9) rfl
        have p10 := (unhide k9).cell (i := 10) (v := .int .i64 y10) rfl
        go_wp2_with fail
        clear c0 c1 c2 c3 c4 c5 c6 c7 c8 c9 c10 d0 d1 d2 d3 d4 d5 d6 d7 d8 d9 d10 p0 p1 p2 p3 p4 p5 p6 p7 p8 p9 p10
        replace k3 := hide ((unhide k3).alloc (.cells #[.int .i64 y0, .int .i64 y1, .int .i64 y2, .int .i64 y3, .int .i64 y4, .int .i64 y5, .int .i64 y6, .int .i64 y7, .int .i64 y8, .int .i64 y9, .int .i64 y10] 25))
        replace k5 := hide ((unhide k5).alloc (.cells #[.int .i64 y0, .int .i64 y1, .int .i64 y2, .int .i64 y3, .int .i64 y4, .int .i64 y5, .int .i64 y6, .int .i64 y7, .int .i64 y8, .int .i64 y9, .int .i64 y10] 25))
        replace k9 := hide ((unhide k9).alloc (.cells #[.int .i64 y0, .int .i64 y1, .int .i64 y2, .int .i64 y3, .int .i64 y4, .int .i64 y5, .int .i64 y6, .int .i64 y7, .int .i64 y8, .int .i64 y9, .int .i64 y10] 25))
        replace BB := hide ((unhide BB).alloc (unhide BB).size (.cells #[.int .i64 y0, .int .i64 y1, .int .i64 y2, .int .i64 y3, .int .i64 y4, .int .i64 y5, .int .i64 y6, .int .i64 y7, .int .i64 y8, .int .i64 y9, .int .i64 y10] 25))
        have k13 : Hid (Blk (w7.alloc (.cells #[.int .i64 y0, .int .i64 y1, .int .i64 y2, .int .i64 y3, .int .i64 y4, .int .i64 y5, .int .i64 y6, .int .i64 y7, .int .i64 y8, .int .i64 y9, .int .i64 y10] 25)) w7.heap.size 25 #[.int .i64 y0, .int .i64 y1, .int .i64 y2, .int .i64 y3, .int .i64 y4, .int .i64 y5, .int .i64 y6, .int .i64 y7, .int .i64 y8, .int .i64 y9, .int .i64 y10]) := hide (Blk.new _ _ _)
        generalize w7.alloc (.cells #[.int .i64 y0, .int .i64 y1, .int .i64 y2, .int .i64 y3, .int .i64 y4, .int .i64 y5, .int .i64 y6, .int .i64 y7, .int .i64 y8, .int .i64 y9, .int .i64 y10] 25) = W at *
        generalize w7.heap.size = b13 at *
        obtain ⟨V, rfl⟩ : ∃ V, V = W := ⟨W, rfl⟩
        refine (unhide SO _).mono ?_
        rintro e w9 ⟨rfl, hb⟩
        replace k3 := hide ((unhide k3).below hb (unhide k3).lt)
        replace k5 := hide ((unhide k5).below hb (unhide k5).lt)
        replace BB := hide ((unhide BB).trans (hb.mono (unhide BB).size))
        clear hb
        have c0 := (unhide k3).cell (i := 0) (v := .int .i64 st) rfl
        have c1 := (unhide k3).cell (i := 1) (v := .int .i64 be) rfl
        have c2 := (unhide k3).cell (i := 2) (v := .int .i64 rk) rfl
        have c3 := (unhide k3).cell (i := 3) (v := .int .i64 my) rfl
        have c4 := (unhide k3).cell (i := 4) (v := .int .i64 gu) rfl
        have c5 := (unhide k3).cell (i := 5) (v := .int .i64 lo) rfl
        have c6 := (unhide k3).cell (i := 6) (v := .int .i64 hi) rfl
        have c7 := (unhide k3).cell (i := 7) (v := .int .i64 hd) rfl
        have c8 := (unhide k3).cell (i := 8) (v := .int .i64 ca) rfl
        have c9 := (unhide k3).cell (i := 9) (v := .int .i64 ut) rfl
        have c10 := (unhide k3).cell (i := 10) (v := .int .i64 wk) rfl
        have d0 := (unhide k5).cell (i := 0) (v := .int .i64 0) rfl
        have d1 := (unhide k5).cell (i := 1) (v := .int .i64 0) rfl
        have d2 := (unhide k5).cell (i := 2) (v := .int .i64 0) rfl
        have d3 := (unhide k5).cell (i := 3) (v := .int .i64 0) rfl
        have d4 := (unhide k5).cell (i := 4) (v := .int .i64 0) rfl
        have d5 := (unhide k5).cell (i := 5) (v := .int .i64 0) rfl
        have d6 := (unhide k5).cell (i := 6) (v := .int .i64 0) rfl
        have d7 := (unhide k5).cell (i := 7) (v := .int .i64 0) rfl
        have d8 := (unhide k5).cell (i := 8) (v := .int .i64 0) rfl
        have d9 := (unhide k5).cell (i := 9) (v := .int .i64 0) rfl
        have d10 := (unhide k5).cell (i := 10) (v := .int .i64 0) rfl
        go_wp2_with fail
        go_ret
        exact ⟨rfl, unhide BB⟩
      · have e3 := unhide HQ
        rw [e1] at e3
        subst e3
        cases e2
        have hss : sameB (st, be, rk, my, gu, lo, hi, hd, ca, ut, wk) (st, be, rk, my, gu, lo, hi, hd, ca, ut, wk) = true := sameB_refl _
        have c0 := (unhide k3).cell (i := 0) (v := .int .i64 st) rfl
        have c1 := (unhide k3).cell (i := 1) (v := .int .i64 be) rfl
        have c2 := (unhide k3).cell (i := 2) (v := .int .i64 rk) rfl
        have c3 := (unhide k3).cell (i := 3) (v := .int .i64 my) rfl
        have c4 := (unhide k3).cell (i := 4) (v := .int .i64 gu) rfl
        have c5 := (unhide k3).cell (i := 5) (v := .int .i64 lo) rfl
        have c6 := (unhide k3).cell (i := 6) (v := .int .i64 hi) rfl
        have c7 := (unhide k3).cell (i := 7) (v := .int .i64 hd) rfl
        have c8 := (unhide k3).cell (i := 8) (v := .int .i64 ca) rfl
        have c9 := (unhide k3).cell (i := 9) (v := .int .i64 ut) rfl
        have c10 := (unhide k3).cell (i := 10) (v := .int .i64 wk) rfl
        have d0 := (unhide k5).cell (i := 0) (v := .int .i64 st) rfl
        have d1 := (unhide k5).cell (i := 1) (v := .int .i64 be) rfl
        have d2 := (unhide k5).cell (i := 2) (v := .int .i64 rk) rfl
        have d3 := (unhide k5).cell (i := 3) (v := .int .i64 my) rfl
        have d4 := (unhide k5).cell (i := 4) (v := .int .i64 gu) rfl
        have d5 := (unhide k5).cell (i := 5) (v := .int .i64 lo) rfl
        have d6 := (unhide k5).cell (i := 6) (v := .int .i64 hi) rfl
        have d7 := (unhide k5).cell (i := 7) (v := .int .i64 hd) rfl
        have d8 := (unhide k5).cell (i := 8) (v := .int .i64 ca) rfl
        have d9 := (unhide k5).cell (i := 9) (v := .int .i64 ut) rfl
        have d10 := (unhide k5).cell (i := 10) (v := .int .i64 wk) rfl
        have p0 := (unhide k9).cell (i := 0) (v := .int .i64 y0) rfl
        have p1 := (unhide k9).cell (i := 1) (v := .int .i64 y1) rfl
        have p2 := (unhide k9).cell (i := 2) (v := .int .i64 y2) rfl
        have p3 := (unhide k9).cell (i := 3) (v := .int .i64 y3) rfl
        have p4 := (unhide k9).cell (i := 4) (v := .int .i64 y4) rfl
        have p5 := (unhide k9).cell (i := 5) (v := .int .i64 y5) rfl
        have p6 := (unhide k9).cell (i := 6) (v := .int .i64 y6) rfl
        have p7 := (unhide k9).cell (i := 7) (v := .int .i64 y7) rfl
        have p8 := (unhide k9).cell (i := 8) (v := .int .i64 y8) rfl
        have p9 := (unhide k9).cell (i := 9) (v := .int .i64 y9) rfl
        have p10 := (unhide k9).cell (i := 10) (v := .int .i64 y10) rfl
        go_wp2_with fail
        clear c0 c1 c2 c3 c4 c5 c6 c7 c8 c9 c10 d0 d1 d2 d3 d4 d5 d6 d7 d8 d9 d10 p0 p1 p2 p3 p4 p5 p6 p7 p8 p9 p10
        replace k3 := hide ((unhide k3).alloc (.cells #[.int .i64 y0, .int .i64 y1, .int .i64 y2, .int .i64 y3, .int .i64 y4, .int .i64 y5, .int .i64 y6, .int .i64 y7, .int .i64 y8, .int .i64 y9, .int .i64 y10] 25))
        replace k5 := hide ((unhide k5).alloc (.cells #[.int .i64 y0, .int .i64 y1, .int .i64 y2, .int .i64 y3, .int .i64 y4, .int .i64 y5, .int .i64 y6, .int .i64 y7, .int .i64 y8, .int .i64 y9, .int .i64 y10] 25))
        replace k9 := hide ((unhide k9).alloc (.cells #[.int .i64 y0, .int .i64 y1, .int .i64 y2, .int .i64 y3, .int .i64 y4, .int .i64 y5, .int .i64 y6, .int .i64 y7, .int .i64 y8, .int .i64 y9, .int .i64 y10] 25))
        replace BB := hide ((unhide BB).alloc (unhide BB).size (.cells #[.int .i64 y0, .int .i64 y1, .int .i64 y2, .int .i64 y3, .int .i64 y4, .int .i64 y5, .int .i64 y6, .int .i64 y7, .int .i64 y8, .int .i64 y9, .int .i64 y10] 25))
        have k13 : Hid (Blk (w7.alloc (.cells #[.int .i64 y0, .int .i64 y1, .int .i64 y2, .int .i64 y3, .int .i64 y4, .int .i64 y5, .int .i64 y6, .int .i64 y7, .int .i64 y8, .int .i64 y9, .int .i64 y10] 25)) w7.heap.size 25 #[.int .i64 y0, .int .i64 y1, .int .i64 y2, .int .i64 y3, .int .i64 y4, .int .i64 y5, .int .i64 y6, .int .i64 y7, .int .i64 y8, .int .i64 y9, .int .i64 y10]) := hide (Blk.new _ _ _)
        generalize w7.alloc (.cells #[.int .i64 y0, .int .i64 y1, .int .i64 y2, .int .i64 y3, .int .i64 y4, .int .i64 y5, .int .i64 y6, .int .i64 y7, .int .i64 y8, .int .i64 y9, .int .i64 y10] 25) = W at *
        generalize w7.heap.size = b13 at *
        obtain ⟨V, rfl⟩ : ∃ V, V = W := ⟨W, rfl⟩
        refine (unhide SO _).mono ?_
        rintro e w9 ⟨rfl, hb⟩
        replace k3 := hide ((unhide k3).below hb (unhide k3).lt)
        replace k5 := hide ((unhide k5).below hb (unhide k5).lt)
        replace BB := hide ((unhide BB).trans (hb.mono (unhide BB).size))
        clear hb
        have c0 := (unhide k3).cell (i := 0) (v := .int .i64 st) rfl
        have c1 := (unhide k3).cell (i := 1) (v := .int .i64 be) rfl
        have c2 := (unhide k3).cell (i := 2) (v := .int .i64 rk) rfl
        have c3 := (unhide k3).cell (i := 3) (v := .int .i64 my) rfl
        have c4 := (unhide k3).cell (i := 4) (v := .int .i64 gu) rfl
        have c5 := (unhide k3).cell (i := 5) (v := .int .i64 lo) rfl
        have c6 := (unhide k3).cell (i := 6) (v := .int .i64 hi) rfl
        have c7 := (unhide k3).cell (i := 7) (v := .int .i64 hd) rfl
        have c8 := (unhide k3).cell (i := 8) (v := .int .i64 ca) rfl
        have c9 := (unhide k3).cell (i := 9) (v := .int .i64 ut) rfl
        have c10 := (unhide k3).cell (i := 10) (v := .int .i64 wk) rfl
        have d0 := (unhide k5).cell (i := 0) (v := .int .i64 st) rfl
        have d1 := (unhide k5).cell (i := 1) (v := .int .i64 be) rfl
        have d2 := (unhide k5).cell (i := 2) (v := .int .i64 rk) rfl
        have d3 := (unhide k5).cell (i := 3) (v := .int .i64 my) rfl
        have d4 := (unhide k5).cell (i := 4) (v := .int .i64 gu) rfl
        have d5 := (unhide k5).cell (i := 5) (v := .int .i64 lo) rfl
        have d6 := (unhide k5).cell (i := 6) (v := .int .i64 hi) rfl
        have d7 := (unhide k5).cell (i := 7) (v := .int .i64 hd) rfl
        have d8 := (unhide k5).cell (i := 8) (v := .int .i64 ca) rfl
        have d9 := (unhide k5).cell (i := 9) (v := .int .i64 ut) rfl
        have d10 := (unhide k5).cell (i := 10) (v := .int .i64 wk) rfl
        go_wp2_with fail
        go_ret
        exact ⟨rfl, unhide BB⟩
    · obtain ⟨hp, hw, e2, hsm⟩ := charged_is (unhide HC)
      obtain ⟨v0, v1⟩ := inB_of hw
      obtain ⟨⟨s0, s1⟩, _, hr, _, _, _, ⟨d0, d1⟩, ⟨a0, a1⟩, _, ⟨g0, g1⟩⟩ := presB_of hp
      have r0 := weight_pos hr
      have r1 := (weight_in rk).2
      obtain ⟨_, n0, n1, l0, l1, hsum⟩ := share_in v0 v1 r0 r1 a0 a1
      have OX : Hid (∀ w : World, Calls Try.prog 13 #[.agg #[.int .i64 x0, .int .i64 x1, .int .i64 x2, .int .i64 x3, .int .i64 x4, .int .i64 x5, .int .i64 x6, .int .i64 x7, .int .i64 x8, .int .i64 x9, .int .i64 x10]] w fun e w' => e = .returned (.bool true) ∧ Below w.heap.size w w') := hide (fun w => by have := implSmithOk_any x0 x1 x2 x3 x4 x5 x6 x7 x8 x9 x10 w; rw [hsm] at this; exact this)
      unfold putOn at e2
      simp only at e2
      obtain ⟨z, hz⟩ : ∃ z, weightV rk = z := ⟨_, rfl⟩
      rw [hz] at e2 hsum r0 r1 n0 n1 l0 l1 a1
      generalize shareN work z ca = n at *
      generalize shareL work z ca = l at *
      have hmul : 0 ≤ n * z := Int.mul_nonneg n0 (by omega)
      have hmul2 : n * z ≤ 200000000 := by omega
      have Hz := hide hz
      have Hsum := hide hsum
      clear hz hp hw hsm hr hsum HC HQ
      cases e2
      have u1 : ¬ b3 = b9 := by omega
      have u2 : ¬ b5 = b9 := by omega
      have u3 : ¬ b9 = b3 := by omega
      have u4 : ¬ b9 = b5 := by omega
      have u9 : w.heap.size ≤ b9 := by omega
      have c0 := (unhide k3).cell (i := 0) (v := .int .i64 st) rfl
      have c1 := (unhide k3).cell (i := 1) (v := .int .i64 be) rfl
      have c2 := (unhide k3).cell (i := 2) (v := .int .i64 rk) rfl
      have c3 := (unhide k3).cell (i := 3) (v := .int .i64 my) rfl
      have c4 := (unhide k3).cell (i := 4) (v := .int .i64 gu) rfl
      have c5 := (unhide k3).cell (i := 5) (v := .int .i64 lo) rfl
      have c6 := (unhide k3).cell (i := 6) (v := .int .i64 hi) rfl
      have c7 := (unhide k3).cell (i := 7) (v := .int .i64 hd) rfl
      have c8 := (unhide k3).cell (i := 8) (v := .int .i64 ca) rfl
      have c9 := (unhide k3).cell (i := 9) (v := .int .i64 ut) rfl
      have c10 := (unhide k3).cell (i := 10) (v := .int .i64 wk) rfl
      have d0 := (unhide k5).cell (i := 0) (v := .int .i64 st) rfl
      have d1 := (unhide k5).cell (i := 1) (v := .int .i64 be) rfl
      have d2 := (unhide k5).cell (i := 2) (v := .int .i64 rk) rfl
      have d3 := (unhide k5).cell (i := 3) (v := .int .i64 my) rfl
      have d4 := (unhide k5).cell (i := 4) (v := .int .i64 gu) rfl
      have d5 := (unhide k5).cell (i := 5) (v := .int .i64 lo) rfl
      have d6 := (unhide k5).cell (i := 6) (v := .int .i64 hi) rfl
      have d7 := (unhide k5).cell (i := 7) (v := .int .i64 (hd + n)) rfl
      have d8 := (unhide k5).cell (i := 8) (v := .int .i64 x8) rfl
      have d9 := (unhide k5).cell (i := 9) (v := .int .i64 ut) rfl
      have d10 := (unhide k5).cell (i := 10) (v := .int .i64 (wk + work)) rfl
      have p0 := (unhide k9).cell (i := 0) (v := .int .i64 y0) rfl
      have p1 := (unhide k9).cell (i := 1) (v := .int .i64 y1) rfl
      have p2 := (unhide k9).cell (i := 2) (v := .int .i64 y2) rfl
      have p3 := (unhide k9).cell (i := 3) (v := .int .i64 y3) rfl
      have p4 := (unhide k9).cell (i := 4) (v := .int .i64 y4) rfl
      have p5 := (unhide k9).cell (i := 5) (v := .int .i64 y5) rfl
      have p6 := (unhide k9).cell (i := 6) (v := .int .i64 y6) rfl
      have p7 := (unhide k9).cell (i := 7) (v := .int .i64 y7) rfl
      have p8 := (unhide k9).cell (i := 8) (v := .int .i64 y8) rfl
      have p9 := (unhide k9).cell (i := 9) (v := .int .i64 y9) rfl
      have p10 := (unhide k9).cell (i := 10) (v := .int .i64 y10) rfl
      go_wp2_with fail
      clear c0 c1 c2 c3 c4 c5 c6 c7 c8 c9 c10 d0 d1 d2 d3 d4 d5 d6 d7 d8 d9 d10 p0 p1 p2 p3 p4 p5 p6 p7 p8 p9 p10
      replace k3 := hide ((unhide k3).alloc (.cells #[.int .i64 y0, .int .i64 y1, .int .i64 y2, .int .i64 y3, .int .i64 y4, .int .i64 y5, .int .i64 y6, .int .i64 y7, .int .i64 y8, .int .i64 y9, .int .i64 y10] 25))
      replace k5 := hide ((unhide k5).alloc (.cells #[.int .i64 y0, .int .i64 y1, .int .i64 y2, .int .i64 y3, .int .i64 y4, .int .i64 y5, .int .i64 y6, .int .i64 y7, .int .i64 y8, .int .i64 y9, .int .i64 y10] 25))
      replace k9 := hide ((unhide k9).alloc (.cells #[.int .i64 y0, .int .i64 y1, .int .i64 y2, .int .i64 y3, .int .i64 y4, .int .i64 y5, .int .i64 y6, .int .i64 y7, .int .i64 y8, .int .i64 y9, .int .i64 y10] 25))
      replace BB := hide ((unhide BB).alloc (unhide BB).size (.cells #[.int .i64 y0, .int .i64 y1, .int .i64 y2, .int .i64 y3, .int .i64 y4, .int .i64 y5, .int .i64 y6, .int .i64 y7, .int .i64 y8, .int .i64 y9, .int .i64 y10] 25))
      have k13 : Hid (Blk (w7.alloc (.cells #[.int .i64 y0, .int .i64 y1, .int .i64 y2, .int .i64 y3, .int .i64 y4, .int .i64 y5, .int .i64 y6, .int .i64 y7, .int .i64 y8, .int .i64 y9, .int .i64 y10] 25)) w7.heap.size 25 #[.int .i64 y0, .int .i64 y1, .int .i64 y2, .int .i64 y3, .int .i64 y4, .int .i64 y5, .int .i64 y6, .int .i64 y7, .int .i64 y8, .int .i64 y9, .int .i64 y10]) := hide (Blk.new _ _ _)
      generalize w7.alloc (.cells #[.int .i64 y0, .int .i64 y1, .int .i64 y2, .int .i64 y3, .int .i64 y4, .int .i64 y5, .int .i64 y6, .int .i64 y7, .int .i64 y8, .int .i64 y9, .int .i64 y10] 25) = W at *
      generalize w7.heap.size = b13 at *
      obtain ⟨V, rfl⟩ : ∃ V, V = W := ⟨W, rfl⟩
      refine (specWeightOf_v (unhide Hz) _).mono ?_
      rintro e w9 ⟨rfl, h9⟩
      subst w9
      have c0 := (unhide k3).cell (i := 0) (v := .int .i64 st) rfl
      have c1 := (unhide k3).cell (i := 1) (v := .int .i64 be) rfl
      have c2 := (unhide k3).cell (i := 2) (v := .int .i64 rk) rfl
      have c3 := (unhide k3).cell (i := 3) (v := .int .i64 my) rfl
      have c4 := (unhide k3).cell (i := 4) (v := .int .i64 gu) rfl
      have c5 := (unhide k3).cell (i := 5) (v := .int .i64 lo) rfl
      have c6 := (unhide k3).cell (i := 6) (v := .int .i64 hi) rfl
      have c7 := (unhide k3).cell (i := 7) (v := .int .i64 hd) rfl
      have c8 := (unhide k3).cell (i := 8) (v := .int .i64 ca) rfl
      have c9 := (unhide k3).cell (i := 9) (v := .int .i64 ut) rfl
      have c10 := (unhide k3).cell (i := 10) (v := .int .i64 wk) rfl
      have d0 := (unhide k5).cell (i := 0) (v := .int .i64 st) rfl
      have d1 := (unhide k5).cell (i := 1) (v := .int .i64 be) rfl
      have d2 := (unhide k5).cell (i := 2) (v := .int .i64 rk) rfl
      have d3 := (unhide k5).cell (i := 3) (v := .int .i64 my) rfl
      have d4 := (unhide k5).cell (i := 4) (v := .int .i64 gu) rfl
      have d5 := (unhide k5).cell (i := 5) (v := .int .i64 lo) rfl
      have d6 := (unhide k5).cell (i := 6) (v := .int .i64 hi) rfl
      have d7 := (unhide k5).cell (i := 7) (v := .int .i64 (hd + n)) rfl
      have d8 := (unhide k5).cell (i := 8) (v := .int .i64 x8) rfl
      have d9 := (unhide k5).cell (i := 9) (v := .int .i64 ut) rfl
      have d10 := (unhide k5).cell (i := 10) (v := .int .i64 (wk + work)) rfl
      have p0 := (unhide k9).cell (i := 0) (v := .int .i64 y0) rfl
      have pf0 := (unhide k9).free 0
      have p1 := (unhide k9).cell (i := 1) (v := .int .i64 y1) rfl
      have pf1 := (unhide k9).free 1
      have p2 := (unhide k9).cell (i := 2) (v := .int .i64 y2) rfl
      have pf2 := (unhide k9).free 2
      have p3 := (unhide k9).cell (i := 3) (v := .int .i64 y3) rfl
      have pf3 := (unhide k9).free 3
      have p4 := (unhide k9).cell (i := 4) (v := .int .i64 y4) rfl
      have pf4 := (unhide k9).free 4
      have p5 := (unhide k9).cell (i := 5) (v := .int .i64 y5) rfl
      have pf5 := (unhide k9).free 5
      have p6 := (unhide k9).cell (i := 6) (v := .int .i64 y6) rfl
      have pf6 := (unhide k9).free 6
      have p7 := (unhide k9).cell (i := 7) (v := .int .i64 y7) rfl
      have pf7 := (unhide k9).free 7
      have p8 := (unhide k9).cell (i := 8) (v := .int .i64 y8) rfl
      have pf8 := (unhide k9).free 8
      have p9 := (unhide k9).cell (i := 9) (v := .int .i64 y9) rfl
      have pf9 := (unhide k9).free 9
      have p10 := (unhide k9).cell (i := 10) (v := .int .i64 y10) rfl
      have pf10 := (unhide k9).free 10
      go_wp2_with fail
      replace k3 : Hid (Blk ((((((((((((((V.setCell ⟨b9, 0, none⟩ (.int .i64 st)).setCell ⟨b9, 1, none⟩ (.int .i64 be)).setCell ⟨b9, 2, none⟩ (.int .i64 rk)).setCell ⟨b9, 3, none⟩ (.int .i64 my)).setCell ⟨b9, 4, none⟩ (.int .i64 gu)).setCell ⟨b9, 5, none⟩ (.int .i64 lo)).setCell ⟨b9, 6, none⟩ (.int .i64 hi)).setCell ⟨b9, 7, none⟩ (.int .i64 (hd + n))).setCell ⟨b9, 8, none⟩ (.int .i64 x8)).setCell ⟨b9, 9, none⟩ (.int .i64 ut)).setCell ⟨b9, 10, none⟩ (.int .i64 (wk + work))).setCell ⟨b9, 10, none⟩ (.int .i64 wk)).setCell ⟨b9, 7, none⟩ (.int .i64 hd)).setCell ⟨b9, 8, none⟩ (.int .i64 ca)) b3 25 #[.int .i64 st, .int .i64 be, .int .i64 rk, .int .i64 my, .int .i64 gu, .int .i64 lo, .int .i64 hi, .int .i64 hd, .int .i64 ca, .int .i64 ut, .int .i64 wk]) := hide (((((((((((((((unhide k3).other (a := ⟨b9, 0, none⟩) u1 (.int .i64 st)).other (a := ⟨b9, 1, none⟩) u1 (.int .i64 be)).other (a := ⟨b9, 2, none⟩) u1 (.int .i64 rk)).other (a := ⟨b9, 3, none⟩) u1 (.int .i64 my)).other (a := ⟨b9, 4, none⟩) u1 (.int .i64 gu)).other (a := ⟨b9, 5, none⟩) u1 (.int .i64 lo)).other (a := ⟨b9, 6, none⟩) u1 (.int .i64 hi)).other (a := ⟨b9, 7, none⟩) u1 (.int .i64 (hd + n))).other (a := ⟨b9, 8, none⟩) u1 (.int .i64 x8)).other (a := ⟨b9, 9, none⟩) u1 (.int .i64 ut)).other (a := ⟨b9, 10, none⟩) u1 (.int .i64 (wk + work))).other (a := ⟨b9, 10, none⟩) u1 (.int .i64 wk)).other (a := ⟨b9, 7, none⟩) u1 (.int .i64 hd)).other (a := ⟨b9, 8, none⟩) u1 (.int .i64 ca))
      replace k5 : Hid (Blk ((((((((((((((V.setCell ⟨b9, 0, none⟩ (.int .i64 st)).setCell ⟨b9, 1, none⟩ (.int .i64 be)).setCell ⟨b9, 2, none⟩ (.int .i64 rk)).setCell ⟨b9, 3, none⟩ (.int .i64 my)).setCell ⟨b9, 4, none⟩ (.int .i64 gu)).setCell ⟨b9, 5, none⟩ (.int .i64 lo)).setCell ⟨b9, 6, none⟩ (.int .i64 hi)).setCell ⟨b9, 7, none⟩ (.int .i64 (hd + n))).setCell ⟨b9, 8, none⟩ (.int .i64 x8)).setCell ⟨b9, 9, none⟩ (.int .i64 ut)).setCell ⟨b9, 10, none⟩ (.int .i64 (wk + work))).setCell ⟨b9, 10, none⟩ (.int .i64 wk)).setCell ⟨b9, 7, none⟩ (.int .i64 hd)).setCell ⟨b9, 8, none⟩ (.int .i64 ca)) b5 25 #[.int .i64 st, .int .i64 be, .int .i64 rk, .int .i64 my, .int .i64 gu, .int .i64 lo, .int .i64 hi, .int .i64 (hd + n), .int .i64 x8, .int .i64 ut, .int .i64 (wk + work)]) := hide (((((((((((((((unhide k5).other (a := ⟨b9, 0, none⟩) u2 (.int .i64 st)).other (a := ⟨b9, 1, none⟩) u2 (.int .i64 be)).other (a := ⟨b9, 2, none⟩) u2 (.int .i64 rk)).other (a := ⟨b9, 3, none⟩) u2 (.int .i64 my)).other (a := ⟨b9, 4, none⟩) u2 (.int .i64 gu)).other (a := ⟨b9, 5, none⟩) u2 (.int .i64 lo)).other (a := ⟨b9, 6, none⟩) u2 (.int .i64 hi)).other (a := ⟨b9, 7, none⟩) u2 (.int .i64 (hd + n))).other (a := ⟨b9, 8, none⟩) u2 (.int .i64 x8)).other (a := ⟨b9, 9, none⟩) u2 (.int .i64 ut)).other (a := ⟨b9, 10, none⟩) u2 (.int .i64 (wk + work))).other (a := ⟨b9, 10, none⟩) u2 (.int .i64 wk)).other (a := ⟨b9, 7, none⟩) u2 (.int .i64 hd)).other (a := ⟨b9, 8, none⟩) u2 (.int .i64 ca))
      have k9a := (unhide k9).put11 (.int .i64 st) (.int .i64 be) (.int .i64 rk) (.int .i64 my) (.int .i64 gu) (.int .i64 lo) (.int .i64 hi) (.int .i64 (hd + n)) (.int .i64 x8) (.int .i64 ut) (.int .i64 (wk + work))
      have k9b : Blk ((((((((((((V.setCell ⟨b9, 0, none⟩ (.int .i64 st)).setCell ⟨b9, 1, none⟩ (.int .i64 be)).setCell ⟨b9, 2, none⟩ (.int .i64 rk)).setCell ⟨b9, 3, none⟩ (.int .i64 my)).setCell ⟨b9, 4, none⟩ (.int .i64 gu)).setCell ⟨b9, 5, none⟩ (.int .i64 lo)).setCell ⟨b9, 6, none⟩ (.int .i64 hi)).setCell ⟨b9, 7, none⟩ (.int .i64 (hd + n))).setCell ⟨b9, 8, none⟩ (.int .i64 x8)).setCell ⟨b9, 9, none⟩ (.int .i64 ut)).setCell ⟨b9, 10, none⟩ (.int .i64 (wk + work))).setCell ⟨b9, 10, none⟩ (.int .i64 wk)) b9 25 #[.int .i64 st, .int .i64 be, .int .i64 rk, .int .i64 my, .int .i64 gu, .int .i64 lo, .int .i64 hi, .int .i64 (hd + n), .int .i64 x8, .int .i64 ut, .int .i64 wk] := k9a.set 10 (.int .i64 wk)
      have k9c : Blk (((((((((((((V.setCell ⟨b9, 0, none⟩ (.int .i64 st)).setCell ⟨b9, 1, none⟩ (.int .i64 be)).setCell ⟨b9, 2, none⟩ (.int .i64 rk)).setCell ⟨b9, 3, none⟩ (.int .i64 my)).setCell ⟨b9, 4, none⟩ (.int .i64 gu)).setCell ⟨b9, 5, none⟩ (.int .i64 lo)).setCell ⟨b9, 6, none⟩ (.int .i64 hi)).setCell ⟨b9, 7, none⟩ (.int .i64 (hd + n))).setCell ⟨b9, 8, none⟩ (.int .i64 x8)).setCell ⟨b9, 9, none⟩ (.int .i64 ut)).setCell ⟨b9, 10, none⟩ (.int .i64 (wk + work))).setCell ⟨b9, 10, none⟩ (.int .i64 wk)).setCell ⟨b9, 7, none⟩ (.int .i64 hd)) b9 25 #[.int .i64 st, .int .i64 be, .int .i64 rk, .int .i64 my, .int .i64 gu, .int .i64 lo, .int .i64 hi, .int .i64 hd, .int .i64 x8, .int .i64 ut, .int .i64 wk] := k9b.set 7 (.int .i64 hd)
      have k9d : Blk ((((((((((((((V.setCell ⟨b9, 0, none⟩ (.int .i64 st)).setCell ⟨b9, 1, none⟩ (.int .i64 be)).setCell ⟨b9, 2, none⟩ (.int .i64 rk)).setCell ⟨b9, 3, none⟩ (.int .i64 my)).setCell ⟨b9, 4, none⟩ (.int .i64 gu)).setCell ⟨b9, 5, none⟩ (.int .i64 lo)).setCell ⟨b9, 6, none⟩ (.int .i64 hi)).setCell ⟨b9, 7, none⟩ (.int .i64 (hd + n))).setCell ⟨b9, 8, none⟩ (.int .i64 x8)).setCell ⟨b9, 9, none⟩ (.int .i64 ut)).setCell ⟨b9, 10, none⟩ (.int .i64 (wk + work))).setCell ⟨b9, 10, none⟩ (.int .i64 wk)).setCell ⟨b9, 7, none⟩ (.int .i64 hd)).setCell ⟨b9, 8, none⟩ (.int .i64 ca)) b9 25 #[.int .i64 st, .int .i64 be, .int .i64 rk, .int .i64 my, .int .i64 gu, .int .i64 lo, .int .i64 hi, .int .i64 hd, .int .i64 ca, .int .i64 ut, .int .i64 wk] := k9c.set 8 (.int .i64 ca)
      replace k9 := hide k9d
      clear k9a k9b k9c k9d
      replace BB : Hid (Below w.heap.size w ((((((((((((((V.setCell ⟨b9, 0, none⟩ (.int .i64 st)).setCell ⟨b9, 1, none⟩ (.int .i64 be)).setCell ⟨b9, 2, none⟩ (.int .i64 rk)).setCell ⟨b9, 3, none⟩ (.int .i64 my)).setCell ⟨b9, 4, none⟩ (.int .i64 gu)).setCell ⟨b9, 5, none⟩ (.int .i64 lo)).setCell ⟨b9, 6, none⟩ (.int .i64 hi)).setCell ⟨b9, 7, none⟩ (.int .i64 (hd + n))).setCell ⟨b9, 8, none⟩ (.int .i64 x8)).setCell ⟨b9, 9, none⟩ (.int .i64 ut)).setCell ⟨b9, 10, none⟩ (.int .i64 (wk + work))).setCell ⟨b9, 10, none⟩ (.int .i64 wk)).setCell ⟨b9, 7, none⟩ (.int .i64 hd)).setCell ⟨b9, 8, none⟩ (.int .i64 ca))) := hide (((((((((((((((unhide BB).setCell (p := ⟨b9, 0, none⟩) u9 (.int .i64 st)).setCell (p := ⟨b9, 1, none⟩) u9 (.int .i64 be)).setCell (p := ⟨b9, 2, none⟩) u9 (.int .i64 rk)).setCell (p := ⟨b9, 3, none⟩) u9 (.int .i64 my)).setCell (p := ⟨b9, 4, none⟩) u9 (.int .i64 gu)).setCell (p := ⟨b9, 5, none⟩) u9 (.int .i64 lo)).setCell (p := ⟨b9, 6, none⟩) u9 (.int .i64 hi)).setCell (p := ⟨b9, 7, none⟩) u9 (.int .i64 (hd + n))).setCell (p := ⟨b9, 8, none⟩) u9 (.int .i64 x8)).setCell (p := ⟨b9, 9, none⟩) u9 (.int .i64 ut)).setCell (p := ⟨b9, 10, none⟩) u9 (.int .i64 (wk + work))).setCell (p := ⟨b9, 10, none⟩) u9 (.int .i64 wk)).setCell (p := ⟨b9, 7, none⟩) u9 (.int .i64 hd)).setCell (p := ⟨b9, 8, none⟩) u9 (.int .i64 ca))
      clear c0 c1 c2 c3 c4 c5 c6 c7 c8 c9 c10 d0 d1 d2 d3 d4 d5 d6 d7 d8 d9 d10 p0 pf0 p1 pf1 p2 pf2 p3 pf3 p4 pf4 p5 pf5 p6 pf6 p7 pf7 p8 pf8 p9 pf9 p10 pf10
      generalize ((((((((((((((V.setCell ⟨b9, 0, none⟩ (.int .i64 st)).setCell ⟨b9, 1, none⟩ (.int .i64 be)).setCell ⟨b9, 2, none⟩ (.int .i64 rk)).setCell ⟨b9, 3, none⟩ (.int .i64 my)).setCell ⟨b9, 4, none⟩ (.int .i64 gu)).setCell ⟨b9, 5, none⟩ (.int .i64 lo)).setCell ⟨b9, 6, none⟩ (.int .i64 hi)).setCell ⟨b9, 7, none⟩ (.int .i64 (hd + n))).setCell ⟨b9, 8, none⟩ (.int .i64 x8)).setCell ⟨b9, 9, none⟩ (.int .i64 ut)).setCell ⟨b9, 10, none⟩ (.int .i64 (wk + work))).setCell ⟨b9, 10, none⟩ (.int .i64 wk)).setCell ⟨b9, 7, none⟩ (.int .i64 hd)).setCell ⟨b9, 8, none⟩ (.int .i64 ca)) = V9 at *
      refine (unhide OX _).mono ?_
      rintro e w9 ⟨rfl, hb⟩
      replace k3 := hide ((unhide k3).below hb (unhide k3).lt)
      replace k5 := hide ((unhide k5).below hb (unhide k5).lt)
      replace k9 := hide ((unhide k9).below hb (unhide k9).lt)
      replace BB := hide ((unhide BB).trans (hb.mono (unhide BB).size))
      clear hb
      have c0 := (unhide k3).cell (i := 0) (v := .int .i64 st) rfl
      have c1 := (unhide k3).cell (i := 1) (v := .int .i64 be) rfl
      have c2 := (unhide k3).cell (i := 2) (v := .int .i64 rk) rfl
      have c3 := (unhide k3).cell (i := 3) (v := .int .i64 my) rfl
      have c4 := (unhide k3).cell (i := 4) (v := .int .i64 gu) rfl
      have c5 := (unhide k3).cell (i := 5) (v := .int .i64 lo) rfl
      have c6 := (unhide k3).cell (i := 6) (v := .int .i64 hi) rfl
      have c7 := (unhide k3).cell (i := 7) (v := .int .i64 hd) rfl
      have c8 := (unhide k3).cell (i := 8) (v := .int .i64 ca) rfl
      have c9 := (unhide k3).cell (i := 9) (v := .int .i64 ut) rfl
      have c10 := (unhide k3).cell (i := 10) (v := .int .i64 wk) rfl
      have d0 := (unhide k5).cell (i := 0) (v := .int .i64 st) rfl
      have d1 := (unhide k5).cell (i := 1) (v := .int .i64 be) rfl
      have d2 := (unhide k5).cell (i := 2) (v := .int .i64 rk) rfl
      have d3 := (unhide k5).cell (i := 3) (v := .int .i64 my) rfl
      have d4 := (unhide k5).cell (i := 4) (v := .int .i64 gu) rfl
      have d5 := (unhide k5).cell (i := 5) (v := .int .i64 lo) rfl
      have d6 := (unhide k5).cell (i := 6) (v := .int .i64 hi) rfl
      have d7 := (unhide k5).cell (i := 7) (v := .int .i64 (hd + n)) rfl
      have d8 := (unhide k5).cell (i := 8) (v := .int .i64 x8) rfl
      have d9 := (unhide k5).cell (i := 9) (v := .int .i64 ut) rfl
      have d10 := (unhide k5).cell (i := 10) (v := .int .i64 (wk + work)) rfl
      have p0 := (unhide k9).cell (i := 0) (v := .int .i64 st) rfl
      have p1 := (unhide k9).cell (i := 1) (v := .int .i64 be) rfl
      have p2 := (unhide k9).cell (i := 2) (v := .int .i64 rk) rfl
      have p3 := (unhide k9).cell (i := 3) (v := .int .i64 my) rfl
      have p4 := (unhide k9).cell (i := 4) (v := .int .i64 gu) rfl
      have p5 := (unhide k9).cell (i := 5) (v := .int .i64 lo) rfl
      have p6 := (unhide k9).cell (i := 6) (v := .int .i64 hi) rfl
      have p7 := (unhide k9).cell (i := 7) (v := .int .i64 hd) rfl
      have p8 := (unhide k9).cell (i := 8) (v := .int .i64 ca) rfl
      have p9 := (unhide k9).cell (i := 9) (v := .int .i64 ut) rfl
      have p10 := (unhide k9).cell (i := 10) (v := .int .i64 wk) rfl
      have hss : sameB (st, be, rk, my, gu, lo, hi, hd, ca, ut, wk) (st, be, rk, my, gu, lo, hi, hd, ca, ut, wk) = true := sameB_refl _
      have hd9 : hd + n - hd = n := by omega
      go_wp2_with fail
      go_ret
      exact ⟨ret_bool (by have := unhide Hsum; simp; omega), unhide BB⟩
  · obtain ⟨e1, e2⟩ := reranked_is (unhide HR)
    have OY : Hid (∀ w : World, Calls Try.prog 13 #[.agg #[.int .i64 y0, .int .i64 y1, .int .i64 y2, .int .i64 y3, .int .i64 y4, .int .i64 y5, .int .i64 y6, .int .i64 y7, .int .i64 y8, .int .i64 y9, .int .i64 y10]] w fun e w' => e = .returned (.bool true) ∧ Below w.heap.size w w') := hide (fun w => by have := implSmithOk_any y0 y1 y2 y3 y4 y5 y6 y7 y8 y9 y10 w; rw [e2] at this; exact this)
    have f2 : y2 = rank := congrArg (fun v : SmithV => v.2.2.1) e1
    have f7 : y7 = q7 := congrArg (fun v : SmithV => v.2.2.2.2.2.2.2.1) e1
    have f10 : y10 = q10 := congrArg (fun v : SmithV => v.2.2.2.2.2.2.2.2.2.2) e1
    clear e1 e2 HR
    subst f2
    subst f7
    subst f10
    have p0 := (unhide k9).cell (i := 0) (v := .int .i64 y0) rfl
    have p1 := (unhide k9).cell (i := 1) (v := .int .i64 y1) rfl
    have p2 := (unhide k9).cell (i := 2) (v := .int .i64 y2) rfl
    have p3 := (unhide k9).cell (i := 3) (v := .int .i64 y3) rfl
    have p4 := (unhide k9).cell (i := 4) (v := .int .i64 y4) rfl
    have p5 := (unhide k9).cell (i := 5) (v := .int .i64 y5) rfl
    have p6 := (unhide k9).cell (i := 6) (v := .int .i64 y6) rfl
    have p7 := (unhide k9).cell (i := 7) (v := .int .i64 y7) rfl
    have p8 := (unhide k9).cell (i := 8) (v := .int .i64 y8) rfl
    have p9 := (unhide k9).cell (i := 9) (v := .int .i64 y9) rfl
    have p10 := (unhide k9).cell (i := 10) (v := .int .i64 y10) rfl
    go_wp2_with fail
    clear p0 p1 p2 p3 p4 p5 p6 p7 p8 p9 p10
    replace k3 := hide ((unhide k3).alloc (.cells #[.int .i64 y0, .int .i64 y1, .int .i64 y2, .int .i64 y3, .int .i64 y4, .int .i64 y5, .int .i64 y6, .int .i64 y7, .int .i64 y8, .int .i64 y9, .int .i64 y10] 25))
    replace k5 := hide ((unhide k5).alloc (.cells #[.int .i64 y0, .int .i64 y1, .int .i64 y2, .int .i64 y3, .int .i64 y4, .int .i64 y5, .int .i64 y6, .int .i64 y7, .int .i64 y8, .int .i64 y9, .int .i64 y10] 25))
    replace k7 := hide ((unhide k7).alloc (.cells #[.int .i64 y0, .int .i64 y1, .int .i64 y2, .int .i64 y3, .int .i64 y4, .int .i64 y5, .int .i64 y6, .int .i64 y7, .int .i64 y8, .int .i64 y9, .int .i64 y10] 25))
    replace k9 := hide ((unhide k9).alloc (.cells #[.int .i64 y0, .int .i64 y1, .int .i64 y2, .int .i64 y3, .int .i64 y4, .int .i64 y5, .int .i64 y6, .int .i64 y7, .int .i64 y8, .int .i64 y9, .int .i64 y10] 25))
    replace BB := hide ((unhide BB).alloc (unhide BB).size (.cells #[.int .i64 y0, .int .i64 y1, .int .i64 y2, .int .i64 y3, .int .i64 y4, .int .i64 y5, .int .i64 y6, .int .i64 y7, .int .i64 y8, .int .i64 y9, .int .i64 y10] 25))
    have k13 : Hid (Blk (w7.alloc (.cells #[.int .i64 y0, .int .i64 y1, .int .i64 y2, .int .i64 y3, .int .i64 y4, .int .i64 y5, .int .i64 y6, .int .i64 y7, .int .i64 y8, .int .i64 y9, .int .i64 y10] 25)) w7.heap.size 25 #[.int .i64 y0, .int .i64 y1, .int .i64 y2, .int .i64 y3, .int .i64 y4, .int .i64 y5, .int .i64 y6, .int .i64 y7, .int .i64 y8, .int .i64 y9, .int .i64 y10]) := hide (Blk.new _ _ _)
    generalize w7.alloc (.cells #[.int .i64 y0, .int .i64 y1, .int .i64 y2, .int .i64 y3, .int .i64 y4, .int .i64 y5, .int .i64 y6, .int .i64 y7, .int .i64 y8, .int .i64 y9, .int .i64 y10] 25) = W at *
    generalize w7.heap.size = b13 at *
    refine (unhide OY _).mono ?_
    rintro e w8 ⟨rfl, hb⟩
    replace k3 := hide ((unhide k3).below hb (unhide k3).lt)
    replace k5 := hide ((unhide k5).below hb (unhide k5).lt)
    replace k7 := hide ((unhide k7).below hb (unhide k7).lt)
    replace k9 := hide ((unhide k9).below hb (unhide k9).lt)
    replace BB := hide ((unhide BB).trans (hb.mono (unhide BB).size))
    clear hb
    cases is
    · rcases charged_or (unhide HC) with ⟨e1, e2⟩ | ⟨e1, e2⟩
      · have e3 := unhide HQ
        rw [e1] at e3
        subst e3
        cases e2
        have hss : sameB (0, 0, 0, 0, 0, 0, 0, 0, 0, 0, 0) (0, 0, 0, 0, 0, 0, 0, 0, 0, 0, 0) = true := sameB_refl _
        have c0 := (unhide k3).cell (i := 0) (v := .int .i64 st) rfl
        have c1 := (unhide k3).cell (i := 1) (v := .int .i64 be) rfl
        have c2 := (unhide k3).cell (i := 2) (v := .int .i64 rk) rfl
        have c3 := (unhide k3).cell (i := 3) (v := .int .i64 my) rfl
        have c4 := (unhide k3).cell (i := 4) (v := .int .i64 gu) rfl
        have c5 := (unhide k3).cell (i := 5) (v := .int .i64 lo) rfl
        have c6 := (unhide k3).cell (i := 6) (v := .int .i64 hi) rfl
        have c7 := (unhide k3).cell (i := 7) (v := .int .i64 hd) rfl
        have c8 := (unhide k3).cell (i := 8) (v := .int .i64 ca) rfl
        have c9 := (unhide k3).cell (i := 9) (v := .int .i64 ut) rfl
        have c10 := (unhide k3).cell (i := 10) (v := .int .i64 wk) rfl
        have d0 := (unhide k5).cell (i := 0) (v := .int .i64 0) rfl
        have d1 := (unhide k5).cell (i := 1) (v := .int .i64 0) rfl
        have d2 := (unhide k5).cell (i := 2) (v := .int .i64 0) rfl
        have d3 := (unhide k5).cell (i := 3) (v := .int .i64 0) rfl
        have d4 := (unhide k5).cell (i := 4) (v := .int .i64 0) rfl
        have d5 := (unhide k5).cell (i := 5) (v := .int .i64 0) rfl
        have d6 := (unhide k5).cell (i := 6) (v := .int .i64 0) rfl
        have d7 := (unhide k5).cell (i := 7) (v := .int .i64 0) rfl
        have d8 := (unhide k5).cell (i := 8) (v := .int .i64 0) rfl
        have d9 := (unhide k5).cell (i := 9) (v := .int .i64 0) rfl
        have d10 := (unhide k5).cell (i := 10) (v := .int .i64 0) rfl
        have p0 := (unhide k9).cell (i := 0) (v := .int .i64 y0) rfl
        have p1 := (unhide k9).cell (i := 1) (v := .int .i64 y1) rfl
        have p2 := (unhide k9).cell (i := 2) (v := .int .i64 y2) rfl
        have p3 := (unhide k9).cell (i := 3) (v := .int .i64 y3) rfl
        have p4 := (unhide k9).cell (i := 4) (v := .int .i64 y4) rfl
        have p5 := (unhide k9).cell (i := 5) (v := .int .i64 y5) rfl
        have p6 := (unhide k9).cell (i := 6) (v := .int .i64 y6) rfl
        have p7 := (unhide k9).cell (i := 7) (v := .int .i64 y7) rfl
        have p8 := (unhide k9).cell (i := 8) (v := .int .i64 y8) rfl
        have p9 := (unhide k9).cell (i := 9) (v := .int .i64 y9) rfl
        have p10 := (unhide k9).cell (i := 10) (v := .int .i64 y10) rfl
        have r7 := (unhide k7).cell (i := 7) (v := .int .i64 y7) rfl
        have r10 := (unhide k7).cell (i := 10) (v := .int .i64 y10) rfl
        go_wp2_with fail
        clear c0 c1 c2 c3 c4 c5 c6 c7 c8 c9 c10 d0 d1 d2 d3 d4 d5 d6 d7 d8 d9 d10 p0 p1 p2 p3 p4 p5 p6 p7 p8 p9 p10 r7 r10
        obtain ⟨V, rfl⟩ : ∃ V, V = w8 := ⟨w8, rfl⟩
        refine (unhide SO _).mono ?_
        rintro e w9 ⟨rfl, hb⟩
        replace k3 := hide ((unhide k3).below hb (unhide k3).lt)
        replace k5 := hide ((unhide k5).below hb (unhide k5).lt)
        replace BB := hide ((unhide BB).trans (hb.mono (unhide BB).size))
        clear hb
        have c0 := (unhide k3).cell (i := 0) (v := .int .i64 st) rfl
        have c1 := (unhide k3).cell (i := 1) (v := .int .i64 be) rfl
        have c2 := (unhide k3).cell (i := 2) (v := .int .i64 rk) rfl
        have c3 := (unhide k3).cell (i := 3) (v := .int .i64 my) rfl
        have c4 := (unhide k3).cell (i := 4) (v := .int .i64 gu) rfl
        have c5 := (unhide k3).cell (i := 5) (v := .int .i64 lo) rfl
        have c6 := (unhide k3).cell (i := 6) (v := .int .i64 hi) rfl
        have c7 := (unhide k3).cell (i := 7) (v := .int .i64 hd) rfl
        have c8 := (unhide k3).cell (i := 8) (v := .int .i64 ca) rfl
        have c9 := (unhide k3).cell (i := 9) (v := .int .i64 ut) rfl
        have c10 := (unhide k3).cell (i := 10) (v := .int .i64 wk) rfl
        have d0 := (unhide k5).cell (i := 0) (v := .int .i64 0) rfl
        have d1 := (unhide k5).cell (i := 1) (v := .int .i64 0) rfl
        have d2 := (unhide k5).cell (i := 2) (v := .int .i64 0) rfl
        have d3 := (unhide k5).cell (i := 3) (v := .int .i64 0) rfl
        have d4 := (unhide k5).cell (i := 4) (v := .int .i64 0) rfl
        have d5 := (unhide k5).cell (i := 5) (v := .int .i64 0) rfl
        have d6 := (unhide k5).cell (i := 6) (v := .int .i64 0) rfl
        have d7 := (unhide k5).cell (i := 7) (v := .int .i64 0) rfl
        have d8 := (unhide k5).cell (i := 8) (v := .int .i64 0) rfl
        have d9 := (unhide k5).cell (i := 9) (v := .int .i64 0) rfl
        have d10 := (unhide k5).cell (i := 10) (v := .int .i64 0) rfl
        go_wp2_with fail
        go_ret
        exact ⟨rfl, unhide BB⟩
      · have e3 := unhide HQ
        rw [e1] at e3
        subst e3
        cases e2
        have hss : sameB (st, be, rk, my, gu, lo, hi, hd, ca, ut, wk) (st, be, rk, my, gu, lo, hi, hd, ca, ut, wk) = true := sameB_refl _
        have c0 := (unhide k3).cell (i := 0) (v := .int .i64 st) rfl
        have c1 := (unhide k3).cell (i := 1) (v := .int .i64 be) rfl
        have c2 := (unhide k3).cell (i := 2) (v := .int .i64 rk) rfl
        have c3 := (unhide k3).cell (i := 3) (v := .int .i64 my) rfl
        have c4 := (unhide k3).cell (i := 4) (v := .int .i64 gu) rfl
        have c5 := (unhide k3).cell (i := 5) (v := .int .i64 lo) rfl
        have c6 := (unhide k3).cell (i := 6) (v := .int .i64 hi) rfl
        have c7 := (unhide k3).cell (i := 7) (v := .int .i64 hd) rfl
        have c8 := (unhide k3).cell (i := 8) (v := .int .i64 ca) rfl
        have c9 := (unhide k3).cell (i := 9) (v := .int .i64 ut) rfl
        have c10 := (unhide k3).cell (i := 10) (v := .int .i64 wk) rfl
        have d0 := (unhide k5).cell (i := 0) (v := .int .i64 st) rfl
        have d1 := (unhide k5).cell (i := 1) (v := .int .i64 be) rfl
        have d2 := (unhide k5).cell (i := 2) (v := .int .i64 rk) rfl
        have d3 := (unhide k5).cell (i := 3) (v := .int .i64 my) rfl
        have d4 := (unhide k5).cell (i := 4) (v := .int .i64 gu) rfl
        have d5 := (unhide k5).cell (i := 5) (v := .int .i64 lo) rfl
        have d6 := (unhide k5).cell (i := 6) (v := .int .i64 hi) rfl
        have d7 := (unhide k5).cell (i := 7) (v := .int .i64 hd) rfl
        have d8 := (unhide k5).cell (i := 8) (v := .int .i64 ca) rfl
        have d9 := (unhide k5).cell (i := 9) (v := .int .i64 ut) rfl
        have d10 := (unhide k5).cell (i := 10) (v := .int .i64 wk) rfl
        have p0 := (unhide k9).cell (i := 0) (v := .int .i64 y0) rfl
        have p1 := (unhide k9).cell (i := 1) (v := .int .i64 y1) rfl
        have p2 := (unhide k9).cell (i := 2) (v := .int .i64 y2) rfl
        have p3 := (unhide k9).cell (i := 3) (v := .int .i64 y3) rfl
        have p4 := (unhide k9).cell (i := 4) (v := .int .i64 y4) rfl
        have p5 := (unhide k9).cell (i := 5) (v := .int .i64 y5) rfl
        have p6 := (unhide k9).cell (i := 6) (v := .int .i64 y6) rfl
        have p7 := (unhide k9).cell (i := 7) (v := .int .i64 y7) rfl
        have p8 := (unhide k9).cell (i := 8) (v := .int .i64 y8) rfl
        have p9 := (unhide k9).cell (i := 9) (v := .int .i64 y9) rfl
        have p10 := (unhide k9).cell (i := 10) (v := .int .i64 y10) rfl
        have r7 := (unhide k7).cell (i := 7) (v := .int .i64 y7) rfl
        have r10 := (unhide k7).cell (i := 10) (v := .int .i64 y10) rfl
        go_wp2_with fail
        clear c0 c1 c2 c3 c4 c5 c6 c7 c8 c9 c10 d0 d1 d2 d3 d4 d5 d6 d7 d8 d9 d10 p0 p1 p2 p3 p4 p5 p6 p7 p8 p9 p10 r7 r10
        obtain ⟨V, rfl⟩ : ∃ V, V = w8 := ⟨w8, rfl⟩
        refine (unhide SO _).mono ?_
        rintro e w9 ⟨rfl, hb⟩
        replace k3 := hide ((unhide k3).below hb (unhide k3).lt)
        replace k5 := hide ((unhide k5).below hb (unhide k5).lt)
        replace BB := hide ((unhide BB).trans (hb.mono (unhide BB).size))
        clear hb
        have c0 := (unhide k3).cell (i := 0) (v := .int .i64 st) rfl
        have c1 := (unhide k3).cell (i := 1) (v := .int .i64 be) rfl
        have c2 := (unhide k3).cell (i := 2) (v := .int .i64 rk) rfl
        have c3 := (unhide k3).cell (i := 3) (v := .int .i64 my) rfl
        have c4 := (unhide k3).cell (i := 4) (v := .int .i64 gu) rfl
        have c5 := (unhide k3).cell (i := 5) (v := .int .i64 lo) rfl
        have c6 := (unhide k3).cell (i := 6) (v := .int .i64 hi) rfl
        have c7 := (unhide k3).cell (i := 7) (v := .int .i64 hd) rfl
        have c8 := (unhide k3).cell (i := 8) (v := .int .i64 ca) rfl
        have c9 := (unhide k3).cell (i := 9) (v := .int .i64 ut) rfl
        have c10 := (unhide k3).cell (i := 10) (v := .int .i64 wk) rfl
        have d0 := (unhide k5).cell (i := 0) (v := .int .i64 st) rfl
        have d1 := (unhide k5).cell (i := 1) (v := .int .i64 be) rfl
        have d2 := (unhide k5).cell (i := 2) (v := .int .i64 rk) rfl
        have d3 := (unhide k5).cell (i := 3) (v := .int .i64 my) rfl
        have d4 := (unhide k5).cell (i := 4) (v := .int .i64 gu) rfl
        have d5 := (unhide k5).cell (i := 5) (v := .int .i64 lo) rfl
        have d6 := (unhide k5).cell (i := 6) (v := .int .i64 hi) rfl
        have d7 := (unhide k5).cell (i := 7) (v := .int .i64 hd) rfl
        have d8 := (unhide k5).cell (i := 8) (v := .int .i64 ca) rfl
        have d9 := (unhide k5).cell (i := 9) (v := .int .i64 ut) rfl
        have d10 := (unhide k5).cell (i := 10) (v := .int .i64 wk) rfl
        go_wp2_with fail
        go_ret
        exact ⟨rfl, unhide BB⟩
    · obtain ⟨hp, hw, e2, hsm⟩ := charged_is (unhide HC)
      obtain ⟨v0, v1⟩ := inB_of hw
      obtain ⟨⟨s0, s1⟩, _, hr, _, _, _, ⟨d0, d1⟩, ⟨a0, a1⟩, _, ⟨g0, g1⟩⟩ := presB_of hp
      have r0 := weight_pos hr
      have r1 := (weight_in rk).2
      obtain ⟨_, n0, n1, l0, l1, hsum⟩ := share_in v0 v1 r0 r1 a0 a1
      have OX : Hid (∀ w : World, Calls Try.prog 13 #[.agg #[.int .i64 x0, .int .i64 x1, .int .i64 x2, .int .i64 x3, .int .i64 x4, .int .i64 x5, .int .i64 x6, .int .i64 x7, .int .i64 x8, .int .i64 x9, .int .i64 x10]] w fun e w' => e = .returned (.bool true) ∧ Below w.heap.size w w') := hide (fun w => by have := implSmithOk_any x0 x1 x2 x3 x4 x5 x6 x7 x8 x9 x10 w; rw [hsm] at this; exact this)
      unfold putOn at e2
      simp only at e2
      obtain ⟨z, hz⟩ : ∃ z, weightV rk = z := ⟨_, rfl⟩
      rw [hz] at e2 hsum r0 r1 n0 n1 l0 l1 a1
      generalize shareN work z ca = n at *
      generalize shareL work z ca = l at *
      have hmul : 0 ≤ n * z := Int.mul_nonneg n0 (by omega)
      have hmul2 : n * z ≤ 200000000 := by omega
      have Hz := hide hz
      have Hsum := hide hsum
      clear hz hp hw hsm hr hsum HC HQ
      cases e2
      have u1 : ¬ b3 = b9 := by omega
      have u2 : ¬ b5 = b9 := by omega
      have u3 : ¬ b9 = b3 := by omega
      have u4 : ¬ b9 = b5 := by omega
      have u9 : w.heap.size ≤ b9 := by omega
      have c0 := (unhide k3).cell (i := 0) (v := .int .i64 st) rfl
      have c1 := (unhide k3).cell (i := 1) (v := .int .i64 be) rfl
      have c2 := (unhide k3).cell (i := 2) (v := .int .i64 rk) rfl
      have c3 := (unhide k3).cell (i := 3) (v := .int .i64 my) rfl
      have c4 := (unhide k3).cell (i := 4) (v := .int .i64 gu) rfl
      have c5 := (unhide k3).cell (i := 5) (v := .int .i64 lo) rfl
      have c6 := (unhide k3).cell (i := 6) (v := .int .i64 hi) rfl
      have c7 := (unhide k3).cell (i := 7) (v := .int .i64 hd) rfl
      have c8 := (unhide k3).cell (i := 8) (v := .int .i64 ca) rfl
      have c9 := (unhide k3).cell (i := 9) (v := .int .i64 ut) rfl
      have c10 := (unhide k3).cell (i := 10) (v := .int .i64 wk) rfl
      have d0 := (unhide k5).cell (i := 0) (v := .int .i64 st) rfl
      have d1 := (unhide k5).cell (i := 1) (v := .int .i64 be) rfl
      have d2 := (unhide k5).cell (i := 2) (v := .int .i64 rk) rfl
      have d3 := (unhide k5).cell (i := 3) (v := .int .i64 my) rfl
      have d4 := (unhide k5).cell (i := 4) (v := .int .i64 gu) rfl
      have d5 := (unhide k5).cell (i := 5) (v := .int .i64 lo) rfl
      have d6 := (unhide k5).cell (i := 6) (v := .int .i64 hi) rfl
      have d7 := (unhide k5).cell (i := 7) (v := .int .i64 (hd + n)) rfl
      have d8 := (unhide k5).cell (i := 8) (v := .int .i64 x8) rfl
      have d9 := (unhide k5).cell (i := 9) (v := .int .i64 ut) rfl
      have d10 := (unhide k5).cell (i := 10) (v := .int .i64 (wk + work)) rfl
      have p0 := (unhide k9).cell (i := 0) (v := .int .i64 y0) rfl
      have p1 := (unhide k9).cell (i := 1) (v := .int .i64 y1) rfl
      have p2 := (unhide k9).cell (i := 2) (v := .int .i64 y2) rfl
      have p3 := (unhide k9).cell (i := 3) (v := .int .i64 y3) rfl
      have p4 := (unhide k9).cell (i := 4) (v := .int .i64 y4) rfl
      have p5 := (unhide k9).cell (i := 5) (v := .int .i64 y5) rfl
      have p6 := (unhide k9).cell (i := 6) (v := .int .i64 y6) rfl
      have p7 := (unhide k9).cell (i := 7) (v := .int .i64 y7) rfl
      have p8 := (unhide k9).cell (i := 8) (v := .int .i64 y8) rfl
      have p9 := (unhide k9).cell (i := 9) (v := .int .i64 y9) rfl
      have p10 := (unhide k9).cell (i := 10) (v := .int .i64 y10) rfl
      have r7 := (unhide k7).cell (i := 7) (v := .int .i64 y7) rfl
      have r10 := (unhide k7).cell (i := 10) (v := .int .i64 y10) rfl
      go_wp2_with fail
      clear c0 c1 c2 c3 c4 c5 c6 c7 c8 c9 c10 d0 d1 d2 d3 d4 d5 d6 d7 d8 d9 d10 p0 p1 p2 p3 p4 p5 p6 p7 p8 p9 p10 r7 r10
      obtain ⟨V, rfl⟩ : ∃ V, V = w8 := ⟨w8, rfl⟩
      refine (specWeightOf_v (unhide Hz) _).mono ?_
      rintro e w9 ⟨rfl, h9⟩
      subst w9
      have c0 := (unhide k3).cell (i := 0) (v := .int .i64 st) rfl
      have c1 := (unhide k3).cell (i := 1) (v := .int .i64 be) rfl
      have c2 := (unhide k3).cell (i := 2) (v := .int .i64 rk) rfl
      have c3 := (unhide k3).cell (i := 3) (v := .int .i64 my) rfl
      have c4 := (unhide k3).cell (i := 4) (v := .int .i64 gu) rfl
      have c5 := (unhide k3).cell (i := 5) (v := .int .i64 lo) rfl
      have c6 := (unhide k3).cell (i := 6) (v := .int .i64 hi) rfl
      have c7 := (unhide k3).cell (i := 7) (v := .int .i64 hd) rfl
      have c8 := (unhide k3).cell (i := 8) (v := .int .i64 ca) rfl
      have c9 := (unhide k3).cell (i := 9) (v := .int .i64 ut) rfl
      have c10 := (unhide k3).cell (i := 10) (v := .int .i64 wk) rfl
      have d0 := (unhide k5).cell (i := 0) (v := .int .i64 st) rfl
      have d1 := (unhide k5).cell (i := 1) (v := .int .i64 be) rfl
      have d2 := (unhide k5).cell (i := 2) (v := .int .i64 rk) rfl
      have d3 := (unhide k5).cell (i := 3) (v := .int .i64 my) rfl
      have d4 := (unhide k5).cell (i := 4) (v := .int .i64 gu) rfl
      have d5 := (unhide k5).cell (i := 5) (v := .int .i64 lo) rfl
      have d6 := (unhide k5).cell (i := 6) (v := .int .i64 hi) rfl
      have d7 := (unhide k5).cell (i := 7) (v := .int .i64 (hd + n)) rfl
      have d8 := (unhide k5).cell (i := 8) (v := .int .i64 x8) rfl
      have d9 := (unhide k5).cell (i := 9) (v := .int .i64 ut) rfl
      have d10 := (unhide k5).cell (i := 10) (v := .int .i64 (wk + work)) rfl
      have p0 := (unhide k9).cell (i := 0) (v := .int .i64 y0) rfl
      have pf0 := (unhide k9).free 0
      have p1 := (unhide k9).cell (i := 1) (v := .int .i64 y1) rfl
      have pf1 := (unhide k9).free 1
      have p2 := (unhide k9).cell (i := 2) (v := .int .i64 y2) rfl
      have pf2 := (unhide k9).free 2
      have p3 := (unhide k9).cell (i := 3) (v := .int .i64 y3) rfl
      have pf3 := (unhide k9).free 3
      have p4 := (unhide k9).cell (i := 4) (v := .int .i64 y4) rfl
      have pf4 := (unhide k9).free 4
      have p5 := (unhide k9).cell (i := 5) (v := .int .i64 y5) rfl
      have pf5 := (unhide k9).free 5
      have p6 := (unhide k9).cell (i := 6) (v := .int .i64 y6) rfl
      have pf6 := (unhide k9).free 6
      have p7 := (unhide k9).cell (i := 7) (v := .int .i64 y7) rfl
      have pf7 := (unhide k9).free 7
      have p8 := (unhide k9).cell (i := 8) (v := .int .i64 y8) rfl
      have pf8 := (unhide k9).free 8
      have p9 := (unhide k9).cell (i := 9) (v := .int .i64 y9) rfl
      have pf9 := (unhide k9).free 9
      have p10 := (unhide k9).cell (i := 10) (v := .int .i64 y10) rfl
      have pf10 := (unhide k9).free 10
      go_wp2_with fail
      replace k3 : Hid (Blk ((((((((((((((V.setCell ⟨b9, 0, none⟩ (.int .i64 st)).setCell ⟨b9, 1, none⟩ (.int .i64 be)).setCell ⟨b9, 2, none⟩ (.int .i64 rk)).setCell ⟨b9, 3, none⟩ (.int .i64 my)).setCell ⟨b9, 4, none⟩ (.int .i64 gu)).setCell ⟨b9, 5, none⟩ (.int .i64 lo)).setCell ⟨b9, 6, none⟩ (.int .i64 hi)).setCell ⟨b9, 7, none⟩ (.int .i64 (hd + n))).setCell ⟨b9, 8, none⟩ (.int .i64 x8)).setCell ⟨b9, 9, none⟩ (.int .i64 ut)).setCell ⟨b9, 10, none⟩ (.int .i64 (wk + work))).setCell ⟨b9, 10, none⟩ (.int .i64 wk)).setCell ⟨b9, 7, none⟩ (.int .i64 hd)).setCell ⟨b9, 8, none⟩ (.int .i64 ca)) b3 25 #[.int .i64 st, .int .i64 be, .int .i64 rk, .int .i64 my, .int .i64 gu, .int .i64 lo, .int .i64 hi, .int .i64 hd, .int .i64 ca, .int .i64 ut, .int .i64 wk]) := hide (((((((((((((((unhide k3).other (a := ⟨b9, 0, none⟩) u1 (.int .i64 st)).other (a := ⟨b9, 1, none⟩) u1 (.int .i64 be)).other (a := ⟨b9, 2, none⟩) u1 (.int .i64 rk)).other (a := ⟨b9, 3, none⟩) u1 (.int .i64 my)).other (a := ⟨b9, 4, none⟩) u1 (.int .i64 gu)).other (a := ⟨b9, 5, none⟩) u1 (.int .i64 lo)).other (a := ⟨b9, 6, none⟩) u1 (.int .i64 hi)).other (a := ⟨b9, 7, none⟩) u1 (.int .i64 (hd + n))).other (a := ⟨b9, 8, none⟩) u1 (.int .i64 x8)).other (a := ⟨b9, 9, none⟩) u1 (.int .i64 ut)).other (a := ⟨b9, 10, none⟩) u1 (.int .i64 (wk + work))).other (a := ⟨b9, 10, none⟩) u1 (.int .i64 wk)).other (a := ⟨b9, 7, none⟩) u1 (.int .i64 hd)).other (a := ⟨b9, 8, none⟩) u1 (.int .i64 ca))
      replace k5 : Hid (Blk ((((((((((((((V.setCell ⟨b9, 0, none⟩ (.int .i64 st)).setCell ⟨b9, 1, none⟩ (.int .i64 be)).setCell ⟨b9, 2, none⟩ (.int .i64 rk)).setCell ⟨b9, 3, none⟩ (.int .i64 my)).setCell ⟨b9, 4, none⟩ (.int .i64 gu)).setCell ⟨b9, 5, none⟩ (.int .i64 lo)).setCell ⟨b9, 6, none⟩ (.int .i64 hi)).setCell ⟨b9, 7, none⟩ (.int .i64 (hd + n))).setCell ⟨b9, 8, none⟩ (.int .i64 x8)).setCell ⟨b9, 9, none⟩ (.int .i64 ut)).setCell ⟨b9, 10, none⟩ (.int .i64 (wk + work))).setCell ⟨b9, 10, none⟩ (.int .i64 wk)).setCell ⟨b9, 7, none⟩ (.int .i64 hd)).setCell ⟨b9, 8, none⟩ (.int .i64 ca)) b5 25 #[.int .i64 st, .int .i64 be, .int .i64 rk, .int .i64 my, .int .i64 gu, .int .i64 lo, .int .i64 hi, .int .i64 (hd + n), .int .i64 x8, .int .i64 ut, .int .i64 (wk + work)]) := hide (((((((((((((((unhide k5).other (a := ⟨b9, 0, none⟩) u2 (.int .i64 st)).other (a := ⟨b9, 1, none⟩) u2 (.int .i64 be)).other (a := ⟨b9, 2, none⟩) u2 (.int .i64 rk)).other (a := ⟨b9, 3, none⟩) u2 (.int .i64 my)).other (a := ⟨b9, 4, none⟩) u2 (.int .i64 gu)).other (a := ⟨b9, 5, none⟩) u2 (.int .i64 lo)).other (a := ⟨b9, 6, none⟩) u2 (.int .i64 hi)).other (a := ⟨b9, 7, none⟩) u2 (.int .i64 (hd + n))).other (a := ⟨b9, 8, none⟩) u2 (.int .i64 x8)).other (a := ⟨b9, 9, none⟩) u2 (.int .i64 ut)).other (a := ⟨b9, 10, none⟩) u2 (.int .i64 (wk + work))).other (a := ⟨b9, 10, none⟩) u2 (.int .i64 wk)).other (a := ⟨b9, 7, none⟩) u2 (.int .i64 hd)).other (a := ⟨b9, 8, none⟩) u2 (.int .i64 ca))
      have k9a := (unhide k9).put11 (.int .i64 st) (.int .i64 be) (.int .i64 rk) (.int .i64 my) (.int .i64 gu) (.int .i64 lo) (.int .i64 hi) (.int .i64 (hd + n)) (.int .i64 x8) (.int .i64 ut) (.int .i64 (wk + work))
      have k9b : Blk ((((((((((((V.setCell ⟨b9, 0, none⟩ (.int .i64 st)).setCell ⟨b9, 1, none⟩ (.int .i64 be)).setCell ⟨b9, 2, none⟩ (.int .i64 rk)).setCell ⟨b9, 3, none⟩ (.int .i64 my)).setCell ⟨b9, 4, none⟩ (.int .i64 gu)).setCell ⟨b9, 5, none⟩ (.int .i64 lo)).setCell ⟨b9, 6, none⟩ (.int .i64 hi)).setCell ⟨b9, 7, none⟩ (.int .i64 (hd + n))).setCell ⟨b9, 8, none⟩ (.int .i64 x8)).setCell ⟨b9, 9, none⟩ (.int .i64 ut)).setCell ⟨b9, 10, none⟩ (.int .i64 (wk + work))).setCell ⟨b9, 10, none⟩ (.int .i64 wk)) b9 25 #[.int .i64 st, .int .i64 be, .int .i64 rk, .int .i64 my, .int .i64 gu, .int .i64 lo, .int .i64 hi, .int .i64 (hd + n), .int .i64 x8, .int .i64 ut, .int .i64 wk] := k9a.set 10 (.int .i64 wk)
      have k9c : Blk (((((((((((((V.setCell ⟨b9, 0, none⟩ (.int .i64 st)).setCell ⟨b9, 1, none⟩ (.int .i64 be)).setCell ⟨b9, 2, none⟩ (.int .i64 rk)).setCell ⟨b9, 3, none⟩ (.int .i64 my)).setCell ⟨b9, 4, none⟩ (.int .i64 gu)).setCell ⟨b9, 5, none⟩ (.int .i64 lo)).setCell ⟨b9, 6, none⟩ (.int .i64 hi)).setCell ⟨b9, 7, none⟩ (.int .i64 (hd + n))).setCell ⟨b9, 8, none⟩ (.int .i64 x8)).setCell ⟨b9, 9, none⟩ (.int .i64 ut)).setCell ⟨b9, 10, none⟩ (.int .i64 (wk + work))).setCell ⟨b9, 10, none⟩ (.int .i64 wk)).setCell ⟨b9, 7, none⟩ (.int .i64 hd)) b9 25 #[.int .i64 st, .int .i64 be, .int .i64 rk, .int .i64 my, .int .i64 gu, .int .i64 lo, .int .i64 hi, .int .i64 hd, .int .i64 x8, .int .i64 ut, .int .i64 wk] := k9b.set 7 (.int .i64 hd)
      have k9d : Blk ((((((((((((((V.setCell ⟨b9, 0, none⟩ (.int .i64 st)).setCell ⟨b9, 1, none⟩ (.int .i64 be)).setCell ⟨b9, 2, none⟩ (.int .i64 rk)).setCell ⟨b9, 3, none⟩ (.int .i64 my)).setCell ⟨b9, 4, none⟩ (.int .i64 gu)).setCell ⟨b9, 5, none⟩ (.int .i64 lo)).setCell ⟨b9, 6, none⟩ (.int .i64 hi)).setCell ⟨b9, 7, none⟩ (.int .i64 (hd + n))).setCell ⟨b9, 8, none⟩ (.int .i64 x8)).setCell ⟨b9, 9, none⟩ (.int .i64 ut)).setCell ⟨b9, 10, none⟩ (.int .i64 (wk + work))).setCell ⟨b9, 10, none⟩ (.int .i64 wk)).setCell ⟨b9, 7, none⟩ (.int .i64 hd)).setCell ⟨b9, 8, none⟩ (.int .i64 ca)) b9 25 #[.int .i64 st, .int .i64 be, .int .i64 rk, .int .i64 my, .int .i64 gu, .int .i64 lo, .int .i64 hi, .int .i64 hd, .int .i64 ca, .int .i64 ut, .int .i64 wk] := k9c.set 8 (.int .i64 ca)
      replace k9 := hide k9d
      clear k9a k9b k9c k9d
      replace BB : Hid (Below w.heap.size w ((((((((((((((V.setCell ⟨b9, 0, none⟩ (.int .i64 st)).setCell ⟨b9, 1, none⟩ (.int .i64 be)).setCell ⟨b9, 2, none⟩ (.int .i64 rk)).setCell ⟨b9, 3, none⟩ (.int .i64 my)).setCell ⟨b9, 4, none⟩ (.int .i64 gu)).setCell ⟨b9, 5, none⟩ (.int .i64 lo)).setCell ⟨b9, 6, none⟩ (.int .i64 hi)).setCell ⟨b9, 7, none⟩ (.int .i64 (hd + n))).setCell ⟨b9, 8, none⟩ (.int .i64 x8)).setCell ⟨b9, 9, none⟩ (.int .i64 ut)).setCell ⟨b9, 10, none⟩ (.int .i64 (wk + work))).setCell ⟨b9, 10, none⟩ (.int .i64 wk)).setCell ⟨b9, 7, none⟩ (.int .i64 hd)).setCell ⟨b9, 8, none⟩ (.int .i64 ca))) := hide (((((((((((((((unhide BB).setCell (p := ⟨b9, 0, none⟩) u9 (.int .i64 st)).setCell (p := ⟨b9, 1, none⟩) u9 (.int .i64 be)).setCell (p := ⟨b9, 2, none⟩) u9 (.int .i64 rk)).setCell (p := ⟨b9, 3, none⟩) u9 (.int .i64 my)).setCell (p := ⟨b9, 4, none⟩) u9 (.int .i64 gu)).setCell (p := ⟨b9, 5, none⟩) u9 (.int .i64 lo)).setCell (p := ⟨b9, 6, none⟩) u9 (.int .i64 hi)).setCell (p := ⟨b9, 7, none⟩) u9 (.int .i64 (hd + n))).setCell (p := ⟨b9, 8, none⟩) u9 (.int .i64 x8)).setCell (p := ⟨b9, 9, none⟩) u9 (.int .i64 ut)).setCell (p := ⟨b9, 10, none⟩) u9 (.int .i64 (wk + work))).setCell (p := ⟨b9, 10, none⟩) u9 (.int .i64 wk)).setCell (p := ⟨b9, 7, none⟩) u9 (.int .i64 hd)).setCell (p := ⟨b9, 8, none⟩) u9 (.int .i64 ca))
      clear c0 c1 c2 c3 c4 c5 c6 c7 c8 c9 c10 d0 d1 d2 d3 d4 d5 d6 d7 d8 d9 d10 p0 pf0 p1 pf1 p2 pf2 p3 pf3 p4 pf4 p5 pf5 p6 pf6 p7 pf7 p8 pf8 p9 pf9 p10 pf10
      generalize ((((((((((((((V.setCell ⟨b9, 0, none⟩ (.int .i64 st)).setCell ⟨b9, 1, none⟩ (.int .i64 be)).setCell ⟨b9, 2, none⟩ (.int .i64 rk)).setCell ⟨b9, 3, none⟩ (.int .i64 my)).setCell ⟨b9, 4, none⟩ (.int .i64 gu)).setCell ⟨b9, 5, none⟩ (.int .i64 lo)).setCell ⟨b9, 6, none⟩ (.int .i64 hi)).setCell ⟨b9, 7, none⟩ (.int .i64 (hd + n))).setCell ⟨b9, 8, none⟩ (.int .i64 x8)).setCell ⟨b9, 9, none⟩ (.int .i64 ut)).setCell ⟨b9, 10, none⟩ (.int .i64 (wk + work))).setCell ⟨b9, 10, none⟩ (.int .i64 wk)).setCell ⟨b9, 7, none⟩ (.int .i64 hd)).setCell ⟨b9, 8, none⟩ (.int .i64 ca)) = V9 at *
      refine (unhide OX _).mono ?_
      rintro e w9 ⟨rfl, hb⟩
      replace k3 := hide ((unhide k3).below hb (unhide k3).lt)
      replace k5 := hide ((unhide k5).below hb (unhide k5).lt)
      replace k9 := hide ((unhide k9).below hb (unhide k9).lt)
      replace BB := hide ((unhide BB).trans (hb.mono (unhide BB).size))
      clear hb
      have c0 := (unhide k3).cell (i := 0) (v := .int .i64 st) rfl
      have c1 := (unhide k3).cell (i := 1) (v := .int .i64 be) rfl
      have c2 := (unhide k3).cell (i := 2) (v := .int .i64 rk) rfl
      have c3 := (unhide k3).cell (i := 3) (v := .int .i64 my) rfl
      have c4 := (unhide k3).cell (i := 4) (v := .int .i64 gu) rfl
      have c5 := (unhide k3).cell (i := 5) (v := .int .i64 lo) rfl
      have c6 := (unhide k3).cell (i := 6) (v := .int .i64 hi) rfl
      have c7 := (unhide k3).cell (i := 7) (v := .int .i64 hd) rfl
      have c8 := (unhide k3).cell (i := 8) (v := .int .i64 ca) rfl
      have c9 := (unhide k3).cell (i := 9) (v := .int .i64 ut) rfl
      have c10 := (unhide k3).cell (i := 10) (v := .int .i64 wk) rfl
      have d0 := (unhide k5).cell (i := 0) (v := .int .i64 st) rfl
      have d1 := (unhide k5).cell (i := 1) (v := .int .i64 be) rfl
      have d2 := (unhide k5).cell (i := 2) (v := .int .i64 rk) rfl
      have d3 := (unhide k5).cell (i := 3) (v := .int .i64 my) rfl
      have d4 := (unhide k5).cell (i := 4) (v := .int .i64 gu) rfl
      have d5 := (unhide k5).cell (i := 5) (v := .int .i64 lo) rfl
      have d6 := (unhide k5).cell (i := 6) (v := .int .i64 hi) rfl
      have d7 := (unhide k5).cell (i := 7) (v := .int .i64 (hd + n)) rfl
      have d8 := (unhide k5).cell (i := 8) (v := .int .i64 x8) rfl
      have d9 := (unhide k5).cell (i := 9) (v := .int .i64 ut) rfl
      have d10 := (unhide k5).cell (i := 10) (v := .int .i64 (wk + work)) rfl
      have p0 := (unhide k9).cell (i := 0) (v := .int .i64 st) rfl
      have p1 := (unhide k9).cell (i := 1) (v := .int .i64 be) rfl
      have p2 := (unhide k9).cell (i := 2) (v := .int .i64 rk) rfl
      have p3 := (unhide k9).cell (i := 3) (v := .int .i64 my) rfl
      have p4 := (unhide k9).cell (i := 4) (v := .int .i64 gu) rfl
      have p5 := (unhide k9).cell (i := 5) (v := .int .i64 lo) rfl
      have p6 := (unhide k9).cell (i := 6) (v := .int .i64 hi) rfl
      have p7 := (unhide k9).cell (i := 7) (v := .int .i64 hd) rfl
      have p8 := (unhide k9).cell (i := 8) (v := .int .i64 ca) rfl
      have p9 := (unhide k9).cell (i := 9) (v := .int .i64 ut) rfl
      have p10 := (unhide k9).cell (i := 10) (v := .int .i64 wk) rfl
      have hss : sameB (st, be, rk, my, gu, lo, hi, hd, ca, ut, wk) (st, be, rk, my, gu, lo, hi, hd, ca, ut, wk) = true := sameB_refl _
      have hd9 : hd + n - hd = n := by omega
      go_wp2_with fail
      go_ret
      exact ⟨ret_bool (by have := unhide Hsum; simp; omega), unhide BB⟩

end Go.Proofs.Ytkagjopogihnbaa
