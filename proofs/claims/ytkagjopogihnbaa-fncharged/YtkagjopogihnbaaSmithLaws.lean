/- Charged and Reranked on both sides, by the plain numbers; and the walks of their exact laws. No condition. -/
import Derived.Test.YtkagjopogihnbaaSmithChg3
import Derived.Test.YtkagjopogihnbaaSmithSpec4
namespace Go.Proofs.Ytkagjopogihnbaa
open Go.ChangeShapes Go.WideShapes Go.ChangeAt Go.RowKit Go.Sort
set_option linter.unusedVariables false

theorem smithB_pres {x : SmithV} (h : presB x = true) : smithB x = true := by unfold smithB; rw [h, Bool.or_true]
theorem smithB_st {x : SmithV} (h : x.1 ≠ 0) : smithB x = presB x := by unfold smithB; rw [goneB_st h, Bool.false_or]
theorem chargedV_gone {x : SmithV} (work : Int) (hg : goneB x = true) : chargedV x work = (zeroS, false) := by
  have e := goneB_of hg
  subst e
  rfl
theorem chargedV_wrong {x : SmithV} (work : Int) (hg : goneB x = false) (hp : presB x = false) : chargedV x work = (zeroS, false) := by unfold chargedV; rw [hp, hg]; rfl
theorem chargedV_no {x : SmithV} {work : Int} (hp : presB x = true) (hw : inB work 0 100000 = false) : chargedV x work = (x, false) := by unfold chargedV; rw [hp, hw]; rfl
theorem chargedV_in {x : SmithV} {work : Int} {q : Bool} (hp : presB x = true) (hw : inB work 0 100000 = true) (hq : presB (putOn x work) = q) : chargedV x work = (if q then putOn x work else x, q) := by unfold chargedV; rw [hp, hw, hq]; cases q <;> rfl
theorem rerankedV_gone {x : SmithV} (rank : Int) (hg : goneB x = true) : rerankedV x rank = (zeroS, false) := by
  have e := goneB_of hg
  subst e
  rfl
theorem rerankedV_wrong {x : SmithV} (rank : Int) (hg : goneB x = false) (hp : presB x = false) : rerankedV x rank = (zeroS, false) := by unfold rerankedV; rw [hp, hg]; rfl
theorem rerankedV_no {x : SmithV} {rank : Int} (hp : presB x = true) (hw : inB rank (-5) 5 = false) : rerankedV x rank = (x, false) := by unfold rerankedV; rw [hp, hw]; rfl
theorem rerankedV_yes {x : SmithV} {rank : Int} (hp : presB x = true) (hw : inB rank (-5) 5 = true) : rerankedV x rank = (reRank x rank, true) := by unfold rerankedV; rw [hp, hw]; rfl

theorem st_ne {st : Int} (h : 1 ≤ st) : (st == 0) = false := by simp; omega
set_option maxHeartbeats 1000000 in
theorem implCharged_w {x y : SmithV} {work : Int} {q : Bool} (h : chargedV x work = (y, q)) (w : World) : Calls Try.prog 9 #[.agg (encSmith x).toArray, .int .i64 work] w fun e w' => e = .returned (.tuple #[.agg (encSmith y).toArray, .bool q]) ∧ Below w.heap.size w w' := by
  obtain ⟨st, be, rk, my, gu, lo, hi, hd, ca, ut, wk⟩ := x
  cases hg : goneB (st, be, rk, my, gu, lo, hi, hd, ca, ut, wk)
  · cases hp : presB (st, be, rk, my, gu, lo, hi, hd, ca, ut, wk)
    · rw [chargedV_wrong work hg hp] at h
      obtain ⟨rfl, rfl⟩ := Prod.mk.inj h
      exact charged_of w fun R W hR => changed_wrong hg hp _ _ _
    · cases hw : inB work 0 100000
      · rw [chargedV_no hp hw] at h
        obtain ⟨rfl, rfl⟩ := Prod.mk.inj h
        exact charged_of w fun R W hR => by rw [hw]; exact changed_no hg hp _ _
      · obtain ⟨v0, v1⟩ := inB_of hw
        obtain ⟨⟨s0, s1⟩, _, hr, _, _, _, ⟨d0, d1⟩, ⟨a0, a1⟩, _, ⟨k0, k1⟩⟩ := presB_of hp
        have hr0 := weight_pos hr
        have hr1 := (weight_in rk).2
        have a2 : ca ≤ 3125 := by omega
        obtain ⟨hok, n0, n1, _, _, _⟩ := share_in v0 v1 hr0 hr1 a0 a1
        cases hq : presB (putOn (st, be, rk, my, gu, lo, hi, hd, ca, ut, wk) work)
        · rw [chargedV_in hp hw hq] at h
          obtain ⟨rfl, rfl⟩ := Prod.mk.inj h
          exact charged_of w fun R W hR => by rw [hw]; exact changed_c_over rfl hok rfl rfl n0 n1 d0 d1 k0 k1 v0 v1 hR hg hp ((smithB_st (x := putOn (st, be, rk, my, gu, lo, hi, hd, ca, ut, wk) work) (show st ≠ 0 by omega)).trans hq)
        · rw [chargedV_in hp hw hq] at h
          obtain ⟨rfl, rfl⟩ := Prod.mk.inj h
          exact charged_of w fun R W hR => by rw [hw]; exact changed_c_yes rfl hok rfl rfl n0 n1 d0 d1 k0 k1 v0 v1 hR hg hp ((smithB_st (x := putOn (st, be, rk, my, gu, lo, hi, hd, ca, ut, wk) work) (show st ≠ 0 by omega)).trans hq)
  · rw [chargedV_gone work hg] at h
    obtain ⟨rfl, rfl⟩ := Prod.mk.inj h
    cases goneB_of hg
    exact charged_of w fun R W hR => changed_gone _ _ _
set_option maxHeartbeats 1000000 in
theorem implReranked_w {x y : SmithV} {rank : Int} {q : Bool} (h : rerankedV x rank = (y, q)) (w : World) : Calls Try.prog 11 #[.agg (encSmith x).toArray, .int .i64 rank] w fun e w' => e = .returned (.tuple #[.agg (encSmith y).toArray, .bool q]) ∧ Below w.heap.size w w' := by
  obtain ⟨st, be, rk, my, gu, lo, hi, hd, ca, ut, wk⟩ := x
  have hz := weight_zero rank
  cases hg : goneB (st, be, rk, my, gu, lo, hi, hd, ca, ut, wk)
  · cases hp : presB (st, be, rk, my, gu, lo, hi, hd, ca, ut, wk)
    · rw [rerankedV_wrong rank hg hp] at h
      obtain ⟨rfl, rfl⟩ := Prod.mk.inj h
      exact reranked_of w rfl fun R R' W hR hS => changed_wrong hg hp _ _ _
    · cases hw : inB rank (-5) 5
      · rw [rerankedV_no hp hw] at h
        obtain ⟨rfl, rfl⟩ := Prod.mk.inj h
        exact reranked_of w rfl fun R R' W hR hS => by rw [hz, hw]; exact changed_no hg hp _ _
      · rw [rerankedV_yes hp hw] at h
        obtain ⟨rfl, rfl⟩ := Prod.mk.inj h
        obtain ⟨⟨s0, s1⟩, _, hr, _, _, _, ⟨d0, d1⟩, ⟨a0, a1⟩, _, ⟨k0, k1⟩⟩ := presB_of hp
        have hr0 := weight_pos hr
        have hr1 := (weight_in rk).2
        have a2 : ca ≤ 3125 := by omega
        have x0 := weight_pos hw
        have x1 := (weight_in rank).2
        have hs : smithB (reRank (st, be, rk, my, gu, lo, hi, hd, ca, ut, wk) rank) = true := smithB_pres (presB_reRank hp hw)
        exact reranked_of w rfl fun R R' W hR hS => by rw [hz, hw]; exact changed_r_yes x0 x1 a0 a2 hR hS hg hp hs
  · rw [rerankedV_gone rank hg] at h
    obtain ⟨rfl, rfl⟩ := Prod.mk.inj h
    cases goneB_of hg
    exact reranked_of w rfl fun R R' W hR hS => changed_gone _ _ _
set_option maxHeartbeats 1000000 in
theorem specCharged_w {x y : SmithV} {work : Int} {q : Bool} (h : chargedV x work = (y, q)) (w : World) : Calls Try.prog 12 #[.agg (encSmith x).toArray, .int .i64 work] w fun e w' => e = .returned (.tuple #[.agg (encSmith y).toArray, .bool q]) ∧ Below w.heap.size w w' := by
  obtain ⟨st, be, rk, my, gu, lo, hi, hd, ca, ut, wk⟩ := x
  cases hg : goneB (st, be, rk, my, gu, lo, hi, hd, ca, ut, wk)
  · cases hp : presB (st, be, rk, my, gu, lo, hi, hd, ca, ut, wk)
    · rw [chargedV_wrong work hg hp] at h
      obtain ⟨rfl, rfl⟩ := Prod.mk.inj h
      exact specC_wrong work w (by unfold smithB; rw [hg, hp]; rfl)
    · cases hw : inB work 0 100000
      · rw [chargedV_no hp hw] at h
        obtain ⟨rfl, rfl⟩ := Prod.mk.inj h
        exact specC_no work w (smithB_pres hp) (st_ne (presB_of hp).1.1) hw
      · obtain ⟨v0, v1⟩ := inB_of hw
        obtain ⟨⟨s0, s1⟩, _, hr, _, _, _, ⟨d0, d1⟩, ⟨a0, a1⟩, _, ⟨k0, k1⟩⟩ := presB_of hp
        have hr0 := weight_pos hr
        have hr1 := (weight_in rk).2
        have a2 : ca ≤ 3125 := by omega
        obtain ⟨hok, n0, n1, _, _, _⟩ := share_in v0 v1 hr0 hr1 a0 a1
        cases hq : presB (putOn (st, be, rk, my, gu, lo, hi, hd, ca, ut, wk) work)
        · rw [chargedV_in hp hw hq] at h
          obtain ⟨rfl, rfl⟩ := Prod.mk.inj h
          exact specC_over rfl hok rfl rfl n0 n1 d0 d1 k0 k1 v0 v1 (smithB_pres hp) (st_ne s0) ((smithB_st (x := putOn (st, be, rk, my, gu, lo, hi, hd, ca, ut, wk) work) (show st ≠ 0 by omega)).trans hq)
        · rw [chargedV_in hp hw hq] at h
          obtain ⟨rfl, rfl⟩ := Prod.mk.inj h
          exact specC_yes rfl hok rfl rfl n0 n1 d0 d1 k0 k1 v0 v1 (smithB_pres hp) (st_ne s0) ((smithB_st (x := putOn (st, be, rk, my, gu, lo, hi, hd, ca, ut, wk) work) (show st ≠ 0 by omega)).trans hq)
  · rw [chargedV_gone work hg] at h
    obtain ⟨rfl, rfl⟩ := Prod.mk.inj h
    cases goneB_of hg
    exact specC_gone work w
set_option maxHeartbeats 1000000 in
theorem specReranked_w {x y : SmithV} {rank : Int} {q : Bool} (h : rerankedV x rank = (y, q)) (w : World) : Calls Try.prog 15 #[.agg (encSmith x).toArray, .int .i64 rank] w fun e w' => e = .returned (.tuple #[.agg (encSmith y).toArray, .bool q]) ∧ Below w.heap.size w w' := by
  obtain ⟨st, be, rk, my, gu, lo, hi, hd, ca, ut, wk⟩ := x
  have hz := weight_zero rank
  cases hg : goneB (st, be, rk, my, gu, lo, hi, hd, ca, ut, wk)
  · cases hp : presB (st, be, rk, my, gu, lo, hi, hd, ca, ut, wk)
    · rw [rerankedV_wrong rank hg hp] at h
      obtain ⟨rfl, rfl⟩ := Prod.mk.inj h
      exact specR_wrong rank w (by unfold smithB; rw [hg, hp]; rfl)
    · cases hw : inB rank (-5) 5
      · rw [rerankedV_no hp hw] at h
        obtain ⟨rfl, rfl⟩ := Prod.mk.inj h
        exact specR_no rank w (smithB_pres hp) (st_ne (presB_of hp).1.1) hw
      · rw [rerankedV_yes hp hw] at h
        obtain ⟨rfl, rfl⟩ := Prod.mk.inj h
        obtain ⟨⟨s0, s1⟩, _, hr, _, _, _, ⟨d0, d1⟩, ⟨a0, a1⟩, _, ⟨k0, k1⟩⟩ := presB_of hp
        have hr0 := weight_pos hr
        have hr1 := (weight_in rk).2
        have a2 : ca ≤ 3125 := by omega
        have x0 := weight_pos hw
        have x1 := (weight_in rank).2
        have hs : smithB (reRank (st, be, rk, my, gu, lo, hi, hd, ca, ut, wk) rank) = true := smithB_pres (presB_reRank hp hw)
        exact specR_yes rfl x0 x1 a0 a2 (smithB_pres hp) (st_ne s0) hw
  · rw [rerankedV_gone rank hg] at h
    obtain ⟨rfl, rfl⟩ := Prod.mk.inj h
    cases goneB_of hg
    exact specR_gone rank w

set_option maxRecDepth 100000 in
set_option maxHeartbeats 2000000 in
theorem walkFnExactCharged (x : SmithV) (work : Int) (w : World) :
    Calls Try.prog 5 #[.agg (encSmith x).toArray, .int .i64 work] w fun e w' => e = .returned (.bool true) ∧ Below w.heap.size w w' := by
  obtain ⟨y, q, hy⟩ : ∃ y q, chargedV x work = (y, q) := ⟨_, _, rfl⟩
  have hs := specCharged_w hy
  have hi := implCharged_w hy
  clear hy
  obtain ⟨st, be, rk, my, gu, lo, hi', hd, ca, ut, wk⟩ := x
  obtain ⟨y0, y1, y2, y3, y4, y5, y6, y7, y8, y9, y10⟩ := y
  have Hs : Hid (∀ w : World, Calls Try.prog 12 #[.agg #[.int .i64 st, .int .i64 be, .int .i64 rk, .int .i64 my, .int .i64 gu, .int .i64 lo, .int .i64 hi', .int .i64 hd, .int .i64 ca, .int .i64 ut, .int .i64 wk], .int .i64 work] w fun e w' => e = .returned (.tuple #[.agg #[.int .i64 y0, .int .i64 y1, .int .i64 y2, .int .i64 y3, .int .i64 y4, .int .i64 y5, .int .i64 y6, .int .i64 y7, .int .i64 y8, .int .i64 y9, .int .i64 y10], .bool q]) ∧ Below w.heap.size w w') := hide hs
  have Hi : Hid (∀ w : World, Calls Try.prog 9 #[.agg #[.int .i64 st, .int .i64 be, .int .i64 rk, .int .i64 my, .int .i64 gu, .int .i64 lo, .int .i64 hi', .int .i64 hd, .int .i64 ca, .int .i64 ut, .int .i64 wk], .int .i64 work] w fun e w' => e = .returned (.tuple #[.agg #[.int .i64 y0, .int .i64 y1, .int .i64 y2, .int .i64 y3, .int .i64 y4, .int .i64 y5, .int .i64 y6, .int .i64 y7, .int .i64 y8, .int .i64 y9, .int .i64 y10], .bool q]) ∧ Below w.heap.size w w') := hide hi
  clear hs hi
  show Calls Try.prog 5 #[.agg #[.int .i64 st, .int .i64 be, .int .i64 rk, .int .i64 my, .int .i64 gu, .int .i64 lo, .int .i64 hi', .int .i64 hd, .int .i64 ca, .int .i64 ut, .int .i64 wk], .int .i64 work] w _
  go_enter Try.func5, Try.ntmps5
  go_wp2_with fail
  refine (toSmith_any st be rk my gu lo hi' hd ca ut wk _).mono ?_
  rintro e w1 ⟨rfl, hb⟩
  have ka : Hid (Blk w1 w.heap.size 32 #[.int .i64 st, .int .i64 be, .int .i64 rk, .int .i64 my, .int .i64 gu, .int .i64 lo, .int .i64 hi', .int .i64 hd, .int .i64 ca, .int .i64 ut, .int .i64 wk]) := hide ((Blk.new w _ _).below hb (by simp))
  have B1 := hide (((Below.refl w.heap.size w).alloc (Nat.le_refl _) _).trans (hb.mono (by simp)))
  clear hb
  go_wp2_with fail
  refine (unhide Hs _).mono ?_
  rintro e w2 ⟨rfl, hb⟩
  have ka2 := (unhide ka).below hb (unhide ka).lt
  have B2 := hide ((unhide B1).trans (hb.mono (unhide B1).size))
  have hl2 : w.heap.size < w2.heap.size := ka2.lt
  have c0 := ka2.cell (i := 0) (v := .int .i64 st) rfl
  have c1 := ka2.cell (i := 1) (v := .int .i64 be) rfl
  have c2 := ka2.cell (i := 2) (v := .int .i64 rk) rfl
  have c3 := ka2.cell (i := 3) (v := .int .i64 my) rfl
  have c4 := ka2.cell (i := 4) (v := .int .i64 gu) rfl
  have c5 := ka2.cell (i := 5) (v := .int .i64 lo) rfl
  have c6 := ka2.cell (i := 6) (v := .int .i64 hi') rfl
  have c7 := ka2.cell (i := 7) (v := .int .i64 hd) rfl
  have c8 := ka2.cell (i := 8) (v := .int .i64 ca) rfl
  have c9 := ka2.cell (i := 9) (v := .int .i64 ut) rfl
  have c10 := ka2.cell (i := 10) (v := .int .i64 wk) rfl
  have Ka2 := hide ka2
  clear hb ka B1 ka2
  go_wp2_with fail
  refine (toSmith_any st be rk my gu lo hi' hd ca ut wk _).mono ?_
  rintro e w3 ⟨rfl, hb⟩
  have k3 : Hid (Blk w3 w2.heap.size 25 #[.int .i64 y0, .int .i64 y1, .int .i64 y2, .int .i64 y3, .int .i64 y4, .int .i64 y5, .int .i64 y6, .int .i64 y7, .int .i64 y8, .int .i64 y9, .int .i64 y10]) := hide ((Blk.new w2 _ _).below hb (by simp))
  have B3 := hide (((unhide B2).alloc (by omega) (.cells #[.int .i64 y0, .int .i64 y1, .int .i64 y2, .int .i64 y3, .int .i64 y4, .int .i64 y5, .int .i64 y6, .int .i64 y7, .int .i64 y8, .int .i64 y9, .int .i64 y10] 25)).trans (hb.mono (by simp; omega)))
  clear hb B2 c0 c1 c2 c3 c4 c5 c6 c7 c8 c9 c10
  go_wp2_with fail
  refine (unhide Hi _).mono ?_
  rintro e w4 ⟨rfl, hb⟩
  have k4 := (unhide k3).below hb (unhide k3).lt
  have hl4 : w2.heap.size < w4.heap.size := k4.lt
  have B4 := hide ((unhide B3).trans (hb.mono (unhide B3).size))
  have d0 := k4.cell (i := 0) (v := .int .i64 y0) rfl
  have d1 := k4.cell (i := 1) (v := .int .i64 y1) rfl
  have d2 := k4.cell (i := 2) (v := .int .i64 y2) rfl
  have d3 := k4.cell (i := 3) (v := .int .i64 y3) rfl
  have d4 := k4.cell (i := 4) (v := .int .i64 y4) rfl
  have d5 := k4.cell (i := 5) (v := .int .i64 y5) rfl
  have d6 := k4.cell (i := 6) (v := .int .i64 y6) rfl
  have d7 := k4.cell (i := 7) (v := .int .i64 y7) rfl
  have d8 := k4.cell (i := 8) (v := .int .i64 y8) rfl
  have d9 := k4.cell (i := 9) (v := .int .i64 y9) rfl
  have d10 := k4.cell (i := 10) (v := .int .i64 y10) rfl
  clear hb k3 B3 k4
  go_wp2_with fail
  refine (eqSmith_yes y0 y1 y2 y3 y4 y5 y6 y7 y8 y9 y10 _).mono ?_
  rintro e w5 ⟨rfl, hb⟩
  have hs4 := (unhide B4).size
  have B5 := hide (((unhide B4).alloc (by omega) (.cells #[.int .i64 y0, .int .i64 y1, .int .i64 y2, .int .i64 y3, .int .i64 y4, .int .i64 y5, .int .i64 y6, .int .i64 y7, .int .i64 y8, .int .i64 y9, .int .i64 y10] 25)).trans (hb.mono (by simp; omega)))
  clear hb B4
  cases q
  all_goals
    go_wp2_with fail
    go_ret
    exact ⟨rfl, unhide B5⟩

set_option maxRecDepth 100000 in
set_option maxHeartbeats 2000000 in
theorem walkFnExactReranked (x : SmithV) (rank : Int) (w : World) :
    Calls Try.prog 6 #[.agg (encSmith x).toArray, .int .i64 rank] w fun e w' => e = .returned (.bool true) ∧ Below w.heap.size w w' := by
  obtain ⟨y, q, hy⟩ : ∃ y q, rerankedV x rank = (y, q) := ⟨_, _, rfl⟩
  have hs := specReranked_w hy
  have hi := implReranked_w hy
  clear hy
  obtain ⟨st, be, rk, my, gu, lo, hi', hd, ca, ut, wk⟩ := x
  obtain ⟨y0, y1, y2, y3, y4, y5, y6, y7, y8, y9, y10⟩ := y
  have Hs : Hid (∀ w : World, Calls Try.prog 15 #[.agg #[.int .i64 st, .int .i64 be, .int .i64 rk, .int .i64 my, .int .i64 gu, .int .i64 lo, .int .i64 hi', .int .i64 hd, .int .i64 ca, .int .i64 ut, .int .i64 wk], .int .i64 rank] w fun e w' => e = .returned (.tuple #[.agg #[.int .i64 y0, .int .i64 y1, .int .i64 y2, .int .i64 y3, .int .i64 y4, .int .i64 y5, .int .i64 y6, .int .i64 y7, .int .i64 y8, .int .i64 y9, .int .i64 y10], .bool q]) ∧ Below w.heap.size w w') := hide hs
  have Hi : Hid (∀ w : World, Calls Try.prog 11 #[.agg #[.int .i64 st, .int .i64 be, .int .i64 rk, .int .i64 my, .int .i64 gu, .int .i64 lo, .int .i64 hi', .int .i64 hd, .int .i64 ca, .int .i64 ut, .int .i64 wk], .int .i64 rank] w fun e w' => e = .returned (.tuple #[.agg #[.int .i64 y0, .int .i64 y1, .int .i64 y2, .int .i64 y3, .int .i64 y4, .int .i64 y5, .int .i64 y6, .int .i64 y7, .int .i64 y8, .int .i64 y9, .int .i64 y10], .bool q]) ∧ Below w.heap.size w w') := hide hi
  clear hs hi
  show Calls Try.prog 6 #[.agg #[.int .i64 st, .int .i64 be, .int .i64 rk, .int .i64 my, .int .i64 gu, .int .i64 lo, .int .i64 hi', .int .i64 hd, .int .i64 ca, .int .i64 ut, .int .i64 wk], .int .i64 rank] w _
  go_enter Try.func6, Try.ntmps6
  go_wp2_with fail
  refine (toSmith_any st be rk my gu lo hi' hd ca ut wk _).mono ?_
  rintro e w1 ⟨rfl, hb⟩
  have ka : Hid (Blk w1 w.heap.size 32 #[.int .i64 st, .int .i64 be, .int .i64 rk, .int .i64 my, .int .i64 gu, .int .i64 lo, .int .i64 hi', .int .i64 hd, .int .i64 ca, .int .i64 ut, .int .i64 wk]) := hide ((Blk.new w _ _).below hb (by simp))
  have B1 := hide (((Below.refl w.heap.size w).alloc (Nat.le_refl _) _).trans (hb.mono (by simp)))
  clear hb
  go_wp2_with fail
  refine (unhide Hs _).mono ?_
  rintro e w2 ⟨rfl, hb⟩
  have ka2 := (unhide ka).below hb (unhide ka).lt
  have B2 := hide ((unhide B1).trans (hb.mono (unhide B1).size))
  have hl2 : w.heap.size < w2.heap.size := ka2.lt
  have c0 := ka2.cell (i := 0) (v := .int .i64 st) rfl
  have c1 := ka2.cell (i := 1) (v := .int .i64 be) rfl
  have c2 := ka2.cell (i := 2) (v := .int .i64 rk) rfl
  have c3 := ka2.cell (i := 3) (v := .int .i64 my) rfl
  have c4 := ka2.cell (i := 4) (v := .int .i64 gu) rfl
  have c5 := ka2.cell (i := 5) (v := .int .i64 lo) rfl
  have c6 := ka2.cell (i := 6) (v := .int .i64 hi') rfl
  have c7 := ka2.cell (i := 7) (v := .int .i64 hd) rfl
  have c8 := ka2.cell (i := 8) (v := .int .i64 ca) rfl
  have c9 := ka2.cell (i := 9) (v := .int .i64 ut) rfl
  have c10 := ka2.cell (i := 10) (v := .int .i64 wk) rfl
  have Ka2 := hide ka2
  clear hb ka B1 ka2
  go_wp2_with fail
  refine (toSmith_any st be rk my gu lo hi' hd ca ut wk _).mono ?_
  rintro e w3 ⟨rfl, hb⟩
  have k3 : Hid (Blk w3 w2.heap.size 25 #[.int .i64 y0, .int .i64 y1, .int .i64 y2, .int .i64 y3, .int .i64 y4, .int .i64 y5, .int .i64 y6, .int .i64 y7, .int .i64 y8, .int .i64 y9, .int .i64 y10]) := hide ((Blk.new w2 _ _).below hb (by simp))
  have B3 := hide (((unhide B2).alloc (by omega) (.cells #[.int .i64 y0, .int .i64 y1, .int .i64 y2, .int .i64 y3, .int .i64 y4, .int .i64 y5, .int .i64 y6, .int .i64 y7, .int .i64 y8, .int .i64 y9, .int .i64 y10] 25)).trans (hb.mono (by simp; omega)))
  clear hb B2 c0 c1 c2 c3 c4 c5 c6 c7 c8 c9 c10
  go_wp2_with fail
  refine (unhide Hi _).mono ?_
  rintro e w4 ⟨rfl, hb⟩
  have k4 := (unhide k3).below hb (unhide k3).lt
  have hl4 : w2.heap.size < w4.heap.size := k4.lt
  have B4 := hide ((unhide B3).trans (hb.mono (unhide B3).size))
  have d0 := k4.cell (i := 0) (v := .int .i64 y0) rfl
  have d1 := k4.cell (i := 1) (v := .int .i64 y1) rfl
  have d2 := k4.cell (i := 2) (v := .int .i64 y2) rfl
  have d3 := k4.cell (i := 3) (v := .int .i64 y3) rfl
  have d4 := k4.cell (i := 4) (v := .int .i64 y4) rfl
  have d5 := k4.cell (i := 5) (v := .int .i64 y5) rfl
  have d6 := k4.cell (i := 6) (v := .int .i64 y6) rfl
  have d7 := k4.cell (i := 7) (v := .int .i64 y7) rfl
  have d8 := k4.cell (i := 8) (v := .int .i64 y8) rfl
  have d9 := k4.cell (i := 9) (v := .int .i64 y9) rfl
  have d10 := k4.cell (i := 10) (v := .int .i64 y10) rfl
  clear hb k3 B3 k4
  go_wp2_with fail
  refine (eqSmith_yes y0 y1 y2 y3 y4 y5 y6 y7 y8 y9 y10 _).mono ?_
  rintro e w5 ⟨rfl, hb⟩
  have hs4 := (unhide B4).size
  have B5 := hide (((unhide B4).alloc (by omega) (.cells #[.int .i64 y0, .int .i64 y1, .int .i64 y2, .int .i64 y3, .int .i64 y4, .int .i64 y5, .int .i64 y6, .int .i64 y7, .int .i64 y8, .int .i64 y9, .int .i64 y10] 25)).trans (hb.mono (by simp; omega)))
  clear hb B4
  cases q
  all_goals
    go_wp2_with fail
    go_ret
    exact ⟨rfl, unhide B5⟩

end Go.Proofs.Ytkagjopogihnbaa
