/- What the proof rests on, part 15: lists and numbers, how they lie in memory, and contracts of the calls. No condition but those that a theorem names. -/
import Derived.Test.YtmhagllddhjgmaaGreatXw01
import Derived.Test.YtmhagllddhjgmaaGreatXw02
import Derived.Test.YtmhagllddhjgmaaGreatXw03
import Derived.Test.YtmhagllddhjgmaaGreatXw12
import Derived.Test.YtmhagllddhjgmaaGreatXw13
import Derived.Test.YtmhagllddhjgmaaGreatXw14
import Derived.Deep.DeepMust
import Derived.WalkKit
import Derived.ProofKit
import Derived.OpenShut
import Derived.Outline
import Derived.Deep.QuietTactic
import Derived.BigQuiet
import Derived.Laws.OwnMore
import Derived.OwnWalk
import Derived.Maps.AppendAt
import Derived.Lib.QuietBelow
import Derived.Lib.ItoaNum
import Derived.Lib.ItoaLen
import Derived.Lib.AtoiTie
import Derived.Lib.ParseIntBTie
import Derived.Lib.SplitLaws
import Derived.Lib.Join
/- Contract of the model's reading of a hall (ReadHall): it answers what the text says, in memory of its own. Condition: the text is no longer than 2^20. -/
namespace Go.Proofs.YtmhagllddhjgmaaGreat
open Go.ChangeShapes Go.WideShapes Go.ChangeAt Go.RowKit Go.Sort
open Go.Lib (digitVal decFrom)
set_option linter.unusedVariables false

/-- What ReadHall hands back. -/
def GotHall (l : Txt) (n₀ : Nat) (e : Ending) (w' : World) : Prop :=
  (∃ v qs, e = .returned (.tuple #[.agg #[v], .bool true]) ∧ readHall l = some (qs.map (·.1)) ∧ OwnHall n₀ w' v qs) ∨ (e = .returned (.tuple #[.agg #[.slice none 0 0], .bool false]) ∧ readHall l = none)

set_option maxRecDepth 100000 in
set_option maxHeartbeats 8000000 in
theorem specReadHall_any (l : Txt) (w : World) (hl : l.length ≤ 1048576) :
    Calls Tryz.prog 169 #[.string (bs l)] w fun e w' => GotHall l w.heap.size e w' ∧ Below w.heap.size w w' := by
  obtain ⟨i1, hi1, hp0, hp1, hp2⟩ := info_parts infoPace2
  obtain ⟨i2, hi2, hr0, hr1, hr2⟩ := info_parts infoRoom2
  go_enter Tryz.func169, Tryz.ntmps169
  go_wp2_with fail
  refine (l1Split_any (bs l) 47 _ (bs_le hl)).mono ?_
  rw [bs_data]
  rintro e w2 ⟨rv, rfl, hst, hb⟩
  have hsz : w.heap.size + 2 ≤ w2.heap.size := by have := hb.size; simp at this; omega
  obtain ⟨cc, ff⟩ := bcell hb
  have x0 := cc w.heap.size 0 (by simp; omega)
  have x1 := cc (w.heap.size + 1) 0 (by simp)
  have f0 := ff w.heap.size 0 (by simp; omega)
  have f1 := ff (w.heap.size + 1) 0 (by simp)
  simp at x0 x1
  have g0 : w2.frozen? ⟨w.heap.size, 0, none⟩ = false := by rw [f0, frozen?_alloc_cells, frozen?_alloc_cells]; exact frozen_far (Nat.le_refl _)
  have g1 : w2.frozen? ⟨w.heap.size + 1, 0, none⟩ = false := by rw [f1, frozen?_alloc_cells, frozen?_alloc_cells]; exact frozen_far (by omega)
  have B2 : Hid (Below w.heap.size w w2) := hide ((((Below.refl _ _).alloc (Nat.le_refl _) _).alloc (by simp) _).trans (hb.mono (by simp; omega)))
  have hpl := splitFrom_len 47 l []
  have Hsm : Hid (∀ p ∈ splitL 47 l, p.length ≤ 1048576) := hide (fun p hp => size_of_mem hp hl)
  obtain ⟨ra, rcap, rfl, hrc, hrm, hrr⟩ := hst.view
  rcases hrr with h0 | ⟨g, rfl, hg1, hg2, hcl⟩
  · exact absurd h0 (splitL_ne _ _)
  have hg1' : w.heap.size + 2 ≤ g := by simp at hg1; omega
  have Hcl := hide hcl
  have hpl' : (splitL 47 l).length ≤ 1048577 := by unfold splitL; omega
  clear hst hb cc ff hcl hg1 f0 f1 hpl
  have HN : Hid (readHall l = ((splitL 47 l).mapM readRoom).bind fun rs => if hallB rs = true then some rs else none) := hide rfl
  have Hnone : Hid ((splitL 47 l).mapM readRoom = none → readHall l = none) := hide readHall_none
  have Hsome : Hid (∀ rs, (splitL 47 l).mapM readRoom = some rs → hallB rs = true → readHall l = some rs) := hide (fun rs => readHall_some)
  have Hbad : Hid (∀ rs, (splitL 47 l).mapM readRoom = some rs → hallB rs = false → readHall l = none) := hide (fun rs => readHall_bad)
  generalize splitL 47 l = pc at *
  go_wp2_with fail
  go_loopw [6] (fun i wr => ∃ (k : Nat) (v : Value) (qs : List (RoomV × Value)), k ≤ pc.length ∧ i = .int .i64 k ∧ wr.cell? ⟨w.heap.size + 1, 0, none⟩ = some v ∧ wr.frozen? ⟨w.heap.size + 1, 0, none⟩ = false ∧ OwnHall w2.heap.size wr v qs ∧ qs.length = k ∧ (pc.take k).mapM readRoom = some (qs.map (·.1)) ∧ But (w.heap.size + 1) w2 wr) (fun i _ => pc.length - (intOf i).toNat)
  case atStart => exact ⟨0, _, [], Nat.zero_le _, rfl, x1, g1, OwnHall.nil _ _, rfl, rfl, But.refl _ _⟩
  case round =>
    obtain ⟨wo, rfl⟩ : ∃ wo, wo = wr := ⟨wr, rfl⟩
    obtain ⟨k, v, qs, hk, rfl, hv, hfv, hoh, hql, hmap, hbut⟩ := hrel
    have Hoh := hide hoh
    have Hmap := hide hmap
    have Hbut := hide hbut
    have hz2 := hbut.size
    have Hql := hide hql
    have Hv := hide hv
    have Hfv := hide hfv
    have y0 : wo.cell? ⟨w.heap.size, 0, none⟩ = some (.slice none 0 0) := (hbut.cell (p := ⟨w.heap.size, 0, none⟩) (by show w.heap.size < _; omega) (by show w.heap.size ≠ _; omega)).trans x0
    have Hy0 := hide y0
    obtain ⟨va, vcap, rfl⟩ := hoh.shape
    by_cases hlt : k < pc.length
    · have hck := (hbut.cell (p := ⟨g, k, none⟩) hg2 (by show g ≠ _; omega)).trans (unhide Hcl k hlt)
      have hget : pc.getD k [] = pc[k] := by simp [List.getD, hlt]
      rw [hget] at hck
      have hpk := unhide Hsm pc[k] (List.getElem_mem hlt)
      have HX : Hid (readRoom pc[k] = none → pc.mapM readRoom = none) := hide (fun h => mapM_none hlt h)
      have HY : Hid (∀ y, readRoom pc[k] = some y → (pc.take (k + 1)).mapM readRoom = some (qs.map (·.1) ++ [y])) := hide (fun y h => mapM_snoc hlt (unhide Hmap) h)
      generalize pc[k] = pk at *
      clear hoh hmap hbut hql y0 hget
      go_wp2_with fail
      refine (l1Split_any (bs pk) 32 _ (bs_le hpk)).mono ?_
      rw [bs_data]
      rintro e w3 ⟨wv, rfl, hst3, hb3⟩
      have hz3 := hb3.size
      have Hb3 := hide hb3
      have hwl := splitFrom_len 32 pk []
      obtain ⟨wd, ws, hww⟩ : ∃ wd ws, splitL 32 pk = wd :: ws := by
        cases hx : splitL 32 pk with
        | nil => exact absurd hx (splitL_ne _ _)
        | cons a b => exact ⟨a, b, rfl⟩
      have Hsm2 : Hid (∀ p ∈ wd :: ws, p.length ≤ 1048576) := hide (fun p hp => size_of_mem (c := 32) (by rw [hww]; exact hp) hpk)
      have hwl' : ws.length ≤ 1048576 := by have h9 := hwl.2; unfold splitL at hww; rw [hww] at h9; simp at h9; omega
      have HRR := hide (readRoom_eq hww)
      rw [hww] at hst3
      obtain ⟨wa, wcap, rfl, hwc, hwm, hwr⟩ := hst3.view
      rcases hwr with h0 | ⟨g3, rfl, hg31, hg32, hcl3⟩
      · cases h0
      have Hcl3 := hide hcl3
      have hc30 := hcl3 0 (by simp)
      simp only [List.getD_cons_zero] at hc30
      have hlen3 : (wd :: ws).length = ws.length + 1 := rfl
      have hwdl := unhide Hsm2 wd (by simp)
      clear hst3 hcl3 hb3 hwl hww hpk
      rw [hlen3] at *
      go_wp2_with fail
      refine (l1Read_any (bs wd) _ (by have := bs_le hwdl; omega)).mono ?_
      rw [bs_data]
      rintro e w' ⟨rfl, hw'⟩
      subst w'
      unfold readV
      have hnb := readN_bd (l := wd)
      have HisT : Hid ((readN wd).isSome = true → readN wd = some ((readN wd).getD 0)) := hide (fun h => by cases hx : readN wd with | none => rw [hx] at h; cases h | some y => rfl)
      have HisF : Hid ((readN wd).isSome = false → readRoom pk = none) := hide (fun h => by rw [unhide HRR]; cases hx : readN wd with | none => rfl | some y => rw [hx] at h; cases h)
      generalize (readN wd).getD 0 = n at *
      generalize hib : (readN wd).isSome = ib at *
      have Hib := hide hib
      clear hib
      go_wp2_with fail
      have hRB : (w3.alloc (.cells #[.int .i64 n, .slice none 0 0] 95)).frozen? ⟨w3.heap.size, 1, none⟩ = false := by rw [frozen?_alloc_cells]; exact frozen_far (Nat.le_refl _)
      go_loopw [9, 11] (fun q i wi => ∃ (m : Nat) (b : Bool) (pv : Value) (ps : List PaceV), m ≤ ws.length ∧ i = .int .i64 (m + 1) ∧ q = .bool b ∧ wi.cell? ⟨w3.heap.size, 0, none⟩ = some (.int .i64 n) ∧ wi.cell? ⟨w3.heap.size, 1, none⟩ = some pv ∧ wi.frozen? ⟨w3.heap.size, 1, none⟩ = false ∧ PacesAt (w3.heap.size + 1) wi pv ps ∧ ps.length = m ∧ Below w3.heap.size w3 wi ∧ w3.heap.size + 1 ≤ wi.heap.size ∧ (b = true → ib = true ∧ (ws.take m).mapM readPace = some ps) ∧ (b = false → readRoom pk = none)) (fun _ i _ => ws.length + 1 - (intOf i).toNat)
      case atStart => exact ⟨0, ib, _, [], Nat.zero_le _, rfl, rfl, by simp, by simp, hRB, World.ownsRow_nil _ _ _ _, rfl, (Below.refl _ _).alloc (Nat.le_refl _) _, by simp, fun h => ⟨h, rfl⟩, fun h => unhide HisF h⟩
      case round =>
        obtain ⟨wi, rfl⟩ : ∃ wi, wi = wr := ⟨wr, rfl⟩
        obtain ⟨m, b, pv, ps, hm1, rfl, rfl, z0, z1, z2, hpa, hpl1, hbi, hzi, hbt, hbf⟩ := hrel
        have Hpa := hide hpa
        have Hpl1 := hide hpl1
        have Hbi := hide hbi
        have Hbt := hide hbt
        have Hbf := hide hbf
        have Hz1 := hide z1
        have Hz0 := hide z0
        have Hz2 := hide z2
        obtain ⟨pva, pvcap, rfl⟩ := hpa.shape
        by_cases hlt2 : m < ws.length
        · have hck2 := (hbi.cell (p := ⟨g3, m + 1, none⟩) hg32).trans (unhide Hcl3 (m + 1) (by first | omega | (simp; omega)))
          have hget2 : (wd :: ws).getD (m + 1) [] = ws[m] := by simp [List.getD, hlt2]
          rw [hget2] at hck2
          have hpm := unhide Hsm2 ws[m] (List.mem_cons_of_mem _ (List.getElem_mem hlt2))
          have HXm : Hid (readPace ws[m] = none → readRoom pk = none) := hide (fun h => by rw [unhide HRR, mapM_none hlt2 h]; cases readN wd <;> rfl)
          have HYm : Hid (∀ y, readPace ws[m] = some y → (ws.take m).mapM readPace = some ps → (ws.take (m + 1)).mapM readPace = some (ps ++ [y])) := hide (fun y h h' => mapM_snoc hlt2 h' h)
          generalize ws[m] = pm at *
          clear hpa hpl1 hbi hbt hbf hget2
          go_wp2_with fail
          refine (l4Pace_any pm _ hpm).mono ?_
          rintro e w5 ⟨f, kk, fb, rfl, hft, hff, hb5⟩
          have hz5 := hb5.size
          have Hft := hide hft
          have Hff := hide hff
          have Hb5 := hide hb5
          have c50 := (hb5.cell (p := ⟨w3.heap.size, 0, none⟩) (by show w3.heap.size < _; omega)).trans (unhide Hz0)
          have c51 := (hb5.cell (p := ⟨w3.heap.size, 1, none⟩) (by show w3.heap.size < _; omega)).trans (unhide Hz1)
          have c52 := (hb5.frozen (p := ⟨w3.heap.size, 1, none⟩) (by show w3.heap.size < _; omega)).trans (unhide Hz2)
          have Hp5 : Hid (PacesAt (w3.heap.size + 1) w5 (.slice pva ps.length pvcap) ps) := hide (own_same (unhide Hpa) (fun q e => hb5.block q ((unhide Hpa).lt e).2))
          clear hft hff hb5 z0 z1 z2
          have hne5 : w3.heap.size ≠ w5.heap.size := by omega
          have q51 : (w5.alloc (.cells #[.int .i64 f, .int .i64 kk] 138)).cell? ⟨w3.heap.size, 1, none⟩ = some (.slice pva ps.length pvcap) := by rw [World.cell?_alloc_old _ _ _ hne5]; exact c51
          have Hp6 : Hid (PacesAt (w3.heap.size + 1) (w5.alloc (.cells #[.int .i64 f, .int .i64 kk] 138)) (.slice pva ps.length pvcap) ps) := hide (own_same (unhide Hp5) (fun q e => Below.heap_alloc w5 _ q ((unhide Hp5).lt e).2))
          have q50 : (w5.alloc (.cells #[.int .i64 f, .int .i64 kk] 138)).cell? ⟨w3.heap.size, 0, none⟩ = some (.int .i64 n) := by rw [World.cell?_alloc_old _ _ _ hne5]; exact c50
          have q52 : (w5.alloc (.cells #[.int .i64 f, .int .i64 kk] 138)).frozen? ⟨w3.heap.size, 1, none⟩ = false := by rw [frozen?_alloc_cells]; exact c52
          have hpsm : ps.length ≤ 1048576 := by rw [unhide Hpl1]; omega
          have HB5 : Hid (Below w3.heap.size w3 (w5.alloc (.cells #[.int .i64 f, .int .i64 kk] 138))) := hide (((unhide Hbi).trans ((unhide Hb5).mono (by omega))).alloc (by omega) _)
          clear c50 c51 c52
          cases b
          · go_wp2_with (at_builtin; go_must (refine wpList_append_own_at _ rfl _ _ 93 rfl (w3.heap.size + 1) 138 i1 (.agg #[.int .i64 0, .int .i64 0]) 2 16 Tryz.underlying93 hi1 hp0 hp1 hp2 rfl (by decide) _ _ _ rfl (World.ownsRow.alloc (unhide Hp6) _) ⟨_, 0, none⟩ 1 1 [.int .i64 f, .int .i64 kk] rfl rfl (cell_two_at _ _ _ _ _ (by simp)) (by simp [Value.oneCell']) (by simp only [maxLen]; omega) (by omega) (by simp; omega) ?_); go_must (intro v' w6 hown' hgrow _ _); go_must (obtain ⟨a6, cap6, rfl, e1, e2, HE⟩ := rd_inner (unhide Hp6) (by simp; omega) hown' hgrow q50 q51 q52); clear hown' hgrow)
            go_roundw
            case rel => exact ⟨m + 1, false, _, ps ++ [(f, kk)], by omega, by go_num, rfl, (unhide HE).1, (unhide HE).2.1, (unhide HE).2.2.1, (unhide HE).2.2.2.1, by simp [unhide Hpl1], (unhide HB5).trans (unhide HE).2.2.2.2.1, (unhide HE).2.2.2.2.2, fun h => (by cases h), fun _ => unhide Hbf (by simp)⟩
            case measure => simp [intOf]; omega
          · go_wp2_with (at_builtin; go_must (refine wpList_append_own_at _ rfl _ _ 93 rfl (w3.heap.size + 1) 138 i1 (.agg #[.int .i64 0, .int .i64 0]) 2 16 Tryz.underlying93 hi1 hp0 hp1 hp2 rfl (by decide) _ _ _ rfl (World.ownsRow.alloc (unhide Hp6) _) ⟨_, 0, none⟩ 1 1 [.int .i64 f, .int .i64 kk] rfl rfl (cell_two_at _ _ _ _ _ (by simp)) (by simp [Value.oneCell']) (by simp only [maxLen]; omega) (by omega) (by simp; omega) ?_); go_must (intro v' w6 hown' hgrow _ _); go_must (obtain ⟨a6, cap6, rfl, e1, e2, HE⟩ := rd_inner (unhide Hp6) (by simp; omega) hown' hgrow q50 q51 q52); clear hown' hgrow)
            go_roundw
            case rel => exact ⟨m + 1, fb, _, ps ++ [(f, kk)], by omega, by go_num, rfl, (unhide HE).1, (unhide HE).2.1, (unhide HE).2.2.1, (unhide HE).2.2.2.1, by simp [unhide Hpl1], (unhide HB5).trans (unhide HE).2.2.2.2.1, (unhide HE).2.2.2.2.2, fun h => ⟨(unhide Hbt (by simp)).1, unhide HYm _ (unhide Hft h) (unhide Hbt (by simp)).2⟩, fun h => unhide HXm (unhide Hff h)⟩
            case measure => simp [intOf]; omega
        · obtain rfl : m = ws.length := by omega
          have HBi : Hid (Below wo.heap.size wo wi) := hide ((unhide Hb3).trans (hbi.mono hz3))
          have HbutI : Hid (But (w.heap.size + 1) w2 wi) := hide ((unhide Hbut).later (unhide HBi))
          have HB2 : Hid (Below (w.heap.size + 1) w2 wi) := hide ((unhide HbutI).below (Nat.le_refl _) (by omega))
          have d0 : wi.cell? ⟨w.heap.size, 0, none⟩ = some (.slice none 0 0) := ((unhide HB2).cell (p := ⟨w.heap.size, 0, none⟩) (by show w.heap.size < _; omega)).trans x0
          have df0 : wi.frozen? ⟨w.heap.size, 0, none⟩ = false := ((unhide HB2).frozen (p := ⟨w.heap.size, 0, none⟩) (by show w.heap.size < _; omega)).trans g0
          have d1 : wi.cell? ⟨w.heap.size + 1, 0, none⟩ = some (.slice va qs.length vcap) := ((unhide HBi).cell (p := ⟨w.heap.size + 1, 0, none⟩) (by show w.heap.size + 1 < _; omega)).trans (unhide Hv)
          have df1 : wi.frozen? ⟨w.heap.size + 1, 0, none⟩ = false := ((unhide HBi).frozen (p := ⟨w.heap.size + 1, 0, none⟩) (by show w.heap.size + 1 < _; omega)).trans (unhide Hfv)
          have HohI : Hid (OwnHall w2.heap.size wi (.slice va qs.length vcap) qs) := hide ((unhide Hoh).later (unhide HBi))
          have hzwi := (unhide HBi).size
          clear hpa hpl1 hbi hbt hbf
          cases b
          · have HZ : Hid (readHall l = none) := hide (unhide Hnone (unhide HX (unhide Hbf (by simp))))
            go_wp2_with fail
            exact bodyPost_ret (v := .tuple #[.agg #[.slice none 0 0], .bool false]) (by simp [results, Tryz.results169, go_sem, *]) rfl ⟨.inr ⟨rfl, unhide HZ⟩, (((unhide B2).trans ((unhide HB2).mono (by omega))).setCell (Nat.le_refl w.heap.size) _)⟩
          · have HRm : Hid (readRoom pk = some (n, ps)) := hide (by
              obtain ⟨h1, h2⟩ := unhide Hbt (by simp)
              rw [List.take_length] at h2
              rw [unhide HRR, unhide HisT h1, h2]; rfl)
            have hqsm : qs.length ≤ 1048577 := by rw [unhide Hql]; omega
            have HpI : Hid (PacesAt w2.heap.size wi (.slice pva ps.length pvcap) ps) := hide (own_mono (unhide Hpa) (by omega))
            have Hoff : Hid (∀ b, (Value.slice pva ps.length pvcap).ownBlock = some b → (Value.slice va qs.length vcap).ownBlock ≠ some b) := hide (fun b e e' => by have h1 := ((unhide Hpa).lt e).1; have h2 := ((unhide Hoh).lt (.inl e')).2; omega)
            have Hap : Hid (∀ q ∈ qs, ∀ b, q.2.ownBlock = some b → (Value.slice pva ps.length pvcap).ownBlock ≠ some b) := hide (fun q hq b e e' => by have h1 := ((unhide Hpa).lt e').1; have h2 := ((unhide Hoh).lt (.inr ⟨q, hq, e⟩)).2; omega)
            go_wp2_with (at_builtin; go_must (refine wpList_append_own_at _ rfl _ _ 24 rfl w2.heap.size 95 i2 (.agg #[.int .i64 0, .slice none 0 0]) 2 32 Tryz.underlying24 hi2 hr0 hr1 hr2 rfl (by decide) _ _ _ rfl (World.ownsRow.alloc (unhide HohI).row _) ⟨_, 0, none⟩ 1 1 [.int .i64 n, .slice pva ps.length pvcap] rfl rfl (cell_two_at _ _ _ _ _ (by simp)) (by simp [Value.oneCell']) (by simp only [maxLen]; omega) (by omega) (by simp; omega) ?_); go_must (intro v' w6 hown' hgrow _ hat); go_must (obtain ⟨a6, cap6, rfl, e1, e2, HE⟩ := rd_outer (b := w.heap.size + 1) (unhide HohI) (unhide HpI) (unhide Hoff) (unhide Hap) hown' hgrow hat (by omega) (by omega) d1 df1); clear hown' hgrow hat)
            go_roundw
            case rel => exact ⟨k + 1, _, qs ++ [((n, ps), .slice pva ps.length pvcap)], by omega, by go_num, (unhide HE).1, (unhide HE).2.1, (unhide HE).2.2.1, by simp [unhide Hql], by rw [List.map_append]; exact unhide HY _ (unhide HRm), ((unhide HbutI).within (unhide HE).2.2.2).setCell 0 _⟩
            case measure => simp [intOf]; omega
    · obtain rfl : k = pc.length := by omega
      have HB2 : Hid (Below (w.heap.size + 1) w2 wo) := hide (hbut.below (Nat.le_refl _) (by omega))
      have df0 : wo.frozen? ⟨w.heap.size, 0, none⟩ = false := ((unhide HB2).frozen (p := ⟨w.heap.size, 0, none⟩) (by show w.heap.size < _; omega)).trans g0
      rw [List.take_length] at hmap
      have Hmap2 := hide hmap
      have HBo : Hid (Below w.heap.size w wo) := hide ((unhide B2).trans ((unhide HB2).mono (by omega)))
      clear hoh hmap hbut hql
      go_wp2_with fail
      refine (specHallOk_any (unhide Hoh).rooms).mono ?_
      rintro e w7 ⟨rfl, hb7⟩
      have c70 := (hb7.cell (p := ⟨w.heap.size, 0, none⟩) (by show w.heap.size < _; omega)).trans y0
      have c71 := (hb7.cell (p := ⟨w.heap.size + 1, 0, none⟩) (by show w.heap.size + 1 < _; omega)).trans hv
      have c72 := (hb7.frozen (p := ⟨w.heap.size, 0, none⟩) (by show w.heap.size < _; omega)).trans df0
      have Hb7 := hide hb7
      have hz7 := hb7.size
      clear hb7 y0 hv hfv
      cases hh : hallB (qs.map (·.1))
      · have HZ : Hid (readHall l = none) := hide (unhide Hbad _ (unhide Hmap2) hh)
        clear hh
        go_wp2_with fail
        exact bodyPost_ret (v := .tuple #[.agg #[.slice none 0 0], .bool false]) (by simp [results, Tryz.results169, go_sem, *]) rfl ⟨.inr ⟨rfl, unhide HZ⟩, ((unhide HBo).trans ((unhide Hb7).mono (by omega))).setCell (Nat.le_refl w.heap.size) _⟩
      · have HZ : Hid (readHall l = some (qs.map (·.1))) := hide (unhide Hsome _ (unhide Hmap2) hh)
        clear hh
        go_wp2_with fail
        exact bodyPost_ret (v := .tuple #[.agg #[.slice va qs.length vcap], .bool true]) (by simp [results, Tryz.results169, go_sem, *]) rfl ⟨.inl ⟨_, qs, rfl, unhide HZ, (((unhide Hoh).later (unhide Hb7)).but ((But.refl w.heap.size w7).setCell 0 _) (.inl (by omega))).mono (by omega)⟩, ((unhide HBo).trans ((unhide Hb7).mono (by omega))).setCell (Nat.le_refl w.heap.size) _⟩

end Go.Proofs.YtmhagllddhjgmaaGreat

