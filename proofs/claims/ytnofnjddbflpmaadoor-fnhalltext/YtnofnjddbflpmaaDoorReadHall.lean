/- Contract of the program's ReadHall: it answers what the text says, in memory of its own. Conditions: the text is no longer than 2^20; the library's variables hold what the calls ask. -/
import Derived.Test.YtnofnjddbflpmaaDoorReadRoom
namespace Go.Proofs.YtnofnjddbflpmaaDoor
open Go.ChangeShapes Go.WideShapes Go.ChangeAt Go.RowKit Go.Sort
set_option linter.unusedVariables false

set_option maxRecDepth 100000 in
set_option maxHeartbeats 8000000 in
theorem implReadHall_any (l : Txt) (w : World) (he : Env w) (hl : l.length ≤ 1048576) :
    Calls Tryd.prog 10 #[.string (bs l)] w fun e w' => GotHall l w.heap.size e w' ∧ Below w.heap.size w w' := by
  obtain ⟨i2, hi2, hr0, hr1, hr2⟩ := info_parts infoRoom2
  have He := hide he
  clear he
  go_enter Tryd.func10, Tryd.ntmps10
  go_wp2_with fail
  refine (split_any l 47 _ ((unhide He).below (((Below.refl _ _).alloc (Nat.le_refl _) _).alloc (by simp) _)) hl).mono ?_
  rintro e w2 ⟨rv, rfl, hst, hb⟩
  have hsz : w.heap.size + 2 ≤ w2.heap.size := by have := hb.size; simp at this; omega
  obtain ⟨cc, ff⟩ := bcell hb
  have x0 := cc w.heap.size 0 (by simp; omega)
  have x1 := cc (w.heap.size + 1) 0 (by simp)
  have f0 := ff w.heap.size 0 (by simp; omega)
  have f1 := ff (w.heap.size + 1) 0 (by simp)
  simp at x0 x1
  have g0 : w2.frozen? ⟨w.heap.size, 0, none⟩ = false := by rw [f0, frozen?_alloc_cells, frozen?_alloc_cells]; exact frozen_far (Nat.le_refl _)
  have g1 : w2.frozen? ⟨w.heap.size + 1, 0, none⟩ = false := by rw [f1, frozen?_alloc_cells, frozen?_alloc_cells]; exact frozen_far (by omega)
  have B2 : Hid (Below w.heap.size w w2) := hide ((((Below.refl _ _).alloc (Nat.le_refl _) _).alloc (by simp) _).trans (hb.mono (by simp; omega)))
  have hpl := splitFrom_len 47 l []
  have Hsm : Hid (∀ p ∈ splitL 47 l, p.length ≤ 1048576) := hide (fun p hp => size_of_mem hp hl)
  obtain ⟨ra, rcap, rfl, hrc, hrm, hrr⟩ := hst.view
  rcases hrr with h0 | ⟨g, rfl, hg1, hg2, hcl⟩
  · exact absurd h0 (splitL_ne _ _)
  have hg1' : w.heap.size + 2 ≤ g := by simp at hg1; omega
  have Hcl := hide hcl
  have hpl' : (splitL 47 l).length ≤ 1048577 := by unfold splitL; omega
  clear hst hb cc ff hcl hg1 f0 f1 hpl
  have Hnone : Hid ((splitL 47 l).mapM readRoom = none → readHall l = none) := hide readHall_none
  have Hsome : Hid (∀ rs, (splitL 47 l).mapM readRoom = some rs → hallB rs = true → readHall l = some rs) := hide (fun rs => readHall_some)
  have Hbad : Hid (∀ rs, (splitL 47 l).mapM readRoom = some rs → hallB rs = false → readHall l = none) := hide (fun rs => readHall_bad)
  generalize splitL 47 l = pc at *
  go_wp2_with fail
  go_loopw [13] (fun i wr => ∃ (k : Nat) (v : Value) (qs : List (RoomV × Value)), k ≤ pc.length ∧ i = .int .i64 k ∧ wr.cell? ⟨w.heap.size + 1, 0, none⟩ = some v ∧ wr.frozen? ⟨w.heap.size + 1, 0, none⟩ = false ∧ OwnHall w2.heap.size wr v qs ∧ qs.length = k ∧ (pc.take k).mapM readRoom = some (qs.map (·.1)) ∧ But (w.heap.size + 1) w2 wr) (fun i _ => pc.length - (intOf i).toNat)
  case atStart => exact ⟨0, _, [], Nat.zero_le _, rfl, x1, g1, OwnHall.nil _ _, rfl, rfl, But.refl _ _⟩
  case round =>
    obtain ⟨wo, rfl⟩ : ∃ wo, wo = wr := ⟨wr, rfl⟩
    obtain ⟨k, v, qs, hk, rfl, hv, hfv, hoh, hql, hmap, hbut⟩ := hrel
    have Hoh := hide hoh
    have Hmap := hide hmap
    have Hbut := hide hbut
    have hz2 := hbut.size
    have Hql := hide hql
    have Hv := hide hv
    have Hfv := hide hfv
    have HB2 : Hid (Below (w.heap.size + 1) w2 wo) := hide (hbut.below (Nat.le_refl _) (by omega))
    have HBo : Hid (Below w.heap.size w wo) := hide ((unhide B2).trans ((unhide HB2).mono (by omega)))
    have Hy0 : Hid (wo.cell? ⟨w.heap.size, 0, none⟩ = some (.slice none 0 0)) := hide (((unhide HB2).cell (p := ⟨w.heap.size, 0, none⟩) (Nat.lt_succ_self _)).trans x0)
    have Hf0 : Hid (wo.frozen? ⟨w.heap.size, 0, none⟩ = false) := hide (((unhide HB2).frozen (p := ⟨w.heap.size, 0, none⟩) (Nat.lt_succ_self _)).trans g0)
    obtain ⟨va, vcap, rfl⟩ := hoh.shape
    by_cases hlt : k < pc.length
    · have hck := (hbut.cell (p := ⟨g, k, none⟩) hg2 (by show g ≠ _; omega)).trans (unhide Hcl k hlt)
      have hget : pc.getD k [] = pc[k] := by simp [List.getD, hlt]
      rw [hget] at hck
      have hpk := unhide Hsm pc[k] (List.getElem_mem hlt)
      have HX : Hid (readRoom pc[k] = none → pc.mapM readRoom = none) := hide (fun h => mapM_none hlt h)
      have HY : Hid (∀ y, readRoom pc[k] = some y → (pc.take (k + 1)).mapM readRoom = some (qs.map (·.1) ++ [y])) := hide (fun y h => mapM_snoc hlt (unhide Hmap) h)
      generalize pc[k] = pk at *
      clear hoh hmap hbut hql hget hv hfv
      go_wp2_with fail
      refine (readRoom_any pk _ ((unhide He).below (unhide HBo)) hpk).mono ?_
      rintro e w3 ⟨hgot, hb3⟩
      have hz3 := hb3.size
      have Hb3 := hide hb3
      have hlt3 : w.heap.size < w3.heap.size := by omega
      have hlt31 : w.heap.size + 1 < w3.heap.size := by omega
      have d0 := (hb3.cell (p := ⟨w.heap.size, 0, none⟩) (by show w.heap.size < _; omega)).trans (unhide Hy0)
      have df0 := (hb3.frozen (p := ⟨w.heap.size, 0, none⟩) (by show w.heap.size < _; omega)).trans (unhide Hf0)
      have d1 := (hb3.cell (p := ⟨w.heap.size + 1, 0, none⟩) (by show w.heap.size + 1 < _; omega)).trans (unhide Hv)
      have df1 := (hb3.frozen (p := ⟨w.heap.size + 1, 0, none⟩) (by show w.heap.size + 1 < _; omega)).trans (unhide Hfv)
      have HB3w : Hid (Below w.heap.size w w3) := hide ((unhide HBo).trans (hb3.mono (by omega)))
      clear hb3
      rcases hgot with ⟨n, pv, ps, rfl, hrd, hpa⟩ | ⟨rfl, hrd⟩
      · obtain ⟨pva, pvcap, rfl⟩ := hpa.shape
        have Hrd := hide hrd
        have Hoh3 : Hid (OwnHall w2.heap.size (w3.alloc (.cells #[.int .i64 n, .slice pva ps.length pvcap] 45)) (.slice va qs.length vcap) qs) := hide (((unhide Hoh).later (unhide Hb3)).later ((Below.refl _ _).alloc (Nat.le_refl _) _))
        have HpI : Hid (PacesAt w2.heap.size (w3.alloc (.cells #[.int .i64 n, .slice pva ps.length pvcap] 45)) (.slice pva ps.length pvcap) ps) := hide (own_mono (own_same hpa (fun q e => Below.heap_alloc w3 _ q (hpa.lt e).2)) (by omega))
        have Hoff : Hid (∀ b, (Value.slice pva ps.length pvcap).ownBlock = some b → (Value.slice va qs.length vcap).ownBlock ≠ some b) := hide (fun b e e' => by have h1 := (hpa.lt e).1; have h2 := ((unhide Hoh).lt (.inl e')).2; omega)
        have Hap : Hid (∀ q ∈ qs, ∀ b, q.2.ownBlock = some b → (Value.slice pva ps.length pvcap).ownBlock ≠ some b) := hide (fun q hq b e e' => by have h1 := (hpa.lt e').1; have h2 := ((unhide Hoh).lt (.inr ⟨q, hq, e⟩)).2; omega)
        have hqsm : qs.length ≤ 1048577 := by rw [unhide Hql]; omega
        have q1 : (w3.alloc (.cells #[.int .i64 n, .slice pva ps.length pvcap] 45)).cell? ⟨w.heap.size + 1, 0, none⟩ = some (.slice va qs.length vcap) := (World.cell?_alloc_lt _ _ _ hlt31).trans d1
        have q2 : (w3.alloc (.cells #[.int .i64 n, .slice pva ps.length pvcap] 45)).frozen? ⟨w.heap.size + 1, 0, none⟩ = false := by rw [frozen?_alloc_cells]; exact df1
        have HbutI : Hid (But (w.heap.size + 1) w2 (w3.alloc (.cells #[.int .i64 n, .slice pva ps.length pvcap] 45))) := hide (((unhide Hbut).later (unhide Hb3)).alloc _)
        clear hpa hrd d0 df0 d1 df1
        go_wp2_with (at_builtin; refine wpList_append_own_at _ rfl _ _ 24 rfl w2.heap.size 45 i2 (.agg #[.int .i64 0, .slice none 0 0]) 2 32 Tryd.underlying24 hi2 hr0 hr1 hr2 rfl (by decide) _ _ _ rfl (World.ownsRow.alloc (unhide Hoh3).row _) ⟨_, 0, none⟩ 1 1 [.int .i64 n, .slice pva ps.length pvcap] rfl rfl (cell_two_at _ _ _ _ _ (by simp)) (by simp [Value.oneCell']) (by simp only [maxLen]; omega) (by omega) (by simp; omega) ?_; intro v' w6 hown' hgrow _ hat; obtain ⟨a6, cap6, rfl, e1, e2, HE⟩ := rd_outer (b := w.heap.size + 1) (unhide Hoh3) (unhide HpI) (unhide Hoff) (unhide Hap) hown' hgrow hat (by omega) (by simp; omega) q1 q2; clear hown' hgrow hat)
        go_roundw
        case rel => exact ⟨k + 1, _, qs ++ [((n, ps), .slice pva ps.length pvcap)], by omega, by go_num, (unhide HE).1, (unhide HE).2.1, (unhide HE).2.2.1, by simp [unhide Hql], by rw [List.map_append]; exact unhide HY _ (unhide Hrd), ((unhide HbutI).within (unhide HE).2.2.2).setCell 0 _⟩
        case measure => simp [intOf]; omega
      · have HZ : Hid (readHall l = none) := hide (unhide Hnone (unhide HX hrd))
        clear hrd d1 df1
        go_wp2_with fail
        exact bodyPost_ret (v := .tuple #[.agg #[.slice none 0 0], .bool false]) (by simp [results, Tryd.results10, go_sem, d0, hlt3]) rfl ⟨.inr ⟨rfl, unhide HZ⟩, by first | exact ((unhide HB3w).setCell (Nat.le_refl w.heap.size) _).alloc (by simp; omega) _ | exact ((unhide HB3w).alloc (unhide HB3w).size _).setCell (Nat.le_refl w.heap.size) _⟩
    · obtain rfl : k = pc.length := by omega
      have y0 := unhide Hy0
      have df0 := unhide Hf0
      rw [List.take_length] at hmap
      have Hmap2 := hide hmap
      clear hoh hmap hbut hql
      go_wp2_with fail
      refine (implHallOk_any (unhide Hoh).rooms).mono ?_
      rintro e w7 ⟨rfl, hb7⟩
      have c70 := (hb7.cell (p := ⟨w.heap.size, 0, none⟩) (by show w.heap.size < _; omega)).trans y0
      have c71 := (hb7.cell (p := ⟨w.heap.size + 1, 0, none⟩) (by show w.heap.size + 1 < _; omega)).trans hv
      have c72 := (hb7.frozen (p := ⟨w.heap.size, 0, none⟩) (by show w.heap.size < _; omega)).trans df0
      have Hb7 := hide hb7
      have hz7 := hb7.size
      clear hb7 y0 hv hfv
      cases hh : hallB (qs.map (·.1))
      · have HZ : Hid (readHall l = none) := hide (unhide Hbad _ (unhide Hmap2) hh)
        clear hh
        go_wp2_with fail
        exact bodyPost_ret (v := .tuple #[.agg #[.slice none 0 0], .bool false]) (by simp [results, Tryd.results10, go_sem, *]) rfl ⟨.inr ⟨rfl, unhide HZ⟩, ((unhide HBo).trans ((unhide Hb7).mono (by omega))).setCell (Nat.le_refl w.heap.size) _⟩
      · have HZ : Hid (readHall l = some (qs.map (·.1))) := hide (unhide Hsome _ (unhide Hmap2) hh)
        clear hh
        go_wp2_with fail
        exact bodyPost_ret (v := .tuple #[.agg #[.slice va qs.length vcap], .bool true]) (by simp [results, Tryd.results10, go_sem, *]) rfl ⟨.inl ⟨_, qs, rfl, unhide HZ, (((unhide Hoh).later (unhide Hb7)).but ((But.refl w.heap.size w7).setCell 0 _) (.inl (by omega))).mono (by omega)⟩, ((unhide HBo).trans ((unhide Hb7).mono (by omega))).setCell (Nat.le_refl w.heap.size) _⟩

end Go.Proofs.YtnofnjddbflpmaaDoor
