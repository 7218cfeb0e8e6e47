/- What the proof rests on, part 6: lists and numbers, how they lie in memory, and contracts of the calls. No condition but those that a theorem names. -/
import Derived.Test.YtmhagllddhjgmaaGreatXw01
import Derived.Test.YtmhagllddhjgmaaGreatXw02
import Derived.Test.YtmhagllddhjgmaaGreatXw03
import Derived.Test.YtmhagllddhjgmaaGreatXw04
import Derived.Test.YtmhagllddhjgmaaGreatXw05
import Derived.Deep.DrawnRows
import Derived.BigRegion
import Derived.Deep.RegionLawGrows
import Derived.WalkKit
import Derived.ProofKit
import Derived.OpenShut
import Derived.Outline
import Derived.Deep.RegionWith
import Derived.Deep.QuietTactic
import Derived.BigQuiet
import Derived.Laws.OwnMore
import Derived.OwnWalk
import Derived.Maps.AppendAt
import Derived.Lib.QuietBelow
import Derived.Lib.SmallJoins
import Derived.OrdersHeld
import Derived.Deep.RegionHeldLaw
/- The model's copies of halls and guilds (l4Copy, l8Copy): what they read as, in memory of the call's own. Conditions: the slices can be read; what each theorem names. -/
namespace Go.Proofs.YtmhagllddhjgmaaGreat
open Go.ChangeShapes Go.WideShapes Go.ChangeAt Go.RowKit Go.Sort
set_option linter.unusedVariables false
set_option linter.unusedSimpArgs false

def encPace (p : PaceV) : List Value := [.int .i64 p.1, .int .i64 p.2]
theorem encPace_len (p : PaceV) : (encPace p).length = 2 := rfl
theorem tyPace : RecTy 138 2 (.agg #[.int .i64 0, .int .i64 0]) encPace := ⟨by kernel_rfl, rfl, encPace_len, by omega, by omega, fun x u hu => by
  simp only [encPace, List.mem_cons, List.not_mem_nil, or_false] at hu
  rcases hu with rfl | rfl <;> rfl⟩
theorem IsPaces.rec {w : World} {v : Value} {ps : List PaceV} (h : IsPaces w v ps) : IsRec 2 encPace w v ps := by
  obtain ⟨a, cap, rfl, hc, hm, hr⟩ := h
  refine ⟨a, cap, rfl, hc, hm, ?_⟩
  rcases hr with hr | ⟨b, off, rfl, hlt, hcl⟩
  · exact .inl hr
  · refine .inr ⟨b, off, rfl, hlt, fun j hj i u hu => ?_⟩
    obtain ⟨c0, c1⟩ := hcl j hj
    have e : recAt ps j = paceAt ps j := by unfold recAt paceAt; simp [List.getD, hj]
    rw [e] at hu
    match i, hu with
    | 0, hu => obtain rfl : u = _ := by simpa [encPace] using hu.symm
               exact c0
    | 1, hu => obtain rfl : u = _ := by simpa [encPace] using hu.symm
               exact c1
    | i + 2, hu => simp [encPace] at hu

theorem own_shape {B t sz n : Nat} {w : World} {v : Value} {xs : List Value} (h : w.ownsRow B t sz v n xs) : ∃ a cap, v = .slice a n cap := by
  rcases h.2 with ⟨rfl, hz⟩ | ⟨g, cap, cur, rfl, _⟩
  · exact ⟨none, 0, by rw [hz]⟩
  · exact ⟨_, cap, rfl⟩
theorem run_append_room {w : World} {base t ty : Nat} (ht : Tryz.prog.underlying t = some (.slice 95)) {v : Value} {n : Nat} {xs : List Value} (hown : w.ownsRow base 95 2 v n xs) {g c : Nat} {rb : Int} {pv : Value} (h0 : w.cell? ⟨g, 0, none⟩ = some (.int .i64 rb)) (h1 : w.cell? ⟨g, 1, none⟩ = some pv) (h1c : pv.oneCell' = true) (hn : n ≤ 4000) (hbase : base ≤ w.heap.size) :
    ∃ v' w', (Builtin.append_ #[t, t] ty #[v, .slice (some ⟨g, 0, none⟩) 1 c]).run Tryz.prog w = .ok v' w' ∧ w'.ownsRow base 95 2 v' (n + 1) (xs ++ [.int .i64 rb, pv]) ∧ w.grownBy w' v.ownBlock ∧ (v'.ownBlock = v.ownBlock ∨ v'.ownBlock = some w.heap.size) := by
  obtain ⟨i0, hi, hz0, hz1, hz2⟩ := parts_of infoRoom2
  obtain ⟨v', w', hr, h2, h3, _, h5⟩ := run_append_own_at (P := Tryz.prog) w base t ty 95 i0 (.agg #[.int .i64 0, .slice none 0 0]) 2 32 ht hi hz0 hz1 hz2 rfl (by omega) v n xs hown ⟨g, 0, none⟩ 1 c [.int .i64 rb, pv] rfl
    (fun j u hu => by
      match j, hu with
      | 0, hu => obtain rfl : u = _ := by simpa using hu.symm
                 rw [addr_to]; exact h0
      | 1, hu => obtain rfl : u = _ := by simpa using hu.symm
                 rw [addr_to]; exact h1
      | j + 2, hu => simp at hu)
    (fun u hu => by
      simp only [List.mem_cons, List.not_mem_nil, or_false] at hu
      rcases hu with rfl | rfl
      · rfl
      · exact h1c) (by simp only [maxLen]; omega) (by omega) hbase
  exact ⟨v', w', hr, h2, h3, h5⟩
/-- At a step of a region that draws its order: an append whose run is known. -/
theorem step_append_run {ops : Array Oper} {o : Oper} {a : Act} {w : World} {K : Act → World → Prop} {Q : Exit → Act → World → Prop} {E : Prop} (hgd : o.guard = none) (s x : Operand) (t : TypeId)
    (ho : o.op = .call { callee := .builtin .append, args := #[s, x], argTypes := #[t, t] }) {v u v' : Value} {w' : World} (hs : a.eval s = v) (hx : a.eval x = u) (hrun : (Builtin.append_ #[t, t] o.type #[v, u]).run Tryz.prog w = .ok v' w')
    (h : K (a.put o.dst v') w') : if Region.wanted o (yielded ops a.tmps) = true then Oper.wp Tryz.prog o a w K Q else E := by
  have hw : Region.wanted o (yielded ops a.tmps) = true := by simp [Region.wanted, hgd]
  rw [if_pos hw]
  unfold Oper.wp execOp
  simp only [ho, resolve, invoke, builtin, Sem.run_bind, Sem.run_pure, Result.andThen_ok, List.map_toArray, List.map_cons, List.map_nil, hs, hx, hrun]
  exact h

set_option maxRecDepth 100000 in
set_option maxHeartbeats 4000000 in
theorem l4Copy_any {w : World} {v : Value} {rs : List RoomV} (h : IsRooms w v rs) (hl : rs.length ≤ 1000) (hp : ∀ r ∈ rs, r.2.length ≤ 1000) :
    Calls Tryz.prog 66 #[.agg #[v]] w fun e w' => ∃ v' qs, e = .returned (.agg #[v']) ∧ qs.map (·.1) = rs ∧ OwnHall w.heap.size w' v' qs ∧ Below w.heap.size w w' := by
  have Hv := hide h
  obtain ⟨a, cap, rfl, hc, hm, hr⟩ := h
  have Hr := hide hr
  have HP := hide hp
  clear hr hp
  go_enter Tryz.func66, Tryz.ntmps66
  go_wp2_with fail
  go_loopw [4] (fun i wr => ∃ (k : Nat) (u : Value) (qs : List (RoomV × Value)), k ≤ rs.length ∧ i = .int .i64 k ∧ Blk wr (w.heap.size + 1 + 1) 26 #[u] ∧ Blk wr w.heap.size 26 #[.slice a rs.length cap] ∧ Blk wr (w.heap.size + 1) 26 #[.slice none 0 0] ∧ OwnHall (w.heap.size + 3) wr u qs ∧ qs.map (·.1) = rs.take k ∧ Below w.heap.size w wr) (fun i _ => rs.length - (intOf i).toNat)
  case atStart =>
    refine ⟨0, _, [], Nat.zero_le _, rfl, ?_, ((Blk.new w _ _).alloc _).alloc _, ?_, OwnHall.nil _ _, rfl, (((Below.refl _ _).alloc (Nat.le_refl _) _).alloc (by simp) _).alloc (by simp; omega) _⟩
    · have k := Blk.new ((w.alloc (.cells #[.slice a rs.length cap] 26)).alloc (.cells #[.slice none 0 0] 26)) 26 #[.slice none 0 0]
      rw [World.size_alloc, World.size_alloc] at k
      exact k
    · have k := Blk.new (w.alloc (.cells #[.slice a rs.length cap] 26)) 26 #[.slice none 0 0]
      rw [World.size_alloc] at k
      exact k.alloc _
  case round =>
    obtain ⟨k, u, qs, hk, rfl, ko, ka, kr, ho, hq, hb⟩ := hrel
    have hql : qs.length = k := by have := congrArg List.length hq; simp at this; omega
    obtain ⟨ua, uc, rfl⟩ := ho.shape
    have Hql := hide hql
    rw [hql] at ko ho
    clear hql
    have Ko := hide ko
    have Ka := hide ka
    have Kr := hide kr
    have Ho := hide ho
    have Hq := hide hq
    have Hb := hide hb
    have x0 := ko.cell (i := 0) rfl
    have f0 := ko.free 0
    have y0 := ka.cell (i := 0) rfl
    have hsz := ko.lt
    by_cases hlt : k < rs.length
    · rcases unhide Hr with e0 | ⟨b, off, rfl, hbw, hcl⟩
      · rw [e0] at hlt; simp at hlt
      obtain ⟨c0, pv, c1, hpv⟩ := hcl k hlt
      rw [← hb.cell (p := ⟨b, off + k * 2, none⟩) hbw] at c0
      rw [← hb.cell (p := ⟨b, off + k * 2 + 1, none⟩) hbw] at c1
      have Hpv := hide (hpv.below (hb.mono (Nat.le_refl _)))
      have hpl := unhide HP (roomAt rs k) (by unfold roomAt; simp [List.getD, hlt])
      have Htk : Hid (rs.take (k + 1) = rs.take k ++ [roomAt rs k]) := hide (by rw [List.take_succ_eq_append_getElem hlt]; unfold roomAt; simp [List.getD, hlt])
      generalize roomAt rs k = r at *
      obtain ⟨n, ps⟩ := r
      simp only at c0 hpl hpv
      obtain ⟨pa, pc, rfl, _, _, _⟩ := hpv
      have hbw' : b < wr.heap.size := by have := hb.size; omega
      clear hcl ko ka kr ho hq hb
      have x1 := ((unhide Ko).alloc (.cells #[] 138)).cell (i := 0) rfl
      have f1 := ((unhide Ko).alloc (.cells #[] 138)).free 0
      have y1 := ((unhide Ka).alloc (.cells #[] 138)).cell (i := 0) rfl
      have c2 := (((Below.refl wr.heap.size wr).alloc (Nat.le_refl _) (.cells #[] 138)).cell (p := ⟨b, off + k * 2, none⟩) hbw').trans c0
      have c3 := (((Below.refl wr.heap.size wr).alloc (Nat.le_refl _) (.cells #[] 138)).cell (p := ⟨b, off + k * 2 + 1, none⟩) hbw').trans c1
      have HA : Hid (Below wr.heap.size wr (wr.alloc (.cells #[] 138))) := hide ((Below.refl wr.heap.size wr).alloc (Nat.le_refl _) _)
      obtain ⟨v4, w4, hrun4, hown4, hg4, hat4⟩ := run_append_recs tyPace (w := (wr.alloc (.cells #[] 138)).drew) (t := 93) (ty := 93) (base := wr.heap.size) Tryz.underlying93 (RecAt.later (recs_empty (w := wr) rfl (Nat.le_refl _)) (Below.refl _ _).drew) (IsPaces.rec ((unhide Hpv).below (unhide HA).drew)) (by simp; omega) (by simp)
      rw [List.nil_append] at hown4
      have X4 : Below wr.heap.size wr w4 := (unhide HA).drew.trans ((Below.refl _ _).grown hg4 (by simp) (fun i e => by cases e; exact Nat.le_refl _))
      obtain ⟨pa4, pc4, rfl⟩ := RecAt.shape hown4
      have hk4 := (unhide Ko).below X4 (unhide Ko).lt
      have hz4 := X4.size
      have r0 := hk4.cell (i := 0) rfl
      have r1 := hk4.free 0
      have hk5 := hk4.alloc (.cells #[.int .i64 n, .slice pa4 ps.length pc4] 95)
      have r2 := hk5.cell (i := 0) rfl
      have r3 := (X4.cell (p := ⟨b, off + k * 2, none⟩) hbw').trans c0
      have r4 := ((unhide Ka).below X4 (unhide Ka).lt).cell (i := 0) rfl
      have r5 := (((unhide Ka).below X4 (unhide Ka).lt).alloc (.cells #[.int .i64 n, .slice pa4 ps.length pc4] 95)).cell (i := 0) rfl
      have HO4 := hide hown4
      have HX4 := hide X4
      obtain ⟨v5, w5, hrun5, hown5, hg5, hat5⟩ := run_append_room (w := w4.alloc (.cells #[.int .i64 n, .slice pa4 ps.length pc4] 95)) (t := 24) (ty := 24) (base := w.heap.size + 3) (v := .slice ua k uc) (n := k) (xs := rcells qs) Tryz.underlying24 (World.ownsRow.alloc (by have h9 := ((unhide Ho).later (unhide HX4)).row; rw [unhide Hql] at h9; exact h9) _) (g := w4.heap.size) (c := 1) (cell_new w4 (i := 0) rfl) (cell_new w4 (i := 1) rfl) rfl (by omega) (by simp; omega)
      obtain ⟨a5, c5, rfl⟩ := own_shape hown5
      have hn5 : ∀ i, (Value.slice ua k uc).ownBlock = some i → w.heap.size + 3 ≤ i := fun i e => ((unhide Ho).lt (.inl e)).1
      have hk6 := hk5.same (w' := w5) (hg5.block _ hk5.lt (fun e => by have := hn5 _ e.symm; omega))
      have s0 := hk6.cell (i := 0) rfl
      have s1 := hk6.free 0
      have HK6 := hide hk6
      have HO5 := hide hown5
      have HG5 := hide hg5
      have HA5 := hide hat5
      have X5 : Hid (Below (w.heap.size + 1 + 1 + 1) wr w5) := hide (by
        have q1 : Below wr.heap.size wr w4 := unhide HX4
        have q2 : Below w4.heap.size w4 (w4.alloc (.cells #[.int .i64 n, .slice pa4 ps.length pc4] 95)) := (Below.refl _ _).alloc (Nat.le_refl _) _
        have q3 : Below (w.heap.size + 1 + 1 + 1) (w4.alloc (.cells #[.int .i64 n, .slice pa4 ps.length pc4] 95)) w5 := (Below.refl _ _).grown (unhide HG5) (by have := q1.size; simp; omega) (fun i e => by have := ((unhide Ho).lt (.inl e)).1; omega)
        exact ((q1.mono (by omega)).trans (q2.mono (by have := q1.size; omega))).trans q3)
      have hp5 : OwnHall (w.heap.size + 3) w5 (.slice a5 (k + 1) c5) (qs ++ [((n, ps), .slice pa4 ps.length pc4)]) := by
        have q1 : OwnHall (w.heap.size + 3) w4 (.slice ua k uc) qs := (unhide Ho).later (unhide HX4)
        have q2 : PacesAt wr.heap.size w4 (.slice pa4 ps.length pc4) ps := unhide HO4
        have q3 : PacesAt (w.heap.size + 3) w4 (.slice pa4 ps.length pc4) ps := q2.mono (by omega)
        refine OwnHall.push (w := w4) (w1 := w5) (v := .slice ua k uc) (o := .cells #[.int .i64 n, .slice pa4 ps.length pc4] 95) q1 q3 ?_ ?_ ?_ (unhide HG5) (unhide HA5)
        · intro b' e e'
          have h8 := (q2.lt e).1
          have h9 := ((unhide Ho).lt (.inl e')).2
          omega
        · intro q hq' b' e e'
          have h8 := (q2.lt e').1
          have h9 := ((unhide Ho).lt (.inr ⟨q, hq', e⟩)).2
          omega
        · rw [unhide Hql]; exact unhide HO5
      have HP5 := hide hp5
      have z0 := ((unhide Ka).below (unhide X5) (by omega)).cell (i := 0) rfl
      have z1 := ((unhide X5).cell (p := ⟨b, off + k * 2, none⟩) (show b < w.heap.size + 1 + 1 + 1 by omega)).trans c0
      have z2 := ((unhide X5).cell (p := ⟨b, off + k * 2 + 1, none⟩) (show b < w.heap.size + 1 + 1 + 1 by omega)).trans c1
      have r6 := ((unhide HX4).cell (p := ⟨b, off + k * 2 + 1, none⟩) hbw').trans c1
      have r7 : (w4.alloc (.cells #[.int .i64 n, .slice pa4 ps.length pc4] 95)).cell? ⟨b, off + k * 2, none⟩ = some (.int .i64 n) := (((Below.refl w4.heap.size w4).alloc (Nat.le_refl _) _).cell (p := ⟨b, off + k * 2, none⟩) (by show b < w4.heap.size; omega)).trans r3
      have r8 : (w4.alloc (.cells #[.int .i64 n, .slice pa4 ps.length pc4] 95)).cell? ⟨b, off + k * 2 + 1, none⟩ = some (.slice pa ps.length pc) := (((Below.refl w4.heap.size w4).alloc (Nat.le_refl _) _).cell (p := ⟨b, off + k * 2 + 1, none⟩) (by show b < w4.heap.size; omega)).trans r6
      have t0 : (w5.setCell ⟨w.heap.size + 1 + 1, 0, none⟩ (.slice a5 (k + 1) c5)).cell? ⟨w.heap.size, 0, none⟩ = some (.slice (some ⟨b, off, none⟩) rs.length cap) := (World.cell?_setCell_other _ _ _ _ (by simp)).trans z0
      have t1 : (w5.setCell ⟨w.heap.size + 1 + 1, 0, none⟩ (.slice a5 (k + 1) c5)).cell? ⟨b, off + k * 2, none⟩ = some (.int .i64 n) := (World.cell?_setCell_other _ _ _ _ (fun e => by have := congrArg Addr.block e; simp at this; omega)).trans z1
      have t2 : (w5.setCell ⟨w.heap.size + 1 + 1, 0, none⟩ (.slice a5 (k + 1) c5)).cell? ⟨b, off + k * 2 + 1, none⟩ = some (.slice pa ps.length pc) := (World.cell?_setCell_other _ _ _ _ (fun e => by have := congrArg Addr.block e; simp at this; omega)).trans z2
      have R4 := hide hrun4
      have R5 := hide hrun5
      clear hown5 hg5 hat5 hk5 hn5 hk6 hown4 X4 hg4 hat4 hk4 hrun4 hrun5 hp5
      go_wp2_with fail
      refine wp_region_last (S := fun w' => w'.cell? ⟨w.heap.size, 0, none⟩ = some (.slice (some ⟨b, off, none⟩) rs.length cap) ∧ w'.cell? ⟨w.heap.size + 1 + 1, 0, none⟩ = some (.slice ua k uc) ∧ w'.cell? ⟨b, off + k * 2, none⟩ = some (.int .i64 n) ∧ w'.cell? ⟨b, off + k * 2 + 1, none⟩ = some (.slice pa ps.length pc)) (by kernel_rfl) (List.cons_ne_nil _ _) (by kernel_rfl) ⟨y0, x0, c0, c1⟩ (fun hHeld => ?_)
      simp only [List.dropLast_cons_cons, List.dropLast_singleton, List.length_cons, List.length_nil, Nat.zero_add, Nat.reduceAdd]
      (refine wpAnyH_take (i := 0) (v := ?_) rfl (by kernel_rfl) (by kernel_rfl) (by kernel_rfl) (fun _ _ _ h => h) (Or.inl ⟨by rfl, ?_⟩) (by assumption) ?_; rotate_left; (intro W9 hSw; (try dsimp only at hSw); go_simp; (try with_reducible rfl)); (try simp only [Act.put, List.setIfInBounds_toArray, List.set_cons_zero, List.set_cons_succ]))
      (refine wpAnyH_take (i := 1) (v := ?_) rfl (by kernel_rfl) (by kernel_rfl) (by kernel_rfl) (fun _ _ _ h => h) (Or.inl ⟨by rfl, ?_⟩) (by assumption) ?_; rotate_left; (intro W9 hSw; (try dsimp only at hSw); go_simp; (try with_reducible rfl)); (try simp only [Act.put, List.setIfInBounds_toArray, List.set_cons_zero, List.set_cons_succ]))
      (refine wpAnyH_take (i := 2) (v := ?_) rfl (by kernel_rfl) (by kernel_rfl) (by kernel_rfl) (fun _ _ _ h => h) (Or.inl ⟨by rfl, ?_⟩) (by assumption) ?_; rotate_left; (intro W9 hSw; (try dsimp only at hSw); go_simp; (try with_reducible rfl)); (try simp only [Act.put, List.setIfInBounds_toArray, List.set_cons_zero, List.set_cons_succ]))
      (refine wpAnyH_take (i := 3) (v := ?_) rfl (by kernel_rfl) (by kernel_rfl) (by kernel_rfl) (fun _ _ _ h => h) (Or.inl ⟨by rfl, ?_⟩) (by assumption) ?_; rotate_left; (intro W9 hSw; (try dsimp only at hSw); go_simp; (try with_reducible rfl)); (try simp only [Act.put, List.setIfInBounds_toArray, List.set_cons_zero, List.set_cons_succ]))
      (refine wpAnyH_take (i := 4) (v := ?_) rfl (by kernel_rfl) (by kernel_rfl) (by kernel_rfl) (fun _ _ _ h => h) (Or.inl ⟨by rfl, ?_⟩) (by assumption) ?_; rotate_left; (intro W9 hSw; (try dsimp only at hSw); go_simp; (try with_reducible rfl)); (try simp only [Act.put, List.setIfInBounds_toArray, List.set_cons_zero, List.set_cons_succ]))
      (refine wpAnyH_take (i := 5) (v := ?_) rfl (by kernel_rfl) (by kernel_rfl) (by kernel_rfl) (fun _ _ _ h => h) (Or.inl ⟨by rfl, ?_⟩) (by assumption) ?_; rotate_left; (intro W9 hSw; (try dsimp only at hSw); go_simp; (try with_reducible rfl)); (try simp only [Act.put, List.setIfInBounds_toArray, List.set_cons_zero, List.set_cons_succ]))
      (refine wpAnyH_take (i := 6) (v := ?_) rfl (by kernel_rfl) (by kernel_rfl) (by kernel_rfl) (fun _ _ _ h => h) (Or.inl ⟨by rfl, ?_⟩) (by assumption) ?_; rotate_left; (intro W9 hSw; (try dsimp only at hSw); go_simp; (try with_reducible rfl)); (try simp only [Act.put, List.setIfInBounds_toArray, List.set_cons_zero, List.set_cons_succ]))
      (refine wpAnyH_take (i := 7) (v := ?_) rfl (by kernel_rfl) (by kernel_rfl) (by kernel_rfl) (fun _ _ _ h => h) (Or.inl ⟨by rfl, ?_⟩) (by assumption) ?_; rotate_left; (intro W9 hSw; (try dsimp only at hSw); go_simp; (try with_reducible rfl)); (try simp only [Act.put, List.setIfInBounds_toArray, List.set_cons_zero, List.set_cons_succ]))
      (refine wpAnyH_take (i := 9) (v := ?_) rfl (by kernel_rfl) (by kernel_rfl) (by kernel_rfl) (fun _ _ _ h => h) (Or.inl ⟨by rfl, ?_⟩) (by assumption) ?_; rotate_left; (intro W9 hSw; (try dsimp only at hSw); go_simp; (try with_reducible rfl)); (try simp only [Act.put, List.setIfInBounds_toArray, List.set_cons_zero, List.set_cons_succ]))
      (refine wpAnyH_take (i := 10) (v := ?_) rfl (by kernel_rfl) (by kernel_rfl) (by kernel_rfl) (fun _ _ _ h => h) (Or.inl ⟨by rfl, ?_⟩) (by assumption) ?_; rotate_left; (intro W9 hSw; (try dsimp only at hSw); go_simp; (try with_reducible rfl)); (try simp only [Act.put, List.setIfInBounds_toArray, List.set_cons_zero, List.set_cons_succ]))
      (refine wpAnyH_take (i := 11) (v := ?_) rfl (by kernel_rfl) (by kernel_rfl) (by kernel_rfl) (fun _ _ _ h => h) (Or.inl ⟨by rfl, ?_⟩) (by assumption) ?_; rotate_left; (intro W9 hSw; (try dsimp only at hSw); go_simp; (try with_reducible rfl)); (try simp only [Act.put, List.setIfInBounds_toArray, List.set_cons_zero, List.set_cons_succ]))
      (refine wpAnyH_take (i := 12) (v := ?_) rfl (by kernel_rfl) (by kernel_rfl) (by kernel_rfl) (fun _ _ _ h => h) (Or.inl ⟨by rfl, ?_⟩) (by assumption) ?_; rotate_left; (intro W9 hSw; (try dsimp only at hSw); go_simp; (try with_reducible rfl)); (try simp only [Act.put, List.setIfInBounds_toArray, List.set_cons_zero, List.set_cons_succ]))
      (refine wpAnyH_take (i := 13) (v := ?_) rfl (by kernel_rfl) (by kernel_rfl) (by kernel_rfl) (fun _ _ _ h => h) (Or.inl ⟨by rfl, ?_⟩) (by assumption) ?_; rotate_left; (intro W9 hSw; (try dsimp only at hSw); go_simp; (try with_reducible rfl)); (try simp only [Act.put, List.setIfInBounds_toArray, List.set_cons_zero, List.set_cons_succ]))
      (refine wpAnyH_take (i := 14) (v := ?_) rfl (by kernel_rfl) (by kernel_rfl) (by kernel_rfl) (fun _ _ _ h => h) (Or.inl ⟨by rfl, ?_⟩) (by assumption) ?_; rotate_left; (intro W9 hSw; (try dsimp only at hSw); go_simp; (try with_reducible rfl)); (try simp only [Act.put, List.setIfInBounds_toArray, List.set_cons_zero, List.set_cons_succ]))
      refine wpAnyH_ready (rs := [8]) (by kernel_rfl) (by simp) ?_
      refine AllReadyH.cons rfl (fun K hK => ?_) AllReadyH.nil
      go_simp
      refine hK.out _ _ ⟨y1, x1, c2, c3⟩ (fun hHeld => ?_)
      clear hK K
      (try simp only [Act.put, List.setIfInBounds_toArray, List.set_cons_zero, List.set_cons_succ])
      refine wpAnyH_ready (rs := [15]) (by kernel_rfl) (by simp) ?_
      refine AllReadyH.cons rfl (fun K hK => ?_) AllReadyH.nil
      refine step_append_run rfl (.tmp 21) (.tmp 27) 93 rfl rfl rfl (unhide R4) ?_
      refine hK.out _ _ ⟨r4, r0, r3, r6⟩ (fun hHeld => ?_)
      clear hK K
      (try simp only [Act.put, List.setIfInBounds_toArray, List.set_cons_zero, List.set_cons_succ])
      (refine wpAnyH_take (i := 16) (v := ?_) rfl (by kernel_rfl) (by kernel_rfl) (by kernel_rfl) (fun _ _ _ h => h) (Or.inl ⟨by rfl, ?_⟩) (by assumption) ?_; rotate_left; (intro W9 hSw; (try dsimp only at hSw); go_simp; (try with_reducible rfl)); (try simp only [Act.put, List.setIfInBounds_toArray, List.set_cons_zero, List.set_cons_succ]))
      refine wpAnyH_ready (rs := [17]) (by kernel_rfl) (by simp) ?_
      refine AllReadyH.cons rfl (fun K hK => ?_) AllReadyH.nil
      go_simp
      refine hK.out _ _ ⟨r5, r2, r7, r8⟩ (fun hHeld => ?_)
      clear hK K
      (try simp only [Act.put, List.setIfInBounds_toArray, List.set_cons_zero, List.set_cons_succ])
      refine wpAnyH_ready (rs := [18]) (by kernel_rfl) (by simp) ?_
      refine AllReadyH.cons rfl (fun K hK => ?_) AllReadyH.nil
      refine step_append_run rfl (.tmp 14) (.tmp 30) 24 rfl rfl rfl (unhide R5) ?_
      refine hK.out _ _ ⟨z0, s0, z1, z2⟩ (fun hHeld => ?_)
      clear hK K
      (try simp only [Act.put, List.setIfInBounds_toArray, List.set_cons_zero, List.set_cons_succ])
      (refine wpAnyH_take (i := 19) (v := ?_) rfl (by kernel_rfl) (by kernel_rfl) (by kernel_rfl) (fun _ _ _ h => h) (Or.inl ⟨by rfl, ?_⟩) (by assumption) ?_; rotate_left; (intro W9 hSw; (try dsimp only at hSw); go_simp; (try with_reducible rfl)); (try simp only [Act.put, List.setIfInBounds_toArray, List.set_cons_zero, List.set_cons_succ]))
      refine wpAnyH_done (by kernel_rfl) ?_ _
      refine tailQ_run rfl rfl ?_
      go_simp
      clear hHeld
      go_wp2_with fail
      go_roundw
      case rel =>
        refine ⟨k + 1, .slice a5 (k + 1) c5, qs ++ [((n, ps), .slice pa4 ps.length pc4)], by omega, by go_num, ?_, ?_, ?_, ?_, by rw [List.map_append, unhide Hq, unhide Htk]; rfl, ?_⟩
        · have q := (unhide HK6).set 0 (.slice a5 (k + 1) c5)
          exact q
        · exact ((unhide Ka).below (unhide X5) (by omega)).other (by show w.heap.size ≠ w.heap.size + 1 + 1; omega) _
        · exact ((unhide Kr).below (unhide X5) (by omega)).other (by show w.heap.size + 1 ≠ w.heap.size + 1 + 1; omega) _
        · exact (unhide HP5).same fun i h0 hi => heap_setCell_other _ _ _ _ (by show i ≠ w.heap.size + 1 + 1; omega)
        · exact ((unhide Hb).trans ((unhide X5).mono (by omega))).setCell (by show _ ≤ w.heap.size + 1 + 1; omega) _
      case measure => simp [intOf]; omega
    · obtain rfl : k = rs.length := by omega
      have r0 := kr.cell (i := 0) rfl
      have r1 := kr.free 0
      go_wp2_with fail
      rw [List.take_length] at hq
      refine bodyPost_ret (v := .agg #[.slice ua rs.length uc]) (by simp [results, Tryz.results66, go_sem, *]) rfl ⟨_, qs, rfl, hq, ?_, ?_⟩
      · exact (ho.same fun i h0 hi => heap_setCell_other _ _ _ _ (by show i ≠ w.heap.size + 1; omega)).mono (by omega)
      · exact hb.setCell (by show _ ≤ w.heap.size + 1; omega) _

end Go.Proofs.YtmhagllddhjgmaaGreat

