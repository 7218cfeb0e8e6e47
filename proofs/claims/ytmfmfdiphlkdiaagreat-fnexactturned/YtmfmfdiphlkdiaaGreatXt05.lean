/- What the proof rests on, part 5: lists and numbers, how they lie in memory, and contracts of the calls. No condition but those that a theorem names. -/
import Derived.Test.YtmfmfdiphlkdiaaGreatXt01
import Derived.Test.YtmfmfdiphlkdiaaGreatXt02
import Derived.Test.YtmfmfdiphlkdiaaGreatXt03
import Derived.Test.YtmfmfdiphlkdiaaGreatXt04
import Derived.Deep.DrawnRows
import Derived.BigRegion
import Derived.Deep.RegionLawGrows
import Derived.Deep.DeepCutAuto
import Derived.Lib.QuietBelow
import Derived.Deep.RegionWith
import Derived.Deep.QuietTactic
import Derived.BigQuiet
import Derived.Laws.StructEq
import Derived.WalkKit
import Derived.ProofKit
import Derived.OpenShut
import Derived.Outline
import Derived.Laws.OwnMore
import Derived.OwnWalk
import Derived.Maps.AppendAt
import Derived.Lib.SmallJoins
import Derived.Deep.Fields
import Derived.Deep.Slices
import Derived.OrdersHeld
import Derived.Deep.RegionHeldLaw
/- The model's copies of halls and guilds (l4Copy, l8Copy): what they read as, in memory of the call's own. Conditions: the slices can be read; what each theorem names. -/
namespace Go.Proofs.YtmfmfdiphlkdiaaGreat
open Go.ChangeShapes Go.WideShapes Go.ChangeAt Go.RowKit Go.Sort
set_option linter.unusedVariables false
set_option linter.unusedSimpArgs false

def encPace (p : PaceV) : List Value := [.int .i64 p.1, .int .i64 p.2]
theorem encPace_len (p : PaceV) : (encPace p).length = 2 := rfl
theorem tyPace : RecTy 143 2 (.agg #[.int .i64 0, .int .i64 0]) encPace := ⟨by kernel_rfl, rfl, encPace_len, by omega, by omega, fun x u hu => by
  simp only [encPace, List.mem_cons, List.not_mem_nil, or_false] at hu
  rcases hu with rfl | rfl <;> rfl⟩
theorem IsPaces.rec {w : World} {v : Value} {ps : List PaceV} (h : IsPaces w v ps) : IsRec 2 encPace w v ps := by
  obtain ⟨a, cap, rfl, hc, hm, hr⟩ := h
  refine ⟨a, cap, rfl, hc, hm, ?_⟩
  rcases hr with hr | ⟨b, off, rfl, hlt, hcl⟩
  · exact .inl hr
  · refine .inr ⟨b, off, rfl, hlt, fun j hj i u hu => ?_⟩
    obtain ⟨c0, c1⟩ := hcl j hj
    have e : recAt ps j = paceAt ps j := by unfold recAt paceAt; simp [List.getD, hj]
    rw [e] at hu
    match i, hu with
    | 0, hu => obtain rfl : u = _ := by simpa [encPace] using hu.symm
               exact c0
    | 1, hu => obtain rfl : u = _ := by simpa [encPace] using hu.symm
               exact c1
    | i + 2, hu => simp [encPace] at hu

theorem own_shape {B t sz n : Nat} {w : World} {v : Value} {xs : List Value} (h : w.ownsRow B t sz v n xs) : ∃ a cap, v = .slice a n cap := by
  rcases h.2 with ⟨rfl, hz⟩ | ⟨g, cap, cur, rfl, _⟩
  · exact ⟨none, 0, by rw [hz]⟩
  · exact ⟨_, cap, rfl⟩
theorem run_append_room {w : World} {base t ty : Nat} (ht : Tryz.prog.underlying t = some (.slice 130)) {v : Value} {n : Nat} {xs : List Value} (hown : w.ownsRow base 130 2 v n xs) {g c : Nat} {rb : Int} {pv : Value} (h0 : w.cell? ⟨g, 0, none⟩ = some (.int .i64 rb)) (h1 : w.cell? ⟨g, 1, none⟩ = some pv) (h1c : pv.oneCell' = true) (hn : n ≤ 4000) (hbase : base ≤ w.heap.size) :
    ∃ v' w', (Builtin.append_ #[t, t] ty #[v, .slice (some ⟨g, 0, none⟩) 1 c]).run Tryz.prog w = .ok v' w' ∧ w'.ownsRow base 130 2 v' (n + 1) (xs ++ [.int .i64 rb, pv]) ∧ w.grownBy w' v.ownBlock ∧ (v'.ownBlock = v.ownBlock ∨ v'.ownBlock = some w.heap.size) := by
  obtain ⟨i0, hi, hz0, hz1, hz2⟩ := parts_of infoRoom2
  obtain ⟨v', w', hr, h2, h3, _, h5⟩ := run_append_own_at (P := Tryz.prog) w base t ty 130 i0 (.agg #[.int .i64 0, .slice none 0 0]) 2 32 ht hi hz0 hz1 hz2 rfl (by omega) v n xs hown ⟨g, 0, none⟩ 1 c [.int .i64 rb, pv] rfl
    (fun j u hu => by
      match j, hu with
      | 0, hu => obtain rfl : u = _ := by simpa using hu.symm
                 rw [addr_to]; exact h0
      | 1, hu => obtain rfl : u = _ := by simpa using hu.symm
                 rw [addr_to]; exact h1
      | j + 2, hu => simp at hu)
    (fun u hu => by
      simp only [List.mem_cons, List.not_mem_nil, or_false] at hu
      rcases hu with rfl | rfl
      · rfl
      · exact h1c) (by simp only [maxLen]; omega) (by omega) hbase
  exact ⟨v', w', hr, h2, h3, h5⟩
/-- At a step of a region that draws its order: an append whose run is known. -/
theorem step_append_run {ops : Array Oper} {o : Oper} {a : Act} {w : World} {K : Act → World → Prop} {Q : Exit → Act → World → Prop} {E : Prop} (hgd : o.guard = none) (s x : Operand) (t : TypeId)
    (ho : o.op = .call { callee := .builtin .append, args := #[s, x], argTypes := #[t, t] }) {v u v' : Value} {w' : World} (hs : a.eval s = v) (hx : a.eval x = u) (hrun : (Builtin.append_ #[t, t] o.type #[v, u]).run Tryz.prog w = .ok v' w')
    (h : K (a.put o.dst v') w') : if Region.wanted o (yielded ops a.tmps) = true then Oper.wp Tryz.prog o a w K Q else E := by
  have hw : Region.wanted o (yielded ops a.tmps) = true := by simp [Region.wanted, hgd]
  rw [if_pos hw]
  unfold Oper.wp execOp
  simp only [ho, resolve, invoke, builtin, Sem.run_bind, Sem.run_pure, Result.andThen_ok, List.map_toArray, List.map_cons, List.map_nil, hs, hx, hrun]
  exact h

set_option maxRecDepth 100000 in
set_option maxHeartbeats 4000000 in
theorem l4Copy_any {w : World} {v : Value} {rs : List RoomV} (h : IsRooms w v rs) (hl : rs.length ≤ 1000) (hp : ∀ r ∈ rs, r.2.length ≤ 1000) :
    Calls Tryz.prog 136 #[.agg #[v]] w fun e w' => ∃ v' qs, e = .returned (.agg #[v']) ∧ qs.map (·.1) = rs ∧ OwnHall w.heap.size w' v' qs ∧ Below w.heap.size w w' := by
  have Hv := hide h
  obtain ⟨a, cap, rfl, hc, hm, hr⟩ := h
  have Hr := hide hr
  have HP := hide hp
  clear hr hp
  go_enter Tryz.func136, Tryz.ntmps136
  go_wp2_with fail
  go_loopw [4] (fun i wr => ∃ (k : Nat) (u : Value) (qs : List (RoomV × Value)), k ≤ rs.length ∧ i = .int .i64 k ∧ Blk wr (w.heap.size + 1 + 1) 26 #[u] ∧ Blk wr w.heap.size 26 #[.slice a rs.length cap] ∧ Blk wr (w.heap.size + 1) 26 #[.slice none 0 0] ∧ OwnHall (w.heap.size + 3) wr u qs ∧ qs.map (·.1) = rs.take k ∧ Below w.heap.size w wr) (fun i _ => rs.length - (intOf i).toNat)
  case atStart =>
    refine ⟨0, _, [], Nat.zero_le _, rfl, ?_, ((Blk.new w _ _).alloc _).alloc _, ?_, OwnHall.nil _ _, rfl, (((Below.refl _ _).alloc (Nat.le_refl _) _).alloc (by simp) _).alloc (by simp; omega) _⟩
    · have k := Blk.new ((w.alloc (.cells #[.slice a rs.length cap] 26)).alloc (.cells #[.slice none 0 0] 26)) 26 #[.slice none 0 0]
      rw [World.size_alloc, World.size_alloc] at k
      exact k
    · have k := Blk.new (w.alloc (.cells #[.slice a rs.length cap] 26)) 26 #[.slice none 0 0]
      rw [World.size_alloc] at k
      exact k.alloc _
  case round =>
    obtain ⟨k, u, qs, hk, rfl, ko, ka, kr, ho, hq, hb⟩ := hrel
    have hql : qs.length = k := by have := congrArg List.length hq; simp at this; omega
    obtain ⟨ua, uc, rfl⟩ := ho.shape
    have Hql := hide hql
    rw [hql] at ko ho
    clear hql
    have Ko := hide ko
    have Ka := hide ka
    have Kr := hide kr
    have Ho := hide ho
    have Hq := hide hq
    have Hb := hide hb
    have x0 := ko.cell (i := 0) rfl
    have f0 := ko.free 0
    have y0 := ka.cell (i := 0) rfl
    have hsz := ko.lt
    by_cases hlt : k < rs.length
    · rcases unhide Hr with e0 | ⟨b, off, rfl, hbw, hcl⟩
      · rw [e0] at hlt; simp at hlt
      obtain ⟨c0, pv, c1, hpv⟩ := hcl k hlt
      rw [← hb.cell (p := ⟨b, off + k * 2, none⟩) hbw] at c0
      rw [← hb.cell (p := ⟨b, off + k * 2 + 1, none⟩) hbw] at c1
      have Hpv := hide (hpv.below (hb.mono (Nat.le_refl _)))
      have hpl := unhide HP (roomAt rs k) (by unfold roomAt; simp [List.getD, hlt])
      have Htk : Hid (rs.take (k + 1) = rs.take k ++ [roomAt rs k]) := hide (by rw [List.take_succ_eq_append_getElem hlt]; unfold roomAt; simp [List.getD, hlt])
      generalize roomAt rs k = r at *
      obtain ⟨n, ps⟩ := r
      simp only at c0 hpl hpv
      obtain ⟨pa, pc, rfl, _, _, _⟩ := hpv
      have hbw' : b < wr.heap.size := by have := hb.size; omega
      clear hcl ko ka kr ho hq hb
      have x1 := ((unhide Ko).alloc (.cells #[] 143)).cell (i := 0) rfl
      have f1 := ((unhide Ko).alloc (.cells #[] 143)).free 0
      have y1 := ((unhide Ka).alloc (.cells #[] 143)).cell (i := 0) rfl
      have c2 := (((Below.refl wr.heap.size wr).alloc (Nat.le_refl _) (.cells #[] 143)).cell (p := ⟨b, off + k * 2, none⟩) hbw').trans c0
      have c3 := (((Below.refl wr.heap.size wr).alloc (Nat.le_refl _) (.cells #[] 143)).cell (p := ⟨b, off + k * 2 + 1, none⟩) hbw').trans c1
      have HA : Hid (Below wr.heap.size wr (wr.alloc (.cells #[] 143))) := hide ((Below.refl wr.heap.size wr).alloc (Nat.le_refl _) _)
      obtain ⟨v4, w4, hrun4, hown4, hg4, hat4⟩ := run_append_recs tyPace (w := (wr.alloc (.cells #[] 143)).drew) (t := 128) (ty := 128) (base := wr.heap.size) Tryz.underlying128 (RecAt.later (recs_empty (w := wr) rfl (Nat.le_refl _)) (Below.refl _ _).drew) (IsPaces.rec ((unhide Hpv).below (unhide HA).drew)) (by simp; omega) (by simp)
      rw [List.nil_append] at hown4
      have X4 : Below wr.heap.size wr w4 := (unhide HA).drew.trans ((Below.refl _ _).grown hg4 (by simp) (fun i e => by cases e; exact Nat.le_refl _))
      obtain ⟨pa4, pc4, rfl⟩ := RecAt.shape hown4
      have hk4 := (unhide Ko).below X4 (unhide Ko).lt
      have hz4 := X4.size
      have r0 := hk4.cell (i := 0) rfl
      have r1 := hk4.free 0
      have hk5 := hk4.alloc (.cells #[.int .i64 n, .slice pa4 ps.length pc4] 130)
      have r2 := hk5.cell (i := 0) rfl
      have r3 := (X4.cell (p := ⟨b, off + k * 2, none⟩) hbw').trans c0
      have r4 := ((unhide Ka).below X4 (unhide Ka).lt).cell (i := 0) rfl
      have r5 := (((unhide Ka).below X4 (unhide Ka).lt).alloc (.cells #[.int .i64 n, .slice pa4 ps.length pc4] 130)).cell (i := 0) rfl
      have HO4 := hide hown4
      have HX4 := hide X4
      obtain ⟨v5, w5, hrun5, hown5, hg5, hat5⟩ := run_append_room (w := w4.alloc (.cells #[.int .i64 n, .slice pa4 ps.length pc4] 130)) (t := 24) (ty := 24) (base := w.heap.size + 3) (v := .slice ua k uc) (n := k) (xs := rcells qs) Tryz.underlying24 (World.ownsRow.alloc (by have h9 := ((unhide Ho).later (unhide HX4)).row; rw [unhide Hql] at h9; exact h9) _) (g := w4.heap.size) (c := 1) (cell_new w4 (i := 0) rfl) (cell_new w4 (i := 1) rfl) rfl (by omega) (by simp; omega)
      obtain ⟨a5, c5, rfl⟩ := own_shape hown5
      have hn5 : ∀ i, (Value.slice ua k uc).ownBlock = some i → w.heap.size + 3 ≤ i := fun i e => ((unhide Ho).lt (.inl e)).1
      have hk6 := hk5.same (w' := w5) (hg5.block _ hk5.lt (fun e => by have := hn5 _ e.symm; omega))
      have s0 := hk6.cell (i := 0) rfl
      have s1 := hk6.free 0
      have HK6 := hide hk6
      have HO5 := hide hown5
      have HG5 := hide hg5
      have HA5 := hide hat5
      have X5 : Hid (Below (w.heap.size + 1 + 1 + 1) wr w5) := hide (by
        have q1 : Below wr.heap.size wr w4 := unhide HX4
        have q2 : Below w4.heap.size w4 (w4.alloc (.cells #[.int .i64 n, .slice pa4 ps.length pc4] 130)) := (Below.refl _ _).alloc (Nat.le_refl _) _
        have q3 : Below (w.heap.size + 1 + 1 + 1) (w4.alloc (.cells #[.int .i64 n, .slice pa4 ps.length pc4] 130)) w5 := (Below.refl _ _).grown (unhide HG5) (by have := q1.size; simp; omega) (fun i e => by have := ((unhide Ho).lt (.inl e)).1; omega)
        exact ((q1.mono (by omega)).trans (q2.mono (by have := q1.size; omega))).trans q3)
      have hp5 : OwnHall (w.heap.size + 3) w5 (.slice a5 (k + 1) c5) (qs ++ [((n, ps), .slice pa4 ps.length pc4)]) := by
        have q1 : OwnHall (w.heap.size + 3) w4 (.slice ua k uc) qs := (unhide Ho).later (unhide HX4)
        have q2 : PacesAt wr.heap.size w4 (.slice pa4 ps.length pc4) ps := unhide HO4
        have q3 : PacesAt (w.heap.size + 3) w4 (.slice pa4 ps.length pc4) ps := q2.mono (by omega)
        refine OwnHall.push (w := w4) (w1 := w5) (v := .slice ua k uc) (o := .cells #[.int .i64 n, .slice pa4 ps.length pc4] 130) q1 q3 ?_ ?_ ?_ (unhide HG5) (unhide HA5)
        · intro b' e e'
          have h8 := (q2.lt e).1
          have h9 := ((unhide Ho).lt (.inl e')).2
          omega
        · intro q hq' b' e e'
          have h8 := (q2.lt e').1
          have h9 := ((unhide Ho).lt (.inr ⟨q, hq', e⟩)).2
          omega
        · rw [unhide Hql]; exact unhide HO5
      have HP5 := hide hp5
      have z0 := ((unhide Ka).below (unhide X5) (by omega)).cell (i := 0) rfl
      have z1 := ((unhide X5).cell (p := ⟨b, off + k * 2, none⟩) (show b < w.heap.size + 1 + 1 + 1 by omega)).trans c0
      have z2 := ((unhide X5).cell (p := ⟨b, off + k * 2 + 1, none⟩) (show b < w.heap.size + 1 + 1 + 1 by omega)).trans c1
      have r6 := ((unhide HX4).cell (p := ⟨b, off + k * 2 + 1, none⟩) hbw').trans c1
      have r7 : (w4.alloc (.cells #[.int .i64 n, .slice pa4 ps.length pc4] 130)).cell? ⟨b, off + k * 2, none⟩ = some (.int .i64 n) := (((Below.refl w4.heap.size w4).alloc (Nat.le_refl _) _).cell (p := ⟨b, off + k * 2, none⟩) (by show b < w4.heap.size; omega)).trans r3
      have r8 : (w4.alloc (.cells #[.int .i64 n, .slice pa4 ps.length pc4] 130)).cell? ⟨b, off + k * 2 + 1, none⟩ = some (.slice pa ps.length pc) := (((Below.refl w4.heap.size w4).alloc (Nat.le_refl _) _).cell (p := ⟨b, off + k * 2 + 1, none⟩) (by show b < w4.heap.size; omega)).trans r6
      have t0 : (w5.setCell ⟨w.heap.size + 1 + 1, 0, none⟩ (.slice a5 (k + 1) c5)).cell? ⟨w.heap.size, 0, none⟩ = some (.slice (some ⟨b, off, none⟩) rs.length cap) := (World.cell?_setCell_other _ _ _ _ (by simp)).trans z0
      have t1 : (w5.setCell ⟨w.heap.size + 1 + 1, 0, none⟩ (.slice a5 (k + 1) c5)).cell? ⟨b, off + k * 2, none⟩ = some (.int .i64 n) := (World.cell?_setCell_other _ _ _ _ (fun e => by have := congrArg Addr.block e; simp at this; omega)).trans z1
      have t2 : (w5.setCell ⟨w.heap.size + 1 + 1, 0, none⟩ (.slice a5 (k + 1) c5)).cell? ⟨b, off + k * 2 + 1, none⟩ = some (.slice pa ps.length pc) := (World.cell?_setCell_other _ _ _ _ (fun e => by have := congrArg Addr.block e; simp at this; omega)).trans z2
      have R4 := hide hrun4
      have R5 := hide hrun5
      clear hown5 hg5 hat5 hk5 hn5 hk6 hown4 X4 hg4 hat4 hk4 hrun4 hrun5 hp5
      go_wp2_with fail
      refine wp_region_last (S := fun w' => w'.cell? ⟨w.heap.size, 0, none⟩ = some (.slice (some ⟨b, off, none⟩) rs.length cap) ∧ w'.cell? ⟨w.heap.size + 1 + 1, 0, none⟩ = some (.slice ua k uc) ∧ w'.cell? ⟨b, off + k * 2, none⟩ = some (.int .i64 n) ∧ w'.cell? ⟨b, off + k * 2 + 1, none⟩ = some (.slice pa ps.length pc)) (by kernel_rfl) (List.cons_ne_nil _ _) (by kernel_rfl) ⟨y0, x0, c0, c1⟩ (fun hHeld => ?_)
      simp only [List.dropLast_cons_cons, List.dropLast_singleton, List.length_cons, List.length_nil, Nat.zero_add, Nat.reduceAdd]
      (refine wpAnyH_take (i := 0) (v := ?_) rfl (by kernel_rfl) (by kernel_rfl) (by kernel_rfl) (fun _ _ _ h => h) (Or.inl ⟨by rfl, ?_⟩) (by assumption) ?_; rotate_left; (intro W9 hSw; (try dsimp only at hSw); go_simp; (try with_reducible rfl)); (try simp only [Act.put, List.setIfInBounds_toArray, List.set_cons_zero, List.set_cons_succ]))
      (refine wpAnyH_take (i := 1) (v := ?_) rfl (by kernel_rfl) (by kernel_rfl) (by kernel_rfl) (fun _ _ _ h => h) (Or.inl ⟨by rfl, ?_⟩) (by assumption) ?_; rotate_left; (intro W9 hSw; (try dsimp only at hSw); go_simp; (try with_reducible rfl)); (try simp only [Act.put, List.setIfInBounds_toArray, List.set_cons_zero, List.set_cons_succ]))
      (refine wpAnyH_take (i := 2) (v := ?_) rfl (by kernel_rfl) (by kernel_rfl) (by kernel_rfl) (fun _ _ _ h => h) (Or.inl ⟨by rfl, ?_⟩) (by assumption) ?_; rotate_left; (intro W9 hSw; (try dsimp only at hSw); go_simp; (try with_reducible rfl)); (try simp only [Act.put, List.setIfInBounds_toArray, List.set_cons_zero, List.set_cons_succ]))
      (refine wpAnyH_take (i := 3) (v := ?_) rfl (by kernel_rfl) (by kernel_rfl) (by kernel_rfl) (fun _ _ _ h => h) (Or.inl ⟨by rfl, ?_⟩) (by assumption) ?_; rotate_left; (intro W9 hSw; (try dsimp only at hSw); go_simp; (try with_reducible rfl)); (try simp only [Act.put, List.setIfInBounds_toArray, List.set_cons_zero, List.set_cons_succ]))
      (refine wpAnyH_take (i := 4) (v := ?_) rfl (by kernel_rfl) (by kernel_rfl) (by kernel_rfl) (fun _ _ _ h => h) (Or.inl ⟨by rfl, ?_⟩) (by assumption) ?_; rotate_left; (intro W9 hSw; (try dsimp only at hSw); go_simp; (try with_reducible rfl)); (try simp only [Act.put, List.setIfInBounds_toArray, List.set_cons_zero, List.set_cons_succ]))
      (refine wpAnyH_take (i := 5) (v := ?_) rfl (by kernel_rfl) (by kernel_rfl) (by kernel_rfl) (fun _ _ _ h => h) (Or.inl ⟨by rfl, ?_⟩) (by assumption) ?_; rotate_left; (intro W9 hSw; (try dsimp only at hSw); go_simp; (try with_reducible rfl)); (try simp only [Act.put, List.setIfInBounds_toArray, List.set_cons_zero, List.set_cons_succ]))
      (refine wpAnyH_take (i := 6) (v := ?_) rfl (by kernel_rfl) (by kernel_rfl) (by kernel_rfl) (fun _ _ _ h => h) (Or.inl ⟨by rfl, ?_⟩) (by assumption) ?_; rotate_left; (intro W9 hSw; (try dsimp only at hSw); go_simp; (try with_reducible rfl)); (try simp only [Act.put, List.setIfInBounds_toArray, List.set_cons_zero, List.set_cons_succ]))
      (refine wpAnyH_take (i := 7) (v := ?_) rfl (by kernel_rfl) (by kernel_rfl) (by kernel_rfl) (fun _ _ _ h => h) (Or.inl ⟨by rfl, ?_⟩) (by assumption) ?_; rotate_left; (intro W9 hSw; (try dsimp only at hSw); go_simp; (try with_reducible rfl)); (try simp only [Act.put, List.setIfInBounds_toArray, List.set_cons_zero, List.set_cons_succ]))
      (refine wpAnyH_take (i := 9) (v := ?_) rfl (by kernel_rfl) (by kernel_rfl) (by kernel_rfl) (fun _ _ _ h => h) (Or.inl ⟨by rfl, ?_⟩) (by assumption) ?_; rotate_left; (intro W9 hSw; (try dsimp only at hSw); go_simp; (try with_reducible rfl)); (try simp only [Act.put, List.setIfInBounds_toArray, List.set_cons_zero, List.set_cons_succ]))
      (refine wpAnyH_take (i := 10) (v := ?_) rfl (by kernel_rfl) (by kernel_rfl) (by kernel_rfl) (fun _ _ _ h => h) (Or.inl ⟨by rfl, ?_⟩) (by assumption) ?_; rotate_left; (intro W9 hSw; (try dsimp only at hSw); go_simp; (try with_reducible rfl)); (try simp only [Act.put, List.setIfInBounds_toArray, List.set_cons_zero, List.set_cons_succ]))
      (refine wpAnyH_take (i := 11) (v := ?_) rfl (by kernel_rfl) (by kernel_rfl) (by kernel_rfl) (fun _ _ _ h => h) (Or.inl ⟨by rfl, ?_⟩) (by assumption) ?_; rotate_left; (intro W9 hSw; (try dsimp only at hSw); go_simp; (try with_reducible rfl)); (try simp only [Act.put, List.setIfInBounds_toArray, List.set_cons_zero, List.set_cons_succ]))
      (refine wpAnyH_take (i := 12) (v := ?_) rfl (by kernel_rfl) (by kernel_rfl) (by kernel_rfl) (fun _ _ _ h => h) (Or.inl ⟨by rfl, ?_⟩) (by assumption) ?_; rotate_left; (intro W9 hSw; (try dsimp only at hSw); go_simp; (try with_reducible rfl)); (try simp only [Act.put, List.setIfInBounds_toArray, List.set_cons_zero, List.set_cons_succ]))
      (refine wpAnyH_take (i := 13) (v := ?_) rfl (by kernel_rfl) (by kernel_rfl) (by kernel_rfl) (fun _ _ _ h => h) (Or.inl ⟨by rfl, ?_⟩) (by assumption) ?_; rotate_left; (intro W9 hSw; (try dsimp only at hSw); go_simp; (try with_reducible rfl)); (try simp only [Act.put, List.setIfInBounds_toArray, List.set_cons_zero, List.set_cons_succ]))
      (refine wpAnyH_take (i := 14) (v := ?_) rfl (by kernel_rfl) (by kernel_rfl) (by kernel_rfl) (fun _ _ _ h => h) (Or.inl ⟨by rfl, ?_⟩) (by assumption) ?_; rotate_left; (intro W9 hSw; (try dsimp only at hSw); go_simp; (try with_reducible rfl)); (try simp only [Act.put, List.setIfInBounds_toArray, List.set_cons_zero, List.set_cons_succ]))
      refine wpAnyH_ready (rs := [8]) (by kernel_rfl) (by simp) ?_
      refine AllReadyH.cons rfl (fun K hK => ?_) AllReadyH.nil
      go_simp
      refine hK.out _ _ ⟨y1, x1, c2, c3⟩ (fun hHeld => ?_)
      clear hK K
      (try simp only [Act.put, List.setIfInBounds_toArray, List.set_cons_zero, List.set_cons_succ])
      refine wpAnyH_ready (rs := [15]) (by kernel_rfl) (by simp) ?_
      refine AllReadyH.cons rfl (fun K hK => ?_) AllReadyH.nil
      refine step_append_run rfl (.tmp 21) (.tmp 27) 128 rfl rfl rfl (unhide R4) ?_
      refine hK.out _ _ ⟨r4, r0, r3, r6⟩ (fun hHeld => ?_)
      clear hK K
      (try simp only [Act.put, List.setIfInBounds_toArray, List.set_cons_zero, List.set_cons_succ])
      (refine wpAnyH_take (i := 16) (v := ?_) rfl (by kernel_rfl) (by kernel_rfl) (by kernel_rfl) (fun _ _ _ h => h) (Or.inl ⟨by rfl, ?_⟩) (by assumption) ?_; rotate_left; (intro W9 hSw; (try dsimp only at hSw); go_simp; (try with_reducible rfl)); (try simp only [Act.put, List.setIfInBounds_toArray, List.set_cons_zero, List.set_cons_succ]))
      refine wpAnyH_ready (rs := [17]) (by kernel_rfl) (by simp) ?_
      refine AllReadyH.cons rfl (fun K hK => ?_) AllReadyH.nil
      go_simp
      refine hK.out _ _ ⟨r5, r2, r7, r8⟩ (fun hHeld => ?_)
      clear hK K
      (try simp only [Act.put, List.setIfInBounds_toArray, List.set_cons_zero, List.set_cons_succ])
      refine wpAnyH_ready (rs := [18]) (by kernel_rfl) (by simp) ?_
      refine AllReadyH.cons rfl (fun K hK => ?_) AllReadyH.nil
      refine step_append_run rfl (.tmp 14) (.tmp 30) 24 rfl rfl rfl (unhide R5) ?_
      refine hK.out _ _ ⟨z0, s0, z1, z2⟩ (fun hHeld => ?_)
      clear hK K
      (try simp only [Act.put, List.setIfInBounds_toArray, List.set_cons_zero, List.set_cons_succ])
      (refine wpAnyH_take (i := 19) (v := ?_) rfl (by kernel_rfl) (by kernel_rfl) (by kernel_rfl) (fun _ _ _ h => h) (Or.inl ⟨by rfl, ?_⟩) (by assumption) ?_; rotate_left; (intro W9 hSw; (try dsimp only at hSw); go_simp; (try with_reducible rfl)); (try simp only [Act.put, List.setIfInBounds_toArray, List.set_cons_zero, List.set_cons_succ]))
      refine wpAnyH_done (by kernel_rfl) ?_ _
      refine tailQ_run rfl rfl ?_
      go_simp
      clear hHeld
      go_wp2_with fail
      go_roundw
      case rel =>
        refine ⟨k + 1, .slice a5 (k + 1) c5, qs ++ [((n, ps), .slice pa4 ps.length pc4)], by omega, by go_num, ?_, ?_, ?_, ?_, by rw [List.map_append, unhide Hq, unhide Htk]; rfl, ?_⟩
        · have q := (unhide HK6).set 0 (.slice a5 (k + 1) c5)
          exact q
        · exact ((unhide Ka).below (unhide X5) (by omega)).other (by show w.heap.size ≠ w.heap.size + 1 + 1; omega) _
        · exact ((unhide Kr).below (unhide X5) (by omega)).other (by show w.heap.size + 1 ≠ w.heap.size + 1 + 1; omega) _
        · exact (unhide HP5).same fun i h0 hi => heap_setCell_other _ _ _ _ (by show i ≠ w.heap.size + 1 + 1; omega)
        · exact ((unhide Hb).trans ((unhide X5).mono (by omega))).setCell (by show _ ≤ w.heap.size + 1 + 1; omega) _
      case measure => simp [intOf]; omega
    · obtain rfl : k = rs.length := by omega
      have r0 := kr.cell (i := 0) rfl
      have r1 := kr.free 0
      go_wp2_with fail
      rw [List.take_length] at hq
      refine bodyPost_ret (v := .agg #[.slice ua rs.length uc]) (by simp [results, Tryz.results136, go_sem, *]) rfl ⟨_, qs, rfl, hq, ?_, ?_⟩
      · exact (ho.same fun i h0 hi => heap_setCell_other _ _ _ _ (by show i ≠ w.heap.size + 1; omega)).mono (by omega)
      · exact hb.setCell (by show _ ≤ w.heap.size + 1; omega) _

end Go.Proofs.YtmfmfdiphlkdiaaGreat

/- The model's copy of a smithy (l11Copy): it reads as the smithy does, in memory of the call's own, no two rows of it in one block. Conditions: the smithy can be read; nothing in it is longer than a thousand. -/
namespace Go.Proofs.YtmfmfdiphlkdiaaGreat
open Go.ChangeShapes Go.WideShapes Go.ChangeAt Go.RowKit Go.Sort
set_option linter.unusedVariables false

theorem tyG : RecTy 91 3 (.agg #[.int .i64 0, .int .i64 0, .int .i64 0]) encGuild := ⟨by kernel_rfl, rfl, encGuild_len, by omega, by omega, fun x u hu => by
  simp only [encGuild, List.mem_cons, List.not_mem_nil, or_false] at hu
  rcases hu with rfl | rfl | rfl <;> rfl⟩
theorem tyS : RecTy 41 11 (.agg #[.int .i64 0, .int .i64 0, .int .i64 0, .int .i64 0, .int .i64 0, .int .i64 0, .int .i64 0, .int .i64 0, .int .i64 0, .int .i64 0, .int .i64 0]) encSmith := ⟨by kernel_rfl, rfl, encSmith_len, by omega, by omega, fun x u hu => by
  simp only [encSmith, List.mem_cons, List.not_mem_nil, or_false] at hu
  rcases hu with rfl | rfl | rfl | rfl | rfl | rfl | rfl | rfl | rfl | rfl | rfl <;> rfl⟩
theorem tyD : RecTy 55 3 (.agg #[.bool false, .int .i64 0, .int .i64 0]) encDesk := ⟨by kernel_rfl, rfl, encDesk_len, by omega, by omega, fun x u hu => by
  simp only [encDesk, List.mem_cons, List.not_mem_nil, or_false] at hu
  rcases hu with rfl | rfl | rfl <;> rfl⟩
theorem tyN : RecTy 2 1 (.int .i64 0) encNum := ⟨by kernel_rfl, rfl, encNum_len, by omega, by omega, fun x u hu => by
  simp only [encNum, List.mem_cons, List.not_mem_nil, or_false] at hu
  rcases hu with rfl <;> rfl⟩

/-- Nothing in it is longer than a thousand. -/
structure Few (m : SmyV) : Prop where
  rooms : m.rooms.length ≤ 1000
  paces : ∀ r ∈ m.rooms, r.2.length ≤ 1000
  guilds : m.guilds.length ≤ 1000
  smiths : m.smiths.length ≤ 800
  desks : m.desks.length ≤ 1000
  nums : m.paces.length ≤ 1000

theorem full_of {n₀ : Nat} {w : World} {v0 v1 v2 v3 v4 : Value} {m : SmyV} {qs : List (RoomV × Value)} (s0 s1 s2 s3 : Nat) (hh : OwnHall n₀ w v0 qs) (hr : qs.map (·.1) = m.rooms) (hg : GuildsAt n₀ w v1 m.guilds) (hs : SmithsAt n₀ w v2 m.smiths) (hd : DesksAt n₀ w v3 m.desks) (hp : NumsAt n₀ w v4 m.paces)
    (l0 : ∀ b, (v0.ownBlock = some b ∨ ∃ q ∈ qs, q.2.ownBlock = some b) → b < s0) (l1 : ∀ b, v1.ownBlock = some b → s0 ≤ b ∧ b < s1) (l2 : ∀ b, v2.ownBlock = some b → s1 ≤ b ∧ b < s2) (l3 : ∀ b, v3.ownBlock = some b → s2 ≤ b ∧ b < s3) (l4 : ∀ b, v4.ownBlock = some b → s3 ≤ b) (h1 : s0 ≤ s1) (h2 : s1 ≤ s2) (h3 : s2 ≤ s3) :
    FullSmy n₀ w v0 v1 v2 v3 v4 m qs := by
  refine ⟨hh, hr, hg, hs, hd, hp, ⟨?_, ?_⟩, ⟨?_, ?_⟩, ⟨?_, ?_⟩, ⟨?_, ?_⟩, ?_, ?_, ?_, ?_, ?_, ?_⟩
  · intro b e e'; have := (l1 b e).1; have := l0 b (.inl e'); omega
  · intro q hq b e e'; have := (l1 b e).1; have := l0 b (.inr ⟨q, hq, e'⟩); omega
  · intro b e e'; have := (l2 b e).1; have := l0 b (.inl e'); omega
  · intro q hq b e e'; have := (l2 b e).1; have := l0 b (.inr ⟨q, hq, e'⟩); omega
  · intro b e e'; have := (l3 b e).1; have := l0 b (.inl e'); omega
  · intro q hq b e e'; have := (l3 b e).1; have := l0 b (.inr ⟨q, hq, e'⟩); omega
  · intro b e e'; have := l4 b e; have := l0 b (.inl e'); omega
  · intro q hq b e e'; have := l4 b e; have := l0 b (.inr ⟨q, hq, e'⟩); omega
  · intro b e e'; have := l1 b e; have := l2 b e'; omega
  · intro b e e'; have := l1 b e; have := l3 b e'; omega
  · intro b e e'; have := l1 b e; have := l4 b e'; omega
  · intro b e e'; have := l2 b e; have := l3 b e'; omega
  · intro b e e'; have := l2 b e; have := l4 b e'; omega
  · intro b e e'; have := l3 b e; have := l4 b e'; omega

set_option maxHeartbeats 1000000 in
theorem l8Copy_any {w : World} {v : Value} {ps : List GuildV} (h : IsGuilds w v ps) (hl : ps.length ≤ 1000) :
    Calls Tryz.prog 137 #[v] w fun e w' => ∃ v', e = .returned v' ∧ GuildsAt w.heap.size w' v' ps ∧ Below w.heap.size w w' := by
  have Hv := hide h
  obtain ⟨a, cap, rfl, hc, hm, hr⟩ := h
  clear hr
  go_enter Tryz.func137, Tryz.ntmps137
  go_wp2_with (at_builtin; refine wpList_append_recs tyG rfl (.tmp 3) (.tmp 4) 27 Tryz.underlying27 rfl w.heap.size _ _ [] ps rfl rfl (recs_empty rfl (Nat.le_refl _)) ((unhide Hv).below ((Below.refl _ _).alloc (Nat.le_refl _) _)) (by simp; omega) (by simp) ?_; intro v' w1 hown hgrow hat)
  go_ret
  refine ⟨v', rfl, by simpa using hown, ((Below.refl _ _).alloc (Nat.le_refl _) _).trans ((Below.refl _ _).grown hgrow (by simp) (fun k e => ?_))⟩
  cases e; exact Nat.le_refl _

set_option maxRecDepth 100000 in
set_option maxHeartbeats 4000000 in
theorem l11Copy_any {w : World} {v0 v1 v2 v3 v4 : Value} {m : SmyV} (h : Smy w v0 v1 v2 v3 v4 m) (hF : Few m) :
    Calls Tryz.prog 74 #[.agg #[v0, v1, v2, v3, v4, .int .i64 m.now]] w fun e w' => ∃ u0 u1 u2 u3 u4 qs, e = .returned (.agg #[u0, u1, u2, u3, u4, .int .i64 m.now]) ∧ FullSmy w.heap.size w' u0 u1 u2 u3 u4 m qs ∧ Below w.heap.size w w' := by
  have Hv := hide h
  have HF := hide hF
  obtain ⟨a0, p0, rfl, _, _⟩ := IsRooms.shape h.rooms
  obtain ⟨a1, p1, rfl, _, _⟩ := IsRec.shape h.guilds
  obtain ⟨a2, p2, rfl, _, _⟩ := IsRec.shape h.smiths
  obtain ⟨a3, p3, rfl, _, _⟩ := IsRec.shape h.desks
  obtain ⟨a4, p4, rfl, _, _⟩ := IsRec.shape h.paces
  clear h hF
  go_enter Tryz.func74, Tryz.ntmps74
  go_wp2_with fail
  have kb : Hid (Blk ((w.alloc (.cells #[.slice a0 m.rooms.length p0, .slice a1 m.guilds.length p1, .slice a2 m.smiths.length p2, .slice a3 m.desks.length p3, .slice a4 m.paces.length p4, .int .i64 m.now] 32)).alloc (.cells #[.slice none 0 0, .slice none 0 0, .slice none 0 0, .slice none 0 0, .slice none 0 0, .int .i64 0] 32)) w.heap.size 32 #[.slice a0 m.rooms.length p0, .slice a1 m.guilds.length p1, .slice a2 m.smiths.length p2, .slice a3 m.desks.length p3, .slice a4 m.paces.length p4, .int .i64 m.now]) := hide ((Blk.new w _ _).alloc _)
  have kr : Hid (Blk ((w.alloc (.cells #[.slice a0 m.rooms.length p0, .slice a1 m.guilds.length p1, .slice a2 m.smiths.length p2, .slice a3 m.desks.length p3, .slice a4 m.paces.length p4, .int .i64 m.now] 32)).alloc (.cells #[.slice none 0 0, .slice none 0 0, .slice none 0 0, .slice none 0 0, .slice none 0 0, .int .i64 0] 32)) (w.heap.size + 1) 32 #[.slice none 0 0, .slice none 0 0, .slice none 0 0, .slice none 0 0, .slice none 0 0, .int .i64 0]) := hide (by
    have k := Blk.new (w.alloc (.cells #[.slice a0 m.rooms.length p0, .slice a1 m.guilds.length p1, .slice a2 m.smiths.length p2, .slice a3 m.desks.length p3, .slice a4 m.paces.length p4, .int .i64 m.now] 32)) 32 #[.slice none 0 0, .slice none 0 0, .slice none 0 0, .slice none 0 0, .slice none 0 0, .int .i64 0]
    rw [World.size_alloc] at k
    exact k)
  have BB : Hid (Below w.heap.size w ((w.alloc (.cells #[.slice a0 m.rooms.length p0, .slice a1 m.guilds.length p1, .slice a2 m.smiths.length p2, .slice a3 m.desks.length p3, .slice a4 m.paces.length p4, .int .i64 m.now] 32)).alloc (.cells #[.slice none 0 0, .slice none 0 0, .slice none 0 0, .slice none 0 0, .slice none 0 0, .int .i64 0] 32))) := hide (((Below.refl _ _).alloc (Nat.le_refl _) _).alloc (by simp) _)
  generalize (w.alloc (.cells #[.slice a0 m.rooms.length p0, .slice a1 m.guilds.length p1, .slice a2 m.smiths.length p2, .slice a3 m.desks.length p3, .slice a4 m.paces.length p4, .int .i64 m.now] 32)).alloc (.cells #[.slice none 0 0, .slice none 0 0, .slice none 0 0, .slice none 0 0, .slice none 0 0, .int .i64 0] 32) = W at *
  have hW : w.heap.size + 2 ≤ W.heap.size := by have := (unhide kr).lt; omega
  refine (l4Copy_any ((unhide Hv).below (unhide BB)).rooms (unhide HF).rooms (unhide HF).paces).mono ?_
  rintro e w1 ⟨u0, qs, rfl, hmap, hp, hb⟩
  have Hmap := hide hmap
  clear hmap
  have n0 : Hid (OwnHall (w.heap.size + 2) w1 u0 qs) := hide (hp.mono hW)
  replace kb := hide ((unhide kb).below hb (unhide kb).lt)
  replace kr := hide ((unhide kr).below hb (unhide kr).lt)
  replace BB := hide ((unhide BB).trans (hb.mono (unhide BB).size))
  have hW1 : w.heap.size + 2 ≤ w1.heap.size := by have := hb.size; omega
  obtain ⟨b0, q0, rfl⟩ := hp.shape
  have hql : qs.length = m.rooms.length := by rw [← unhide Hmap, List.length_map]
  rw [hql] at n0 ⊢
  have L0 : Hid (∀ b, ((Value.slice b0 m.rooms.length q0).ownBlock = some b ∨ ∃ q ∈ qs, q.2.ownBlock = some b) → b < w1.heap.size) := hide (fun b e => ((unhide n0).lt e).2)
  clear hp hql hb hW
  have o0 := (unhide kb).cell (i := 0) (v := .slice a0 m.rooms.length p0) rfl
  have f0 := (unhide kb).free 0
  go_upto_region 2 with fail
  clear o0 f0
  replace kb : Hid (Blk (w1.setCell ⟨w.heap.size, 0, none⟩ (.slice b0 m.rooms.length q0)) w.heap.size 32 #[.slice b0 m.rooms.length q0, .slice a1 m.guilds.length p1, .slice a2 m.smiths.length p2, .slice a3 m.desks.length p3, .slice a4 m.paces.length p4, .int .i64 m.now]) := hide ((unhide kb).set 0 _)
  replace kr : Hid (Blk (w1.setCell ⟨w.heap.size, 0, none⟩ (.slice b0 m.rooms.length q0)) (w.heap.size + 1) 32 #[.slice none 0 0, .slice none 0 0, .slice none 0 0, .slice none 0 0, .slice none 0 0, .int .i64 0]) := hide ((unhide kr).other (a := ⟨w.heap.size, 0, none⟩) (by show w.heap.size + 1 ≠ w.heap.size; omega) _)
  replace BB : Hid (Below w.heap.size w (w1.setCell ⟨w.heap.size, 0, none⟩ (.slice b0 m.rooms.length q0))) := hide ((unhide BB).setCell (p := ⟨w.heap.size, 0, none⟩) (Nat.le_refl _) _)
  replace n0 := hide ((unhide n0).set_old w.heap.size 0 (.slice b0 m.rooms.length q0) (by omega))
  have g0 : w1.heap.size ≤ (w1.setCell ⟨w.heap.size, 0, none⟩ (.slice b0 m.rooms.length q0)).heap.size := by simp
  generalize w1.setCell ⟨w.heap.size, 0, none⟩ (.slice b0 m.rooms.length q0) = X0 at *
  have c1 := (unhide kb).cell (i := 1) (v := .slice a1 m.guilds.length p1) rfl
  go_wp2_with fail
  clear c1
  refine (l8Copy_any ((unhide Hv).below (unhide BB)).guilds (unhide HF).guilds).mono ?_
  rintro e w2 ⟨u1, rfl, hp, hb⟩
  have n1 : Hid (GuildsAt (w.heap.size + 2) w2 u1 m.guilds) := hide (RecAt.mono hp (by omega))
  have M1 : Hid (∀ b, u1.ownBlock = some b → w1.heap.size ≤ b ∧ b < w2.heap.size) := hide (fun b e => ⟨Nat.le_trans g0 (RecAt.lt hp e).1, (RecAt.lt hp e).2⟩)
  replace kb := hide ((unhide kb).below hb (unhide kb).lt)
  replace kr := hide ((unhide kr).below hb (unhide kr).lt)
  replace n0 := hide ((unhide n0).later hb)
  replace BB := hide ((unhide BB).trans (hb.mono (unhide BB).size))
  have z1 : w1.heap.size ≤ w2.heap.size := Nat.le_trans g0 hb.size
  obtain ⟨b1, q1, rfl⟩ := RecAt.shape hp
  clear hp hb
  have o1 := (unhide kb).cell (i := 1) (v := .slice a1 m.guilds.length p1) rfl
  have f1 := (unhide kb).free 1
  go_upto_region 3 with fail
  clear o1 f1
  replace kb : Hid (Blk (w2.setCell ⟨w.heap.size, 1, none⟩ (.slice b1 m.guilds.length q1)) w.heap.size 32 #[.slice b0 m.rooms.length q0, .slice b1 m.guilds.length q1, .slice a2 m.smiths.length p2, .slice a3 m.desks.length p3, .slice a4 m.paces.length p4, .int .i64 m.now]) := hide ((unhide kb).set 1 _)
  replace kr : Hid (Blk (w2.setCell ⟨w.heap.size, 1, none⟩ (.slice b1 m.guilds.length q1)) (w.heap.size + 1) 32 #[.slice none 0 0, .slice none 0 0, .slice none 0 0, .slice none 0 0, .slice none 0 0, .int .i64 0]) := hide ((unhide kr).other (a := ⟨w.heap.size, 1, none⟩) (by show w.heap.size + 1 ≠ w.heap.size; omega) _)
  replace BB : Hid (Below w.heap.size w (w2.setCell ⟨w.heap.size, 1, none⟩ (.slice b1 m.guilds.length q1))) := hide ((unhide BB).setCell (p := ⟨w.heap.size, 1, none⟩) (Nat.le_refl _) _)
  replace n0 := hide ((unhide n0).set_old w.heap.size 1 (.slice b1 m.guilds.length q1) (by omega))
  replace n1 := hide (RecAt.set_old (unhide n1) w.heap.size 1 (.slice b1 m.guilds.length q1) (by omega))
  have g1 : w2.heap.size ≤ (w2.setCell ⟨w.heap.size, 1, none⟩ (.slice b1 m.guilds.length q1)).heap.size := by simp
  generalize w2.setCell ⟨w.heap.size, 1, none⟩ (.slice b1 m.guilds.length q1) = X1 at *
  have c2 := (unhide kb).cell (i := 2) (v := .slice a2 m.smiths.length p2) rfl
  have HX := hide (((unhide Hv).below (unhide BB)).smiths)
  have hl9 := (unhide HF).smiths
  have hlt9 := (unhide kb).lt
  go_upto_region 4 with (at_builtin; refine wpList_append_recs tyS rfl (.tmp 11) (.tmp 13) 28 Tryz.underlying28 rfl X1.heap.size _ _ [] m.smiths rfl rfl (recs_empty rfl (Nat.le_refl _)) (IsRec.below (unhide HX) ((Below.refl _ _).alloc (Nat.le_refl _) _)) (by simp; omega) (by simp) ?_; intro u2 w3 hp9 hg9 hat9; rw [List.nil_append] at hp9; have hb9 : Below X1.heap.size X1 w3 := ((Below.refl _ _).alloc (Nat.le_refl _) _).trans ((Below.refl _ _).grown hg9 (by simp) (fun k e => by cases e; exact Nat.le_refl _)); have k9 := (unhide kb).below hb9 (unhide kb).lt; have o9 := k9.cell (i := 2) (v := .slice a2 m.smiths.length p2) rfl; have f9 := k9.free 2; obtain ⟨a9, c9, hu9⟩ := RecAt.shape hp9; subst hu9; have hp := hide hp9; have hb := hide hb9; clear hp9 hb9 k9 hg9 hat9)
  clear c2 HX hl9 hlt9 o9 f9
  replace hp := unhide hp
  replace hb := unhide hb
  obtain ⟨u2, hu2⟩ : ∃ u, u = Value.slice a9 m.smiths.length c9 := ⟨_, rfl⟩
  rw [← hu2] at hp ⊢
  clear hu2
  have n2 : Hid (SmithsAt (w.heap.size + 2) w3 u2 m.smiths) := hide (RecAt.mono hp (by omega))
  have M2 : Hid (∀ b, u2.ownBlock = some b → w2.heap.size ≤ b ∧ b < w3.heap.size) := hide (fun b e => ⟨Nat.le_trans g1 (RecAt.lt hp e).1, (RecAt.lt hp e).2⟩)
  replace kb := hide ((unhide kb).below hb (unhide kb).lt)
  replace kr := hide ((unhide kr).below hb (unhide kr).lt)
  replace n0 := hide ((unhide n0).later hb)
  replace n1 := hide (RecAt.later (unhide n1) hb)
  replace BB := hide ((unhide BB).trans (hb.mono (unhide BB).size))
  have z2 : w2.heap.size ≤ w3.heap.size := Nat.le_trans g1 hb.size
  obtain ⟨b2, q2, rfl⟩ := RecAt.shape hp
  clear hp hb
  replace kb : Hid (Blk (w3.setCell ⟨w.heap.size, 2, none⟩ (.slice b2 m.smiths.length q2)) w.heap.size 32 #[.slice b0 m.rooms.length q0, .slice b1 m.guilds.length q1, .slice b2 m.smiths.length q2, .slice a3 m.desks.length p3, .slice a4 m.paces.length p4, .int .i64 m.now]) := hide ((unhide kb).set 2 _)
  replace kr : Hid (Blk (w3.setCell ⟨w.heap.size, 2, none⟩ (.slice b2 m.smiths.length q2)) (w.heap.size + 1) 32 #[.slice none 0 0, .slice none 0 0, .slice none 0 0, .slice none 0 0, .slice none 0 0, .int .i64 0]) := hide ((unhide kr).other (a := ⟨w.heap.size, 2, none⟩) (by show w.heap.size + 1 ≠ w.heap.size; omega) _)
  replace BB : Hid (Below w.heap.size w (w3.setCell ⟨w.heap.size, 2, none⟩ (.slice b2 m.smiths.length q2))) := hide ((unhide BB).setCell (p := ⟨w.heap.size, 2, none⟩) (Nat.le_refl _) _)
  replace n0 := hide ((unhide n0).set_old w.heap.size 2 (.slice b2 m.smiths.length q2) (by omega))
  replace n1 := hide (RecAt.set_old (unhide n1) w.heap.size 2 (.slice b2 m.smiths.length q2) (by omega))
  replace n2 := hide (RecAt.set_old (unhide n2) w.heap.size 2 (.slice b2 m.smiths.length q2) (by omega))
  have g2 : w3.heap.size ≤ (w3.setCell ⟨w.heap.size, 2, none⟩ (.slice b2 m.smiths.length q2)).heap.size := by simp
  generalize w3.setCell ⟨w.heap.size, 2, none⟩ (.slice b2 m.smiths.length q2) = X2 at *
  have c3 := (unhide kb).cell (i := 3) (v := .slice a3 m.desks.length p3) rfl
  have HX := hide (((unhide Hv).below (unhide BB)).desks)
  have hl9 := (unhide HF).desks
  have hlt9 := (unhide kb).lt
  go_upto_region 5 with (at_builtin; refine wpList_append_recs tyD rfl (.tmp 16) (.tmp 18) 29 Tryz.underlying29 rfl X2.heap.size _ _ [] m.desks rfl rfl (recs_empty rfl (Nat.le_refl _)) (IsRec.below (unhide HX) ((Below.refl _ _).alloc (Nat.le_refl _) _)) (by simp; omega) (by simp) ?_; intro u3 w4 hp9 hg9 hat9; rw [List.nil_append] at hp9; have hb9 : Below X2.heap.size X2 w4 := ((Below.refl _ _).alloc (Nat.le_refl _) _).trans ((Below.refl _ _).grown hg9 (by simp) (fun k e => by cases e; exact Nat.le_refl _)); have k9 := (unhide kb).below hb9 (unhide kb).lt; have o9 := k9.cell (i := 3) (v := .slice a3 m.desks.length p3) rfl; have f9 := k9.free 3; obtain ⟨a9, c9, hu9⟩ := RecAt.shape hp9; subst hu9; have hp := hide hp9; have hb := hide hb9; clear hp9 hb9 k9 hg9 hat9)
  clear c3 HX hl9 hlt9 o9 f9
  replace hp := unhide hp
  replace hb := unhide hb
  obtain ⟨u3, hu3⟩ : ∃ u, u = Value.slice a9 m.desks.length c9 := ⟨_, rfl⟩
  rw [← hu3] at hp ⊢
  clear hu3
  have n3 : Hid (DesksAt (w.heap.size + 2) w4 u3 m.desks) := hide (RecAt.mono hp (by omega))
  have M3 : Hid (∀ b, u3.ownBlock = some b → w3.heap.size ≤ b ∧ b < w4.heap.size) := hide (fun b e => ⟨Nat.le_trans g2 (RecAt.lt hp e).1, (RecAt.lt hp e).2⟩)
  replace kb := hide ((unhide kb).below hb (unhide kb).lt)
  replace kr := hide ((unhide kr).below hb (unhide kr).lt)
  replace n0 := hide ((unhide n0).later hb)
  replace n1 := hide (RecAt.later (unhide n1) hb)
  replace n2 := hide (RecAt.later (unhide n2) hb)
  replace BB := hide ((unhide BB).trans (hb.mono (unhide BB).size))
  have z3 : w3.heap.size ≤ w4.heap.size := Nat.le_trans g2 hb.size
  obtain ⟨b3, q3, rfl⟩ := RecAt.shape hp
  clear hp hb
  replace kb : Hid (Blk (w4.setCell ⟨w.heap.size, 3, none⟩ (.slice b3 m.desks.length q3)) w.heap.size 32 #[.slice b0 m.rooms.length q0, .slice b1 m.guilds.length q1, .slice b2 m.smiths.length q2, .slice b3 m.desks.length q3, .slice a4 m.paces.length p4, .int .i64 m.now]) := hide ((unhide kb).set 3 _)
  replace kr : Hid (Blk (w4.setCell ⟨w.heap.size, 3, none⟩ (.slice b3 m.desks.length q3)) (w.heap.size + 1) 32 #[.slice none 0 0, .slice none 0 0, .slice none 0 0, .slice none 0 0, .slice none 0 0, .int .i64 0]) := hide ((unhide kr).other (a := ⟨w.heap.size, 3, none⟩) (by show w.heap.size + 1 ≠ w.heap.size; omega) _)
  replace BB : Hid (Below w.heap.size w (w4.setCell ⟨w.heap.size, 3, none⟩ (.slice b3 m.desks.length q3))) := hide ((unhide BB).setCell (p := ⟨w.heap.size, 3, none⟩) (Nat.le_refl _) _)
  replace n0 := hide ((unhide n0).set_old w.heap.size 3 (.slice b3 m.desks.length q3) (by omega))
  replace n1 := hide (RecAt.set_old (unhide n1) w.heap.size 3 (.slice b3 m.desks.length q3) (by omega))
  replace n2 := hide (RecAt.set_old (unhide n2) w.heap.size 3 (.slice b3 m.desks.length q3) (by omega))
  replace n3 := hide (RecAt.set_old (unhide n3) w.heap.size 3 (.slice b3 m.desks.length q3) (by omega))
  have g3 : w4.heap.size ≤ (w4.setCell ⟨w.heap.size, 3, none⟩ (.slice b3 m.desks.length q3)).heap.size := by simp
  generalize w4.setCell ⟨w.heap.size, 3, none⟩ (.slice b3 m.desks.length q3) = X3 at *
  have c4 := (unhide kb).cell (i := 4) (v := .slice a4 m.paces.length p4) rfl
  have HX := hide (((unhide Hv).below (unhide BB)).paces)
  have hl9 := (unhide HF).nums
  have hlt9 := (unhide kb).lt
  go_upto_region 6 with (at_builtin; refine wpList_append_recs tyN rfl (.tmp 21) (.tmp 23) 30 Tryz.underlying30 rfl X3.heap.size _ _ [] m.paces rfl rfl (recs_empty rfl (Nat.le_refl _)) (IsRec.below (unhide HX) ((Below.refl _ _).alloc (Nat.le_refl _) _)) (by simp; omega) (by simp) ?_; intro u4 w5 hp9 hg9 hat9; rw [List.nil_append] at hp9; have hb9 : Below X3.heap.size X3 w5 := ((Below.refl _ _).alloc (Nat.le_refl _) _).trans ((Below.refl _ _).grown hg9 (by simp) (fun k e => by cases e; exact Nat.le_refl _)); have k9 := (unhide kb).below hb9 (unhide kb).lt; have o9 := k9.cell (i := 4) (v := .slice a4 m.paces.length p4) rfl; have f9 := k9.free 4; obtain ⟨a9, c9, hu9⟩ := RecAt.shape hp9; subst hu9; have hp := hide hp9; have hb := hide hb9; clear hp9 hb9 k9 hg9 hat9)
  clear c4 HX hl9 hlt9 o9 f9
  replace hp := unhide hp
  replace hb := unhide hb
  obtain ⟨u4, hu4⟩ : ∃ u, u = Value.slice a9 m.paces.length c9 := ⟨_, rfl⟩
  rw [← hu4] at hp ⊢
  clear hu4
  have n4 : Hid (NumsAt (w.heap.size + 2) w5 u4 m.paces) := hide (RecAt.mono hp (by omega))
  have M4 : Hid (∀ b, u4.ownBlock = some b → w4.heap.size ≤ b ∧ b < w5.heap.size) := hide (fun b e => ⟨Nat.le_trans g3 (RecAt.lt hp e).1, (RecAt.lt hp e).2⟩)
  replace kb := hide ((unhide kb).below hb (unhide kb).lt)
  replace kr := hide ((unhide kr).below hb (unhide kr).lt)
  replace n0 := hide ((unhide n0).later hb)
  replace n1 := hide (RecAt.later (unhide n1) hb)
  replace n2 := hide (RecAt.later (unhide n2) hb)
  replace n3 := hide (RecAt.later (unhide n3) hb)
  replace BB := hide ((unhide BB).trans (hb.mono (unhide BB).size))
  have z4 : w4.heap.size ≤ w5.heap.size := Nat.le_trans g3 hb.size
  obtain ⟨b4, q4, rfl⟩ := RecAt.shape hp
  clear hp hb
  replace kb : Hid (Blk (w5.setCell ⟨w.heap.size, 4, none⟩ (.slice b4 m.paces.length q4)) w.heap.size 32 #[.slice b0 m.rooms.length q0, .slice b1 m.guilds.length q1, .slice b2 m.smiths.length q2, .slice b3 m.desks.length q3, .slice b4 m.paces.length q4, .int .i64 m.now]) := hide ((unhide kb).set 4 _)
  replace kr : Hid (Blk (w5.setCell ⟨w.heap.size, 4, none⟩ (.slice b4 m.paces.length q4)) (w.heap.size + 1) 32 #[.slice none 0 0, .slice none 0 0, .slice none 0 0, .slice none 0 0, .slice none 0 0, .int .i64 0]) := hide ((unhide kr).other (a := ⟨w.heap.size, 4, none⟩) (by show w.heap.size + 1 ≠ w.heap.size; omega) _)
  replace BB : Hid (Below w.heap.size w (w5.setCell ⟨w.heap.size, 4, none⟩ (.slice b4 m.paces.length q4))) := hide ((unhide BB).setCell (p := ⟨w.heap.size, 4, none⟩) (Nat.le_refl _) _)
  replace n0 := hide ((unhide n0).set_old w.heap.size 4 (.slice b4 m.paces.length q4) (by omega))
  replace n1 := hide (RecAt.set_old (unhide n1) w.heap.size 4 (.slice b4 m.paces.length q4) (by omega))
  replace n2 := hide (RecAt.set_old (unhide n2) w.heap.size 4 (.slice b4 m.paces.length q4) (by omega))
  replace n3 := hide (RecAt.set_old (unhide n3) w.heap.size 4 (.slice b4 m.paces.length q4) (by omega))
  replace n4 := hide (RecAt.set_old (unhide n4) w.heap.size 4 (.slice b4 m.paces.length q4) (by omega))
  have g4 : w5.heap.size ≤ (w5.setCell ⟨w.heap.size, 4, none⟩ (.slice b4 m.paces.length q4)).heap.size := by simp
  generalize w5.setCell ⟨w.heap.size, 4, none⟩ (.slice b4 m.paces.length q4) = X4 at *
  have c0 := (unhide kb).cell (i := 0) (v := .slice b0 m.rooms.length q0) rfl
  have c1 := (unhide kb).cell (i := 1) (v := .slice b1 m.guilds.length q1) rfl
  have c2 := (unhide kb).cell (i := 2) (v := .slice b2 m.smiths.length q2) rfl
  have c3 := (unhide kb).cell (i := 3) (v := .slice b3 m.desks.length q3) rfl
  have c4 := (unhide kb).cell (i := 4) (v := .slice b4 m.paces.length q4) rfl
  have c5 := (unhide kb).cell (i := 5) (v := .int .i64 m.now) rfl
  have o0 := (unhide kr).cell (i := 0) (v := .slice none 0 0) rfl
  have f0 := (unhide kr).free 0
  have o1 := (unhide kr).cell (i := 1) (v := .slice none 0 0) rfl
  have f1 := (unhide kr).free 1
  have o2 := (unhide kr).cell (i := 2) (v := .slice none 0 0) rfl
  have f2 := (unhide kr).free 2
  have o3 := (unhide kr).cell (i := 3) (v := .slice none 0 0) rfl
  have f3 := (unhide kr).free 3
  have o4 := (unhide kr).cell (i := 4) (v := .slice none 0 0) rfl
  have f4 := (unhide kr).free 4
  have o5 := (unhide kr).cell (i := 5) (v := .int .i64 0) rfl
  have f5 := (unhide kr).free 5
  go_wp2_with fail
  refine bodyPost_ret (v := .agg #[.slice b0 m.rooms.length q0, .slice b1 m.guilds.length q1, .slice b2 m.smiths.length q2, .slice b3 m.desks.length q3, .slice b4 m.paces.length q4, .int .i64 m.now]) (by simp [results, Tryz.results74, go_sem, *]) rfl ⟨_, _, _, _, _, qs, rfl, ?_, ?_⟩
  · refine FullSmy.mono (n₀ := w.heap.size + 2) (full_of w1.heap.size w2.heap.size w3.heap.size w4.heap.size ?_ (unhide Hmap) ?_ ?_ ?_ ?_ (unhide L0) (unhide M1) (unhide M2) (unhide M3) (fun b e => (unhide M4 b e).1) z1 z2 z3) (by omega)
    · iterate 6 (refine OwnHall.set_old ?_ _ _ _ (by omega))
      exact unhide n0
    · iterate 6 (refine RecAt.set_old ?_ _ _ _ (by omega))
      exact unhide n1
    · iterate 6 (refine RecAt.set_old ?_ _ _ _ (by omega))
      exact unhide n2
    · iterate 6 (refine RecAt.set_old ?_ _ _ _ (by omega))
      exact unhide n3
    · iterate 6 (refine RecAt.set_old ?_ _ _ _ (by omega))
      exact unhide n4
  · iterate 6 (refine Below.setCell ?_ (by show _ ≤ w.heap.size + 1; omega) _)
    exact unhide BB

end Go.Proofs.YtmfmfdiphlkdiaaGreat

/- A smithy that the call made, written into: one number of a smith, of a desk, of the paces; and the frame that says which two blocks alone may differ. No condition but those that a theorem names. -/
namespace Go.Proofs.YtmfmfdiphlkdiaaGreat
open Go.ChangeShapes Go.WideShapes Go.ChangeAt Go.RowKit Go.Sort
set_option linter.unusedVariables false

/-- Only the blocks p and q, and new ones, may differ. -/
structure Two (p q : Option Nat) (w w' : World) : Prop where
  os : w'.os = w.os
  tape : w'.tape = w.tape
  output : w'.output = w.output
  size : w.heap.size ≤ w'.heap.size
  block : ∀ k, k < w.heap.size → p ≠ some k → q ≠ some k → w'.heap[k]? = w.heap[k]?
section
variable {p q : Option Nat} {w w' w'' : World}
theorem Two.refl (p q : Option Nat) (w : World) : Two p q w w := ⟨rfl, rfl, rfl, Nat.le_refl _, fun _ _ _ _ => rfl⟩
theorem Two.trans (h : Two p q w w') (k : Two p q w' w'') : Two p q w w'' :=
  ⟨k.os.trans h.os, k.tape.trans h.tape, k.output.trans h.output, Nat.le_trans h.size k.size, fun i hi hp hq => (k.block i (Nat.lt_of_lt_of_le hi h.size) hp hq).trans (h.block i hi hp hq)⟩
theorem Two.of_below (h : Below w.heap.size w w') : Two p q w w' := ⟨h.os, h.tape, h.output, h.size, fun i hi _ _ => h.block i hi⟩
theorem Two.of_set (w : World) {g : Nat} (hg : p = some g ∨ q = some g) (o : Nat) (u : Value) : Two p q w (w.setCell ⟨g, o, none⟩ u) :=
  ⟨rfl, rfl, rfl, by simp, fun i hi hp hq => heap_setCell_other w _ i u (fun e => by
    have e : i = g := e
    subst e
    rcases hg with h | h
    · exact hp h
    · exact hq h)⟩
theorem Two.below {B : Nat} (h : Two p q w w') (hB : B ≤ w.heap.size) (hp : ∀ k, p = some k → B ≤ k) (hq : ∀ k, q = some k → B ≤ k) : Below B w w' :=
  ⟨h.os, h.tape, h.output, h.size, fun i hi => h.block i (Nat.lt_of_lt_of_le hi hB) (fun e => by have := hp i e; omega) (fun e => by have := hq i e; omega)⟩
theorem Blk.two {R : Nat} {t : TypeId} {cs : Array Value} (h : Blk w R t cs) (ht : Two p q w w') (hp : p ≠ some R) (hq : q ≠ some R) : Blk w' R t cs := h.same (ht.block R h.lt hp hq)
end

theorem OwnHall.same2 {n₀ : Nat} {w w' : World} {v : Value} {qs : List (RoomV × Value)} (h : OwnHall n₀ w v qs) (hs : ∀ k, (v.ownBlock = some k ∨ ∃ q ∈ qs, q.2.ownBlock = some k) → w'.heap[k]? = w.heap[k]?) : OwnHall n₀ w' v qs :=
  ⟨own_same h.row (fun k e => hs k (.inl e)), fun q hq => own_same (h.paces q hq) (fun k e => hs k (.inr ⟨q, hq, e⟩)), h.off, h.apart⟩

section
variable {n₀ n cap g : Nat} {w : World} {v0 v1 v2 v3 v4 : Value} {m : SmyV} {qs : List (RoomV × Value)}
/-- One number of a smith is written. -/
theorem FullSmy.putS (hf : FullSmy n₀ w v0 v1 (.slice (some ⟨g, 0, none⟩) n cap) v3 v4 m qs) (hn : n = m.smiths.length) {j i : Nat} (hj : j < m.smiths.length) (hi : i < 11) (u : Value) (x : SmithV) (hx : encSmith x = (encSmith (recAt m.smiths j)).set i u) :
    FullSmy n₀ (w.setCell ⟨g, j * 11 + i, none⟩ u) v0 v1 (.slice (some ⟨g, 0, none⟩) n cap) v3 v4 { m with smiths := m.smiths.set j x } qs := by
  have hb : (Value.slice (some ⟨g, 0, none⟩) n cap).ownBlock = some g := rfl
  have hne : ∀ k, k ≠ g → (w.setCell ⟨g, j * 11 + i, none⟩ u).heap[k]? = w.heap[k]? := fun k hk => heap_setCell_other w _ k u hk
  refine ⟨hf.hall.same2 fun k e => hne k fun e' => ?_, hf.rooms, RecAt.same hf.guilds fun k e => hne k fun e' => ?_, (RecAt.put1 encSmith_len (by omega) hf.smiths hn hj hi u x hx).1, RecAt.same hf.desks fun k e => hne k fun e' => ?_, RecAt.same hf.paces fun k e => hne k fun e' => ?_, hf.h1, hf.h2, hf.h3, hf.h4, hf.a12, hf.a13, hf.a14, hf.a23, hf.a24, hf.a34⟩
  · subst e'
    rcases e with e | ⟨q, hq, e⟩
    · exact hf.h2.1 _ hb e
    · exact hf.h2.2 q hq _ hb e
  · subst e'; exact hf.a12 _ e hb
  · subst e'; exact hf.a23 _ hb e
  · subst e'; exact hf.a24 _ hb e
/-- One number of a desk is written. -/
theorem FullSmy.putD (hf : FullSmy n₀ w v0 v1 v2 (.slice (some ⟨g, 0, none⟩) n cap) v4 m qs) (hn : n = m.desks.length) {j i : Nat} (hj : j < m.desks.length) (hi : i < 3) (u : Value) (x : DeskV) (hx : encDesk x = (encDesk (recAt m.desks j)).set i u) :
    FullSmy n₀ (w.setCell ⟨g, j * 3 + i, none⟩ u) v0 v1 v2 (.slice (some ⟨g, 0, none⟩) n cap) v4 { m with desks := m.desks.set j x } qs := by
  have hb : (Value.slice (some ⟨g, 0, none⟩) n cap).ownBlock = some g := rfl
  have hne : ∀ k, k ≠ g → (w.setCell ⟨g, j * 3 + i, none⟩ u).heap[k]? = w.heap[k]? := fun k hk => heap_setCell_other w _ k u hk
  refine ⟨hf.hall.same2 fun k e => hne k fun e' => ?_, hf.rooms, RecAt.same hf.guilds fun k e => hne k fun e' => ?_, RecAt.same hf.smiths fun k e => hne k fun e' => ?_, (RecAt.put1 encDesk_len (by omega) hf.desks hn hj hi u x hx).1, RecAt.same hf.paces fun k e => hne k fun e' => ?_, hf.h1, hf.h2, hf.h3, hf.h4, hf.a12, hf.a13, hf.a14, hf.a23, hf.a24, hf.a34⟩
  · subst e'
    rcases e with e | ⟨q, hq, e⟩
    · exact hf.h3.1 _ hb e
    · exact hf.h3.2 q hq _ hb e
  · subst e'; exact hf.a13 _ e hb
  · subst e'; exact hf.a23 _ e hb
  · subst e'; exact hf.a34 _ hb e
end

end Go.Proofs.YtmfmfdiphlkdiaaGreat

/- Contracts of chapter 3's functions and of their models: each returns the plain number that is defined here, at every argument of type int64; nothing in memory is changed. -/
namespace Go.Proofs.YtmfmfdiphlkdiaaGreat
open Go.ChangeShapes Go.WideShapes Go.ChangeAt Go.RowKit
set_option linter.unusedVariables false

/-- The weight of the rank that is k above 0. -/
def lightT (k : Nat) : Int := [1024, 819, 655, 524, 419, 335].getD k 0
/-- The weight of the rank that is k below 0. -/
def heavyT (k : Nat) : Int := [1024, 1280, 1600, 2000, 2500, 3125].getD k 0
def weightV (r : Int) : Int := if inB r (-5) 5 then (if 0 ≤ r then lightT r.toNat else heavyT (-r).toNat) else 0

theorem lightT_all : ∀ k : Fin 5, lightT (k.val + 1) = lightT k.val * 4 / 5 ∧ 0 ≤ lightT k.val ∧ lightT k.val ≤ 1024 := by decide
theorem heavyT_all : ∀ k : Fin 5, heavyT (k.val + 1) = heavyT k.val * 5 / 4 ∧ 0 ≤ heavyT k.val ∧ heavyT k.val ≤ 3125 := by decide
theorem lightT_step {k : Nat} (h : k < 5) : lightT (k + 1) = lightT k * 4 / 5 ∧ 0 ≤ lightT k ∧ lightT k ≤ 1024 := lightT_all ⟨k, h⟩
theorem heavyT_step {k : Nat} (h : k < 5) : heavyT (k + 1) = heavyT k * 5 / 4 ∧ 0 ≤ heavyT k ∧ heavyT k ≤ 3125 := heavyT_all ⟨k, h⟩

theorem ranks {r : Int} (h : inB r (-5) 5 = true) : r = -5 ∨ r = -4 ∨ r = -3 ∨ r = -2 ∨ r = -1 ∨ r = 0 ∨ r = 1 ∨ r = 2 ∨ r = 3 ∨ r = 4 ∨ r = 5 := by
  have := inB_of h
  omega
theorem weightV_none {r : Int} (h : inB r (-5) 5 = false) : weightV r = 0 := by unfold weightV; simp [h]
theorem weightV_up {r : Int} (h : inB r (-5) 5 = true) (h0 : 0 ≤ r) : weightV r = lightT r.toNat := by unfold weightV; simp [h, h0]
theorem weightV_down {r : Int} (h : inB r (-5) 5 = true) (h0 : ¬ 0 ≤ r) : weightV r = heavyT (-r).toNat := by unfold weightV; simp [h, h0]

theorem l3Rank_any (x : Int) (w : World) : Calls Tryz.prog 182 #[.int .i64 x] w fun e w' => e = .returned (.bool (inB x (-5) 5)) ∧ w' = w := by
  go_enter Tryz.func182, Tryz.ntmps182
  go_wp2_with (go_at_call 110; refine (l1In_any _ _ _ _).mono ?_; rintro e w' ⟨rfl, rfl⟩)
  go_ret
  exact ⟨rfl, rfl⟩

set_option maxHeartbeats 400000 in
theorem specWeightOf_any (r : Int) (w : World) : Calls Tryz.prog 183 #[.int .i64 r] w fun e w' => e = .returned (.int .i64 (weightV r)) ∧ w' = w := by
  cases hb : inB r (-5) 5
  · rw [weightV_none hb]
    go_enter Tryz.func183, Tryz.ntmps183
    go_wp2_with (go_at_call 182; refine (l3Rank_any _ _).mono ?_; rintro e w' ⟨rfl, rfl⟩)
    go_ret
    exact ⟨rfl, rfl⟩
  · obtain ⟨r0, r1⟩ := inB_of hb
    by_cases h0 : 0 ≤ r
    · rw [weightV_up hb h0]
      obtain ⟨n, rfl⟩ := Int.eq_ofNat_of_zero_le h0
      rw [Int.toNat_natCast]
      go_enter Tryz.func183, Tryz.ntmps183
      go_wp2_with (go_at_call 182; refine (l3Rank_any _ _).mono ?_; rintro e w' ⟨rfl, rfl⟩)
      go_loop [0, 3] (fun i s => ∃ k : Nat, k ≤ n ∧ i = .int .i64 ((n : Int) - k) ∧ s = .int .i64 (lightT k)) (fun i _ => (intOf i).toNat)
      case atStart => exact ⟨0, Nat.zero_le _, by simp, rfl⟩
      case round =>
        obtain ⟨k, hk, rfl, rfl⟩ := hrel
        by_cases hlt : k < n
        · obtain ⟨hs, f1, f2⟩ := lightT_step (k := k) (by omega)
          have Hs := hide hs
          clear hs
          generalize lightT k = z at *
          go_wp2_with fail
          go_round
          case rel => exact ⟨k + 1, by omega, by go_num, by rw [unhide Hs]⟩
          case measure => simp [intOf]; omega
        · obtain rfl : k = n := by omega
          go_wp2_with fail
          go_loop [0, 3] (fun i s => i = .int .i64 0 ∧ s = .int .i64 (lightT k)) (fun _ _ => 0)
          case atStart => exact ⟨by simp, rfl⟩
          case round =>
            obtain ⟨rfl, rfl⟩ := hrel
            go_wp2_with fail
            go_ret
            exact ⟨rfl, rfl⟩
    · rw [weightV_down hb h0]
      obtain ⟨n, hn⟩ := Int.eq_ofNat_of_zero_le (show 0 ≤ -r by omega)
      obtain rfl : r = -(n : Int) := by omega
      rw [show (-(-(n : Int))).toNat = n by omega]
      clear hn
      go_enter Tryz.func183, Tryz.ntmps183
      go_wp2_with (go_at_call 182; refine (l3Rank_any _ _).mono ?_; rintro e w' ⟨rfl, rfl⟩)
      go_loop [0, 3] (fun i s => i = .int .i64 (-(n : Int)) ∧ s = .int .i64 1024) (fun _ _ => 0)
      case atStart => exact ⟨rfl, rfl⟩
      case round =>
        obtain ⟨rfl, rfl⟩ := hrel
        go_wp2_with fail
        go_loop [0, 3] (fun i s => ∃ k : Nat, k ≤ n ∧ i = .int .i64 ((k : Int) - n) ∧ s = .int .i64 (heavyT k)) (fun i _ => (-(intOf i)).toNat)
        case atStart => exact ⟨0, Nat.zero_le _, by simp, rfl⟩
        case round =>
          obtain ⟨k, hk, rfl, rfl⟩ := hrel
          by_cases hlt : k < n
          · obtain ⟨hs, f1, f2⟩ := heavyT_step (k := k) (by omega)
            have Hs := hide hs
            clear hs
            generalize heavyT k = z at *
            go_wp2_with fail
            go_round
            case rel => exact ⟨k + 1, by omega, by go_num, by rw [unhide Hs]⟩
            case measure => simp [intOf]; omega
          · obtain rfl : k = n := by omega
            go_wp2_with fail
            go_ret
            exact ⟨rfl, rfl⟩

theorem heavier_any {x y : Int} (h0 : 0 ≤ x) (h1 : x ≤ 100000) (h : x * 5 / 4 = y) (w : World) : Calls Tryz.prog 289 #[.int .i64 x] w fun e w' => e = .returned (.int .i64 y) ∧ w' = w := by
  subst h
  go_enter Tryz.func289, Tryz.ntmps289
  go_wp2
  go_ret
  exact ⟨rfl, rfl⟩
theorem lighter_any {x y : Int} (h0 : 0 ≤ x) (h1 : x ≤ 100000) (h : x * 4 / 5 = y) (w : World) : Calls Tryz.prog 290 #[.int .i64 x] w fun e w' => e = .returned (.int .i64 y) ∧ w' = w := by
  subst h
  go_enter Tryz.func290, Tryz.ntmps290
  go_wp2
  go_ret
  exact ⟨rfl, rfl⟩

set_option maxHeartbeats 2000000 in
theorem implWeightOf_any (r : Int) (w : World) : Calls Tryz.prog 286 #[.int .i64 r] w fun e w' => e = .returned (.int .i64 (weightV r)) ∧ w' = w := by
  cases hb : inB r (-5) 5
  · rw [weightV_none hb]
    have hr : r < -5 ∨ 5 < r := by
      by_cases h1 : -5 ≤ r
      · by_cases h2 : r ≤ 5
        · rw [inB_t h1 h2] at hb; cases hb
        · omega
      · omega
    have e1 : ¬ r = -5 := by omega
    have e2 : ¬ r = -4 := by omega
    have e3 : ¬ r = -3 := by omega
    have e4 : ¬ r = -2 := by omega
    have e5 : ¬ r = -1 := by omega
    have e6 : ¬ r = 0 := by omega
    have e7 : ¬ r = 5 := by omega
    have e8 : ¬ r = 4 := by omega
    have e9 : ¬ r = 3 := by omega
    have e10 : ¬ r = 2 := by omega
    have e11 : ¬ r = 1 := by omega
    clear hb hr
    go_enter Tryz.func286, Tryz.ntmps286
    go_wp2_with fail
    go_ret
    exact ⟨rfl, rfl⟩
  · rcases ranks hb with rfl | rfl | rfl | rfl | rfl | rfl | rfl | rfl | rfl | rfl | rfl
    all_goals
      clear hb
      go_enter Tryz.func286, Tryz.ntmps286
      go_wp2_with (first
        | (go_at_call 289; refine (heavier_any (by decide) (by decide) rfl _).mono ?_; rintro e w' ⟨rfl, rfl⟩)
        | (go_at_call 290; refine (lighter_any (by decide) (by decide) rfl _).mono ?_; rintro e w' ⟨rfl, rfl⟩))
      go_ret
      exact ⟨rfl, rfl⟩

end Go.Proofs.YtmfmfdiphlkdiaaGreat

/- Guilds as plain lists of numbers: which are right, their bounds, what lies within them. Lists and numbers alone; no condition but those that a theorem names. -/
namespace Go.Proofs.YtmfmfdiphlkdiaaGreat
open Go.ChangeShapes Go.WideShapes Go.ChangeAt Go.RowKit Go.Sort
set_option linter.unusedVariables false

def pairB (lo hi : Int) : Bool := inB lo 0 1024 && inB hi 0 1024 && decide (lo ≤ hi)
theorem pairB_of {lo hi : Int} (h : pairB lo hi = true) : 0 ≤ lo ∧ lo ≤ 1024 ∧ 0 ≤ hi ∧ hi ≤ 1024 ∧ lo ≤ hi := by
  unfold pairB at h
  simp only [Bool.and_eq_true, decide_eq_true_eq] at h
  obtain ⟨⟨h1, h2⟩, h3⟩ := h
  exact ⟨(inB_of h1).1, (inB_of h1).2, (inB_of h2).1, (inB_of h2).2, h3⟩
def guildB (g : GuildV) (n : Int) : Bool := inB g.1 (-1) (n - 1) && pairB g.2.1 g.2.2
/-- The first k of them are right. -/
def upToB (ps : List GuildV) (k : Nat) : Bool := (List.range k).all fun i => guildB (recAt ps i) i
theorem upToB_succ (ps : List GuildV) (k : Nat) : upToB ps (k + 1) = (upToB ps k && guildB (recAt ps k) k) := by unfold upToB; rw [List.range_succ, List.all_append]; simp
theorem upToB_f {ps : List GuildV} {k n : Nat} (hk : k < n) (h : guildB (recAt ps k) k = false) : upToB ps n = false := by
  unfold upToB
  rw [List.all_eq_false]
  exact ⟨k, List.mem_range.2 hk, by simp [h]⟩
def guildsB (ps : List GuildV) : Bool := upToB ps ps.length && decide (ps.length ≤ 6)
theorem guildsB_of {ps : List GuildV} (h : guildsB ps = true) : upToB ps ps.length = true ∧ ps.length ≤ 6 := by
  unfold guildsB at h
  simpa using h
theorem guildsB_f {ps : List GuildV} {k : Nat} (hk : k < ps.length) (h : guildB (recAt ps k) k = false) : guildsB ps = false := by unfold guildsB; rw [upToB_f hk h]; rfl
theorem guildsB_long {ps : List GuildV} (h : 6 < ps.length) : guildsB ps = false := by unfold guildsB; simp; omega
end Go.Proofs.YtmfmfdiphlkdiaaGreat

/- Contracts of chapter 8's functions and of their models: each returns what the plain lists say and writes into no memory that was there. Condition: the slices can be read, and what a theorem names. -/
namespace Go.Proofs.YtmfmfdiphlkdiaaGreat
open Go.ChangeShapes Go.WideShapes Go.ChangeAt Go.RowKit Go.Sort
set_option linter.unusedVariables false

theorem pairB_t {lo hi : Int} (h0 : 0 ≤ lo) (h1 : lo ≤ hi) (h2 : hi ≤ 1024) : pairB lo hi = true := by unfold pairB; rw [inB_t h0 (by omega), inB_t (by omega) h2]; simp; omega
theorem pairB_f {lo hi : Int} (h : lo < 0 ∨ hi < lo ∨ 1024 < hi) : pairB lo hi = false := by
  cases e : pairB lo hi
  · rfl
  · have := pairB_of e; omega

theorem areBounds_any (lo hi : Int) (w : World) : Calls Tryz.prog 201 #[.int .i64 lo, .int .i64 hi] w fun e w' => e = .returned (.bool (pairB lo hi)) ∧ w' = w := by
  by_cases h1 : 0 ≤ lo
  · by_cases h2 : lo ≤ hi
    · by_cases h3 : hi ≤ 1024
      all_goals
        go_enter Tryz.func201, Tryz.ntmps201
        go_wp2
        go_ret
        exact ⟨ret_bool (by first | exact (pairB_t h1 h2 h3).symm | exact (pairB_f (by omega)).symm), rfl⟩
    · go_enter Tryz.func201, Tryz.ntmps201
      go_wp2
      go_ret
      exact ⟨ret_bool (pairB_f (by omega)).symm, rfl⟩
  · go_enter Tryz.func201, Tryz.ntmps201
    go_wp2
    go_ret
    exact ⟨ret_bool (pairB_f (by omega)).symm, rfl⟩

theorem guildOk_any (a lo hi n : Int) (w : World) : Calls Tryz.prog 165 #[.agg #[.int .i64 a, .int .i64 lo, .int .i64 hi], .int .i64 n] w fun e w' => e = .returned (.bool (guildB (a, lo, hi) n)) ∧ Below w.heap.size w w' := by
  by_cases h1 : -1 ≤ a
  · by_cases h2 : a < n
    · have hg : guildB (a, lo, hi) n = pairB lo hi := by unfold guildB; rw [inB_t h1 (by omega)]; rfl
      rw [hg]; clear hg
      go_enter Tryz.func165, Tryz.ntmps165
      go_wp2_with (go_at_call 201; refine (areBounds_any _ _ _).mono ?_; rintro e w' ⟨rfl, rfl⟩)
      go_ret
      exact ⟨rfl, (Below.refl _ _).alloc (Nat.le_refl _) _⟩
    · have hg : guildB (a, lo, hi) n = false := by unfold guildB; rw [inB_f (.inr (by omega))]; rfl
      rw [hg]; clear hg
      go_enter Tryz.func165, Tryz.ntmps165
      go_wp2_with fail
      go_ret
      exact ⟨rfl, (Below.refl _ _).alloc (Nat.le_refl _) _⟩
  · have hg : guildB (a, lo, hi) n = false := by unfold guildB; rw [inB_f (.inl (by omega))]; rfl
    rw [hg]; clear hg
    go_enter Tryz.func165, Tryz.ntmps165
    go_wp2_with fail
    go_ret
    exact ⟨rfl, (Below.refl _ _).alloc (Nat.le_refl _) _⟩

set_option maxHeartbeats 2000000 in
theorem implGuildsOk_any {w : World} {v : Value} {ps : List GuildV} (h : IsGuilds w v ps) :
    Calls Tryz.prog 164 #[v] w fun e w' => e = .returned (.bool (guildsB ps)) ∧ Below w.heap.size w w' := by
  obtain ⟨a, cap, rfl, hc, hm, hr⟩ := h
  have Hr := hide hr
  clear hr
  by_cases hbig : 6 < ps.length
  · go_enter Tryz.func164, Tryz.ntmps164
    go_wp2_with fail
    go_ret
    exact ⟨ret_bool (guildsB_long hbig).symm, Below.refl _ _⟩
  go_enter Tryz.func164, Tryz.ntmps164
  go_wp2_with fail
  go_loopw [10] (fun i wr => ∃ k : Nat, k ≤ ps.length ∧ i = .int .i64 k ∧ upToB ps k = true ∧ Below w.heap.size w wr) (fun i _ => ps.length - (intOf i).toNat)
  case atStart => exact ⟨0, Nat.zero_le _, rfl, rfl, Below.refl _ _⟩
  case round =>
    obtain ⟨k, hk, rfl, hst, hb⟩ := hrel
    have Hst := hide hst
    have Hb := hide hb
    clear hst
    by_cases hlt : k < ps.length
    · rcases unhide Hr with h0 | ⟨b, off, rfl, hbw, hcl⟩
      · rw [h0] at hlt; simp at hlt
      have hbr : b < wr.heap.size := Nat.lt_of_lt_of_le hbw hb.size
      obtain ⟨c0, c1, c2⟩ := guild_cells hcl hlt
      rw [← hb.cell (p := ⟨b, off + k * 3, none⟩) hbw] at c0
      rw [← hb.cell (p := ⟨b, off + k * 3 + 1, none⟩) hbw] at c1
      rw [← hb.cell (p := ⟨b, off + k * 3 + 2, none⟩) hbw] at c2
      generalize hp : recAt ps k = p at c0 c1 c2
      have Hp := hide hp
      clear hp
      obtain ⟨x0, x1, x2⟩ := p
      simp only at c0 c1 c2
      have hsz := hb.size
      clear hcl hb
      go_wp2_with fail
      refine (guildOk_any _ _ _ _ _).mono ?_
      rintro e w1 ⟨rfl, hb1⟩
      have Hb1 := hide ((unhide Hb).trans (((Below.refl _ _).alloc hsz _).trans (hb1.mono (by simp; omega))))
      clear hb1
      cases hg : guildB (x0, x1, x2) k
      · go_wp2_with fail
        go_ret
        exact ⟨ret_bool (guildsB_f hlt (by rw [unhide Hp]; exact hg)).symm, unhide Hb1⟩
      · go_wp2_with fail
        go_roundw
        case rel => exact ⟨k + 1, by omega, by go_num, by rw [upToB_succ, unhide Hst, unhide Hp, hg]; rfl, unhide Hb1⟩
        case measure => simp [intOf]; omega
    · obtain rfl : k = ps.length := by omega
      go_wp2_with fail
      go_ret
      exact ⟨ret_bool (by unfold guildsB; rw [unhide Hst]; simp; omega), hb⟩

end Go.Proofs.YtmfmfdiphlkdiaaGreat

/- Contracts of chapter 8's models: each returns what the plain lists say and writes into no memory that was there. Condition: the slices can be read, and what a theorem names. -/
namespace Go.Proofs.YtmfmfdiphlkdiaaGreat
open Go.ChangeShapes Go.WideShapes Go.ChangeAt Go.RowKit Go.Sort
set_option linter.unusedVariables false

theorem drewN_below {B : Nat} {w w' : World} (h : Below B w w') (n : Nat) : Below B w (w'.drewN n) := ⟨h.os, h.tape, h.output, h.size, h.block⟩

theorem guildForce_any (x : Int) (w : World) : Calls Tryz.prog 124 #[.int .i64 x] w fun e w' => e = .returned (.bool (inB x 0 1024)) ∧ w' = w := by
  go_enter Tryz.func124, Tryz.ntmps124
  go_wp2_with (go_at_call 110; refine (l1In_any _ _ _ _).mono ?_; rintro e w' ⟨rfl, rfl⟩)
  go_ret
  exact ⟨rfl, rfl⟩

theorem l8Pair_any (lo hi : Int) (w : World) : Calls Tryz.prog 64 #[.int .i64 lo, .int .i64 hi] w fun e w' => e = .returned (.bool (pairB lo hi)) ∧ w' = w := by
  cases h1 : inB lo 0 1024
  · have hp : pairB lo hi = false := by unfold pairB; rw [h1]; rfl
    rw [hp]; clear hp
    go_enter Tryz.func64, Tryz.ntmps64
    go_wp2_with (go_at_call 124; refine (guildForce_any _ _).mono ?_; rintro e w' ⟨rfl, rfl⟩)
    go_ret
    exact ⟨rfl, rfl⟩
  · cases h2 : inB hi 0 1024
    · have hp : pairB lo hi = false := by unfold pairB; rw [h1, h2]; rfl
      rw [hp]; clear hp
      go_enter Tryz.func64, Tryz.ntmps64
      go_wp2_with (go_at_call 124; refine (guildForce_any _ _).mono ?_; rintro e w' ⟨rfl, rfl⟩)
      go_ret
      exact ⟨rfl, rfl⟩
    · have hp : pairB lo hi = decide (lo ≤ hi) := by unfold pairB; rw [h1, h2]; rfl
      rw [hp]; clear hp
      by_cases h3 : lo ≤ hi
      all_goals
        go_enter Tryz.func64, Tryz.ntmps64
        go_wp2_with (go_at_call 124; refine (guildForce_any _ _).mono ?_; rintro e w' ⟨rfl, rfl⟩)
        go_ret
        exact ⟨ret_bool (by first | (simp; done) | (simp; omega)), rfl⟩

set_option maxHeartbeats 2000000 in
theorem specGuildsOk_any {w : World} {v : Value} {ps : List GuildV} (h : IsGuilds w v ps) :
    Calls Tryz.prog 119 #[v] w fun e w' => e = .returned (.bool (guildsB ps)) ∧ Below w.heap.size w w' := by
  obtain ⟨a, cap, rfl, hc, hm, hr⟩ := h
  have Hr := hide hr
  clear hr
  go_enter Tryz.func119, Tryz.ntmps119
  go_wp2_with fail
  go_loopw [3] (fun i wr => ∃ k : Nat, k ≤ ps.length ∧ i = .int .i64 k ∧ upToB ps k = true ∧ Below w.heap.size w wr) (fun i _ => ps.length - (intOf i).toNat)
  case atStart => exact ⟨0, Nat.zero_le _, rfl, rfl, Below.refl _ _⟩
  case round =>
    obtain ⟨k, hk, rfl, hst, hb⟩ := hrel
    have Hst := hide hst
    have Hb := hide hb
    clear hst
    by_cases hlt : k < ps.length
    · rcases unhide Hr with h0 | ⟨b, off, rfl, hbw, hcl⟩
      · rw [h0] at hlt; simp at hlt
      obtain ⟨c0, c1, c2⟩ := guild_cells hcl hlt
      rw [← hb.cell (p := ⟨b, off + k * 3, none⟩) hbw] at c0
      rw [← hb.cell (p := ⟨b, off + k * 3 + 1, none⟩) hbw] at c1
      rw [← hb.cell (p := ⟨b, off + k * 3 + 2, none⟩) hbw] at c2
      generalize hp : recAt ps k = p at c0 c1 c2
      have Hp := hide hp
      clear hp
      obtain ⟨x0, x1, x2⟩ := p
      simp only at c0 c1 c2
      clear hcl hb
      have hg : guildB (x0, x1, x2) k = (inB x0 (-1) ((k : Int) - 1) && pairB x1 x2) := rfl
      have Hg := hide hg
      clear hg
      cases h1 : inB x0 (-1) ((k : Int) - 1)
      · go_wp2_with fail
        go_quiet (first | exact Calls.quiet_of_same (l1In_any _ _ _ _) | exact Calls.quiet_of_same (l8Pair_any _ _ _))
        go_wp2_with fail
        go_ret
        exact ⟨ret_bool (guildsB_f hlt (by rw [unhide Hp, unhide Hg, h1]; rfl)).symm, drewN_below (unhide Hb) _⟩
      cases h2 : pairB x1 x2
      · go_wp2_with fail
        go_quiet (first | exact Calls.quiet_of_same (l1In_any _ _ _ _) | exact Calls.quiet_of_same (l8Pair_any _ _ _))
        go_wp2_with fail
        go_ret
        exact ⟨ret_bool (guildsB_f hlt (by rw [unhide Hp, unhide Hg, h1, h2]; rfl)).symm, drewN_below (unhide Hb) _⟩
      · go_wp2_with fail
        go_quiet (first | exact Calls.quiet_of_same (l1In_any _ _ _ _) | exact Calls.quiet_of_same (l8Pair_any _ _ _))
        go_wp2_with fail
        go_roundw
        case rel => exact ⟨k + 1, by omega, by go_num, by rw [upToB_succ, unhide Hst, unhide Hp, unhide Hg, h1, h2]; rfl, drewN_below (unhide Hb) _⟩
        case measure => simp [intOf]; omega
    · obtain rfl : k = ps.length := by omega
      by_cases hbig : ps.length ≤ 6
      all_goals
        go_wp2_with fail
        go_ret
        exact ⟨ret_bool (by unfold guildsB; rw [unhide Hst]; simp; omega), hb⟩

end Go.Proofs.YtmfmfdiphlkdiaaGreat

/- Smiths as eleven plain numbers: which are right, which are gone, what they are when charged and with another rank. Numbers alone; no condition but those that a theorem names. -/
namespace Go.Proofs.YtmfmfdiphlkdiaaGreat
open Go.ChangeShapes Go.WideShapes Go.ChangeAt Go.RowKit Go.Sort
set_option linter.unusedVariables false

/-- Each number is within its limits. -/
def presB (x : SmithV) : Bool :=
  inB x.1 1 3 && (inB x.2.1 0 7 && (inB x.2.2.1 (-5) 5 && (inB x.2.2.2.1 1 255 && (inB x.2.2.2.2.1 (-1) 5 && (pairB x.2.2.2.2.2.1 x.2.2.2.2.2.2.1 && (inB x.2.2.2.2.2.2.2.1 (-1000000000000) 1000000000000 &&
    (inB x.2.2.2.2.2.2.2.2.1 0 (weightV x.2.2.1 - 1) && (inB x.2.2.2.2.2.2.2.2.2.1 0 1024 && inB x.2.2.2.2.2.2.2.2.2.2 0 100000000000))))))))
/-- All are zero. -/
def zeroS : SmithV := (0, 0, 0, 0, 0, 0, 0, 0, 0, 0, 0)
/-- Number by number alike. -/
def sameB (x y : SmithV) : Bool := x.1 == y.1 && (x.2.1 == y.2.1 && (x.2.2.1 == y.2.2.1 && (x.2.2.2.1 == y.2.2.2.1 && (x.2.2.2.2.1 == y.2.2.2.2.1 && (x.2.2.2.2.2.1 == y.2.2.2.2.2.1 && (x.2.2.2.2.2.2.1 == y.2.2.2.2.2.2.1 && (x.2.2.2.2.2.2.2.1 == y.2.2.2.2.2.2.2.1 && (x.2.2.2.2.2.2.2.2.1 == y.2.2.2.2.2.2.2.2.1 && (x.2.2.2.2.2.2.2.2.2.1 == y.2.2.2.2.2.2.2.2.2.1 && (x.2.2.2.2.2.2.2.2.2.2 == y.2.2.2.2.2.2.2.2.2.2))))))))))
theorem sameB_refl (x : SmithV) : sameB x x = true := by unfold sameB; simp
theorem sameB_of {x y : SmithV} (h : sameB x y = true) : x = y := by
  obtain ⟨x0, x1, x2, x3, x4, x5, x6, x7, x8, x9, x10⟩ := x
  obtain ⟨y0, y1, y2, y3, y4, y5, y6, y7, y8, y9, y10⟩ := y
  unfold sameB at h
  simp only [Bool.and_eq_true, beq_iff_eq] at h
  obtain ⟨rfl, rfl, rfl, rfl, rfl, rfl, rfl, rfl, rfl, rfl, rfl⟩ := h
  rfl
def goneB (x : SmithV) : Bool := sameB x zeroS
def smithB (x : SmithV) : Bool := goneB x || presB x
theorem weight_in (r : Int) : 0 ≤ weightV r ∧ weightV r ≤ 3125 := by
  cases h : inB r (-5) 5
  · rw [weightV_none h]; omega
  · rcases ranks h with rfl | rfl | rfl | rfl | rfl | rfl | rfl | rfl | rfl | rfl | rfl <;> decide
theorem presB_of {st be rk my gu lo hi hd ca ut wk : Int} (h : presB (st, be, rk, my, gu, lo, hi, hd, ca, ut, wk) = true) : (1 ≤ st ∧ st ≤ 3) ∧ (0 ≤ be ∧ be ≤ 7) ∧ inB rk (-5) 5 = true ∧ (1 ≤ my ∧ my ≤ 255) ∧ (-1 ≤ gu ∧ gu ≤ 5) ∧ pairB lo hi = true ∧ (-1000000000000 ≤ hd ∧ hd ≤ 1000000000000) ∧ (0 ≤ ca ∧ ca ≤ weightV rk - 1) ∧ (0 ≤ ut ∧ ut ≤ 1024) ∧ (0 ≤ wk ∧ wk ≤ 100000000000) := by
  unfold presB at h
  simp only [Bool.and_eq_true] at h
  obtain ⟨h0, h1, h2, h3, h4, h5, h6, h7, h8, h9⟩ := h
  exact ⟨inB_of h0, inB_of h1, h2, inB_of h3, inB_of h4, h5, inB_of h6, inB_of h7, inB_of h8, inB_of h9⟩
theorem goneB_of {x : SmithV} (h : goneB x = true) : x = zeroS := sameB_of h
theorem goneB_zero : goneB zeroS = true := sameB_refl _
theorem goneB_st {x : SmithV} (h : x.1 ≠ 0) : goneB x = false := by
  cases hg : goneB x
  · rfl
  · exact absurd (show x.1 = 0 by rw [goneB_of hg]; rfl) h
theorem presB_st {x : SmithV} (h : x.1 = 0) : presB x = false := by
  unfold presB
  rw [h]
  rfl
end Go.Proofs.YtmfmfdiphlkdiaaGreat

/- Contracts of chapter 2's small functions and of their models: whether a number is a set, and whether a bench is in it. No condition but those that a theorem names. -/
namespace Go.Proofs.YtmfmfdiphlkdiaaGreat
open Go.ChangeShapes Go.WideShapes Go.ChangeAt Go.RowKit
set_option linter.unusedVariables false

theorem implSetOk_any (s : Int) (w : World) : Calls Tryz.prog 212 #[.int .i64 s] w fun e w' => e = .returned (.bool (inB s 0 255)) ∧ w' = w := by
  by_cases h1 : 0 ≤ s
  · by_cases h2 : s ≤ 255
    all_goals
      go_enter Tryz.func212, Tryz.ntmps212
      go_wp2
      go_ret
      exact ⟨ret_bool (by first | exact (inB_t h1 h2).symm | exact (inB_f (by omega)).symm), rfl⟩
  · go_enter Tryz.func212, Tryz.ntmps212
    go_wp2
    go_ret
    exact ⟨ret_bool (inB_f (by omega)).symm, rfl⟩

theorem isBench_any (i : Int) (w : World) : Calls Tryz.prog 213 #[.int .i64 i] w fun e w' => e = .returned (.bool (inB i 0 7)) ∧ w' = w := by
  by_cases h1 : 0 ≤ i
  · by_cases h2 : i < 8
    all_goals
      go_enter Tryz.func213, Tryz.ntmps213
      go_wp2
      go_ret
      exact ⟨ret_bool (by first | exact (inB_t h1 (by omega)).symm | exact (inB_f (by omega)).symm), rfl⟩
  · go_enter Tryz.func213, Tryz.ntmps213
    go_wp2
    go_ret
    exact ⟨ret_bool (inB_f (by omega)).symm, rfl⟩

/-- Whether the bit i of s is set. -/
def bitB (s i : Int) : Bool := decide (s / 2 ^ i.toNat % 2 = 1)
/-- Whether the bench i is in the set s. -/
def memB (s i : Int) : Bool := inB s 0 255 && inB i 0 7 && bitB s i

theorem i64_and1 (n : Int) : bits .and .i64 n 1 = n % 2 := by
  have h1 : (BitVec.ofInt 64 1).toNat = 2 ^ 1 - 1 := by decide
  have key : (BitVec.ofInt 64 n &&& BitVec.ofInt 64 1).toNat = (n % ((2 ^ 64 : Nat) : Int)).toNat % 2 ^ 1 := by
    rw [BitVec.toNat_and, BitVec.toNat_ofInt, h1, Nat.and_two_pow_sub_one_eq_mod]
  show IntKind.i64.wrap ((BitVec.ofInt 64 n &&& BitVec.ofInt 64 1).toNat : Nat) = n % 2
  rw [key, IntKind.wrap_i64]
  omega
theorem bit_eq (s i : Int) : (bits .and .i64 (s / 2 ^ i.toNat) 1 == 1) = bitB s i := by rw [i64_and1]; unfold bitB; rfl
theorem memB_f {s i : Int} (h : inB s 0 255 = false ∨ inB i 0 7 = false) : memB s i = false := by unfold memB; rcases h with h | h <;> simp [h]
theorem memB_t {s i : Int} (hs : inB s 0 255 = true) (hi : inB i 0 7 = true) : memB s i = bitB s i := by unfold memB; simp [hs, hi]

theorem l2Has_any (s i : Int) (w : World) (hs : 0 ≤ s) (hs2 : s ≤ 255) (hi : 0 ≤ i) (hi2 : i ≤ 7) : Calls Tryz.prog 122 #[.int .i64 s, .int .i64 i] w fun e w' => e = .returned (.bool (bitB s i)) ∧ w' = w := by
  go_enter Tryz.func122, Tryz.ntmps122
  go_wp2
  go_ret
  exact ⟨ret_bool (bit_eq s i), rfl⟩

theorem implInSet_any (s i : Int) (w : World) : Calls Tryz.prog 178 #[.int .i64 s, .int .i64 i] w fun e w' => e = .returned (.bool (memB s i)) ∧ w' = w := by
  by_cases hb : inB s 0 255 = true
  · obtain ⟨hs, hs2⟩ := inB_of hb
    by_cases hc : inB i 0 7 = true
    · obtain ⟨hi, hi2⟩ := inB_of hc
      go_enter Tryz.func178, Tryz.ntmps178
      go_wp2_with (first | (go_at_call 212; refine (implSetOk_any _ _).mono ?_; rintro e w' ⟨rfl, rfl⟩) | (go_at_call 213; refine (isBench_any _ _).mono ?_; rintro e w' ⟨rfl, rfl⟩))
      go_ret
      exact ⟨ret_bool ((bit_eq s i).trans (memB_t hb hc).symm), rfl⟩
    · have hc' : inB i 0 7 = false := by simpa using hc
      go_enter Tryz.func178, Tryz.ntmps178
      go_wp2_with (first | (go_at_call 212; refine (implSetOk_any _ _).mono ?_; rintro e w' ⟨rfl, rfl⟩) | (go_at_call 213; refine (isBench_any _ _).mono ?_; rintro e w' ⟨rfl, rfl⟩))
      go_ret
      exact ⟨ret_bool (memB_f (.inr hc')).symm, rfl⟩
  · have hb' : inB s 0 255 = false := by simpa using hb
    go_enter Tryz.func178, Tryz.ntmps178
    go_wp2_with (first | (go_at_call 212; refine (implSetOk_any _ _).mono ?_; rintro e w' ⟨rfl, rfl⟩) | (go_at_call 213; refine (isBench_any _ _).mono ?_; rintro e w' ⟨rfl, rfl⟩))
    go_ret
    exact ⟨ret_bool (memB_f (.inl hb')).symm, rfl⟩

end Go.Proofs.YtmfmfdiphlkdiaaGreat

/- Smithies as plain lists: which are right. Lists and numbers alone; no condition but those that a theorem names. -/
namespace Go.Proofs.YtmfmfdiphlkdiaaGreat
open Go.ChangeShapes Go.WideShapes Go.ChangeAt Go.RowKit Go.Sort
set_option linter.unusedVariables false

/-- Who waits or works. -/
def presS (s : SmithV) : Bool := s.1 == 2 || s.1 == 3
def bandB (had mark : Int) : Bool := inB had (-1000000000000) 1000000000000 && (inB mark (-1000000000000) 1000000000000 && inB (had - mark) (-20000) 63000)
def deskB (d : DeskV) : Bool := inB d.2.2 (-900000000000) 900000000000
def paceInB (m : SmyV) (j : Nat) : Bool := inB (recAt m.paces j) 0 (((roomAt m.rooms j).2.length : Int) - 1)
/-- A right smith whose guild and bench are there. -/
def hereB (m : SmyV) (s : SmithV) : Bool := smithB s && (s.1 == 0 || (decide (s.2.2.2.2.1 < m.guilds.length) && decide (s.2.1 < m.desks.length)))
/-- Who waits or works is at an open bench that is in its May, and in the band. -/
def seatB (m : SmyV) (s : SmithV) : Bool := !presS s || ((recAt m.desks s.2.1.toNat).1 && (bitB s.2.2.2.1 s.2.1 && bandB s.2.2.2.2.2.2.2.1 (recAt m.desks s.2.1.toNat).2.2))
def headB (m : SmyV) : Bool := hallB m.rooms && (guildsB m.guilds && (decide (m.smiths.length ≤ 12) && (decide ((m.desks.length : Int) = benchSum m.rooms) && (decide (m.paces.length = m.rooms.length) && inB m.now 0 1000000))))
def upDesks (m : SmyV) (k : Nat) : Bool := (List.range k).all fun j => deskB (recAt m.desks j)
def upOpen (m : SmyV) (k : Nat) : Bool := (List.range k).any fun j => (recAt m.desks j).1
def upPaces (m : SmyV) (k : Nat) : Bool := (List.range k).all fun j => paceInB m j
def upSmiths (m : SmyV) (k : Nat) : Bool := (List.range k).all fun j => hereB m (recAt m.smiths j) && seatB m (recAt m.smiths j)
/-- Right, but for who works. -/
def looseB (m : SmyV) : Bool := headB m && (upDesks m m.desks.length && (upPaces m m.paces.length && (upSmiths m m.smiths.length && upOpen m m.desks.length)))

theorem all_up {p : Nat → Bool} (k : Nat) : (List.range (k + 1)).all p = ((List.range k).all p && p k) := by rw [List.range_succ, List.all_append]; simp
theorem any_up {p : Nat → Bool} (k : Nat) : (List.range (k + 1)).any p = ((List.range k).any p || p k) := by rw [List.range_succ, List.any_append]; simp
theorem all_no {p : Nat → Bool} {k n : Nat} (hk : k < n) (h : p k = false) : (List.range n).all p = false := by
  rw [List.all_eq_false]
  exact ⟨k, List.mem_range.2 hk, by simp [h]⟩
theorem all_at {p : Nat → Bool} {k n : Nat} (h : (List.range n).all p = true) (hk : k < n) : p k = true := List.all_eq_true.1 h k (List.mem_range.2 hk)
theorem looseB_head {m : SmyV} (h : headB m = false) : looseB m = false := by unfold looseB; rw [h]; rfl
theorem looseB_desk {m : SmyV} {k : Nat} (hk : k < m.desks.length) (h : deskB (recAt m.desks k) = false) : looseB m = false := by
  unfold looseB upDesks
  rw [all_no hk h]; simp
theorem looseB_pace {m : SmyV} {k : Nat} (hk : k < m.paces.length) (h : paceInB m k = false) : looseB m = false := by
  unfold looseB upPaces
  rw [all_no (p := fun j => paceInB m j) hk h]; simp
theorem looseB_smith {m : SmyV} {k : Nat} (hk : k < m.smiths.length) (h : (hereB m (recAt m.smiths k) && seatB m (recAt m.smiths k)) = false) : looseB m = false := by
  unfold looseB upSmiths
  rw [all_no (p := fun j => hereB m (recAt m.smiths j) && seatB m (recAt m.smiths j)) hk h]; simp
theorem looseB_all {m : SmyV} (h1 : headB m = true) (h2 : upDesks m m.desks.length = true) (h3 : upPaces m m.paces.length = true) (h4 : upSmiths m m.smiths.length = true) : looseB m = upOpen m m.desks.length := by
  unfold looseB; rw [h1, h2, h3, h4]; rfl
theorem hereB_of {m : SmyV} {s : SmithV} (h : hereB m s = true) (hp : presS s = true) : 0 ≤ s.2.1 ∧ s.2.1 < m.desks.length ∧ s.2.1 ≤ 7 ∧ 1 ≤ s.2.2.2.1 ∧ s.2.2.2.1 ≤ 255 ∧ s.2.2.2.2.1 < m.guilds.length := by
  obtain ⟨st, be, rk, my, gu, lo, hi, hd, ca, ut, wk⟩ := s
  have hst : st ≠ 0 := by
    intro e
    subst e
    cases hp
  unfold hereB at h
  simp only [Bool.and_eq_true, Bool.or_eq_true, decide_eq_true_eq] at h
  obtain ⟨h1, h2⟩ := h
  rcases h2 with h2 | ⟨h2, h3⟩
  · exact absurd (by simpa using h2) hst
  · have hs : smithB (st, be, rk, my, gu, lo, hi, hd, ca, ut, wk) = presB (st, be, rk, my, gu, lo, hi, hd, ca, ut, wk) := by unfold smithB; rw [goneB_st hst, Bool.false_or]
    rw [hs] at h1
    obtain ⟨_, ⟨b0, b1⟩, _, ⟨m0, m1⟩, _⟩ := presB_of h1
    exact ⟨b0, h3, b1, m0, m1, h2⟩

/-- Of the first k smiths: who works at b (-1: nobody), and whether one waits there; none where two work. -/
def scanV (ss : List SmithV) (b : Int) : Nat → Option (Int × Bool)
  | 0 => some (-1, false)
  | k + 1 => match scanV ss b k with
    | none => none
    | some (wk, wt) => if (recAt ss k).2.1 = b ∧ presS (recAt ss k) = true then (if (recAt ss k).1 = 2 then some (wk, true) else if 0 ≤ wk then none else some ((k : Int), wt)) else some (wk, wt)
def benchOkB (m : SmyV) (b : Nat) : Bool := match scanV m.smiths b m.smiths.length with
  | none => false
  | some (wk, wt) => (recAt m.desks b).2.1 == wk && !(wt && decide (wk < 0))
def smyB (m : SmyV) : Bool := looseB m && (List.range m.desks.length).all (benchOkB m)

end Go.Proofs.YtmfmfdiphlkdiaaGreat

/- Smiths that are compared: two are alike where all their numbers are; and the weights as letters. No condition. -/
namespace Go.Proofs.YtmfmfdiphlkdiaaGreat
open Go.ChangeShapes Go.WideShapes Go.ChangeAt Go.RowKit Go.Sort
set_option linter.unusedVariables false

set_option maxHeartbeats 1000000 in
theorem smith_equal (x0 x1 x2 x3 x4 x5 x6 x7 x8 x9 x10 y0 y1 y2 y3 y4 y5 y6 y7 y8 y9 y10 : Int) (w : World) : (Op.equalIn 10000 41 (.agg #[.int .i64 x0, .int .i64 x1, .int .i64 x2, .int .i64 x3, .int .i64 x4, .int .i64 x5, .int .i64 x6, .int .i64 x7, .int .i64 x8, .int .i64 x9, .int .i64 x10]) (.agg #[.int .i64 y0, .int .i64 y1, .int .i64 y2, .int .i64 y3, .int .i64 y4, .int .i64 y5, .int .i64 y6, .int .i64 y7, .int .i64 y8, .int .i64 y9, .int .i64 y10])).run Tryz.prog w = .ok (sameB (x0, x1, x2, x3, x4, x5, x6, x7, x8, x9, x10) (y0, y1, y2, y3, y4, y5, y6, y7, y8, y9, y10)) w := by
  have u := Tryz.underlying2
  have a := Tryz.isAgg2
  have z := Tryz.sizeOf2
  have hS : Tryz.prog.underlying 41 = some (.struct (Tryz.prog.fieldsOf 41)) := by kernel_rfl
  have hp : Tryz.prog.stoodInHeld 41 = false := by kernel_rfl
  rw [show (10000 : Nat) = 9999 + 1 from rfl, run_equalIn_agg w 9999 41 _ _ hS hp]
  simp only [Program.fieldsOf, Tryz.underlying41]
  go_simp
  unfold sameB
  by_cases h0 : x0 = y0
  rotate_left
  · simp [h0]
  subst h0
  by_cases h1 : x1 = y1
  rotate_left
  · simp [h1]
  subst h1
  by_cases h2 : x2 = y2
  rotate_left
  · simp [h2]
  subst h2
  by_cases h3 : x3 = y3
  rotate_left
  · simp [h3]
  subst h3
  by_cases h4 : x4 = y4
  rotate_left
  · simp [h4]
  subst h4
  by_cases h5 : x5 = y5
  rotate_left
  · simp [h5]
  subst h5
  by_cases h6 : x6 = y6
  rotate_left
  · simp [h6]
  subst h6
  by_cases h7 : x7 = y7
  rotate_left
  · simp [h7]
  subst h7
  by_cases h8 : x8 = y8
  rotate_left
  · simp [h8]
  subst h8
  by_cases h9 : x9 = y9
  rotate_left
  · simp [h9]
  subst h9
  by_cases h10 : x10 = y10
  rotate_left
  · simp [h10]
  subst h10
  simp
theorem smith_eql (x0 x1 x2 x3 x4 x5 x6 x7 x8 x9 x10 y0 y1 y2 y3 y4 y5 y6 y7 y8 y9 y10 : Int) (w : World) : (binOp .eql 41 (.agg #[.int .i64 x0, .int .i64 x1, .int .i64 x2, .int .i64 x3, .int .i64 x4, .int .i64 x5, .int .i64 x6, .int .i64 x7, .int .i64 x8, .int .i64 x9, .int .i64 x10]) (.agg #[.int .i64 y0, .int .i64 y1, .int .i64 y2, .int .i64 y3, .int .i64 y4, .int .i64 y5, .int .i64 y6, .int .i64 y7, .int .i64 y8, .int .i64 y9, .int .i64 y10])).run Tryz.prog w = .ok (.bool (sameB (x0, x1, x2, x3, x4, x5, x6, x7, x8, x9, x10) (y0, y1, y2, y3, y4, y5, y6, y7, y8, y9, y10))) w := by
  rw [run_eql_struct, smith_equal]; rfl
theorem smith_neq (x0 x1 x2 x3 x4 x5 x6 x7 x8 x9 x10 y0 y1 y2 y3 y4 y5 y6 y7 y8 y9 y10 : Int) (w : World) : (binOp .neq 41 (.agg #[.int .i64 x0, .int .i64 x1, .int .i64 x2, .int .i64 x3, .int .i64 x4, .int .i64 x5, .int .i64 x6, .int .i64 x7, .int .i64 x8, .int .i64 x9, .int .i64 x10]) (.agg #[.int .i64 y0, .int .i64 y1, .int .i64 y2, .int .i64 y3, .int .i64 y4, .int .i64 y5, .int .i64 y6, .int .i64 y7, .int .i64 y8, .int .i64 y9, .int .i64 y10])).run Tryz.prog w = .ok (.bool (!sameB (x0, x1, x2, x3, x4, x5, x6, x7, x8, x9, x10) (y0, y1, y2, y3, y4, y5, y6, y7, y8, y9, y10))) w := by
  rw [run_neq_struct, smith_equal]; rfl

theorem implWeightOf_v {r x : Int} (h : weightV r = x) (w : World) : Calls Tryz.prog 286 #[.int .i64 r] w fun e w' => e = .returned (.int .i64 x) ∧ w' = w := by
  have := implWeightOf_any r w; rw [h] at this; exact this
theorem specWeightOf_v {r x : Int} (h : weightV r = x) (w : World) : Calls Tryz.prog 183 #[.int .i64 r] w fun e w' => e = .returned (.int .i64 x) ∧ w' = w := by
  have := specWeightOf_any r w; rw [h] at this; exact this

end Go.Proofs.YtmfmfdiphlkdiaaGreat

