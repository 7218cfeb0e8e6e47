/- What the proof rests on, part 11: lists and numbers, how they lie in memory, and contracts of the calls. No condition but those that a theorem names. -/
import Derived.Test.YtmhagllddhjgmaaXn01
import Derived.Test.YtmhagllddhjgmaaXn02
import Derived.Test.YtmhagllddhjgmaaXn03
import Derived.Test.YtmhagllddhjgmaaXn04
import Derived.Test.YtmhagllddhjgmaaXn05
import Derived.Test.YtmhagllddhjgmaaXn06
import Derived.Test.YtmhagllddhjgmaaXn07
import Derived.Test.YtmhagllddhjgmaaXn08
import Derived.Test.YtmhagllddhjgmaaXn09
import Derived.Test.YtmhagllddhjgmaaXn10
import Derived.WalkMore
import Derived.Below
import Derived.WalkKit
import Derived.ProofKit
import Derived.OpenShut
import Derived.Outline
import Derived.Lib.QuietBelow
import Derived.Deep.RegionWith
import Derived.Deep.QuietTactic
import Derived.BigQuiet
import Derived.Deep.DrawnRows
import Derived.BigRegion
import Derived.Deep.RegionLawGrows
import Derived.Laws.OwnMore
import Derived.OwnWalk
import Derived.Maps.AppendAt
import Derived.Lib.SmallJoins
import Derived.Deep.Fields
import Derived.Deep.Slices
import Derived.OrdersHeld
import Derived.Deep.RegionHeldLaw
import Derived.Deep.DeepCutAuto
/- A hall copied by the program, and a new smithy: lists, and the contract of copyOfHall. Condition: the hall can be read. -/
namespace Go.Proofs.Ytmhagllddhjgmaa
open Go.ChangeShapes Go.WideShapes Go.ChangeAt Go.RowKit Go.Sort
set_option linter.unusedVariables false
set_option linter.unusedSimpArgs false
set_option maxRecDepth 100000

theorem own_hall_empty {B g : Nat} {w : World} (hg : g = w.heap.size) (hB : B ≤ g) : OwnHall B (w.alloc (.cells #[] 67)) (.slice (some ⟨g, 0, none⟩) 0 0) [] := by
  subst hg
  exact ⟨⟨by simp [rcells], .inr ⟨_, 0, #[], rfl, hB, heap_alloc_new w _, Nat.le_refl _, Nat.zero_le _, by simp, by simp [rcells]⟩⟩, fun _ h => (by cases h), fun _ h => (by cases h), List.Pairwise.nil⟩

set_option maxHeartbeats 1000000 in
theorem copied_any {w : World} {v : Value} {ps : List PaceV} (h : IsPaces w v ps) (hl : ps.length ≤ 1000) : Calls Try.prog 43 #[v] w fun e w' => ∃ v', e = .returned v' ∧ PacesAt w.heap.size w' v' ps ∧ Below w.heap.size w w' := by
  have HR := hide (IsPaces.rec (h.below ((Below.refl _ _).alloc (Nat.le_refl _) (.cells #[] 75))))
  obtain ⟨a, cap, rfl, hc, hm, hr⟩ := h
  clear hr
  go_enter Try.func43, Try.ntmps43
  go_wp2_with (at_builtin; refine wpList_append_recs tyPace rfl (.tmp 3) (.tmp 4) 72 Try.underlying72 rfl w.heap.size _ _ [] ps rfl rfl (recs_empty rfl (Nat.le_refl _)) (unhide HR) (by simp; omega) (by simp) ?_; intro u9 w9 hp9 hg9 hat9; rw [List.nil_append] at hp9; have HP9 := hide hp9; have HG9 := hide hg9; clear hp9 hg9 hat9)
  have hb9 : Below w.heap.size w w9 := ((Below.refl _ _).alloc (Nat.le_refl _) _).trans ((Below.refl _ _).grown (unhide HG9) (by simp) (fun i e => by cases e; exact Nat.le_refl _))
  go_wp2_with fail
  go_ret
  exact ⟨_, rfl, unhide HP9, hb9⟩

set_option maxHeartbeats 8000000 in
theorem copyOfHall_any {w : World} {v : Value} {rs : List RoomV} (h : IsRooms w v rs) (hl : rs.length ≤ 1000) (hp : ∀ r ∈ rs, r.2.length ≤ 1000) :
    Calls Try.prog 19 #[.agg #[v]] w fun e w' => ∃ v' qs, e = .returned (.agg #[v']) ∧ qs.map (·.1) = rs ∧ OwnHall w.heap.size w' v' qs ∧ Below w.heap.size w w' := by
  obtain ⟨a, cap, rfl, hc, hm, hr⟩ := h
  have Hr := hide hr
  have HP := hide hp
  clear hr hp
  go_enter Try.func19, Try.ntmps19
  go_wp2_with fail
  go_loopw [3, 10] (fun u i wr => ∃ (k : Nat) (qs : List (RoomV × Value)) (ua : Option Addr) (uc : Nat), k ≤ rs.length ∧ i = .int .i64 k ∧ u = .slice ua k uc ∧ Blk wr (w.heap.size + 1) 28 #[.slice none 0 0] ∧ OwnHall (w.heap.size + 2) wr (.slice ua k uc) qs ∧ qs.map (·.1) = rs.take k ∧ Below w.heap.size w wr) (fun _ i _ => rs.length - (intOf i).toNat)
  case atStart =>
    refine ⟨0, [], _, _, Nat.zero_le _, rfl, rfl, ?_, own_hall_empty (by simp) (by simp), rfl, (((Below.refl _ _).alloc (Nat.le_refl _) _).alloc (by simp) _).alloc (by simp; omega) _⟩
    have k := Blk.new (w.alloc (.cells #[.slice a rs.length cap] 28)) 28 #[.slice none 0 0]
    rw [World.size_alloc] at k
    exact k.alloc _
  case round =>
    obtain ⟨k, qs, ua, uc, hk, rfl, rfl, kr, ho, hq, hb⟩ := hrel
    have hql : qs.length = k := by have := congrArg List.length hq; simp at this; omega
    have Hql := hide hql
    clear hql
    have Kr := hide kr
    have Ho := hide ho
    have Hq := hide hq
    have Hb := hide hb
    have hsz := kr.lt
    by_cases hlt : k < rs.length
    · have hlt1 : (k : Int) < (rs.length : Int) := by omega
      rcases unhide Hr with e0 | ⟨b, off, rfl, hbw, hcl⟩
      · rw [e0] at hlt; simp at hlt
      obtain ⟨c0, pv, c1, hpv⟩ := hcl k hlt
      rw [← hb.cell (p := ⟨b, off + k * 2, none⟩) hbw] at c0
      rw [← hb.cell (p := ⟨b, off + k * 2 + 1, none⟩) hbw] at c1
      have Hpv := hide (hpv.below (hb.mono (Nat.le_refl _)))
      have hpl := unhide HP (roomAt rs k) (by unfold roomAt; simp [List.getD, hlt])
      have Htk : Hid (rs.take (k + 1) = rs.take k ++ [roomAt rs k]) := hide (by rw [List.take_succ_eq_append_getElem hlt]; unfold roomAt; simp [List.getD, hlt])
      generalize roomAt rs k = r at *
      obtain ⟨n, ps⟩ := r
      simp only at c0 hpl hpv
      obtain ⟨pa, pc, rfl, _, _, _⟩ := hpv
      have hbw' : b < wr.heap.size := by have := hb.size; omega
      clear hcl kr ho hq hb
      go_wp2_with fail
      clear c0 c1
      have hba : Below wr.heap.size wr (wr.alloc (.cells #[.int .i64 n, .slice pa ps.length pc] 67)) := (Below.refl _ _).alloc (Nat.le_refl _) _
      have KB : Hid (Blk (wr.alloc (.cells #[.int .i64 n, .slice pa ps.length pc] 67)) wr.heap.size 67 #[.int .i64 n, .slice pa ps.length pc]) := hide (Blk.new wr _ _)
      replace Kr := hide ((unhide Kr).below hba (unhide Kr).lt)
      have HLB : Hid (∀ i, (Value.slice ua k uc).ownBlock = some i → i < wr.heap.size) := hide (fun i e => ((unhide Ho).lt (.inl e)).2)
      replace Ho := hide ((unhide Ho).later hba)
      replace Hb := hide ((unhide Hb).trans (hba.mono (unhide Hb).size))
      replace Hpv := hide ((unhide Hpv).below hba)
      have hsz2 : w.heap.size + 2 ≤ (wr.alloc (.cells #[.int .i64 n, .slice pa ps.length pc] 67)).heap.size := by have := (unhide Kr).lt; simp at this ⊢; omega
      clear hba
      generalize wr.alloc (.cells #[.int .i64 n, .slice pa ps.length pc] 67) = X at *
      generalize wr.heap.size = rb at *
      have s0 := (unhide KB).cell (i := 0) (v := .int .i64 n) rfl
      have s1 := (unhide KB).cell (i := 1) (v := .slice pa ps.length pc) rfl
      refine wp_region_last (S := fun w' => w'.cell? ⟨rb, 0, none⟩ = some (.int .i64 n) ∧ w'.cell? ⟨rb, 1, none⟩ = some (.slice pa ps.length pc)) (by kernel_rfl) (List.cons_ne_nil _ _) (by kernel_rfl) ⟨s0, s1⟩ (fun hHeld => ?_)
      simp only [List.dropLast_cons_cons, List.dropLast_singleton, List.length_cons, List.length_nil, Nat.zero_add, Nat.reduceAdd]
      (refine wpAnyH_take (i := 0) (v := ?_) rfl (by kernel_rfl) (by kernel_rfl) (by kernel_rfl) (fun _ _ _ h => h) (Or.inl ⟨by rfl, ?_⟩) (by assumption) ?_; rotate_left; (intro W9 hSw; (try dsimp only at hSw); go_simp; (try with_reducible rfl)); (try simp only [Act.put, List.setIfInBounds_toArray, List.set_cons_zero, List.set_cons_succ]))
      (refine wpAnyH_take (i := 1) (v := ?_) rfl (by kernel_rfl) (by kernel_rfl) (by kernel_rfl) (fun _ _ _ h => h) (Or.inl ⟨by rfl, ?_⟩) (by assumption) ?_; rotate_left; (intro W9 hSw; (try dsimp only at hSw); go_simp; (try with_reducible rfl)); (try simp only [Act.put, List.setIfInBounds_toArray, List.set_cons_zero, List.set_cons_succ]))
      (refine wpAnyH_take (i := 2) (v := ?_) rfl (by kernel_rfl) (by kernel_rfl) (by kernel_rfl) (fun _ _ _ h => h) (Or.inl ⟨by rfl, ?_⟩) (by assumption) ?_; rotate_left; (intro W9 hSw; (try dsimp only at hSw); go_simp; (try with_reducible rfl)); (try simp only [Act.put, List.setIfInBounds_toArray, List.set_cons_zero, List.set_cons_succ]))
      (refine wpAnyH_take (i := 3) (v := ?_) rfl (by kernel_rfl) (by kernel_rfl) (by kernel_rfl) (fun _ _ _ h => h) (Or.inl ⟨by rfl, ?_⟩) (by assumption) ?_; rotate_left; (intro W9 hSw; (try dsimp only at hSw); go_simp; (try with_reducible rfl)); (try simp only [Act.put, List.setIfInBounds_toArray, List.set_cons_zero, List.set_cons_succ]))
      (refine wpAnyH_take (i := 4) (v := ?_) rfl (by kernel_rfl) (by kernel_rfl) (by kernel_rfl) (fun _ _ _ h => h) (Or.inl ⟨by rfl, ?_⟩) (by assumption) ?_; rotate_left; (intro W9 hSw; (try dsimp only at hSw); go_simp; (try with_reducible rfl)); (try simp only [Act.put, List.setIfInBounds_toArray, List.set_cons_zero, List.set_cons_succ]))
      refine wpAnyH_ready (rs := [5]) (by kernel_rfl) (by simp) ?_
      refine AllReadyH.cons rfl (fun K hK => ?_) AllReadyH.nil
      go_simp
      refine (copied_any ((unhide Hpv).below (Below.refl _ _).drew) hpl).mono ?_
      rintro e9 w4 ⟨v4, rfl, hp4, hb4⟩
      obtain ⟨pa4, pc4, rfl⟩ := PacesAt.shape hp4
      have X4 : Below X.heap.size X w4 := (Below.refl X.heap.size X).drew.trans hb4
      have HO4 : Hid (PacesAt X.heap.size w4 (.slice pa4 ps.length pc4) ps) := hide hp4
      have HX4 := hide X4
      have hz4 := X4.size
      have t0 := (X4.cell (p := ⟨rb, 0, none⟩) (unhide KB).lt).trans s0
      have t1 := (X4.cell (p := ⟨rb, 1, none⟩) (unhide KB).lt).trans s1
      clear hp4 hb4 X4
      refine hK.out _ _ ⟨t0, t1⟩ (fun hHeld => ?_)
      clear hK K
      (try simp only [Act.put, List.setIfInBounds_toArray, List.set_cons_zero, List.set_cons_succ])
      (refine wpAnyH_take (i := 6) (v := ?_) rfl (by kernel_rfl) (by kernel_rfl) (by kernel_rfl) (fun _ _ _ h => h) (Or.inl ⟨by rfl, ?_⟩) (by assumption) ?_; rotate_left; (intro W9 hSw; (try dsimp only at hSw); go_simp; (try with_reducible rfl)); (try simp only [Act.put, List.setIfInBounds_toArray, List.set_cons_zero, List.set_cons_succ]))
      have KB5 := ((unhide KB).below (unhide HX4) (unhide KB).lt).alloc (.cells #[.int .i64 n, .slice pa4 ps.length pc4] 67)
      have u0 := KB5.cell (i := 0) (v := .int .i64 n) rfl
      have u1 := KB5.cell (i := 1) (v := .slice pa ps.length pc) rfl
      refine wpAnyH_ready (rs := [7]) (by kernel_rfl) (by simp) ?_
      refine AllReadyH.cons rfl (fun K hK => ?_) AllReadyH.nil
      go_simp
      refine hK.out _ _ ⟨u0, u1⟩ (fun hHeld => ?_)
      clear hK K
      (try simp only [Act.put, List.setIfInBounds_toArray, List.set_cons_zero, List.set_cons_succ])
      obtain ⟨v5, w5, hrun5, hown5, hg5, hat5⟩ := run_append_room (w := w4.alloc (.cells #[.int .i64 n, .slice pa4 ps.length pc4] 67)) (t := 26) (ty := 26) (base := w.heap.size + 2) (v := .slice ua k uc) (n := k) (xs := rcells qs) Try.underlying26 (World.ownsRow.alloc (by have h9 := ((unhide Ho).later (unhide HX4)).row; rw [unhide Hql] at h9; exact h9) _) (g := w4.heap.size) (c := 1) (cell_new w4 (i := 0) rfl) (cell_new w4 (i := 1) rfl) rfl (by omega) (by simp; omega)
      obtain ⟨a5, c5, rfl⟩ := own_shape hown5
      have hn5 : ∀ i, (Value.slice ua k uc).ownBlock = some i → w.heap.size + 2 ≤ i ∧ i < X.heap.size := fun i e => (unhide Ho).lt (.inl e)
      have hrbX := (unhide KB).lt
      have RB : Hid (∀ i, (Value.slice ua k uc).ownBlock = some i → i ≠ rb) := hide (fun i e e2 => by have := unhide HLB i e; omega)
      have KB6 := KB5.same (w' := w5) (hg5.block _ KB5.lt (fun e => unhide RB _ e.symm rfl))
      have y0 := KB6.cell (i := 0) (v := .int .i64 n) rfl
      have y1 := KB6.cell (i := 1) (v := .slice pa ps.length pc) rfl
      have HO5 := hide hown5
      have HG5 := hide hg5
      have HA5 := hide hat5
      have R5 := hide hrun5
      have X5 : Hid (Below (w.heap.size + 2) X w5) := hide (by
        have q1 : Below X.heap.size X w4 := unhide HX4
        have q2 : Below w4.heap.size w4 (w4.alloc (.cells #[.int .i64 n, .slice pa4 ps.length pc4] 67)) := (Below.refl _ _).alloc (Nat.le_refl _) _
        have q3 : Below (w.heap.size + 2) (w4.alloc (.cells #[.int .i64 n, .slice pa4 ps.length pc4] 67)) w5 := (Below.refl _ _).grown (unhide HG5) (by have := q1.size; simp; omega) (fun i e => ((unhide Ho).lt (.inl e)).1)
        exact ((q1.mono (by omega)).trans (q2.mono (by have := q1.size; omega))).trans q3)
      have hp5 : OwnHall (w.heap.size + 2) w5 (.slice a5 (k + 1) c5) (qs ++ [((n, ps), .slice pa4 ps.length pc4)]) := by
        have q1 : OwnHall (w.heap.size + 2) w4 (.slice ua k uc) qs := (unhide Ho).later (unhide HX4)
        have q2 : PacesAt X.heap.size w4 (.slice pa4 ps.length pc4) ps := unhide HO4
        have q3 : PacesAt (w.heap.size + 2) w4 (.slice pa4 ps.length pc4) ps := q2.mono (by omega)
        refine OwnHall.push (w := w4) (w1 := w5) (v := .slice ua k uc) (o := .cells #[.int .i64 n, .slice pa4 ps.length pc4] 67) q1 q3 ?_ ?_ ?_ (unhide HG5) (unhide HA5)
        · intro b' e e'
          have h8 := (q2.lt e).1
          have h9 := ((unhide Ho).lt (.inl e')).2
          omega
        · intro q hq' b' e e'
          have h8 := (q2.lt e').1
          have h9 := ((unhide Ho).lt (.inr ⟨q, hq', e⟩)).2
          omega
        · rw [unhide Hql]; exact unhide HO5
      have HP5 := hide hp5
      clear hp5 hown5 hg5 hat5 hrun5 KB5 KB6
      refine wpAnyH_ready (rs := [8]) (by kernel_rfl) (by simp) ?_
      refine AllReadyH.cons rfl (fun K hK => ?_) AllReadyH.nil
      refine step_append_run rfl (.tmp 14) (.tmp 21) 26 rfl rfl rfl (unhide R5) ?_
      refine hK.out _ _ ⟨y0, y1⟩ (fun hHeld => ?_)
      clear hK K
      (try simp only [Act.put, List.setIfInBounds_toArray, List.set_cons_zero, List.set_cons_succ])
      refine wpAnyH_done (by kernel_rfl) ?_ _
      refine tailQ_run rfl rfl ?_
      go_simp
      clear hHeld
      go_wp2_with fail
      go_roundw
      case rel =>
        exact ⟨k + 1, qs ++ [((n, ps), .slice pa4 ps.length pc4)], a5, c5, by omega, by go_num, rfl, (unhide Kr).below (unhide X5) (by omega), unhide HP5, by rw [List.map_append, unhide Hq, unhide Htk]; rfl, (unhide Hb).trans ((unhide X5).mono (by omega))⟩
      case measure => simp [intOf]; omega
    · obtain rfl : k = rs.length := by omega
      have r0 := kr.cell (i := 0) rfl
      have r1 := kr.free 0
      go_wp2_with fail
      rw [List.take_length] at hq
      refine bodyPost_ret (v := .agg #[.slice ua rs.length uc]) (by simp [results, Try.results19, go_sem, *]) rfl ⟨_, qs, rfl, hq, ?_, ?_⟩
      · exact (ho.same fun i h0 hi => heap_setCell_other _ _ _ _ (by show i ≠ w.heap.size + 1; omega)).mono (by omega)
      · exact hb.setCell (by show _ ≤ w.heap.size + 1; omega) _

/-- A new smithy. -/
def newM (rs : List RoomV) : SmyV := ⟨rs, [], [], List.replicate (benchSum rs).toNat (true, -1, 0), List.replicate rs.length 0, 0⟩

end Go.Proofs.Ytmhagllddhjgmaa

/- A smithy that the call made, written into: one number of a smith, of a desk, of the paces; and the frame that says which two blocks alone may differ. No condition but those that a theorem names. -/
namespace Go.Proofs.Ytmhagllddhjgmaa
open Go.ChangeShapes Go.WideShapes Go.ChangeAt Go.RowKit Go.Sort
set_option linter.unusedVariables false

section
variable {p q : Option Nat} {w w' w'' : World}
end

theorem OwnHall.same2 {n₀ : Nat} {w w' : World} {v : Value} {qs : List (RoomV × Value)} (h : OwnHall n₀ w v qs) (hs : ∀ k, (v.ownBlock = some k ∨ ∃ q ∈ qs, q.2.ownBlock = some k) → w'.heap[k]? = w.heap[k]?) : OwnHall n₀ w' v qs :=
  ⟨own_same h.row (fun k e => hs k (.inl e)), fun q hq => own_same (h.paces q hq) (fun k e => hs k (.inr ⟨q, hq, e⟩)), h.off, h.apart⟩

section
variable {n₀ n cap g : Nat} {w : World} {v0 v1 v2 v3 v4 : Value} {m : SmyV} {qs : List (RoomV × Value)}
end

end Go.Proofs.Ytmhagllddhjgmaa

/- Rest, Leave, Ranked, Limited, Granted, Opened, joined: as plain lists; and each keeps a smithy right. Lists and numbers alone; no condition but those that a theorem names. -/
namespace Go.Proofs.Ytmhagllddhjgmaa
open Go.ChangeShapes Go.WideShapes Go.ChangeAt Go.RowKit Go.Sort
set_option linter.unusedVariables false

def zeroM : SmyV := ⟨[], [], [], [], [], 0⟩
end Go.Proofs.Ytmhagllddhjgmaa

/- A smithy's own memory stays where another block is written; the smithy with nothing in it. Conditions: those that each theorem names. -/
namespace Go.Proofs.Ytmhagllddhjgmaa
open Go.ChangeShapes Go.WideShapes Go.ChangeAt Go.RowKit Go.Sort
set_option linter.unusedVariables false

theorem FullSmy.set_off {n₀ : Nat} {w : World} {v0 v1 v2 v3 v4 : Value} {m : SmyV} {qs : List (RoomV × Value)} (h : FullSmy n₀ w v0 v1 v2 v3 v4 m qs) {g : Nat} (ho : ∀ k, (v0.ownBlock = some k ∨ (∃ q ∈ qs, q.2.ownBlock = some k) ∨ v1.ownBlock = some k ∨ v2.ownBlock = some k ∨ v3.ownBlock = some k ∨ v4.ownBlock = some k) → k ≠ g) (o : Nat) (u : Value) : FullSmy n₀ (w.setCell ⟨g, o, none⟩ u) v0 v1 v2 v3 v4 m qs := by
  have hne : ∀ k, k ≠ g → (w.setCell ⟨g, o, none⟩ u).heap[k]? = w.heap[k]? := fun k hk => heap_setCell_other w _ k u hk
  exact ⟨h.hall.same2 fun k e => hne k (ho k (by rcases e with e | e; exact .inl e; exact .inr (.inl e))), h.rooms, RecAt.same h.guilds fun k e => hne k (ho k (.inr (.inr (.inl e)))), RecAt.same h.smiths fun k e => hne k (ho k (.inr (.inr (.inr (.inl e))))), RecAt.same h.desks fun k e => hne k (ho k (.inr (.inr (.inr (.inr (.inl e)))))), RecAt.same h.paces fun k e => hne k (ho k (.inr (.inr (.inr (.inr (.inr e)))))), h.h1, h.h2, h.h3, h.h4, h.a12, h.a13, h.a14, h.a23, h.a24, h.a34⟩
theorem full_zero (n₀ : Nat) (w : World) : FullSmy n₀ w (.slice none 0 0) (.slice none 0 0) (.slice none 0 0) (.slice none 0 0) (.slice none 0 0) zeroM [] := by
  have hz : Off2 (.slice none 0 0) (.slice none 0 0) := fun b e => by cases e
  exact ⟨OwnHall.nil _ _, rfl, World.ownsRow_nil _ _ _ _, World.ownsRow_nil _ _ _ _, World.ownsRow_nil _ _ _ _, World.ownsRow_nil _ _ _ _, ⟨hz, fun q hq => by cases hq⟩, ⟨hz, fun q hq => by cases hq⟩, ⟨hz, fun q hq => by cases hq⟩, ⟨hz, fun q hq => by cases hq⟩, hz, hz, hz, hz, hz, hz⟩

end Go.Proofs.Ytmhagllddhjgmaa

/- Which blocks are a smithy's own, and what stays where these stay. No condition but those that a theorem names. -/
namespace Go.Proofs.Ytmhagllddhjgmaa
open Go.ChangeShapes Go.WideShapes Go.ChangeAt Go.RowKit Go.Sort
set_option linter.unusedVariables false

/-- Block k is one of the smithy's own. -/
def OwnB (v0 v1 v2 v3 v4 : Value) (qs : List (RoomV × Value)) (k : Nat) : Prop := v0.ownBlock = some k ∨ (∃ q ∈ qs, q.2.ownBlock = some k) ∨ v1.ownBlock = some k ∨ v2.ownBlock = some k ∨ v3.ownBlock = some k ∨ v4.ownBlock = some k
section
variable {n₀ : Nat} {w w' : World} {v0 v1 v2 v3 v4 : Value} {m : SmyV} {qs : List (RoomV × Value)}
theorem FullSmy.own (h : FullSmy n₀ w v0 v1 v2 v3 v4 m qs) {k : Nat} (e : OwnB v0 v1 v2 v3 v4 qs k) : n₀ ≤ k ∧ k < w.heap.size := by
  rcases e with e | e | e | e | e | e
  · exact h.hall.lt (.inl e)
  · exact h.hall.lt (.inr e)
  · exact RecAt.lt h.guilds e
  · exact RecAt.lt h.smiths e
  · exact RecAt.lt h.desks e
  · exact RecAt.lt h.paces e
theorem FullSmy.keep (h : FullSmy n₀ w v0 v1 v2 v3 v4 m qs) (hs : ∀ k, OwnB v0 v1 v2 v3 v4 qs k → w'.heap[k]? = w.heap[k]?) : FullSmy n₀ w' v0 v1 v2 v3 v4 m qs :=
  ⟨⟨own_same h.hall.row (fun k e => hs k (.inl e)), fun q hq => own_same (h.hall.paces q hq) (fun k e => hs k (.inr (.inl ⟨q, hq, e⟩))), h.hall.off, h.hall.apart⟩, h.rooms, RecAt.same h.guilds fun k e => hs k (.inr (.inr (.inl e))), RecAt.same h.smiths fun k e => hs k (.inr (.inr (.inr (.inl e)))), RecAt.same h.desks fun k e => hs k (.inr (.inr (.inr (.inr (.inl e))))), RecAt.same h.paces fun k e => hs k (.inr (.inr (.inr (.inr (.inr e))))), h.h1, h.h2, h.h3, h.h4, h.a12, h.a13, h.a14, h.a23, h.a24, h.a34⟩
end

end Go.Proofs.Ytmhagllddhjgmaa

