/- What the proof rests on, part 15: lists and numbers, how they lie in memory, and contracts of the calls. No condition but those that a theorem names. -/
import Derived.Test.YtaegckehjlkaaaaGreatXe01
import Derived.Test.YtaegckehjlkaaaaGreatXe02
import Derived.Test.YtaegckehjlkaaaaGreatXe03
import Derived.Test.YtaegckehjlkaaaaGreatXe04
import Derived.Test.YtaegckehjlkaaaaGreatXe05
import Derived.Test.YtaegckehjlkaaaaGreatXe06
import Derived.Test.YtaegckehjlkaaaaGreatXe07
import Derived.Test.YtaegckehjlkaaaaGreatXe08
import Derived.Test.YtaegckehjlkaaaaGreatXe09
import Derived.Test.YtaegckehjlkaaaaGreatXe12
import Derived.Test.YtaegckehjlkaaaaGreatXe13
import Derived.Test.YtaegckehjlkaaaaGreatXe14
import Derived.Deep.DeepCutAuto
import Derived.WalkMore
import Derived.Below
import Derived.WalkKit
import Derived.ProofKit
import Derived.OpenShut
import Derived.Outline
import Derived.Deep.RegionHeld3
import Derived.Deep.DrawnRows
import Derived.BigRegion
import Derived.Deep.RegionLawGrows
import Derived.Lib.QuietBelow
import Derived.Deep.RegionWith
import Derived.Deep.QuietTactic
import Derived.BigQuiet
import Derived.Laws.OwnMore
import Derived.OwnWalk
import Derived.Maps.AppendAt
import Derived.Lib.SmallJoins
import Derived.Deep.Fields
import Derived.Deep.Slices
import Derived.OrdersHeld
import Derived.Deep.RegionHeldLaw
import Derived.Laws.StructEq
/- A smithy that the call made, written into: one number of a smith, of a desk, of the paces; and the frame that says which two blocks alone may differ. No condition but those that a theorem names. -/
namespace Go.Proofs.YtaegckehjlkaaaaGreat
open Go.ChangeShapes Go.WideShapes Go.ChangeAt Go.RowKit Go.Sort
set_option linter.unusedVariables false

section
variable {p q : Option Nat} {w w' w'' : World}
end

theorem OwnHall.same2 {n₀ : Nat} {w w' : World} {v : Value} {qs : List (RoomV × Value)} (h : OwnHall n₀ w v qs) (hs : ∀ k, (v.ownBlock = some k ∨ ∃ q ∈ qs, q.2.ownBlock = some k) → w'.heap[k]? = w.heap[k]?) : OwnHall n₀ w' v qs :=
  ⟨own_same h.row (fun k e => hs k (.inl e)), fun q hq => own_same (h.paces q hq) (fun k e => hs k (.inr ⟨q, hq, e⟩)), h.off, h.apart⟩

section
variable {n₀ n cap g : Nat} {w : World} {v0 v1 v2 v3 v4 : Value} {m : SmyV} {qs : List (RoomV × Value)}
/-- One number of a smith is written. -/
theorem FullSmy.putS (hf : FullSmy n₀ w v0 v1 (.slice (some ⟨g, 0, none⟩) n cap) v3 v4 m qs) (hn : n = m.smiths.length) {j i : Nat} (hj : j < m.smiths.length) (hi : i < 11) (u : Value) (x : SmithV) (hx : encSmith x = (encSmith (recAt m.smiths j)).set i u) :
    FullSmy n₀ (w.setCell ⟨g, j * 11 + i, none⟩ u) v0 v1 (.slice (some ⟨g, 0, none⟩) n cap) v3 v4 { m with smiths := m.smiths.set j x } qs := by
  have hb : (Value.slice (some ⟨g, 0, none⟩) n cap).ownBlock = some g := rfl
  have hne : ∀ k, k ≠ g → (w.setCell ⟨g, j * 11 + i, none⟩ u).heap[k]? = w.heap[k]? := fun k hk => heap_setCell_other w _ k u hk
  refine ⟨hf.hall.same2 fun k e => hne k fun e' => ?_, hf.rooms, RecAt.same hf.guilds fun k e => hne k fun e' => ?_, (RecAt.put1 encSmith_len (by omega) hf.smiths hn hj hi u x hx).1, RecAt.same hf.desks fun k e => hne k fun e' => ?_, RecAt.same hf.paces fun k e => hne k fun e' => ?_, hf.h1, hf.h2, hf.h3, hf.h4, hf.a12, hf.a13, hf.a14, hf.a23, hf.a24, hf.a34⟩
  · subst e'
    rcases e with e | ⟨q, hq, e⟩
    · exact hf.h2.1 _ hb e
    · exact hf.h2.2 q hq _ hb e
  · subst e'; exact hf.a12 _ e hb
  · subst e'; exact hf.a23 _ hb e
  · subst e'; exact hf.a24 _ hb e
end

end Go.Proofs.YtaegckehjlkaaaaGreat

/- Which blocks are a smithy's own, and what stays where these stay. No condition but those that a theorem names. -/
namespace Go.Proofs.YtaegckehjlkaaaaGreat
open Go.ChangeShapes Go.WideShapes Go.ChangeAt Go.RowKit Go.Sort
set_option linter.unusedVariables false

/-- Block k is one of the smithy's own. -/
def OwnB (v0 v1 v2 v3 v4 : Value) (qs : List (RoomV × Value)) (k : Nat) : Prop := v0.ownBlock = some k ∨ (∃ q ∈ qs, q.2.ownBlock = some k) ∨ v1.ownBlock = some k ∨ v2.ownBlock = some k ∨ v3.ownBlock = some k ∨ v4.ownBlock = some k
section
variable {n₀ : Nat} {w w' : World} {v0 v1 v2 v3 v4 : Value} {m : SmyV} {qs : List (RoomV × Value)}
theorem FullSmy.own (h : FullSmy n₀ w v0 v1 v2 v3 v4 m qs) {k : Nat} (e : OwnB v0 v1 v2 v3 v4 qs k) : n₀ ≤ k ∧ k < w.heap.size := by
  rcases e with e | e | e | e | e | e
  · exact h.hall.lt (.inl e)
  · exact h.hall.lt (.inr e)
  · exact RecAt.lt h.guilds e
  · exact RecAt.lt h.smiths e
  · exact RecAt.lt h.desks e
  · exact RecAt.lt h.paces e
end

end Go.Proofs.YtaegckehjlkaaaaGreat

/- What it would cost with one at a bench (l13With), and whether one may work at a bench (l14May): the model's. Conditions: the smithy can be read; what each theorem names. -/
namespace Go.Proofs.YtaegckehjlkaaaaGreat
open Go.ChangeShapes Go.WideShapes Go.ChangeAt Go.RowKit Go.Sort
set_option linter.unusedVariables false
set_option linter.unusedSimpArgs false

set_option maxRecDepth 100000 in
set_option maxHeartbeats 4000000 in
theorem l13With_any {w : World} {v0 v1 v2 v3 v4 : Value} {m : SmyV} {k : Nat} (b : Int) (h : Smy w v0 v1 v2 v3 v4 m) (hS : Sane m) (hp : m.paces.length ≤ 1000) (hk : k < m.smiths.length) (hs : (recAt m.smiths k).1 ≠ 0) :
    Calls Tryz.prog 92 #[.agg #[v0, v1, v2, v3, v4, .int .i64 m.now], .int .i64 (k : Int), .int .i64 b] w fun e w' => e = .returned (.int .i64 (coalWithV m (k : Int) b)) ∧ Below w.heap.size w w' := by
  have Hv := hide (h.alloc (.cells #[v0, v1, v2, v3, v4, .int .i64 m.now] 32))
  obtain ⟨a0, p0, rfl, _, _⟩ := IsRooms.shape h.rooms
  obtain ⟨a1, p1, rfl, _, _⟩ := IsRec.shape h.guilds
  obtain ⟨a2, p2, rfl, _, _⟩ := IsRec.shape h.smiths
  obtain ⟨a3, p3, rfl, _, _⟩ := IsRec.shape h.desks
  obtain ⟨a4, p4, rfl, _, _⟩ := IsRec.shape h.paces
  clear h
  have HF := hide (hS.few' hp)
  have HSW := hide (hS.with hk hs b)
  have Hc : Hid (coalWithV m (k : Int) b = coalAll (withM m (k : Int) b)) := hide rfl
  rw [unhide Hc]
  have hk1 : (k : Int) < (m.smiths.length : Int) := by omega
  clear hS hp hs Hc
  have BB0 : Hid (Below w.heap.size w (w.alloc (.cells #[.slice a0 m.rooms.length p0, .slice a1 m.guilds.length p1, .slice a2 m.smiths.length p2, .slice a3 m.desks.length p3, .slice a4 m.paces.length p4, .int .i64 m.now] 32))) := hide ((Below.refl _ _).alloc (Nat.le_refl _) _)
  go_enter Tryz.func92, Tryz.ntmps92
  go_wp2_with fail
  refine (l11Copy_any (unhide Hv) (unhide HF)).mono ?_
  rintro e w1 ⟨y0, y1, y2, y3, y4, oq, rfl, ho, hb⟩
  have k9 := ho.smy
  obtain ⟨b0, q0, rfl, _, _⟩ := IsRooms.shape k9.rooms
  obtain ⟨b1, q1, rfl, _, _⟩ := IsRec.shape k9.guilds
  obtain ⟨b2, q2, rfl, _, _⟩ := IsRec.shape k9.smiths
  obtain ⟨b3, q3, rfl, _, _⟩ := IsRec.shape k9.desks
  obtain ⟨b4, q4, rfl, _, _⟩ := IsRec.shape k9.paces
  have HO := hide (ho.mono (n₁ := w.heap.size) (by simp))
  have BB := hide ((unhide BB0).trans (hb.mono (unhide BB0).size))
  clear k9 ho hb BB0 Hv
  go_upto_region 2 with fail
  have hba : Below w1.heap.size w1 (w1.alloc (.cells #[.slice b0 m.rooms.length q0, .slice b1 m.guilds.length q1, .slice b2 m.smiths.length q2, .slice b3 m.desks.length q3, .slice b4 m.paces.length q4, .int .i64 m.now] 32)) := (Below.refl _ _).alloc (Nat.le_refl _) _
  have LO : Hid (∀ i, OwnB (.slice b0 m.rooms.length q0) (.slice b1 m.guilds.length q1) (.slice b2 m.smiths.length q2) (.slice b3 m.desks.length q3) (.slice b4 m.paces.length q4) oq i → w.heap.size ≤ i ∧ i < w1.heap.size) := hide (fun i e => (unhide HO).own e)
  replace HO := hide ((unhide HO).below hba)
  replace BB := hide ((unhide BB).trans (hba.mono (unhide BB).size))
  have ko : Hid (Blk (w1.alloc (.cells #[.slice b0 m.rooms.length q0, .slice b1 m.guilds.length q1, .slice b2 m.smiths.length q2, .slice b3 m.desks.length q3, .slice b4 m.paces.length q4, .int .i64 m.now] 32)) w1.heap.size 32 #[.slice b0 m.rooms.length q0, .slice b1 m.guilds.length q1, .slice b2 m.smiths.length q2, .slice b3 m.desks.length q3, .slice b4 m.paces.length q4, .int .i64 m.now]) := hide (Blk.new _ _ _)
  clear hba
  generalize w1.alloc (.cells #[.slice b0 m.rooms.length q0, .slice b1 m.guilds.length q1, .slice b2 m.smiths.length q2, .slice b3 m.desks.length q3, .slice b4 m.paces.length q4, .int .i64 m.now] 32) = W at *
  generalize w1.heap.size = ob at *
  obtain ⟨g2, hga, _, _, hc2, hz2⟩ := RecAt.view encSmith_len (by omega) (unhide HO).smiths rfl (by omega)
  cases hga
  have hg2o := (unhide LO g2 (.inr (.inr (.inr (.inl rfl)))))
  have s1 := hc2 k hk 1 _ rfl
  have f1 := hz2 (k * 11 + 1)
  have hp1 := (unhide HO).putS rfl (j := k) (i := 1) hk (by omega) (.int .i64 b) (((recAt m.smiths k).1, b, (recAt m.smiths k).2.2)) rfl
  have hlen : (m.smiths.set k (((recAt m.smiths k).1, b, (recAt m.smiths k).2.2))).length = m.smiths.length := by simp
  have hs1 : recAt (m.smiths.set k (((recAt m.smiths k).1, b, (recAt m.smiths k).2.2))) k = (((recAt m.smiths k).1, b, (recAt m.smiths k).2.2)) := by rw [recAt_set hk, if_pos rfl]
  have hp2 := hp1.putS hlen.symm (j := k) (i := 0) (by show k < (m.smiths.set k _).length; omega) (by omega) (.int .i64 2) (atBench (recAt m.smiths k) b) (by show encSmith (atBench (recAt m.smiths k) b) = (encSmith (recAt (m.smiths.set k (((recAt m.smiths k).1, b, (recAt m.smiths k).2.2))) k)).set 0 _; rw [hs1]; rfl)
  obtain ⟨_, hga, _, _, hc3, hz3⟩ := RecAt.view encSmith_len (by omega) hp1.smiths hlen.symm (by show 0 < (m.smiths.set k _).length; omega)
  cases hga
  have s2 := hc3 k (by show k < (m.smiths.set k _).length; omega) 0 _ rfl
  have f2 := hz3 (k * 11)
  have x2 := (unhide ko).cell (i := 2) (v := .slice (some ⟨g2, 0, none⟩) m.smiths.length q2) rfl
  have x3 := ((unhide ko).other (a := ⟨g2, k * 11 + 1, none⟩) (by show ob ≠ g2; omega) (.int .i64 b)).cell (i := 2) (v := .slice (some ⟨g2, 0, none⟩) m.smiths.length q2) rfl
  simp only [Nat.add_zero, List.set_set] at hp2 s2 f2
  have hwm : ({ m with smiths := m.smiths.set k (atBench (recAt m.smiths k) b) } : SmyV) = withM m (k : Int) b := by unfold withM; simp
  rw [hwm] at hp2
  have HP := hide hp2.smy
  clear hc2 hz2 hc3 hz3 hp1 hp2 hwm hs1 hlen HO
  go_upto_region 4 with fail
  clear s1 f1 s2 f2 x2 x3
  replace ko : Hid (Blk ((W.setCell ⟨g2, k * 11 + 1, none⟩ (.int .i64 b)).setCell ⟨g2, k * 11, none⟩ (.int .i64 2)) ob 32 #[.slice b0 m.rooms.length q0, .slice b1 m.guilds.length q1, .slice (some ⟨g2, 0, none⟩) m.smiths.length q2, .slice b3 m.desks.length q3, .slice b4 m.paces.length q4, .int .i64 m.now]) := hide (((unhide ko).other (a := ⟨g2, k * 11 + 1, none⟩) (by show ob ≠ g2; omega) _).other (a := ⟨g2, k * 11, none⟩) (by show ob ≠ g2; omega) _)
  replace BB : Hid (Below w.heap.size w ((W.setCell ⟨g2, k * 11 + 1, none⟩ (.int .i64 b)).setCell ⟨g2, k * 11, none⟩ (.int .i64 2))) := hide (((unhide BB).setCell (p := ⟨g2, k * 11 + 1, none⟩) (by show w.heap.size ≤ g2; omega) _).setCell (p := ⟨g2, k * 11, none⟩) (by show w.heap.size ≤ g2; omega) _)
  generalize (W.setCell ⟨g2, k * 11 + 1, none⟩ (.int .i64 b)).setCell ⟨g2, k * 11, none⟩ (.int .i64 2) = W3 at *
  have c0 := (unhide ko).cell (i := 0) (v := .slice b0 m.rooms.length q0) rfl
  have c1 := (unhide ko).cell (i := 1) (v := .slice b1 m.guilds.length q1) rfl
  have c2 := (unhide ko).cell (i := 2) (v := .slice (some ⟨g2, 0, none⟩) m.smiths.length q2) rfl
  have c3 := (unhide ko).cell (i := 3) (v := .slice b3 m.desks.length q3) rfl
  have c4 := (unhide ko).cell (i := 4) (v := .slice b4 m.paces.length q4) rfl
  have c5 := (unhide ko).cell (i := 5) (v := .int .i64 m.now) rfl
  go_wp2_with fail
  refine (l13All_any (m := withM m (k : Int) b) (unhide HP) (unhide HSW)).mono ?_
  rintro e w5 ⟨rfl, hb⟩
  replace BB := hide ((unhide BB).trans (hb.mono (unhide BB).size))
  clear hb
  go_wp2_with fail
  go_ret
  exact ⟨rfl, unhide BB⟩

end Go.Proofs.YtaegckehjlkaaaaGreat

/- Where one may work, whether it is crowded, which benches are fitting: the model's l14May, l14Crowded, l14Fitting. Conditions: the smithy can be read; what each theorem names. -/
namespace Go.Proofs.YtaegckehjlkaaaaGreat
open Go.ChangeShapes Go.WideShapes Go.ChangeAt Go.RowKit Go.Sort
set_option linter.unusedVariables false

theorem Calls.same_below {P : Program} {f : FuncId} {args : Array Value} {w : World} {v : Value} (h : Calls P f args w fun e w' => e = .returned v ∧ w' = w) : Calls P f args w fun e w' => e = .returned v ∧ Below w.heap.size w w' :=
  h.mono fun e w' ⟨he, hw⟩ => ⟨he, by rw [hw]; exact Below.refl _ _⟩

set_option maxRecDepth 100000 in
set_option maxHeartbeats 2000000 in
theorem l14May_any {w : World} {v0 v1 v2 v3 v4 : Value} {m : SmyV} {k b : Nat} (h : Smy w v0 v1 v2 v3 v4 m) (hk : k < m.smiths.length) (hb : b < m.desks.length) (h7 : b ≤ 7) (y0 : 0 ≤ (recAt m.smiths k).2.2.2.1) (y1 : (recAt m.smiths k).2.2.2.1 ≤ 255) :
    Calls Tryz.prog 82 #[.agg #[v0, v1, v2, v3, v4, .int .i64 m.now], .int .i64 (k : Int), .int .i64 (b : Int)] w fun e w' => e = .returned (.bool (mayAt m (k : Int) b)) ∧ Below w.heap.size w w' := by
  have hm : mayAt m (k : Int) b = ((recAt m.desks b).1 && bitB (recAt m.smiths k).2.2.2.1 b) := rfl
  rw [hm]
  clear hm
  obtain ⟨a0, p0, rfl, _, _⟩ := IsRooms.shape h.rooms
  obtain ⟨a1, p1, rfl, _, _⟩ := IsRec.shape h.guilds
  obtain ⟨a4, p4, rfl, _, _⟩ := IsRec.shape h.paces
  obtain ⟨a2, p2, rfl, _, _, r2⟩ := h.smiths
  obtain ⟨a3, p3, rfl, _, _, r3⟩ := h.desks
  clear h
  rcases r2 with e0 | ⟨sb, so, rfl, hbs, hcs⟩
  · rw [e0] at hk; simp at hk
  rcases r3 with e0 | ⟨db, dof, rfl, hbd, hcd⟩
  · rw [e0] at hb; simp at hb
  obtain ⟨_, _, _, s3, _⟩ := smith_cells hcs hk
  obtain ⟨d0, _, _⟩ := desk_cells hcd hb
  have hk1 : (k : Int) < (m.smiths.length : Int) := by omega
  have hb1 : (b : Int) < (m.desks.length : Int) := by omega
  clear hcs hcd
  generalize (recAt m.smiths k).2.2.2.1 = my at *
  generalize (recAt m.desks b).1 = op at *
  cases op
  all_goals
    go_enter Tryz.func82, Tryz.ntmps82
    go_wp2_with (go_at_call 135; refine (l2Has_any my (b : Int) _ y0 y1 (by omega) (by omega)).mono ?_; rintro e w' ⟨rfl, h9⟩; subst w')
    go_ret
    exact ⟨rfl, (Below.refl _ _).alloc (Nat.le_refl _) _⟩

set_option maxRecDepth 100000 in
set_option maxHeartbeats 8000000 in
theorem l14Crowded_any {w : World} {v0 v1 v2 v3 v4 : Value} {m : SmyV} (h : Smy w v0 v1 v2 v3 v4 m) (hS : Sane m) :
    Calls Tryz.prog 91 #[.agg #[v0, v1, v2, v3, v4, .int .i64 m.now]] w fun e w' => e = .returned (.bool (crowdB m)) ∧ Below w.heap.size w w' := by
  have Hv := hide (h.alloc (.cells #[v0, v1, v2, v3, v4, .int .i64 m.now] 32))
  obtain ⟨a0, p0, rfl, _, _⟩ := IsRooms.shape h.rooms
  obtain ⟨a1, p1, rfl, _, _⟩ := IsRec.shape h.guilds
  obtain ⟨a2, p2, rfl, _, _⟩ := IsRec.shape h.smiths
  obtain ⟨a3, p3, rfl, _, _⟩ := IsRec.shape h.desks
  obtain ⟨a4, p4, rfl, _, _⟩ := IsRec.shape h.paces
  clear h
  have kb0 : Hid (Blk (w.alloc (.cells #[.slice a0 m.rooms.length p0, .slice a1 m.guilds.length p1, .slice a2 m.smiths.length p2, .slice a3 m.desks.length p3, .slice a4 m.paces.length p4, .int .i64 m.now] 32)) w.heap.size 32 #[.slice a0 m.rooms.length p0, .slice a1 m.guilds.length p1, .slice a2 m.smiths.length p2, .slice a3 m.desks.length p3, .slice a4 m.paces.length p4, .int .i64 m.now]) := hide (Blk.new w _ _)
  have BB0 : Hid (Below w.heap.size w (w.alloc (.cells #[.slice a0 m.rooms.length p0, .slice a1 m.guilds.length p1, .slice a2 m.smiths.length p2, .slice a3 m.desks.length p3, .slice a4 m.paces.length p4, .int .i64 m.now] 32))) := hide ((Below.refl _ _).alloc (Nat.le_refl _) _)
  have HS := hide hS
  have h8 := hS.eight
  clear hS
  have hyes : ∀ k, k < m.desks.length → crowdAt m k = true → crowdB m = true := fun k hk hc => List.any_eq_true.2 ⟨k, List.mem_range.2 hk, hc⟩
  have hno : (∀ k, k < m.desks.length → crowdAt m k = false) → crowdB m = false := fun hn => by
    unfold crowdB
    rw [List.any_eq_false]
    intro k hk
    rw [hn k (List.mem_range.1 hk)]
    simp
  have Hyes := hide hyes
  have Hno := hide hno
  clear hyes hno
  go_enter Tryz.func91, Tryz.ntmps91
  go_wp2_with fail
  go_loopw [3] (fun i wr => ∃ k : Nat, k ≤ m.desks.length ∧ i = .int .i64 k ∧ (∀ j, j < k → crowdAt m j = false) ∧ Blk wr w.heap.size 32 #[.slice a0 m.rooms.length p0, .slice a1 m.guilds.length p1, .slice a2 m.smiths.length p2, .slice a3 m.desks.length p3, .slice a4 m.paces.length p4, .int .i64 m.now] ∧ Smy wr (.slice a0 m.rooms.length p0) (.slice a1 m.guilds.length p1) (.slice a2 m.smiths.length p2) (.slice a3 m.desks.length p3) (.slice a4 m.paces.length p4) m ∧ Below w.heap.size w wr) (fun i _ => m.desks.length - (intOf i).toNat)
  case atStart => exact ⟨0, Nat.zero_le _, rfl, fun j hj => by omega, unhide kb0, unhide Hv, unhide BB0⟩
  case round =>
    obtain ⟨k, hk, rfl, hn, hkb, hv, hb0⟩ := hrel
    have Hn := hide hn
    have kb := hide hkb
    have Hv1 := hide hv
    have BB := hide hb0
    clear hkb hv hb0 kb0 BB0 Hv hn
    have c0 := (unhide kb).cell (i := 0) (v := .slice a0 m.rooms.length p0) rfl
    have c1 := (unhide kb).cell (i := 1) (v := .slice a1 m.guilds.length p1) rfl
    have c2 := (unhide kb).cell (i := 2) (v := .slice a2 m.smiths.length p2) rfl
    have c3 := (unhide kb).cell (i := 3) (v := .slice a3 m.desks.length p3) rfl
    have c4 := (unhide kb).cell (i := 4) (v := .slice a4 m.paces.length p4) rfl
    have c5 := (unhide kb).cell (i := 5) (v := .int .i64 m.now) rfl
    by_cases hlt : k < m.desks.length
    · have hlt1 : (k : Int) < (m.desks.length : Int) := by omega
      have Hc : Hid (crowdAt m k = ((recAt m.desks k).1 && muchB (usedV m (k : Int) (-1)) (forceV m.rooms (k : Int)))) := hide rfl
      obtain ⟨_, _, hde, _, _, r3⟩ := (unhide Hv1).desks
      cases hde
      rcases r3 with e0 | ⟨db, off, rfl, hbw, hcl⟩
      · rw [e0] at hlt; simp at hlt
      obtain ⟨d0, _, _⟩ := desk_cells hcl hlt
      clear hcl
      have hfo := forceV_t ((unhide HS).bench hlt)
      have Hu := hide (fun (W : World) (hW : Below wr.heap.size wr W) => l11Used_any (k : Int) (-1) ((unhide Hv1).below hW) (unhide HS).guilded (by have := (unhide HS).few; omega))
      have Hf := hide (fun (W : World) (hW : Below wr.heap.size wr W) => l4Force_any (k : Int) ((unhide Hv1).below hW).rooms ((unhide HS).bench hlt))
      rw [← hfo] at Hf
      clear hfo
      generalize usedV m (k : Int) (-1) = us at *
      generalize forceV m.rooms (k : Int) = fo at *
      generalize (recAt m.desks k).1 = op at *
      have y0 := cell_regrown c0
      have y1 := cell_regrown c1
      have y2 := cell_regrown c2
      have y3 := cell_regrown c3
      have y4 := cell_regrown c4
      have y5 := cell_regrown c5
      have z0 := cell_regrown d0
      obtain ⟨mu, hmu⟩ : ∃ q, muchB us fo = q := ⟨_, rfl⟩
      have Ht := hide (fun (W : World) => Calls.same_below (specTooMuch_any us fo W))
      rw [hmu] at Hc Ht
      clear hmu
      cases op
      · go_wp2_with fail
        refine wp_region_quiet_below (by kernel_rfl) (by kernel_rfl) ?_
        repeat (go_big_quiet_step (first | exact Calls.regrown_of (unhide Hu _ (below_regrown _ _ _)) | exact Calls.regrown_of (unhide Hf _ (below_regrown _ _ _)) | exact Calls.regrown_of (unhide Ht _)))
        refine wpQuiet_nil ?_
        intro _ hw'
        obtain ⟨⟨dq, osq⟩, hw''⟩ := hw'
        subst hw''
        go_wp2_with fail
        go_roundw
        case rel => exact ⟨k + 1, by omega, by go_num, next_all (unhide Hn) (unhide Hc), (unhide kb).below (below_regrown _ _ _) (unhide kb).lt, (unhide Hv1).below (below_regrown _ _ _), (unhide BB).trans ((below_regrown _ _ _).mono (unhide BB).size)⟩
        case measure => simp [intOf]; omega
      · cases mu
        · go_wp2_with fail
          refine wp_region_quiet_below (by kernel_rfl) (by kernel_rfl) ?_
          repeat (go_big_quiet_step (first | exact Calls.regrown_of (unhide Hu _ (below_regrown _ _ _)) | exact Calls.regrown_of (unhide Hf _ (below_regrown _ _ _)) | exact Calls.regrown_of (unhide Ht _)))
          refine wpQuiet_nil ?_
          intro _ hw'
          obtain ⟨⟨dq, osq⟩, hw''⟩ := hw'
          subst hw''
          go_wp2_with fail
          go_roundw
          case rel => exact ⟨k + 1, by omega, by go_num, next_all (unhide Hn) (unhide Hc), (unhide kb).below (below_regrown _ _ _) (unhide kb).lt, (unhide Hv1).below (below_regrown _ _ _), (unhide BB).trans ((below_regrown _ _ _).mono (unhide BB).size)⟩
          case measure => simp [intOf]; omega
        · go_wp2_with fail
          refine wp_region_quiet_below (by kernel_rfl) (by kernel_rfl) ?_
          repeat (go_big_quiet_step (first | exact Calls.regrown_of (unhide Hu _ (below_regrown _ _ _)) | exact Calls.regrown_of (unhide Hf _ (below_regrown _ _ _)) | exact Calls.regrown_of (unhide Ht _)))
          refine wpQuiet_nil ?_
          intro _ hw'
          obtain ⟨⟨dq, osq⟩, hw''⟩ := hw'
          subst hw''
          go_wp2_with fail
          go_ret
          exact ⟨ret_bool (unhide Hyes k hlt (unhide Hc)).symm, (unhide BB).trans ((below_regrown _ _ _).mono (unhide BB).size)⟩
    · obtain rfl : k = m.desks.length := by omega
      go_wp2_with fail
      go_ret
      exact ⟨ret_bool (unhide Hno (unhide Hn)).symm, unhide BB⟩

end Go.Proofs.YtaegckehjlkaaaaGreat

/- Which benches are fitting: the model's l14Fitting. Conditions: the smithy can be read; what the theorem names. -/
namespace Go.Proofs.YtaegckehjlkaaaaGreat
open Go.ChangeShapes Go.WideShapes Go.ChangeAt Go.RowKit Go.Sort
set_option linter.unusedVariables false

/-- One whose wish and whose benches can be told. -/
structure Askable (m : SmyV) (k : Nat) : Prop where
  lt : k < m.smiths.length
  st : (recAt m.smiths k).1 ≠ 0
  y0 : 0 ≤ (recAt m.smiths k).2.2.2.1
  y1 : (recAt m.smiths k).2.2.2.1 ≤ 255
theorem fitTo_no {m : SmyV} {who : Int} {k : Nat} (h : fitAt m who k = false) : fitTo m who (k + 1) = fitTo m who k := by show (if _ then _ else _) = _; rw [h]; rfl
theorem fitTo_yes {m : SmyV} {who : Int} {k : Nat} (h : fitAt m who k = true) : fitTo m who (k + 1) = fitTo m who k ++ [(k : Int)] := by show (if _ then _ else _) = _; rw [h]; rfl

set_option maxRecDepth 100000 in
set_option maxHeartbeats 8000000 in
theorem l14Fitting_any {w : World} {v0 v1 v2 v3 v4 : Value} {m : SmyV} {who : Nat} (h : Smy w v0 v1 v2 v3 v4 m) (hS : Sane m) (hA : Askable m who) :
    Calls Tryz.prog 81 #[.agg #[v0, v1, v2, v3, v4, .int .i64 m.now], .int .i64 (who : Int)] w fun e w' => ∃ v', e = .returned v' ∧ NumsAt w.heap.size w' v' (fittingL m (who : Int)) ∧ Below w.heap.size w w' := by
  have Hv := hide (h.alloc (.cells #[v0, v1, v2, v3, v4, .int .i64 m.now] 32))
  obtain ⟨a0, p0, rfl, _, _⟩ := IsRooms.shape h.rooms
  obtain ⟨a1, p1, rfl, _, _⟩ := IsRec.shape h.guilds
  obtain ⟨a2, p2, rfl, _, _⟩ := IsRec.shape h.smiths
  obtain ⟨a3, p3, rfl, _, _⟩ := IsRec.shape h.desks
  obtain ⟨a4, p4, rfl, _, _⟩ := IsRec.shape h.paces
  have HW := hide h
  clear h
  have kb0 : Hid (Blk (w.alloc (.cells #[.slice a0 m.rooms.length p0, .slice a1 m.guilds.length p1, .slice a2 m.smiths.length p2, .slice a3 m.desks.length p3, .slice a4 m.paces.length p4, .int .i64 m.now] 32)) w.heap.size 32 #[.slice a0 m.rooms.length p0, .slice a1 m.guilds.length p1, .slice a2 m.smiths.length p2, .slice a3 m.desks.length p3, .slice a4 m.paces.length p4, .int .i64 m.now]) := hide (Blk.new w _ _)
  have BB0 : Hid (Below w.heap.size w (w.alloc (.cells #[.slice a0 m.rooms.length p0, .slice a1 m.guilds.length p1, .slice a2 m.smiths.length p2, .slice a3 m.desks.length p3, .slice a4 m.paces.length p4, .int .i64 m.now] 32))) := hide ((Below.refl _ _).alloc (Nat.le_refl _) _)
  have HS := hide hS
  have HA := hide hA
  have h8 := hS.eight
  clear hS hA
  have kb1 : Hid (Blk ((w.alloc (.cells #[.slice a0 m.rooms.length p0, .slice a1 m.guilds.length p1, .slice a2 m.smiths.length p2, .slice a3 m.desks.length p3, .slice a4 m.paces.length p4, .int .i64 m.now] 32)).alloc (.cells #[] 2)) w.heap.size 32 #[.slice a0 m.rooms.length p0, .slice a1 m.guilds.length p1, .slice a2 m.smiths.length p2, .slice a3 m.desks.length p3, .slice a4 m.paces.length p4, .int .i64 m.now]) := hide ((unhide kb0).alloc _)
  have BB1 : Hid (Below w.heap.size w ((w.alloc (.cells #[.slice a0 m.rooms.length p0, .slice a1 m.guilds.length p1, .slice a2 m.smiths.length p2, .slice a3 m.desks.length p3, .slice a4 m.paces.length p4, .int .i64 m.now] 32)).alloc (.cells #[] 2))) := hide ((unhide BB0).alloc (unhide BB0).size _)
  have Hv0 := hide ((unhide Hv).alloc (.cells #[] 2))
  have E0 : Hid (NumsAt (w.heap.size + 1) ((w.alloc (.cells #[.slice a0 m.rooms.length p0, .slice a1 m.guilds.length p1, .slice a2 m.smiths.length p2, .slice a3 m.desks.length p3, .slice a4 m.paces.length p4, .int .i64 m.now] 32)).alloc (.cells #[] 2)) (.slice (some ⟨w.heap.size + 1, 0, none⟩) 0 0) []) := hide (recs_empty (by simp) (by simp))
  clear kb0 BB0 Hv
  go_enter Tryz.func81, Tryz.ntmps81
  go_wp2_with fail
  go_loopw [5, 6] (fun l i wr => ∃ k : Nat, k ≤ m.desks.length ∧ i = .int .i64 k ∧ NumsAt (w.heap.size + 1) wr l (fitTo m (who : Int) k) ∧ Blk wr w.heap.size 32 #[.slice a0 m.rooms.length p0, .slice a1 m.guilds.length p1, .slice a2 m.smiths.length p2, .slice a3 m.desks.length p3, .slice a4 m.paces.length p4, .int .i64 m.now] ∧ Smy wr (.slice a0 m.rooms.length p0) (.slice a1 m.guilds.length p1) (.slice a2 m.smiths.length p2) (.slice a3 m.desks.length p3) (.slice a4 m.paces.length p4) m ∧ Below w.heap.size w wr) (fun _ i _ => m.desks.length - (intOf i).toNat)
  case atStart => exact ⟨0, Nat.zero_le _, rfl, unhide E0, unhide kb1, unhide Hv0, unhide BB1⟩
  case round =>
    obtain ⟨k, hk, rfl, hl, hkb, hv, hb0⟩ := hrel
    obtain ⟨la, lc, rfl⟩ := RecAt.shape hl
    have HL := hide hl
    have kb := hide hkb
    have Hv1 := hide hv
    have BB := hide hb0
    have hbl := (unhide kb).lt
    have hfl := fitTo_len m (who : Int) k
    clear hkb hv hb0 kb1 BB1 Hv0 E0 hl
    have c0 := (unhide kb).cell (i := 0) (v := .slice a0 m.rooms.length p0) rfl
    have c1 := (unhide kb).cell (i := 1) (v := .slice a1 m.guilds.length p1) rfl
    have c2 := (unhide kb).cell (i := 2) (v := .slice a2 m.smiths.length p2) rfl
    have c3 := (unhide kb).cell (i := 3) (v := .slice a3 m.desks.length p3) rfl
    have c4 := (unhide kb).cell (i := 4) (v := .slice a4 m.paces.length p4) rfl
    have c5 := (unhide kb).cell (i := 5) (v := .int .i64 m.now) rfl
    by_cases hlt : k < m.desks.length
    · have hlt1 : (k : Int) < (m.desks.length : Int) := by omega
      have Hc : Hid (fitAt m (who : Int) k = (mayAt m (who : Int) k && fitsB (wantV m (who : Int)) (usedV m (k : Int) (who : Int)) (forceV m.rooms (k : Int)))) := hide rfl
      have Hno := hide (fun hh => fitTo_no (m := m) (who := (who : Int)) (k := k) hh)
      have Hyes := hide (fun hh => fitTo_yes (m := m) (who := (who : Int)) (k := k) hh)
      have hfo := forceV_t ((unhide HS).bench hlt)
      have Hma := hide (fun (W : World) (hW : Below wr.heap.size wr W) => l14May_any ((unhide Hv1).below hW) (unhide HA).lt hlt (by omega) (unhide HA).y0 (unhide HA).y1)
      have Hwa := hide (fun (W : World) (hW : Below wr.heap.size wr W) => l11Want_any ((unhide Hv1).below hW) (unhide HS).guilded.guilds (unhide HA).lt ((unhide HS).guilded.lo who (unhide HA).lt (unhide HA).st) ((unhide HS).guilded.hi who (unhide HA).lt (unhide HA).st))
      have Hu := hide (fun (W : World) (hW : Below wr.heap.size wr W) => l11Used_any (k : Int) (who : Int) ((unhide Hv1).below hW) (unhide HS).guilded (by have := (unhide HS).few; omega))
      have Hf := hide (fun (W : World) (hW : Below wr.heap.size wr W) => l4Force_any (k : Int) ((unhide Hv1).below hW).rooms ((unhide HS).bench hlt))
      rw [← hfo] at Hf
      clear hfo
      have Ht := hide (fun (W : World) => Calls.same_below (specFitsIn_any (wantV m (who : Int)) (usedV m (k : Int) (who : Int)) (forceV m.rooms (k : Int)) W))
      generalize mayAt m (who : Int) k = ma at *
      generalize wantV m (who : Int) = wa at *
      generalize usedV m (k : Int) (who : Int) = us at *
      generalize forceV m.rooms (k : Int) = fo at *
      generalize fitsB wa us fo = fi at *
      have y0 := cell_regrown c0
      have y1 := cell_regrown c1
      have y2 := cell_regrown c2
      have y3 := cell_regrown c3
      have y4 := cell_regrown c4
      have y5 := cell_regrown c5
      cases ma
      · go_wp2_with fail
        refine wp_region_quiet_below (by kernel_rfl) (by kernel_rfl) ?_
        repeat (go_big_quiet_step (first | exact Calls.regrown_of (unhide Hma _ (below_regrown _ _ _)) | exact Calls.regrown_of (unhide Hwa _ (below_regrown _ _ _)) | exact Calls.regrown_of (unhide Hu _ (below_regrown _ _ _)) | exact Calls.regrown_of (unhide Hf _ (below_regrown _ _ _)) | exact Calls.regrown_of (unhide Ht _)))
        refine wpQuiet_nil ?_
        intro _ hw'
        obtain ⟨⟨dq, osq⟩, hw''⟩ := hw'
        subst hw''
        go_wp2_with fail
        go_roundw
        case rel => exact ⟨k + 1, by omega, by go_num, by rw [unhide Hno (unhide Hc)]; exact RecAt.later (unhide HL) (below_regrown _ _ _), (unhide kb).below (below_regrown _ _ _) (unhide kb).lt, (unhide Hv1).below (below_regrown _ _ _), (unhide BB).trans ((below_regrown _ _ _).mono (unhide BB).size)⟩
        case measure => simp [intOf]; omega
      cases fi
      · go_wp2_with fail
        refine wp_region_quiet_below (by kernel_rfl) (by kernel_rfl) ?_
        repeat (go_big_quiet_step (first | exact Calls.regrown_of (unhide Hma _ (below_regrown _ _ _)) | exact Calls.regrown_of (unhide Hwa _ (below_regrown _ _ _)) | exact Calls.regrown_of (unhide Hu _ (below_regrown _ _ _)) | exact Calls.regrown_of (unhide Hf _ (below_regrown _ _ _)) | exact Calls.regrown_of (unhide Ht _)))
        refine wpQuiet_nil ?_
        intro _ hw'
        obtain ⟨⟨dq, osq⟩, hw''⟩ := hw'
        subst hw''
        go_wp2_with fail
        go_roundw
        case rel => exact ⟨k + 1, by omega, by go_num, by rw [unhide Hno (unhide Hc)]; exact RecAt.later (unhide HL) (below_regrown _ _ _), (unhide kb).below (below_regrown _ _ _) (unhide kb).lt, (unhide Hv1).below (below_regrown _ _ _), (unhide BB).trans ((below_regrown _ _ _).mono (unhide BB).size)⟩
        case measure => simp [intOf]; omega
      · go_wp2_with fail
        refine wp_region_quiet_below (by kernel_rfl) (by kernel_rfl) ?_
        repeat (go_big_quiet_step (first | exact Calls.regrown_of (unhide Hma _ (below_regrown _ _ _)) | exact Calls.regrown_of (unhide Hwa _ (below_regrown _ _ _)) | exact Calls.regrown_of (unhide Hu _ (below_regrown _ _ _)) | exact Calls.regrown_of (unhide Hf _ (below_regrown _ _ _)) | exact Calls.regrown_of (unhide Ht _)))
        refine wpQuiet_nil ?_
        intro _ hw'
        obtain ⟨⟨dq, osq⟩, hw''⟩ := hw'
        subst hw''
        clear c0 c1 c2 c3 c4 c5 y0 y1 y2 y3 y4 y5 Hma Hwa Hu Hf Ht
        have hb9 := below_regrown wr dq osq
        replace HL := hide (RecAt.later (unhide HL) hb9)
        replace kb := hide ((unhide kb).below hb9 (unhide kb).lt)
        replace Hv1 := hide ((unhide Hv1).below hb9)
        replace BB := hide ((unhide BB).trans (hb9.mono (unhide BB).size))
        clear hb9
        generalize grow (redrawn wr dq) osq = X at *
        have hsx := (unhide BB).size
        go_wp2_with (at_builtin; refine wpList_append_recs tyN rfl (.tmp 33) (.tmp 35) 30 Tryz.underlying30 rfl (w.heap.size + 1) _ _ (fitTo m (who : Int) k) [(k : Int)] rfl rfl (RecAt.later (unhide HL) ((Below.refl _ _).alloc (Nat.le_refl _) _)) (recs_one (k : Int) rfl (Nat.le_refl _) (by omega)) (by simp; omega) (by simp; omega) ?_; intro u9 w9 hp9 hg9 hat9; have HP9 := hide hp9; have HG9 := hide hg9; clear hp9 hg9 hat9)
        have hlx := (unhide kb).lt
        have hgo : ∀ i, (Value.slice la (fitTo m (who : Int) k).length lc).ownBlock = some i → w.heap.size + 1 ≤ i := fun i e => (RecAt.lt (unhide HL) e).1
        have hb9 : Below (w.heap.size + 1) X w9 := ((Below.refl _ _).alloc hlx _).trans ((Below.refl _ _).grown (unhide HG9) (by simp; omega) hgo)
        have hb8 := (unhide BB).trans (hb9.mono (Nat.le_succ _))
        go_wp2_with fail
        go_roundw
        case rel => exact ⟨k + 1, by omega, by go_num, by rw [unhide Hyes (unhide Hc)]; exact unhide HP9, (unhide kb).below hb9 (Nat.lt_succ_self _), (unhide HW).below hb8, hb8⟩
        case measure => simp [intOf]; omega
    · obtain rfl : k = m.desks.length := by omega
      go_wp2_with fail
      go_ret
      exact ⟨_, rfl, RecAt.mono (unhide HL) (Nat.le_succ _), unhide BB⟩

end Go.Proofs.YtaegckehjlkaaaaGreat

/- Which bench is chosen: the model's l14Chosen. Conditions: the smithy can be read; what the theorem names. -/
namespace Go.Proofs.YtaegckehjlkaaaaGreat
open Go.ChangeShapes Go.WideShapes Go.ChangeAt Go.RowKit Go.Sort
set_option linter.unusedVariables false

theorem nums_at {w : World} {g : Nat} {zs : List Int} (h : ∀ j, j < zs.length → ∀ i u, (encNum (recAt zs j))[i]? = some u → w.cell? ⟨g, j * 1 + i, none⟩ = some u) {j : Nat} (hj : j < zs.length) : w.cell? ⟨g, j, none⟩ = some (.int .i64 (recAt zs j)) := by
  have := h j hj 0 _ rfl
  simpa using this
theorem chosen_most {m : SmyV} {who : Int} (h : crowdB m = true ∨ (crowdB m = false ∧ (fittingL m who).length = 0)) : chosenV m who = (mostTo m who m.desks.length).1 := by
  unfold chosenV
  rcases h with e | ⟨e, e'⟩
  · rw [e]; rfl
  · rw [e, e']; rfl
theorem chosen_best {m : SmyV} {who : Int} (h : crowdB m = false) (h' : 0 < (fittingL m who).length) : chosenV m who = (bestTo m who (fittingL m who) (fittingL m who).length).1 := by
  unfold chosenV
  rw [h, decide_eq_true h']; rfl
theorem mostTo_yes {m : SmyV} {who : Int} {k : Nat} (hm : mayAt m who k = true) (h : (mostTo m who k).1 < 0 ∨ (mostTo m who k).2 < spareV (usedV m k who) (forceV m.rooms k)) : mostTo m who (k + 1) = ((k : Int), spareV (usedV m k who) (forceV m.rooms k)) := by
  show (if _ then _ else _) = _
  rw [hm]
  rcases h with h | h
  · rw [decide_eq_true h]; rfl
  · rw [decide_eq_true h, Bool.or_true]; rfl
theorem mostTo_no {m : SmyV} {who : Int} {k : Nat} (h : mayAt m who k = false ∨ (¬ (mostTo m who k).1 < 0 ∧ ¬ (mostTo m who k).2 < spareV (usedV m k who) (forceV m.rooms k))) : mostTo m who (k + 1) = mostTo m who k := by
  show (if _ then _ else _) = _
  rcases h with h | ⟨h, h'⟩
  · rw [h]; rfl
  · rw [decide_eq_false h, decide_eq_false h', Bool.or_false, Bool.and_false]; rfl
theorem bestTo_one {m : SmyV} {who : Int} {f : List Int} : bestTo m who f 1 = (recAt f 0, coalWithV m who (recAt f 0)) := by
  cases f <;> rfl
theorem bestTo_next {m : SmyV} {who : Int} {f : List Int} {k : Nat} (h1 : 1 ≤ k) (hk : k < f.length) : bestTo m who f (k + 1) = stepBest m who (bestTo m who f k) (recAt f k) := by
  unfold bestTo
  have e : f.take (k + 1) = f.take k ++ [recAt f k] := by
    rw [List.take_add_one, List.getElem?_eq_getElem hk, recAt_get hk]; rfl
  rw [e, List.drop_append_of_le_length (by simp; omega), List.foldl_append]
  rfl

theorem bestTo_yes {m : SmyV} {who : Nat} {f : List Int} {k : Nat} (h1 : 1 ≤ k) (hk : k < f.length) (h : coalWithV m (who : Int) (recAt f k) < (bestTo m (who : Int) f k).2 ∨ (coalWithV m (who : Int) (recAt f k) = (bestTo m (who : Int) f k).2 ∧ recAt f k = (recAt m.smiths who).2.1)) : bestTo m (who : Int) f (k + 1) = (recAt f k, coalWithV m (who : Int) (recAt f k)) := by
  rw [bestTo_next h1 hk]
  unfold stepBest
  exact if_pos h
theorem bestTo_no {m : SmyV} {who : Nat} {f : List Int} {k : Nat} (h1 : 1 ≤ k) (hk : k < f.length) (h : ¬ (coalWithV m (who : Int) (recAt f k) < (bestTo m (who : Int) f k).2 ∨ (coalWithV m (who : Int) (recAt f k) = (bestTo m (who : Int) f k).2 ∧ recAt f k = (recAt m.smiths who).2.1))) : bestTo m (who : Int) f (k + 1) = bestTo m (who : Int) f k := by
  rw [bestTo_next h1 hk]
  unfold stepBest
  exact if_neg h

set_option maxRecDepth 100000 in
set_option maxHeartbeats 8000000 in
theorem l14Chosen_any {w : World} {v0 v1 v2 v3 v4 : Value} {m : SmyV} {who : Nat} (h : Smy w v0 v1 v2 v3 v4 m) (hS : Sane m) (hp : m.paces.length ≤ 1000) (hA : Askable m who) :
    Calls Tryz.prog 90 #[.agg #[v0, v1, v2, v3, v4, .int .i64 m.now], .int .i64 (who : Int)] w fun e w' => e = .returned (.int .i64 (chosenV m (who : Int))) ∧ Below w.heap.size w w' := by
  have Hv := hide (h.alloc (.cells #[v0, v1, v2, v3, v4, .int .i64 m.now] 32))
  obtain ⟨a0, p0, rfl, _, _⟩ := IsRooms.shape h.rooms
  obtain ⟨a1, p1, rfl, _, _⟩ := IsRec.shape h.guilds
  obtain ⟨a2, p2, rfl, _, _⟩ := IsRec.shape h.smiths
  obtain ⟨a3, p3, rfl, _, _⟩ := IsRec.shape h.desks
  obtain ⟨a4, p4, rfl, _, _⟩ := IsRec.shape h.paces
  clear h
  have kb0 : Hid (Blk (w.alloc (.cells #[.slice a0 m.rooms.length p0, .slice a1 m.guilds.length p1, .slice a2 m.smiths.length p2, .slice a3 m.desks.length p3, .slice a4 m.paces.length p4, .int .i64 m.now] 32)) w.heap.size 32 #[.slice a0 m.rooms.length p0, .slice a1 m.guilds.length p1, .slice a2 m.smiths.length p2, .slice a3 m.desks.length p3, .slice a4 m.paces.length p4, .int .i64 m.now]) := hide (Blk.new w _ _)
  have BB0 : Hid (Below w.heap.size w (w.alloc (.cells #[.slice a0 m.rooms.length p0, .slice a1 m.guilds.length p1, .slice a2 m.smiths.length p2, .slice a3 m.desks.length p3, .slice a4 m.paces.length p4, .int .i64 m.now] 32))) := hide ((Below.refl _ _).alloc (Nat.le_refl _) _)
  have HS := hide hS
  have HA := hide hA
  have HP := hide hp
  have h8 := hS.eight
  clear hS hA hp
  have c0 := (unhide kb0).cell (i := 0) (v := .slice a0 m.rooms.length p0) rfl
  have c1 := (unhide kb0).cell (i := 1) (v := .slice a1 m.guilds.length p1) rfl
  have c2 := (unhide kb0).cell (i := 2) (v := .slice a2 m.smiths.length p2) rfl
  have c3 := (unhide kb0).cell (i := 3) (v := .slice a3 m.desks.length p3) rfl
  have c4 := (unhide kb0).cell (i := 4) (v := .slice a4 m.paces.length p4) rfl
  have c5 := (unhide kb0).cell (i := 5) (v := .int .i64 m.now) rfl
  have hX : (crowdB m = true ∨ (crowdB m = false ∧ (fittingL m (who : Int)).length = 0)) ∨ (crowdB m = false ∧ 0 < (fittingL m (who : Int)).length) := by
    cases crowdB m
    · by_cases h0 : (fittingL m (who : Int)).length = 0
      · exact .inl (.inr ⟨rfl, h0⟩)
      · exact .inr ⟨rfl, by omega⟩
    · exact .inl (.inl rfl)
  rcases hX with hX | ⟨hcr, hle⟩
  · rw [chosen_most hX]
    rcases hX with hcr | ⟨hcr, hle⟩
    all_goals
      go_enter Tryz.func90, Tryz.ntmps90
      go_wp2_with (first | (go_at_call 81; refine (l14Fitting_any (unhide Hv) (unhide HS) (unhide HA)).mono ?_; rintro e w1 ⟨fv, rfl, hf1, hb1⟩; obtain ⟨la, lc, rfl⟩ := RecAt.shape hf1; have HF := hide hf1; have B1 := hide hb1; have kb1 := hide ((unhide kb0).below hb1 (unhide kb0).lt); have Hv1 := hide ((unhide Hv).below hb1); have BB1 := hide ((unhide BB0).trans (hb1.mono (unhide BB0).size)); clear hf1 hb1 kb0 Hv BB0 B1 c0 c1 c2 c3 c4 c5; have d0 := (unhide kb1).cell (i := 0) (v := .slice a0 m.rooms.length p0) rfl; have d1 := (unhide kb1).cell (i := 1) (v := .slice a1 m.guilds.length p1) rfl; have d2 := (unhide kb1).cell (i := 2) (v := .slice a2 m.smiths.length p2) rfl; have d3 := (unhide kb1).cell (i := 3) (v := .slice a3 m.desks.length p3) rfl; have d4 := (unhide kb1).cell (i := 4) (v := .slice a4 m.paces.length p4) rfl; have d5 := (unhide kb1).cell (i := 5) (v := .int .i64 m.now) rfl) | (go_at_call 91; refine (l14Crowded_any (unhide Hv1) (unhide HS)).mono ?_; rintro e w2 ⟨he, hb2⟩; rw [hcr] at he; subst he; have B2 := hide hb2; clear hb2) | fail)
      have kb2 := hide ((unhide kb1).below (unhide B2) (unhide kb1).lt)
      have Hv2 := hide ((unhide Hv1).below (unhide B2))
      have BB2 := hide ((unhide BB1).trans ((unhide B2).mono (unhide BB1).size))
      clear kb1 Hv1 BB1 B2 d0 d1 d2 d3 d4 d5 HF
      go_loopw [10, 11, 12] (fun bv mv i wr => ∃ k : Nat, k ≤ m.desks.length ∧ bv = .int .i64 (mostTo m (who : Int) k).1 ∧ mv = .int .i64 (mostTo m (who : Int) k).2 ∧ i = .int .i64 k ∧ Blk wr w.heap.size 32 #[.slice a0 m.rooms.length p0, .slice a1 m.guilds.length p1, .slice a2 m.smiths.length p2, .slice a3 m.desks.length p3, .slice a4 m.paces.length p4, .int .i64 m.now] ∧ Smy wr (.slice a0 m.rooms.length p0) (.slice a1 m.guilds.length p1) (.slice a2 m.smiths.length p2) (.slice a3 m.desks.length p3) (.slice a4 m.paces.length p4) m ∧ Below w.heap.size w wr) (fun _ _ i _ => m.desks.length - (intOf i).toNat)
      case atStart => exact ⟨0, Nat.zero_le _, rfl, rfl, rfl, unhide kb2, unhide Hv2, unhide BB2⟩
      case round =>
        obtain ⟨k, hk, rfl, rfl, rfl, hkb, hv, hb0⟩ := hrel
        have kb := hide hkb
        have Hv3 := hide hv
        have BB := hide hb0
        clear hkb hv hb0 kb2 BB2 Hv2
        have e0 := (unhide kb).cell (i := 0) (v := .slice a0 m.rooms.length p0) rfl
        have e1 := (unhide kb).cell (i := 1) (v := .slice a1 m.guilds.length p1) rfl
        have e2 := (unhide kb).cell (i := 2) (v := .slice a2 m.smiths.length p2) rfl
        have e3 := (unhide kb).cell (i := 3) (v := .slice a3 m.desks.length p3) rfl
        have e4 := (unhide kb).cell (i := 4) (v := .slice a4 m.paces.length p4) rfl
        have e5 := (unhide kb).cell (i := 5) (v := .int .i64 m.now) rfl
        by_cases hlt : k < m.desks.length
        · have hlt1 : (k : Int) < (m.desks.length : Int) := by omega
          have Hno := hide (fun hh => mostTo_no (m := m) (who := (who : Int)) (k := k) hh)
          have Hyes := hide (fun ha hh => mostTo_yes (m := m) (who := (who : Int)) (k := k) ha hh)
          have hfo := forceV_t ((unhide HS).bench hlt)
          have Hma := hide (fun (W : World) (hW : Below wr.heap.size wr W) => l14May_any ((unhide Hv3).below hW) (unhide HA).lt hlt (by omega) (unhide HA).y0 (unhide HA).y1)
          have Hu := hide (fun (W : World) (hW : Below wr.heap.size wr W) => l11Used_any (k : Int) (who : Int) ((unhide Hv3).below hW) (unhide HS).guilded (by have := (unhide HS).few; omega))
          have Hf := hide (fun (W : World) (hW : Below wr.heap.size wr W) => l4Force_any (k : Int) ((unhide Hv3).below hW).rooms ((unhide HS).bench hlt))
          rw [← hfo] at Hf
          clear hfo
          have Ht := hide (fun (W : World) => Calls.same_below (specSpareOf_any (usedV m (k : Int) (who : Int)) (forceV m.rooms (k : Int)) W))
          generalize mayAt m (who : Int) k = ma at *
          generalize usedV m (k : Int) (who : Int) = us at *
          generalize forceV m.rooms (k : Int) = fo at *
          generalize spareV us fo = sp at *
          obtain ⟨bt, hbt⟩ : ∃ q, (mostTo m (who : Int) k).1 = q := ⟨_, rfl⟩
          obtain ⟨mt, hmt⟩ : ∃ q, (mostTo m (who : Int) k).2 = q := ⟨_, rfl⟩
          rw [hbt, hmt] at Hno Hyes
          rw [hbt, hmt]
          have Hbt := hide hbt
          have Hmt := hide hmt
          clear hbt hmt
          have y0 := cell_regrown e0
          have y1 := cell_regrown e1
          have y2 := cell_regrown e2
          have y3 := cell_regrown e3
          have y4 := cell_regrown e4
          have y5 := cell_regrown e5
          cases ma
          · go_wp2_with fail
            refine wp_region_quiet_below (by kernel_rfl) (by kernel_rfl) ?_
            repeat (go_big_quiet_step (first | exact Calls.regrown_of (unhide Hu _ (below_regrown _ _ _)) | exact Calls.regrown_of (unhide Hf _ (below_regrown _ _ _)) | exact Calls.regrown_of (unhide Ht _)))
            refine wpQuiet_nil ?_
            intro _ hw'
            obtain ⟨⟨dq, osq⟩, hw''⟩ := hw'
            subst hw''
            go_wp2_with (go_at_call 82; refine (unhide Hma _ (below_regrown _ _ _)).mono ?_; rintro e w5 ⟨rfl, hb5⟩; have HX := hide ((below_regrown wr dq osq).trans (hb5.mono (below_regrown _ _ _).size)); clear hb5)
            go_roundw
            case rel => exact ⟨k + 1, by omega, by rw [unhide Hno (.inl (by simp)), unhide Hbt], by rw [unhide Hno (.inl (by simp)), unhide Hmt], by go_num, (unhide kb).below (unhide HX) (unhide kb).lt, (unhide Hv3).below (unhide HX), (unhide BB).trans ((unhide HX).mono (unhide BB).size)⟩
            case measure => simp [intOf]; omega
          by_cases hb1 : bt < 0
          · go_wp2_with fail
            refine wp_region_quiet_below (by kernel_rfl) (by kernel_rfl) ?_
            repeat (go_big_quiet_step (first | exact Calls.regrown_of (unhide Hu _ (below_regrown _ _ _)) | exact Calls.regrown_of (unhide Hf _ (below_regrown _ _ _)) | exact Calls.regrown_of (unhide Ht _)))
            refine wpQuiet_nil ?_
            intro _ hw'
            obtain ⟨⟨dq, osq⟩, hw''⟩ := hw'
            subst hw''
            go_wp2_with (go_at_call 82; refine (unhide Hma _ (below_regrown _ _ _)).mono ?_; rintro e w5 ⟨rfl, hb5⟩; have HX := hide ((below_regrown wr dq osq).trans (hb5.mono (below_regrown _ _ _).size)); clear hb5)
            go_roundw
            case rel => exact ⟨k + 1, by omega, by rw [unhide Hyes (by simp) (.inl hb1)], by rw [unhide Hyes (by simp) (.inl hb1)], by go_num, (unhide kb).below (unhide HX) (unhide kb).lt, (unhide Hv3).below (unhide HX), (unhide BB).trans ((unhide HX).mono (unhide BB).size)⟩
            case measure => simp [intOf]; omega
          by_cases hb2 : mt < sp
          · go_wp2_with fail
            refine wp_region_quiet_below (by kernel_rfl) (by kernel_rfl) ?_
            repeat (go_big_quiet_step (first | exact Calls.regrown_of (unhide Hu _ (below_regrown _ _ _)) | exact Calls.regrown_of (unhide Hf _ (below_regrown _ _ _)) | exact Calls.regrown_of (unhide Ht _)))
            refine wpQuiet_nil ?_
            intro _ hw'
            obtain ⟨⟨dq, osq⟩, hw''⟩ := hw'
            subst hw''
            go_wp2_with (go_at_call 82; refine (unhide Hma _ (below_regrown _ _ _)).mono ?_; rintro e w5 ⟨rfl, hb5⟩; have HX := hide ((below_regrown wr dq osq).trans (hb5.mono (below_regrown _ _ _).size)); clear hb5)
            go_roundw
            case rel => exact ⟨k + 1, by omega, by rw [unhide Hyes (by simp) (.inr hb2)], by rw [unhide Hyes (by simp) (.inr hb2)], by go_num, (unhide kb).below (unhide HX) (unhide kb).lt, (unhide Hv3).below (unhide HX), (unhide BB).trans ((unhide HX).mono (unhide BB).size)⟩
            case measure => simp [intOf]; omega
          · go_wp2_with fail
            refine wp_region_quiet_below (by kernel_rfl) (by kernel_rfl) ?_
            repeat (go_big_quiet_step (first | exact Calls.regrown_of (unhide Hu _ (below_regrown _ _ _)) | exact Calls.regrown_of (unhide Hf _ (below_regrown _ _ _)) | exact Calls.regrown_of (unhide Ht _)))
            refine wpQuiet_nil ?_
            intro _ hw'
            obtain ⟨⟨dq, osq⟩, hw''⟩ := hw'
            subst hw''
            go_wp2_with (go_at_call 82; refine (unhide Hma _ (below_regrown _ _ _)).mono ?_; rintro e w5 ⟨rfl, hb5⟩; have HX := hide ((below_regrown wr dq osq).trans (hb5.mono (below_regrown _ _ _).size)); clear hb5)
            go_roundw
            case rel => exact ⟨k + 1, by omega, by rw [unhide Hno (.inr ⟨by omega, by omega⟩), unhide Hbt], by rw [unhide Hno (.inr ⟨by omega, by omega⟩), unhide Hmt], by go_num, (unhide kb).below (unhide HX) (unhide kb).lt, (unhide Hv3).below (unhide HX), (unhide BB).trans ((unhide HX).mono (unhide BB).size)⟩
            case measure => simp [intOf]; omega
        · obtain rfl : k = m.desks.length := by omega
          go_wp2_with fail
          go_ret
          exact ⟨rfl, unhide BB⟩
  · rw [chosen_best hcr hle]
    have hlb : (fittingL m (who : Int)).length ≤ m.desks.length := fitTo_len m (who : Int) m.desks.length
    generalize hL : fittingL m (who : Int) = L at *
    go_enter Tryz.func90, Tryz.ntmps90
    go_wp2_with (first | (go_at_call 81; refine (l14Fitting_any (unhide Hv) (unhide HS) (unhide HA)).mono ?_; rintro e w1 ⟨fv, rfl, hf1, hb1⟩; rw [hL] at hf1; obtain ⟨la, lc, rfl⟩ := RecAt.shape hf1; obtain ⟨g, rfl, _, g1, hgc, _⟩ := RecAt.view encNum_len (by omega) hf1 rfl hle; have C1 := hide (fun j hj => nums_at hgc (j := j) hj); have kb1 := hide ((unhide kb0).below hb1 (unhide kb0).lt); have Hv1 := hide ((unhide Hv).below hb1); have BB1 := hide ((unhide BB0).trans (hb1.mono (unhide BB0).size)); clear hf1 hb1 hgc kb0 Hv BB0 c0 c1 c2 c3 c4 c5; have d0 := (unhide kb1).cell (i := 0) (v := .slice a0 m.rooms.length p0) rfl; have d1 := (unhide kb1).cell (i := 1) (v := .slice a1 m.guilds.length p1) rfl; have d2 := (unhide kb1).cell (i := 2) (v := .slice a2 m.smiths.length p2) rfl; have d3 := (unhide kb1).cell (i := 3) (v := .slice a3 m.desks.length p3) rfl; have d4 := (unhide kb1).cell (i := 4) (v := .slice a4 m.paces.length p4) rfl; have d5 := (unhide kb1).cell (i := 5) (v := .int .i64 m.now) rfl) | (go_at_call 91; refine (l14Crowded_any (unhide Hv1) (unhide HS)).mono ?_; rintro e w2 ⟨he, hb2⟩; rw [hcr] at he; subst he; have kb2 := hide ((unhide kb1).below hb2 (unhide kb1).lt); have Hv2 := hide ((unhide Hv1).below hb2); have BB2 := hide ((unhide BB1).trans (hb2.mono (unhide BB1).size)); have C2 := hide (fun j hj => (hb2.cell (p := ⟨g, j, none⟩) g1).trans (unhide C1 j hj)); have g2 := Nat.lt_of_lt_of_le g1 hb2.size; clear hb2 kb1 Hv1 BB1 C1 g1 d0 d1 d2 d3 d4 d5; have d0 := (unhide kb2).cell (i := 0) (v := .slice a0 m.rooms.length p0) rfl; have d1 := (unhide kb2).cell (i := 1) (v := .slice a1 m.guilds.length p1) rfl; have d2 := (unhide kb2).cell (i := 2) (v := .slice a2 m.smiths.length p2) rfl; have d3 := (unhide kb2).cell (i := 3) (v := .slice a3 m.desks.length p3) rfl; have d4 := (unhide kb2).cell (i := 4) (v := .slice a4 m.paces.length p4) rfl; have d5 := (unhide kb2).cell (i := 5) (v := .int .i64 m.now) rfl; have x0 := unhide C2 0 hle) | (go_at_call 92; refine (l13With_any _ (unhide Hv2) (unhide HS) (unhide HP) (unhide HA).lt (unhide HA).st).mono ?_; rintro e w3 ⟨rfl, hb3⟩; have B3 := hide hb3; clear hb3) | fail)
    have kb3 := hide ((unhide kb2).below (unhide B3) (unhide kb2).lt)
    have Hv3 := hide ((unhide Hv2).below (unhide B3))
    have BB3 := hide ((unhide BB2).trans ((unhide B3).mono (unhide BB2).size))
    have C3 := hide (fun j hj => ((unhide B3).cell (p := ⟨g, j, none⟩) g2).trans (unhide C2 j hj))
    have g3 := Nat.lt_of_lt_of_le g2 (unhide B3).size
    clear kb2 Hv2 BB2 B3 C2 g2 d0 d1 d2 d3 d4 d5 x0
    go_loopw [6, 7, 8] (fun bv lv i wr => ∃ k : Nat, 1 ≤ k ∧ k ≤ L.length ∧ bv = .int .i64 (bestTo m (who : Int) L k).1 ∧ lv = .int .i64 (bestTo m (who : Int) L k).2 ∧ i = .int .i64 k ∧ (∀ j, j < L.length → wr.cell? ⟨g, j, none⟩ = some (.int .i64 (recAt L j))) ∧ g < wr.heap.size ∧ Blk wr w.heap.size 32 #[.slice a0 m.rooms.length p0, .slice a1 m.guilds.length p1, .slice a2 m.smiths.length p2, .slice a3 m.desks.length p3, .slice a4 m.paces.length p4, .int .i64 m.now] ∧ Smy wr (.slice a0 m.rooms.length p0) (.slice a1 m.guilds.length p1) (.slice a2 m.smiths.length p2) (.slice a3 m.desks.length p3) (.slice a4 m.paces.length p4) m ∧ Below w.heap.size w wr) (fun _ _ i _ => L.length - (intOf i).toNat)
    case atStart => exact ⟨1, Nat.le_refl _, by omega, by rw [bestTo_one], by rw [bestTo_one], rfl, unhide C3, g3, unhide kb3, unhide Hv3, unhide BB3⟩
    case round =>
      obtain ⟨k, hk1, hk, rfl, rfl, rfl, hc, hg, hkb, hv, hb0⟩ := hrel
      have HC := hide hc
      have kb := hide hkb
      have Hv4 := hide hv
      have BB := hide hb0
      clear hkb hv hb0 kb3 BB3 Hv3 hc C3 g3
      have e0 := (unhide kb).cell (i := 0) (v := .slice a0 m.rooms.length p0) rfl
      have e1 := (unhide kb).cell (i := 1) (v := .slice a1 m.guilds.length p1) rfl
      have e2 := (unhide kb).cell (i := 2) (v := .slice a2 m.smiths.length p2) rfl
      have e3 := (unhide kb).cell (i := 3) (v := .slice a3 m.desks.length p3) rfl
      have e4 := (unhide kb).cell (i := 4) (v := .slice a4 m.paces.length p4) rfl
      have e5 := (unhide kb).cell (i := 5) (v := .int .i64 m.now) rfl
      by_cases hlt : k < L.length
      · have hlt1 : (k : Int) < (L.length : Int) := by omega
        have x0 := unhide HC k hlt
        obtain ⟨_, _, hse, _, _, r2⟩ := (unhide Hv4).smiths
        cases hse
        have hwl := (unhide HA).lt
        rcases r2 with e0 | ⟨sb, so, rfl, hbs, hcs⟩
        · rw [e0] at hwl; simp at hwl
        obtain ⟨_, s1, _⟩ := smith_cells hcs hwl
        clear hcs
        have hwl1 : (who : Int) < (m.smiths.length : Int) := by omega
        have Hno := hide (fun hh => bestTo_no (m := m) (who := who) (k := k) hk1 hlt hh)
        have Hyes := hide (fun hh => bestTo_yes (m := m) (who := who) (k := k) hk1 hlt hh)
        have Hw := hide (fun (W : World) (hW : Below wr.heap.size wr W) => l13With_any (recAt L k) ((unhide Hv4).below hW) (unhide HS) (unhide HP) (unhide HA).lt (unhide HA).st)
        generalize coalWithV m (who : Int) (recAt L k) = n at *
        generalize recAt L k = x at *
        generalize (recAt m.smiths who).2.1 = y at *
        obtain ⟨bt, hbt⟩ : ∃ q, (bestTo m (who : Int) L k).1 = q := ⟨_, rfl⟩
        obtain ⟨lt, hmt⟩ : ∃ q, (bestTo m (who : Int) L k).2 = q := ⟨_, rfl⟩
        rw [hmt] at Hno Hyes
        rw [hbt, hmt]
        have Hbt := hide hbt
        have Hmt := hide hmt
        clear hbt hmt
        have y0 := cell_regrown e0
        have y1 := cell_regrown e1
        have y2 := cell_regrown e2
        have y3 := cell_regrown e3
        have y4 := cell_regrown e4
        have y5 := cell_regrown e5
        have z0 := cell_regrown x0
        have z1 := cell_regrown s1
        go_wp2_with fail
        refine wp_region_quiet_below (by kernel_rfl) (by kernel_rfl) ?_
        repeat (go_big_quiet_step (first | exact Calls.regrown_of (unhide Hw _ (below_regrown _ _ _))))
        refine wpQuiet_nil ?_
        intro _ hw'
        obtain ⟨⟨dq, osq⟩, hw''⟩ := hw'
        subst hw''
        go_wp2_with fail
        have hX := hide (below_regrown wr dq osq)
        have q0 := y0 dq osq; have q1 := y1 dq osq; have q2 := y2 dq osq; have q3 := y3 dq osq; have q4 := y4 dq osq; have q5 := y5 dq osq
        have r0 := z0 dq osq
        have r1 := z1 dq osq
        clear z0 z1 x0 s1 y0 y1 y2 y3 y4 y5 e0 e1 e2 e3 e4 e5 Hw
        have HC2 := hide (fun j hj => ((unhide hX).cell (p := ⟨g, j, none⟩) hg).trans (unhide HC j hj))
        have hg2 := Nat.lt_of_lt_of_le hg (unhide hX).size
        have kb9 := hide ((unhide kb).below (unhide hX) (unhide kb).lt)
        have Hv9 := hide ((unhide Hv4).below (unhide hX))
        have BB9 := hide ((unhide BB).trans ((unhide hX).mono (unhide BB).size))
        clear HC hg kb Hv4 BB hX hbs
        generalize grow (redrawn wr dq) osq = X at *
        have r2 := cell_regrown r0
        have r3 := cell_regrown r1
        have t0 := cell_regrown q0; have t1 := cell_regrown q1; have t2 := cell_regrown q2; have t3 := cell_regrown q3; have t4 := cell_regrown q4; have t5 := cell_regrown q5
        by_cases hn : n < lt
        · refine wp_region_quiet_below (by kernel_rfl) (by kernel_rfl) ?_
          repeat (go_big_quiet_step (fail))
          refine wpQuiet_nil ?_
          intro _ hw'
          obtain ⟨⟨dq, osq⟩, hw''⟩ := hw'
          subst hw''
          go_wp2_with fail
          go_roundw
          case rel => exact ⟨k + 1, by omega, by omega, by rw [unhide Hyes (by omega)], by rw [unhide Hyes (by omega)], by go_num, fun j hj => ((below_regrown X dq osq).cell (p := ⟨g, j, none⟩) hg2).trans (unhide HC2 j hj), Nat.lt_of_lt_of_le hg2 (below_regrown X dq osq).size, (unhide kb9).below (below_regrown X dq osq) (unhide kb9).lt, (unhide Hv9).below (below_regrown X dq osq), (unhide BB9).trans ((below_regrown X dq osq).mono (unhide BB9).size)⟩
          case measure => simp [intOf]; omega
        by_cases he : n = lt
        · subst he
          by_cases hxy : x = y
          · subst hxy
            refine wp_region_quiet_below (by kernel_rfl) (by kernel_rfl) ?_
            repeat (go_big_quiet_step (fail))
            refine wpQuiet_nil ?_
            intro _ hw'
            obtain ⟨⟨dq, osq⟩, hw''⟩ := hw'
            subst hw''
            go_wp2_with fail
            go_roundw
            case rel => exact ⟨k + 1, by omega, by omega, by rw [unhide Hyes (by omega)], by rw [unhide Hyes (by omega)], by go_num, fun j hj => ((below_regrown X dq osq).cell (p := ⟨g, j, none⟩) hg2).trans (unhide HC2 j hj), Nat.lt_of_lt_of_le hg2 (below_regrown X dq osq).size, (unhide kb9).below (below_regrown X dq osq) (unhide kb9).lt, (unhide Hv9).below (below_regrown X dq osq), (unhide BB9).trans ((below_regrown X dq osq).mono (unhide BB9).size)⟩
            case measure => simp [intOf]; omega
          · refine wp_region_quiet_below (by kernel_rfl) (by kernel_rfl) ?_
            repeat (go_big_quiet_step (fail))
            refine wpQuiet_nil ?_
            intro _ hw'
            obtain ⟨⟨dq, osq⟩, hw''⟩ := hw'
            subst hw''
            go_wp2_with fail
            go_roundw
            case rel => exact ⟨k + 1, by omega, by omega, by rw [unhide Hno (by omega), unhide Hbt], by rw [unhide Hno (by omega), unhide Hmt], by go_num, fun j hj => ((below_regrown X dq osq).cell (p := ⟨g, j, none⟩) hg2).trans (unhide HC2 j hj), Nat.lt_of_lt_of_le hg2 (below_regrown X dq osq).size, (unhide kb9).below (below_regrown X dq osq) (unhide kb9).lt, (unhide Hv9).below (below_regrown X dq osq), (unhide BB9).trans ((below_regrown X dq osq).mono (unhide BB9).size)⟩
            case measure => simp [intOf]; omega
        · have e1 : (n == lt) = false := by simpa using he
          have e2 : decide (n = lt) = false := decide_eq_false he
          refine wp_region_quiet_below (by kernel_rfl) (by kernel_rfl) ?_
          repeat (go_big_quiet_step (fail))
          refine wpQuiet_nil ?_
          intro _ hw'
          obtain ⟨⟨dq, osq⟩, hw''⟩ := hw'
          subst hw''
          go_wp2_with fail
          go_roundw
          case rel => exact ⟨k + 1, by omega, by omega, by rw [unhide Hno (by omega), unhide Hbt], by rw [unhide Hno (by omega), unhide Hmt], by go_num, fun j hj => ((below_regrown X dq osq).cell (p := ⟨g, j, none⟩) hg2).trans (unhide HC2 j hj), Nat.lt_of_lt_of_le hg2 (below_regrown X dq osq).size, (unhide kb9).below (below_regrown X dq osq) (unhide kb9).lt, (unhide Hv9).below (below_regrown X dq osq), (unhide BB9).trans ((below_regrown X dq osq).mono (unhide BB9).size)⟩
          case measure => simp [intOf]; omega
      · obtain rfl : k = L.length := by omega
        go_wp2_with fail
        go_ret
        exact ⟨rfl, unhide BB⟩

end Go.Proofs.YtaegckehjlkaaaaGreat

/- What a change hands back: a smithy in memory of its own, and a code; the smithy with nothing in it; the model's l11Who. Condition: the smithy can be read. -/
namespace Go.Proofs.YtaegckehjlkaaaaGreat
open Go.ChangeShapes Go.WideShapes Go.ChangeAt Go.RowKit Go.Sort
set_option linter.unusedVariables false

set_option maxHeartbeats 2000000 in
theorem l11Who_q {w : World} {v0 v1 v2 v3 v4 : Value} {m : SmyV} {who : Int} {q : Bool} (hq : whoB m who = q) (h : Smy w v0 v1 v2 v3 v4 m) :
    Calls Tryz.prog 67 #[.agg #[v0, v1, v2, v3, v4, .int .i64 m.now], .int .i64 who] w fun e w' => e = .returned (.bool q) ∧ Below w.heap.size w w' := by
  subst hq
  obtain ⟨a0, p0, rfl, _, _⟩ := IsRooms.shape h.rooms
  obtain ⟨a1, p1, rfl, _, _⟩ := IsRec.shape h.guilds
  obtain ⟨a2, p2, rfl, hc2, hm2, r2⟩ := h.smiths
  obtain ⟨a3, p3, rfl, _, _⟩ := IsRec.shape h.desks
  obtain ⟨a4, p4, rfl, _, _⟩ := IsRec.shape h.paces
  clear h
  have Ba : Hid (Below w.heap.size w (w.alloc (.cells #[.slice a0 m.rooms.length p0, .slice a1 m.guilds.length p1, .slice a2 m.smiths.length p2, .slice a3 m.desks.length p3, .slice a4 m.paces.length p4, .int .i64 m.now] 32))) := hide ((Below.refl _ _).alloc (Nat.le_refl _) _)
  cases hi : inB who 0 ((m.smiths.length : Int) - 1)
  · have hw : whoB m who = false := by unfold whoB; rw [hi]; rfl
    have Hi := hide hi
    rw [hw]
    clear hi hw r2
    go_enter Tryz.func67, Tryz.ntmps67
    go_wp2_with (go_at_call 123; refine (l1In_any _ _ _ _).mono ?_; rw [unhide Hi]; rintro e w' ⟨rfl, h9⟩; subst w')
    go_ret
    exact ⟨rfl, unhide Ba⟩
  · obtain ⟨i0, i1⟩ := inB_of hi
    obtain ⟨k, rfl⟩ : ∃ k : Nat, who = k := ⟨who.toNat, by omega⟩
    have hk : k < m.smiths.length := by omega
    have hw : whoB m (k : Int) = !((recAt m.smiths k).1 == 0) := by unfold whoB; rw [hi]; simp
    rcases r2 with e0 | ⟨sb, off, rfl, hbw, hcl⟩
    · rw [e0] at hk; simp at hk
    obtain ⟨d0, _⟩ := smith_cells hcl hk
    have Hi := hide hi
    rw [hw]
    clear hi hw hcl
    have hk1 : (k : Int) < (m.smiths.length : Int) := by omega
    generalize (recAt m.smiths k).1 = st at *
    go_enter Tryz.func67, Tryz.ntmps67
    go_wp2_with (go_at_call 123; refine (l1In_any _ _ _ _).mono ?_; rw [unhide Hi]; rintro e w' ⟨rfl, h9⟩; subst w')
    go_ret
    exact ⟨rfl, unhide Ba⟩

end Go.Proofs.YtaegckehjlkaaaaGreat

/- Contracts of the model's MayWork, Fitting, Crowded and Chosen: each answers what the plain lists say. Condition: the smithy can be read. -/
namespace Go.Proofs.YtaegckehjlkaaaaGreat
open Go.ChangeShapes Go.WideShapes Go.ChangeAt Go.RowKit Go.Sort
set_option linter.unusedVariables false
set_option maxRecDepth 100000

theorem ask_of {m : SmyV} (h : Loose m) {k : Nat} (hk : k < m.smiths.length) (hs : (recAt m.smiths k).1 ≠ 0) : Askable m k := by
  have key := may_bd h hk hs
  exact ⟨hk, hs, key.1, key.2⟩
set_option maxHeartbeats 4000000 in
theorem specMayWork_any {w : World} {v0 v1 v2 v3 v4 : Value} {m : SmyV} {who b : Int} {q : Bool} (hq : mayWorkV m who b = q) (h : Smy w v0 v1 v2 v3 v4 m) : Calls Tryz.prog 31 #[.agg #[v0, v1, v2, v3, v4, .int .i64 m.now], .int .i64 who, .int .i64 b] w fun e w' => e = .returned (.bool q) ∧ Below w.heap.size w w' := by
  have Hq := hide hq
  clear hq
  obtain ⟨ok, hok⟩ : ∃ q, smyB m = q := ⟨_, rfl⟩
  have Hok := hide hok
  clear hok
  obtain ⟨a0, p0, a1, p1, a2, p2, a3, p3, a4, p4, rfl, rfl, rfl, rfl, rfl, K⟩ := Bx.new h
  clear h
  go_enter Tryz.func31, Tryz.ntmps31
  go_wp2_with fail
  generalize w.alloc (.cells #[.slice a0 m.rooms.length p0, .slice a1 m.guilds.length p1, .slice a2 m.smiths.length p2, .slice a3 m.desks.length p3, .slice a4 m.paces.length p4, .int .i64 m.now] 32) = W at *
  refine (spec_q (unhide Hok) K.smy).mono ?_
  rintro e w1 ⟨rfl, hb⟩
  replace K := K.next hb
  clear hb
  cases ok
  · obtain rfl : q = false := by rw [← unhide Hq]; unfold mayWorkV; rw [unhide Hok]; simp
    go_wp2_with fail
    go_ret
    exact ⟨rfl, K.bb⟩
  obtain ⟨qw, hqw⟩ : ∃ q, whoB m who = q := ⟨_, rfl⟩
  have Hw := hide hqw
  clear hqw
  obtain ⟨c0, c1, c2, c3, c4, c5⟩ := K.cells
  go_wp2_with fail
  refine (l11Who_q (unhide Hw) K.smy).mono ?_
  rintro e w2 ⟨rfl, hb⟩
  replace K := K.next hb
  clear hb c0 c1 c2 c3 c4 c5
  cases qw
  · obtain rfl : q = false := by rw [← unhide Hq]; unfold mayWorkV; rw [unhide Hw]; simp
    go_wp2_with fail
    go_ret
    exact ⟨rfl, K.bb⟩
  obtain ⟨qb, hqb⟩ : ∃ q, isBenchB m b = q := ⟨_, rfl⟩
  have Hb := hide hqb
  clear hqb
  obtain ⟨c0, c1, c2, c3, c4, c5⟩ := K.cells
  go_wp2_with fail
  refine (l11Bench_q (unhide Hb) K.smy).mono ?_
  rintro e w3 ⟨rfl, hb⟩
  replace K := K.next hb
  clear hb c0 c1 c2 c3 c4 c5
  cases qb
  · obtain rfl : q = false := by rw [← unhide Hq]; unfold mayWorkV; rw [unhide Hb]; simp
    go_wp2_with fail
    go_ret
    exact ⟨rfl, K.bb⟩
  obtain ⟨k, rfl, hk, hs⟩ := whoB_of (unhide Hw)
  have hbb : 0 ≤ b ∧ b < (m.desks.length : Int) := by have := inB_of (show inB b 0 ((m.desks.length : Int) - 1) = true from unhide Hb); omega
  obtain ⟨bn, rfl⟩ : ∃ bn : Nat, b = bn := ⟨b.toNat, by omega⟩
  have hlt : bn < m.desks.length := by omega
  obtain rfl : q = mayAt m (k : Int) bn := by rw [← unhide Hq]; unfold mayWorkV; rw [unhide Hok, unhide Hw, unhide Hb, Int.toNat_natCast]; rfl
  have HA := hide (ask_of (smy_loose (unhide Hok)) hk hs)
  have h8 := (smy_loose (unhide Hok)).sane.eight
  obtain ⟨c0, c1, c2, c3, c4, c5⟩ := K.cells
  go_wp2_with fail
  refine (l14May_any K.smy hk hlt (by omega) (unhide HA).y0 (unhide HA).y1).mono ?_
  rintro e w4 ⟨rfl, hb⟩
  replace K := K.next hb
  clear hb c0 c1 c2 c3 c4 c5
  go_wp2_with fail
  go_ret
  exact ⟨rfl, K.bb⟩
set_option maxHeartbeats 4000000 in
theorem specFitting_any {w : World} {v0 v1 v2 v3 v4 : Value} {m : SmyV} {who : Int} {q : List Int} (hq : fittingOfV m who = q) (h : Smy w v0 v1 v2 v3 v4 m) : Calls Tryz.prog 29 #[.agg #[v0, v1, v2, v3, v4, .int .i64 m.now], .int .i64 who] w fun e w' => ∃ v', e = .returned v' ∧ NumsAt w.heap.size w' v' q ∧ Below w.heap.size w w' := by
  have Hq := hide hq
  clear hq
  obtain ⟨ok, hok⟩ : ∃ q, smyB m = q := ⟨_, rfl⟩
  have Hok := hide hok
  clear hok
  obtain ⟨a0, p0, a1, p1, a2, p2, a3, p3, a4, p4, rfl, rfl, rfl, rfl, rfl, K⟩ := Bx.new h
  clear h
  go_enter Tryz.func29, Tryz.ntmps29
  go_wp2_with fail
  generalize w.alloc (.cells #[.slice a0 m.rooms.length p0, .slice a1 m.guilds.length p1, .slice a2 m.smiths.length p2, .slice a3 m.desks.length p3, .slice a4 m.paces.length p4, .int .i64 m.now] 32) = W at *
  refine (spec_q (unhide Hok) K.smy).mono ?_
  rintro e w1 ⟨rfl, hb⟩
  replace K := K.next hb
  clear hb
  cases ok
  · obtain rfl : q = [] := by rw [← unhide Hq]; unfold fittingOfV; rw [unhide Hok]; simp
    go_wp2_with fail
    go_ret
    have hE : NumsAt w.heap.size (w1.alloc (.cells #[] 2)) (.slice (some ⟨w1.heap.size, 0, none⟩) 0 0) [] := recs_empty rfl K.bb.size
    exact ⟨_, rfl, hE, K.bb.alloc K.bb.size _⟩
  obtain ⟨qw, hqw⟩ : ∃ q, whoB m who = q := ⟨_, rfl⟩
  have Hw := hide hqw
  clear hqw
  obtain ⟨c0, c1, c2, c3, c4, c5⟩ := K.cells
  go_wp2_with fail
  refine (l11Who_q (unhide Hw) K.smy).mono ?_
  rintro e w2 ⟨rfl, hb⟩
  replace K := K.next hb
  clear hb c0 c1 c2 c3 c4 c5
  cases qw
  · obtain rfl : q = [] := by rw [← unhide Hq]; unfold fittingOfV; rw [unhide Hw]; simp
    go_wp2_with fail
    go_ret
    have hE : NumsAt w.heap.size (w2.alloc (.cells #[] 2)) (.slice (some ⟨w2.heap.size, 0, none⟩) 0 0) [] := recs_empty rfl K.bb.size
    exact ⟨_, rfl, hE, K.bb.alloc K.bb.size _⟩
  obtain ⟨k, rfl, hk, hs⟩ := whoB_of (unhide Hw)
  obtain rfl : q = fittingL m (k : Int) := by rw [← unhide Hq]; unfold fittingOfV; rw [unhide Hok, unhide Hw]; rfl
  have HA := hide (ask_of (smy_loose (unhide Hok)) hk hs)
  have HS := hide (smy_loose (unhide Hok)).sane
  obtain ⟨c0, c1, c2, c3, c4, c5⟩ := K.cells
  go_wp2_with fail
  refine (l14Fitting_any K.smy (unhide HS) (unhide HA)).mono ?_
  rintro e w4 ⟨v9, rfl, hn, hb⟩
  have hn9 : NumsAt w.heap.size w4 v9 (fittingL m (k : Int)) := RecAt.mono hn K.bb.size
  clear hn
  replace K := K.next hb
  clear hb c0 c1 c2 c3 c4 c5
  obtain ⟨na, nc, rfl⟩ := RecAt.shape hn9
  have HN := hide hn9
  clear hn9
  go_wp2_with fail
  go_ret
  exact ⟨_, rfl, unhide HN, K.bb⟩
set_option maxHeartbeats 4000000 in
theorem specCrowded_any {w : World} {v0 v1 v2 v3 v4 : Value} {m : SmyV}  {q : Bool} (hq : crowdedV m = q) (h : Smy w v0 v1 v2 v3 v4 m) : Calls Tryz.prog 41 #[.agg #[v0, v1, v2, v3, v4, .int .i64 m.now]] w fun e w' => e = .returned (.bool q) ∧ Below w.heap.size w w' := by
  have Hq := hide hq
  clear hq
  obtain ⟨ok, hok⟩ : ∃ q, smyB m = q := ⟨_, rfl⟩
  have Hok := hide hok
  clear hok
  obtain ⟨a0, p0, a1, p1, a2, p2, a3, p3, a4, p4, rfl, rfl, rfl, rfl, rfl, K⟩ := Bx.new h
  clear h
  go_enter Tryz.func41, Tryz.ntmps41
  go_wp2_with fail
  generalize w.alloc (.cells #[.slice a0 m.rooms.length p0, .slice a1 m.guilds.length p1, .slice a2 m.smiths.length p2, .slice a3 m.desks.length p3, .slice a4 m.paces.length p4, .int .i64 m.now] 32) = W at *
  refine (spec_q (unhide Hok) K.smy).mono ?_
  rintro e w1 ⟨rfl, hb⟩
  replace K := K.next hb
  clear hb
  cases ok
  · obtain rfl : q = false := by rw [← unhide Hq]; unfold crowdedV; rw [unhide Hok]; simp
    go_wp2_with fail
    go_ret
    exact ⟨rfl, K.bb⟩
  obtain rfl : q = crowdB m := by rw [← unhide Hq]; unfold crowdedV; rw [unhide Hok]; rfl
  have HS := hide (smy_loose (unhide Hok)).sane
  obtain ⟨c0, c1, c2, c3, c4, c5⟩ := K.cells
  go_wp2_with fail
  refine (l14Crowded_any K.smy (unhide HS)).mono ?_
  rintro e w2 ⟨rfl, hb⟩
  replace K := K.next hb
  clear hb c0 c1 c2 c3 c4 c5
  go_wp2_with fail
  go_ret
  exact ⟨rfl, K.bb⟩
set_option maxHeartbeats 4000000 in
theorem specChosen_any {w : World} {v0 v1 v2 v3 v4 : Value} {m : SmyV} {who : Int} {q : Int} (hq : chosenOfV m who = q) (h : Smy w v0 v1 v2 v3 v4 m) : Calls Tryz.prog 40 #[.agg #[v0, v1, v2, v3, v4, .int .i64 m.now], .int .i64 who] w fun e w' => e = .returned (.int .i64 q) ∧ Below w.heap.size w w' := by
  have Hq := hide hq
  clear hq
  obtain ⟨ok, hok⟩ : ∃ q, smyB m = q := ⟨_, rfl⟩
  have Hok := hide hok
  clear hok
  obtain ⟨a0, p0, a1, p1, a2, p2, a3, p3, a4, p4, rfl, rfl, rfl, rfl, rfl, K⟩ := Bx.new h
  clear h
  go_enter Tryz.func40, Tryz.ntmps40
  go_wp2_with fail
  generalize w.alloc (.cells #[.slice a0 m.rooms.length p0, .slice a1 m.guilds.length p1, .slice a2 m.smiths.length p2, .slice a3 m.desks.length p3, .slice a4 m.paces.length p4, .int .i64 m.now] 32) = W at *
  refine (spec_q (unhide Hok) K.smy).mono ?_
  rintro e w1 ⟨rfl, hb⟩
  replace K := K.next hb
  clear hb
  cases ok
  · obtain rfl : q = -1 := by rw [← unhide Hq]; unfold chosenOfV; rw [unhide Hok]; simp
    go_wp2_with fail
    go_ret
    exact ⟨rfl, K.bb⟩
  obtain ⟨qw, hqw⟩ : ∃ q, whoB m who = q := ⟨_, rfl⟩
  have Hw := hide hqw
  clear hqw
  obtain ⟨c0, c1, c2, c3, c4, c5⟩ := K.cells
  go_wp2_with fail
  refine (l11Who_q (unhide Hw) K.smy).mono ?_
  rintro e w2 ⟨rfl, hb⟩
  replace K := K.next hb
  clear hb c0 c1 c2 c3 c4 c5
  cases qw
  · obtain rfl : q = -1 := by rw [← unhide Hq]; unfold chosenOfV; rw [unhide Hw]; simp
    go_wp2_with fail
    go_ret
    exact ⟨rfl, K.bb⟩
  obtain ⟨k, rfl, hk, hs⟩ := whoB_of (unhide Hw)
  obtain rfl : q = chosenV m (k : Int) := by rw [← unhide Hq]; unfold chosenOfV; rw [unhide Hok, unhide Hw]; rfl
  have HA := hide (ask_of (smy_loose (unhide Hok)) hk hs)
  have HS := hide (smy_loose (unhide Hok)).sane
  have hp := (few_of (smy_loose (unhide Hok))).nums
  obtain ⟨c0, c1, c2, c3, c4, c5⟩ := K.cells
  go_wp2_with fail
  refine (l14Chosen_any K.smy (unhide HS) hp (unhide HA)).mono ?_
  rintro e w3 ⟨rfl, hb⟩
  replace K := K.next hb
  clear hb c0 c1 c2 c3 c4 c5
  go_wp2_with fail
  go_ret
  exact ⟨rfl, K.bb⟩

end Go.Proofs.YtaegckehjlkaaaaGreat

