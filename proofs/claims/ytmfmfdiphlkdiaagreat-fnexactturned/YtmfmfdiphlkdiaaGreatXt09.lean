/- What the proof rests on, part 9: lists and numbers, how they lie in memory, and contracts of the calls. No condition but those that a theorem names. -/
import Derived.Test.YtmfmfdiphlkdiaaGreatXt01
import Derived.Test.YtmfmfdiphlkdiaaGreatXt02
import Derived.Test.YtmfmfdiphlkdiaaGreatXt03
import Derived.Test.YtmfmfdiphlkdiaaGreatXt04
import Derived.Test.YtmfmfdiphlkdiaaGreatXt05
import Derived.Test.YtmfmfdiphlkdiaaGreatXt06
import Derived.Test.YtmfmfdiphlkdiaaGreatXt07
import Derived.Test.YtmfmfdiphlkdiaaGreatXt08
import Derived.Maps.AppendAt
import Derived.RangeFuncNested
import Derived.RangeFuncBound
import Derived.RangeFuncCalls
import Derived.RangeFuncLeaves
import Derived.RangeFuncBox
import Derived.Shelf.Abstract
import Derived.Shelf.RegionOpen
import Derived.WalkKit
import Derived.OwnWalkIn
import Derived.TacticsInMore
import Derived.LoopNIn
import Derived.LoopIn
import Derived.WalkMore
import Derived.Below
import Derived.ChangeKeysEq
import Derived.Laws.StructEq
import Derived.ProofKit
import Derived.OpenShut
import Derived.Outline
import Derived.Deep.RegionHeld3
import Derived.Deep.DrawnRows
import Derived.BigRegion
import Derived.Deep.RegionLawGrows
import Derived.Lib.QuietBelow
import Derived.Deep.RegionWith
import Derived.Deep.QuietTactic
import Derived.BigQuiet
import Derived.Laws.OwnMore
import Derived.OwnWalk
import Derived.Lib.SmallJoins
import Derived.Deep.Fields
import Derived.Deep.Slices
import Derived.OrdersHeld
import Derived.Deep.RegionHeldLaw
import Derived.Deep.DeepCutAuto
/- The model's At: who waits or works at a bench. Condition: the smithy can be read. -/
namespace Go.Proofs.YtmfmfdiphlkdiaaGreat
open Go.ChangeShapes Go.WideShapes Go.ChangeAt Go.RowKit Go.Sort
set_option linter.unusedVariables false

theorem spec_q {w : World} {v0 v1 v2 v3 v4 : Value} {m : SmyV} {q : Bool} (hq : smyB m = q) (h : Smy w v0 v1 v2 v3 v4 m) : Calls Tryz.prog 20 #[.agg #[v0, v1, v2, v3, v4, .int .i64 m.now]] w fun e w' => e = .returned (.bool q) ∧ Below w.heap.size w w' := by
  have := specSmithyOk_any h; rw [hq] at this; exact this

set_option maxHeartbeats 1000000 in
theorem l11Bench_q {w : World} {v0 v1 v2 v3 v4 : Value} {m : SmyV} {b : Int} {q : Bool} (hq : isBenchB m b = q) (h : Smy w v0 v1 v2 v3 v4 m) :
    Calls Tryz.prog 54 #[.agg #[v0, v1, v2, v3, v4, .int .i64 m.now], .int .i64 b] w fun e w' => e = .returned (.bool q) ∧ Below w.heap.size w w' := by
  have hq2 : inB b 0 ((m.desks.length : Int) - 1) = q := hq
  clear hq
  obtain ⟨a0, p0, rfl, _, _⟩ := IsRooms.shape h.rooms
  obtain ⟨a1, p1, rfl, _, _⟩ := IsRec.shape h.guilds
  obtain ⟨a2, p2, rfl, _, _⟩ := IsRec.shape h.smiths
  obtain ⟨a3, p3, rfl, hc3, hm3⟩ := IsRec.shape h.desks
  obtain ⟨a4, p4, rfl, _, _⟩ := IsRec.shape h.paces
  clear h
  go_enter Tryz.func54, Tryz.ntmps54
  go_wp2_with (go_at_call 110; refine (l1In_any _ _ _ _).mono ?_; rw [hq2]; rintro e w' ⟨rfl, h9⟩; subst w')
  go_ret
  exact ⟨rfl, (Below.refl _ _).alloc (Nat.le_refl _) _⟩

end Go.Proofs.YtmfmfdiphlkdiaaGreat

/- What pace is wanted (l17Wanted), whether a bench is idle (l12Idle): the model's. Conditions: the smithy can be read; what each theorem names. -/
namespace Go.Proofs.YtmfmfdiphlkdiaaGreat
open Go.ChangeShapes Go.WideShapes Go.ChangeAt Go.RowKit Go.Sort
set_option linter.unusedVariables false
set_option maxRecDepth 100000

set_option maxHeartbeats 4000000 in
theorem l12Idle_any {w : World} {v0 v1 v2 v3 v4 : Value} {m : SmyV} {b : Nat} (h : Smy w v0 v1 v2 v3 v4 m) (hb0 : b < m.desks.length) (hl : m.smiths.length ≤ 800) :
    Calls Tryz.prog 79 #[.agg #[v0, v1, v2, v3, v4, .int .i64 m.now], .int .i64 (b : Int)] w fun e w' => e = .returned (.bool (idleB m b)) ∧ Below w.heap.size w w' := by
  have Hv := hide (h.alloc (.cells #[v0, v1, v2, v3, v4, .int .i64 m.now] 32))
  obtain ⟨a0, p0, rfl, _, _⟩ := IsRooms.shape h.rooms
  obtain ⟨a1, p1, rfl, _, _⟩ := IsRec.shape h.guilds
  obtain ⟨a2, p2, rfl, _, _⟩ := IsRec.shape h.smiths
  obtain ⟨a3, p3, rfl, _, _⟩ := IsRec.shape h.desks
  obtain ⟨a4, p4, rfl, _, _⟩ := IsRec.shape h.paces
  clear h
  have kb : Hid (Blk (w.alloc (.cells #[.slice a0 m.rooms.length p0, .slice a1 m.guilds.length p1, .slice a2 m.smiths.length p2, .slice a3 m.desks.length p3, .slice a4 m.paces.length p4, .int .i64 m.now] 32)) w.heap.size 32 #[.slice a0 m.rooms.length p0, .slice a1 m.guilds.length p1, .slice a2 m.smiths.length p2, .slice a3 m.desks.length p3, .slice a4 m.paces.length p4, .int .i64 m.now]) := hide (Blk.new w _ _)
  have BB : Hid (Below w.heap.size w (w.alloc (.cells #[.slice a0 m.rooms.length p0, .slice a1 m.guilds.length p1, .slice a2 m.smiths.length p2, .slice a3 m.desks.length p3, .slice a4 m.paces.length p4, .int .i64 m.now] 32))) := hide ((Below.refl _ _).alloc (Nat.le_refl _) _)
  have hb1 : (b : Int) < (m.desks.length : Int) := by omega
  obtain ⟨qs, hqs⟩ : ∃ q, atV m.smiths (b : Int) m.smiths.length = q := ⟨_, rfl⟩
  obtain ⟨op, hop⟩ : ∃ q, (recAt m.desks b).1 = q := ⟨_, rfl⟩
  have hI : idleB m b = (op && decide (qs.length = 0)) := by unfold idleB; rw [hqs, hop]
  rw [hI]
  have Hqs := hide hqs
  have Hop := hide hop
  clear hI hqs hop
  go_enter Tryz.func79, Tryz.ntmps79
  go_upto_region 1 with fail
  generalize w.alloc (.cells #[.slice a0 m.rooms.length p0, .slice a1 m.guilds.length p1, .slice a2 m.smiths.length p2, .slice a3 m.desks.length p3, .slice a4 m.paces.length p4, .int .i64 m.now] 32) = W at *
  obtain ⟨_, _, hde, _, _, r3⟩ := (unhide Hv).desks
  cases hde
  rcases r3 with e0 | ⟨db, off, rfl, hbw, hcl⟩
  · rw [e0] at hb0; simp at hb0
  obtain ⟨d0, _, _⟩ := desk_cells hcl hb0
  rw [unhide Hop] at d0
  clear hcl Hop
  have c0 := (unhide kb).cell (i := 0) (v := .slice a0 m.rooms.length p0) rfl
  have c1 := (unhide kb).cell (i := 1) (v := .slice a1 m.guilds.length p1) rfl
  have c2 := (unhide kb).cell (i := 2) (v := .slice a2 m.smiths.length p2) rfl
  have c3 := (unhide kb).cell (i := 3) (v := .slice (some ⟨db, off, none⟩) m.desks.length p3) rfl
  have c4 := (unhide kb).cell (i := 4) (v := .slice a4 m.paces.length p4) rfl
  have c5 := (unhide kb).cell (i := 5) (v := .int .i64 m.now) rfl
  cases op
  · go_wp2_with fail
    go_ret
    exact ⟨rfl, unhide BB⟩
  go_wp2_with fail
  refine (l11At_any (b : Int) (unhide Hv) (by omega)).mono ?_
  rw [unhide Hqs]
  rintro e w2 ⟨v', rfl, he, hb⟩
  obtain ⟨ua, uc, rfl⟩ := EntsAt.shape he
  replace BB := hide ((unhide BB).trans (hb.mono (unhide BB).size))
  clear hb he c0 c1 c2 c3 c4 c5
  go_wp2_with fail
  go_ret
  exact ⟨ret_bool (by rw [Bool.true_and, Bool.eq_iff_iff]; simp only [beq_iff_eq, decide_eq_true_eq]; omega), unhide BB⟩

end Go.Proofs.YtmfmfdiphlkdiaaGreat

/- A smithy's own memory stays where another block is written; the smithy with nothing in it. Conditions: those that each theorem names. -/
namespace Go.Proofs.YtmfmfdiphlkdiaaGreat
open Go.ChangeShapes Go.WideShapes Go.ChangeAt Go.RowKit Go.Sort
set_option linter.unusedVariables false

theorem FullSmy.set_off {n₀ : Nat} {w : World} {v0 v1 v2 v3 v4 : Value} {m : SmyV} {qs : List (RoomV × Value)} (h : FullSmy n₀ w v0 v1 v2 v3 v4 m qs) {g : Nat} (ho : ∀ k, (v0.ownBlock = some k ∨ (∃ q ∈ qs, q.2.ownBlock = some k) ∨ v1.ownBlock = some k ∨ v2.ownBlock = some k ∨ v3.ownBlock = some k ∨ v4.ownBlock = some k) → k ≠ g) (o : Nat) (u : Value) : FullSmy n₀ (w.setCell ⟨g, o, none⟩ u) v0 v1 v2 v3 v4 m qs := by
  have hne : ∀ k, k ≠ g → (w.setCell ⟨g, o, none⟩ u).heap[k]? = w.heap[k]? := fun k hk => heap_setCell_other w _ k u hk
  exact ⟨h.hall.same2 fun k e => hne k (ho k (by rcases e with e | e; exact .inl e; exact .inr (.inl e))), h.rooms, RecAt.same h.guilds fun k e => hne k (ho k (.inr (.inr (.inl e)))), RecAt.same h.smiths fun k e => hne k (ho k (.inr (.inr (.inr (.inl e))))), RecAt.same h.desks fun k e => hne k (ho k (.inr (.inr (.inr (.inr (.inl e)))))), RecAt.same h.paces fun k e => hne k (ho k (.inr (.inr (.inr (.inr (.inr e)))))), h.h1, h.h2, h.h3, h.h4, h.a12, h.a13, h.a14, h.a23, h.a24, h.a34⟩
theorem full_zero (n₀ : Nat) (w : World) : FullSmy n₀ w (.slice none 0 0) (.slice none 0 0) (.slice none 0 0) (.slice none 0 0) (.slice none 0 0) zeroM [] := by
  have hz : Off2 (.slice none 0 0) (.slice none 0 0) := fun b e => by cases e
  exact ⟨OwnHall.nil _ _, rfl, World.ownsRow_nil _ _ _ _, World.ownsRow_nil _ _ _ _, World.ownsRow_nil _ _ _ _, World.ownsRow_nil _ _ _ _, ⟨hz, fun q hq => by cases hq⟩, ⟨hz, fun q hq => by cases hq⟩, ⟨hz, fun q hq => by cases hq⟩, ⟨hz, fun q hq => by cases hq⟩, hz, hz, hz, hz, hz, hz⟩

end Go.Proofs.YtmfmfdiphlkdiaaGreat

/- Turned as the program does it: on the way it is right but for who works; the first one works, and those behind it wait. Idle benches, and who works. Lists and numbers alone; no condition but those that a theorem names. -/
namespace Go.Proofs.YtmfmfdiphlkdiaaGreat
open Go.ChangeShapes Go.WideShapes Go.ChangeAt Go.RowKit Go.Sort
set_option linter.unusedVariables false

theorem turnK_loose {m : SmyV} (h : Loose m) (k : Nat) (hk : k ≤ m.desks.length) : Loose (turnK m k) := by
  obtain ⟨e1, e2, e3, e4, e5, e6⟩ := turnK_same m k
  have hd := fun j => turnK_desk m j k hk
  have hopen : ∀ j, (recAt (turnK m k).desks j).1 = (recAt m.desks j).1 := by
    intro j
    rw [hd j]
    split
    · unfold turnedD; split <;> rfl
    · rfl
  have hmark : ∀ j, j < m.desks.length → (-900000000000 ≤ (recAt (turnK m k).desks j).2.2 ∧ (recAt (turnK m k).desks j).2.2 ≤ 900000000000) ∧ (recAt m.desks j).2.2 ≤ (recAt (turnK m k).desks j).2.2 ∧ ((recAt (turnK m k).desks j).2.2 ≤ (recAt m.desks j).2.2 ∨ ∀ i, i < m.smiths.length → (recAt m.smiths i).2.1 = (j : Int) → presS (recAt m.smiths i) = true → (recAt (turnK m k).desks j).2.2 ≤ hadS (recAt m.smiths i)) := by
    intro j hj
    obtain ⟨k0, k1⟩ := deskB_of (h.desk j hj)
    rw [hd j]
    split
    · unfold turnedD
      split
      · exact ⟨⟨k0, k1⟩, Int.le_refl _, .inl (Int.le_refl _)⟩
      · rename_i e t hq
        obtain ⟨_, i, hi, hib, hip, rfl⟩ := firstAt_some hq
        obtain ⟨_, _, _, _, hband⟩ := h.at hi hip
        obtain ⟨a0, a1, _⟩ := bandB_of hband
        have hm := marked_in (m := (recAt m.desks j).2.2) (f := hadS (recAt m.smiths i)) (by omega) (by omega) a0 a1
        show (-900000000000 ≤ markedV _ _ ∧ markedV _ _ ≤ 900000000000) ∧ _ ≤ markedV _ _ ∧ (markedV _ _ ≤ _ ∨ _)
        rw [hm]
        refine ⟨by omega, by omega, ?_⟩
        by_cases hc : hadS (recAt m.smiths i) ≤ (recAt m.desks j).2.2
        · left; omega
        · right
          intro i' hi' hb' hp'
          have := first_least hq hi' hb' hp'
          simp only at this
          show min (max (recAt m.desks j).2.2 (hadS (recAt m.smiths i))) 900000000000 ≤ _
          omega
    · exact ⟨⟨k0, k1⟩, Int.le_refl _, .inl (Int.le_refl _)⟩
  refine ⟨?_, ?_, ?_, ?_, ?_, ?_⟩
  · have := h.head
    unfold headB at this ⊢
    rw [e1, e2, e3, e4, e5, e6]
    exact this
  · intro j hj
    have hj' : j < m.desks.length := by omega
    exact inB_t (hmark j hj').1.1 (hmark j hj').1.2
  · intro j hj
    have hj' : j < m.paces.length := by rw [e3] at hj; exact hj
    have := h.pace j hj'
    unfold paceInB at this ⊢
    rw [e1, e3]
    exact this
  · intro i hi
    have hi' : i < m.smiths.length := by omega
    rw [hereB_same (m := m) (by rw [e2]) (by rw [e6])]
    rw [turnK_smith m hi']
    split
    · rename_i hp
      exact hereB_st (h.here i hi') hp.2 (by split <;> omega) (by split <;> omega)
    · exact h.here i hi'
  · intro i hi
    have hi' : i < m.smiths.length := by omega
    have ha := turnK_alike m k i hi'
    unfold seatB
    show (!presS (recAt (turnK m k).smiths i) || _) = true
    rw [ha.2.1]
    cases hp : presS (recAt m.smiths i)
    · rfl
    · obtain ⟨b0, b1, ho, hm, hband⟩ := h.at hi' hp
      obtain ⟨a0, a1, a2, a3, a4, a5⟩ := bandB_of hband
      obtain ⟨⟨q0, q1⟩, q2, q3⟩ := hmark (recAt m.smiths i).2.1.toNat (by omega)
      have hmay : (recAt (turnK m k).smiths i).2.2.2.1 = (recAt m.smiths i).2.2.2.1 := by
        rw [turnK_smith m hi']; split <;> rfl
      show (!true || ((recAt (turnK m k).desks (recAt (turnK m k).smiths i).2.1.toNat).1 && (bitB (recAt (turnK m k).smiths i).2.2.2.1 (recAt (turnK m k).smiths i).2.1 && bandB (hadS (recAt (turnK m k).smiths i)) (recAt (turnK m k).desks (recAt (turnK m k).smiths i).2.1.toNat).2.2))) = true
      rw [ha.1, ha.2.2, hmay, hopen, ho, hm]
      rw [bandB_t a0 a1 (by omega) (by omega) ?_ (by omega)]
      · rfl
      · rcases q3 with q3 | q3
        · omega
        · have := q3 i hi' (by omega) hp
          omega
  · obtain ⟨j, hj, ho⟩ := h.openD
    exact ⟨j, by omega, by rw [hopen]; exact ho⟩

/-- Two lists that read alike are alike. -/
theorem recs_ext {α : Type} [Inhabited α] {xs ys : List α} (hl : xs.length = ys.length) (h : ∀ i, i < xs.length → recAt xs i = recAt ys i) : xs = ys := by
  apply List.ext_getElem hl
  intro i h1 h2
  have := h i h1
  unfold recAt at this
  rwa [List.getD_eq_getElem?_getD, List.getD_eq_getElem?_getD, List.getElem?_eq_getElem h1, List.getElem?_eq_getElem h2] at this
/-- The program's way to turn a bench. -/
theorem turn_way {ss : List SmithV} {b : Int} {e : PaceV} {t : List PaceV} (h : atV ss b ss.length = e :: t) : (waitAll ss (e :: t)).set e.2.toNat (stS (recAt (waitAll ss (e :: t)) e.2.toNat) 3) = waitAll (ss.set e.2.toNat (stS (recAt ss e.2.toNat) 3)) t := by
  have hmem : ∀ x ∈ e :: t, 0 ≤ x.2 ∧ x.2 < ss.length := fun x hx => by
    rw [← h] at hx
    obtain ⟨i, hi, _, _, rfl⟩ := (atV_mem ss b x ss.length).1 hx
    exact ⟨by show (0 : Int) ≤ (i : Int); omega, by show (i : Int) < _; omega⟩
  have hw := atV_whos ss b ss.length
  rw [h, List.pairwise_cons] at hw
  obtain ⟨he0, he1⟩ := hmem e (List.mem_cons_self ..)
  have hel : e.2.toNat < ss.length := by omega
  have hse : ∀ x ∈ t, 0 ≤ x.2 ∧ x.2 < (ss.set e.2.toNat (stS (recAt ss e.2.toNat) 3)).length := fun x hx => by rw [List.length_set]; exact hmem x (List.mem_cons_of_mem _ hx)
  refine recs_ext (by rw [List.length_set, waitAll_len, waitAll_len, List.length_set]) fun i hi => ?_
  rw [List.length_set, waitAll_len] at hi
  rw [recAt_set (by rw [waitAll_len]; exact hel)]
  obtain ⟨p1, p2⟩ := waitAll_at (e :: t) ss i hmem
  obtain ⟨r1, r2⟩ := waitAll_at t (ss.set e.2.toNat (stS (recAt ss e.2.toNat) 3)) i hse
  by_cases hie : i = e.2.toNat
  · subst hie
    have hn : ∀ x ∈ t, x.2 ≠ ((e.2.toNat : Nat) : Int) := fun x hx e9 => hw.1 x hx (by omega)
    rw [if_pos rfl, r2 hn, recAt_set hel, if_pos rfl, p1 ⟨e, List.mem_cons_self .., by omega⟩]
    rfl
  · rw [if_neg hie]
    by_cases hx : ∃ x ∈ t, x.2 = (i : Int)
    · obtain ⟨x, hx, hxi⟩ := hx
      rw [p1 ⟨x, List.mem_cons_of_mem _ hx, hxi⟩, r1 ⟨x, hx, hxi⟩, recAt_set hel, if_neg hie]
    · have hn : ∀ x ∈ t, x.2 ≠ (i : Int) := fun x hx' e9 => hx ⟨x, hx', e9⟩
      rw [p2 (fun x hx' => by
        rcases List.mem_cons.1 hx' with rfl | hx'
        · omega
        · exact hn x hx'), r2 hn, recAt_set hel, if_neg hie]

def turnedV (m : SmyV) : SmyV := if looseB m then turnV m else zeroM
def isIdleV (m : SmyV) (b : Int) : Bool := smyB m && (isBenchB m b && ((recAt m.desks b.toNat).1 && decide ((atV m.smiths b m.smiths.length).length = 0)))
def whos (ds : List DeskV) : List Int := ds.map fun d => d.2.1
def workingV (m : SmyV) : List Int := if smyB m then whos m.desks else []
theorem whos_len (ds : List DeskV) : (whos ds).length = ds.length := by unfold whos; simp
theorem whos_take {ds : List DeskV} {k : Nat} (h : k < ds.length) : whos (ds.take (k + 1)) = whos (ds.take k) ++ [(recAt ds k).2.1] := by
  unfold whos recAt
  rw [List.take_add_one, List.map_append, List.getD, List.getElem?_eq_getElem h]; rfl

end Go.Proofs.YtmfmfdiphlkdiaaGreat

/- The model's Turned, IsIdle, Working. Condition: the smithy can be read. -/
namespace Go.Proofs.YtmfmfdiphlkdiaaGreat
open Go.ChangeShapes Go.WideShapes Go.ChangeAt Go.RowKit Go.Sort
set_option linter.unusedVariables false
set_option linter.unusedSimpArgs false
set_option maxRecDepth 100000

set_option maxHeartbeats 8000000 in
theorem specTurned_any (w : World) (v0 v1 v2 v3 v4 : Value) (m : SmyV) (h : Smy w v0 v1 v2 v3 v4 m) :
    Calls Tryz.prog 27 #[.agg #[v0, v1, v2, v3, v4, .int .i64 m.now]] w fun e w' => ∃ u0 u1 u2 u3 u4 rs, e = .returned (.agg #[u0, u1, u2, u3, u4, .int .i64 (turnedV m).now]) ∧ FullSmy w.heap.size w' u0 u1 u2 u3 u4 (turnedV m) rs ∧ Below w.heap.size w w' := by
  obtain ⟨M, hM⟩ : ∃ x, turnedV m = x := ⟨_, rfl⟩
  rw [hM]
  have HM := hide hM
  clear hM
  have Hv0 := hide h
  obtain ⟨a0, p0, rfl, _, _⟩ := IsRooms.shape h.rooms
  obtain ⟨a1, p1, rfl, _, _⟩ := IsRec.shape h.guilds
  obtain ⟨a2, p2, rfl, _, _⟩ := IsRec.shape h.smiths
  obtain ⟨a3, p3, rfl, _, _⟩ := IsRec.shape h.desks
  obtain ⟨a4, p4, rfl, _, _⟩ := IsRec.shape h.paces
  clear h
  obtain ⟨ok, hok⟩ : ∃ q, looseB m = q := ⟨_, rfl⟩
  have Hok := hide hok
  clear hok
  go_enter Tryz.func27, Tryz.ntmps27
  go_wp2_with fail
  have kb : Hid (Blk ((w.alloc (.cells #[.slice a0 m.rooms.length p0, .slice a1 m.guilds.length p1, .slice a2 m.smiths.length p2, .slice a3 m.desks.length p3, .slice a4 m.paces.length p4, .int .i64 m.now] 32)).alloc (.cells #[.slice none 0 0, .slice none 0 0, .slice none 0 0, .slice none 0 0, .slice none 0 0, .int .i64 0] 32)) w.heap.size 32 #[.slice a0 m.rooms.length p0, .slice a1 m.guilds.length p1, .slice a2 m.smiths.length p2, .slice a3 m.desks.length p3, .slice a4 m.paces.length p4, .int .i64 m.now]) := hide ((Blk.new w _ _).alloc _)
  have kr : Hid (Blk ((w.alloc (.cells #[.slice a0 m.rooms.length p0, .slice a1 m.guilds.length p1, .slice a2 m.smiths.length p2, .slice a3 m.desks.length p3, .slice a4 m.paces.length p4, .int .i64 m.now] 32)).alloc (.cells #[.slice none 0 0, .slice none 0 0, .slice none 0 0, .slice none 0 0, .slice none 0 0, .int .i64 0] 32)) (w.heap.size + 1) 32 #[.slice none 0 0, .slice none 0 0, .slice none 0 0, .slice none 0 0, .slice none 0 0, .int .i64 0]) := hide (by
    have k := Blk.new (w.alloc (.cells #[.slice a0 m.rooms.length p0, .slice a1 m.guilds.length p1, .slice a2 m.smiths.length p2, .slice a3 m.desks.length p3, .slice a4 m.paces.length p4, .int .i64 m.now] 32)) 32 #[.slice none 0 0, .slice none 0 0, .slice none 0 0, .slice none 0 0, .slice none 0 0, .int .i64 0]
    rw [World.size_alloc] at k
    exact k)
  have BB : Hid (Below w.heap.size w ((w.alloc (.cells #[.slice a0 m.rooms.length p0, .slice a1 m.guilds.length p1, .slice a2 m.smiths.length p2, .slice a3 m.desks.length p3, .slice a4 m.paces.length p4, .int .i64 m.now] 32)).alloc (.cells #[.slice none 0 0, .slice none 0 0, .slice none 0 0, .slice none 0 0, .slice none 0 0, .int .i64 0] 32))) := hide (((Below.refl _ _).alloc (Nat.le_refl _) _).alloc (by simp) _)
  have Hv := hide ((unhide Hv0).below (unhide BB))
  generalize (w.alloc (.cells #[.slice a0 m.rooms.length p0, .slice a1 m.guilds.length p1, .slice a2 m.smiths.length p2, .slice a3 m.desks.length p3, .slice a4 m.paces.length p4, .int .i64 m.now] 32)).alloc (.cells #[.slice none 0 0, .slice none 0 0, .slice none 0 0, .slice none 0 0, .slice none 0 0, .int .i64 0] 32) = W at *
  refine (l11Loose_any (unhide Hv)).mono ?_
  rw [unhide Hok]
  rintro e w1 ⟨rfl, hb⟩
  replace Hv := hide ((unhide Hv).below hb)
  replace kb := hide ((unhide kb).below hb (unhide kb).lt)
  replace kr := hide ((unhide kr).below hb (unhide kr).lt)
  replace BB := hide ((unhide BB).trans (hb.mono (unhide BB).size))
  clear hb
  cases ok
  · -- it is not right
    obtain rfl : M = zeroM := by rw [← unhide HM]; unfold turnedV; rw [unhide Hok]; rfl
    have o0 := (unhide kr).cell (i := 0) (v := .slice none 0 0) rfl
    have o1 := (unhide kr).cell (i := 1) (v := .slice none 0 0) rfl
    have o2 := (unhide kr).cell (i := 2) (v := .slice none 0 0) rfl
    have o3 := (unhide kr).cell (i := 3) (v := .slice none 0 0) rfl
    have o4 := (unhide kr).cell (i := 4) (v := .slice none 0 0) rfl
    have o5 := (unhide kr).cell (i := 5) (v := .int .i64 0) rfl
    have f0 := (unhide kr).free 0
    have f1 := (unhide kr).free 1
    have f2 := (unhide kr).free 2
    have f3 := (unhide kr).free 3
    have f4 := (unhide kr).free 4
    have f5 := (unhide kr).free 5
    go_wp2_with fail
    refine bodyPost_ret (v := .agg #[.slice none 0 0, .slice none 0 0, .slice none 0 0, .slice none 0 0, .slice none 0 0, .int .i64 0]) (by simp [results, Tryz.results27, go_sem, *]) rfl ⟨_, _, _, _, _, [], rfl, full_zero _ _, ?_⟩
    iterate 6 (refine Below.setCell ?_ (by show _ ≤ w.heap.size + 1; omega) _)
    exact unhide BB
  obtain rfl : M = turnV m := by rw [← unhide HM]; unfold turnedV; rw [unhide Hok]; rfl
  have hlo := loose_of (unhide Hok)
  have HFew := hide (few_of hlo)
  clear hlo
  have c0 := (unhide kb).cell (i := 0) (v := .slice a0 m.rooms.length p0) rfl
  have c1 := (unhide kb).cell (i := 1) (v := .slice a1 m.guilds.length p1) rfl
  have c2 := (unhide kb).cell (i := 2) (v := .slice a2 m.smiths.length p2) rfl
  have c3 := (unhide kb).cell (i := 3) (v := .slice a3 m.desks.length p3) rfl
  have c4 := (unhide kb).cell (i := 4) (v := .slice a4 m.paces.length p4) rfl
  have c5 := (unhide kb).cell (i := 5) (v := .int .i64 m.now) rfl
  go_wp2_with fail
  clear c0 c1 c2 c3 c4 c5
  have hWs : w.heap.size + 2 ≤ w1.heap.size := by have := (unhide kr).lt; omega
  refine (l11Copy_any (unhide Hv) (unhide HFew)).mono ?_
  rintro e w2 ⟨y0, y1, y2, y3, y4, oq, rfl, ho, hb⟩
  have k9 := ho.smy
  obtain ⟨b0, q0, rfl, _, _⟩ := IsRooms.shape k9.rooms
  obtain ⟨b1, q1, rfl, _, _⟩ := IsRec.shape k9.guilds
  obtain ⟨b2, q2, rfl, _, _⟩ := IsRec.shape k9.smiths
  obtain ⟨b3, q3, rfl, _, _⟩ := IsRec.shape k9.desks
  obtain ⟨b4, q4, rfl, _, _⟩ := IsRec.shape k9.paces
  replace Hv := hide ((unhide Hv).below hb)
  replace kb := hide ((unhide kb).below hb (unhide kb).lt)
  replace kr := hide ((unhide kr).below hb (unhide kr).lt)
  replace BB := hide ((unhide BB).trans (hb.mono (unhide BB).size))
  have HO := hide (ho.mono hWs)
  have LO : Hid (∀ k, OwnB (.slice b0 m.rooms.length q0) (.slice b1 m.guilds.length q1) (.slice b2 m.smiths.length q2) (.slice b3 m.desks.length q3) (.slice b4 m.paces.length q4) oq k → w.heap.size + 2 ≤ k ∧ k < w2.heap.size) := hide (fun k e => (unhide HO).own e)
  have hsz9 := hb.size
  clear ho hb k9
  go_upto_region 4 with fail
  have hb : Below w2.heap.size w2 (w2.alloc (.cells #[.slice b0 m.rooms.length q0, .slice b1 m.guilds.length q1, .slice b2 m.smiths.length q2, .slice b3 m.desks.length q3, .slice b4 m.paces.length q4, .int .i64 m.now] 32)) := (Below.refl _ _).alloc (Nat.le_refl _) _
  replace Hv := hide ((unhide Hv).below hb)
  replace kb := hide ((unhide kb).below hb (unhide kb).lt)
  replace kr := hide ((unhide kr).below hb (unhide kr).lt)
  replace BB := hide ((unhide BB).trans (hb.mono (unhide BB).size))
  replace HO := hide ((unhide HO).below hb)
  have ko : Hid (Blk (w2.alloc (.cells #[.slice b0 m.rooms.length q0, .slice b1 m.guilds.length q1, .slice b2 m.smiths.length q2, .slice b3 m.desks.length q3, .slice b4 m.paces.length q4, .int .i64 m.now] 32)) w2.heap.size 32 #[.slice b0 m.rooms.length q0, .slice b1 m.guilds.length q1, .slice b2 m.smiths.length q2, .slice b3 m.desks.length q3, .slice b4 m.paces.length q4, .int .i64 m.now]) := hide (Blk.new _ _ _)
  have hob : w.heap.size + 2 ≤ w2.heap.size := Nat.le_trans hWs hsz9
  clear hb hsz9 hWs
  generalize w2.alloc (.cells #[.slice b0 m.rooms.length q0, .slice b1 m.guilds.length q1, .slice b2 m.smiths.length q2, .slice b3 m.desks.length q3, .slice b4 m.paces.length q4, .int .i64 m.now] 32) = W2 at *
  generalize w2.heap.size = ob at *
  go_wp2_with fail
  have H2 : (Value.slice b2 m.smiths.length q2).ownBlock ≠ some ob := fun e => by have := (unhide LO _ (.inr (.inr (.inr (.inl e))))).2; omega
  have H3 : (Value.slice b3 m.desks.length q3).ownBlock ≠ some ob := fun e => by have := (unhide LO _ (.inr (.inr (.inr (.inr (.inl e)))))).2; omega
  refine (l12Turn_any (unhide ko) (unhide HO) H2 H3 (unhide HFew).smiths (unhide HFew).desks).mono ?_
  rintro e w3 ⟨rfl, hf3, ht3⟩
  have ko1 := hide ((unhide ko).two ht3 H2 H3)
  have HF1 := hide hf3
  have Tw := hide ht3
  clear hf3 ht3 H2 H3
  replace kr := hide ((unhide kr).two (unhide Tw) (fun e => by have := (unhide LO _ (.inr (.inr (.inr (.inl e))))).1; omega) (fun e => by have := (unhide LO _ (.inr (.inr (.inr (.inr (.inl e)))))).1; omega))
  replace BB := hide ((unhide BB).trans ((unhide Tw).below (unhide BB).size (fun k e => by have := (unhide LO k (.inr (.inr (.inr (.inl e))))).1; omega) (fun k e => by have := (unhide LO k (.inr (.inr (.inr (.inr (.inl e)))))).1; omega)))
  have x0 := (unhide ko1).cell (i := 0) (v := .slice b0 m.rooms.length q0) rfl
  have x1 := (unhide ko1).cell (i := 1) (v := .slice b1 m.guilds.length q1) rfl
  have x2 := (unhide ko1).cell (i := 2) (v := .slice b2 m.smiths.length q2) rfl
  have x3 := (unhide ko1).cell (i := 3) (v := .slice b3 m.desks.length q3) rfl
  have x4 := (unhide ko1).cell (i := 4) (v := .slice b4 m.paces.length q4) rfl
  have x5 := (unhide ko1).cell (i := 5) (v := .int .i64 m.now) rfl
  have o0 := (unhide kr).cell (i := 0) (v := .slice none 0 0) rfl
  have o1 := (unhide kr).cell (i := 1) (v := .slice none 0 0) rfl
  have o2 := (unhide kr).cell (i := 2) (v := .slice none 0 0) rfl
  have o3 := (unhide kr).cell (i := 3) (v := .slice none 0 0) rfl
  have o4 := (unhide kr).cell (i := 4) (v := .slice none 0 0) rfl
  have o5 := (unhide kr).cell (i := 5) (v := .int .i64 0) rfl
  have f0 := (unhide kr).free 0
  have f1 := (unhide kr).free 1
  have f2 := (unhide kr).free 2
  have f3 := (unhide kr).free 3
  have f4 := (unhide kr).free 4
  have f5 := (unhide kr).free 5
  have Hnow : Hid ((turnV m).now = m.now) := hide (turnK_same m _).2.2.2.1
  go_wp2_with fail
  refine bodyPost_ret (v := .agg #[.slice b0 m.rooms.length q0, .slice b1 m.guilds.length q1, .slice b2 m.smiths.length q2, .slice b3 m.desks.length q3, .slice b4 m.paces.length q4, .int .i64 m.now]) (by simp [results, Tryz.results27, go_sem, *]) rfl ⟨_, _, _, _, _, oq, by rw [unhide Hnow], ?_, ?_⟩
  · iterate 6 (refine FullSmy.set_off ?_ (fun k e => by have := (unhide LO k e).1; omega) _ _)
    exact (unhide HF1).mono (by omega)
  · iterate 6 (refine Below.setCell ?_ (by show _ ≤ w.heap.size + 1; omega) _)
    exact unhide BB

set_option maxHeartbeats 8000000 in
theorem specIsIdle_any {w : World} {v0 v1 v2 v3 v4 : Value} {m : SmyV} {b : Int} {q : Bool} (hq : isIdleV m b = q) (h : Smy w v0 v1 v2 v3 v4 m) :
    Calls Tryz.prog 34 #[.agg #[v0, v1, v2, v3, v4, .int .i64 m.now], .int .i64 b] w fun e w' => e = .returned (.bool q) ∧ Below w.heap.size w w' := by
  have Hq := hide hq
  clear hq
  have Hv := hide (h.alloc (.cells #[v0, v1, v2, v3, v4, .int .i64 m.now] 32))
  obtain ⟨a0, p0, rfl, _, _⟩ := IsRooms.shape h.rooms
  obtain ⟨a1, p1, rfl, _, _⟩ := IsRec.shape h.guilds
  obtain ⟨a2, p2, rfl, _, _⟩ := IsRec.shape h.smiths
  obtain ⟨a3, p3, rfl, _, _⟩ := IsRec.shape h.desks
  obtain ⟨a4, p4, rfl, _, _⟩ := IsRec.shape h.paces
  clear h
  have kb : Hid (Blk (w.alloc (.cells #[.slice a0 m.rooms.length p0, .slice a1 m.guilds.length p1, .slice a2 m.smiths.length p2, .slice a3 m.desks.length p3, .slice a4 m.paces.length p4, .int .i64 m.now] 32)) w.heap.size 32 #[.slice a0 m.rooms.length p0, .slice a1 m.guilds.length p1, .slice a2 m.smiths.length p2, .slice a3 m.desks.length p3, .slice a4 m.paces.length p4, .int .i64 m.now]) := hide (Blk.new w _ _)
  have BB : Hid (Below w.heap.size w (w.alloc (.cells #[.slice a0 m.rooms.length p0, .slice a1 m.guilds.length p1, .slice a2 m.smiths.length p2, .slice a3 m.desks.length p3, .slice a4 m.paces.length p4, .int .i64 m.now] 32))) := hide ((Below.refl _ _).alloc (Nat.le_refl _) _)
  obtain ⟨ok, hok⟩ : ∃ q, smyB m = q := ⟨_, rfl⟩
  have Hok := hide hok
  clear hok
  go_enter Tryz.func34, Tryz.ntmps34
  go_wp2_with fail
  generalize w.alloc (.cells #[.slice a0 m.rooms.length p0, .slice a1 m.guilds.length p1, .slice a2 m.smiths.length p2, .slice a3 m.desks.length p3, .slice a4 m.paces.length p4, .int .i64 m.now] 32) = W at *
  refine (spec_q (unhide Hok) (unhide Hv)).mono ?_
  rintro e w1 ⟨rfl, hb⟩
  replace Hv := hide ((unhide Hv).below hb)
  replace kb := hide ((unhide kb).below hb (unhide kb).lt)
  replace BB := hide ((unhide BB).trans (hb.mono (unhide BB).size))
  clear hb
  cases ok
  · obtain rfl : q = false := by rw [← unhide Hq]; unfold isIdleV; rw [unhide Hok]; rfl
    go_wp2_with fail
    go_ret
    exact ⟨rfl, unhide BB⟩
  obtain ⟨qb, hqb⟩ : ∃ q, isBenchB m b = q := ⟨_, rfl⟩
  have Hqb := hide hqb
  clear hqb
  have c0 := (unhide kb).cell (i := 0) (v := .slice a0 m.rooms.length p0) rfl
  have c1 := (unhide kb).cell (i := 1) (v := .slice a1 m.guilds.length p1) rfl
  have c2 := (unhide kb).cell (i := 2) (v := .slice a2 m.smiths.length p2) rfl
  have c3 := (unhide kb).cell (i := 3) (v := .slice a3 m.desks.length p3) rfl
  have c4 := (unhide kb).cell (i := 4) (v := .slice a4 m.paces.length p4) rfl
  have c5 := (unhide kb).cell (i := 5) (v := .int .i64 m.now) rfl
  go_wp2_with fail
  clear c0 c1 c2 c3 c4 c5
  refine (l11Bench_q (unhide Hqb) (unhide Hv)).mono ?_
  rintro e w2 ⟨rfl, hb⟩
  replace Hv := hide ((unhide Hv).below hb)
  replace kb := hide ((unhide kb).below hb (unhide kb).lt)
  replace BB := hide ((unhide BB).trans (hb.mono (unhide BB).size))
  clear hb
  cases qb
  · obtain rfl : q = false := by rw [← unhide Hq]; unfold isIdleV; rw [unhide Hqb]; simp
    go_wp2_with fail
    go_ret
    exact ⟨rfl, unhide BB⟩
  obtain ⟨bn, hbn, rfl⟩ : ∃ k : Nat, k < m.desks.length ∧ b = (k : Int) := by
    have := inB_of (unhide Hqb)
    exact ⟨b.toNat, by omega, by omega⟩
  have h12 := smy_twelve (smy_loose (unhide Hok))
  have HI : Hid (isIdleV m (bn : Int) = idleB m bn) := hide (by unfold isIdleV; rw [unhide Hok, unhide Hqb]; rfl)
  have c0 := (unhide kb).cell (i := 0) (v := .slice a0 m.rooms.length p0) rfl
  have c1 := (unhide kb).cell (i := 1) (v := .slice a1 m.guilds.length p1) rfl
  have c2 := (unhide kb).cell (i := 2) (v := .slice a2 m.smiths.length p2) rfl
  have c3 := (unhide kb).cell (i := 3) (v := .slice a3 m.desks.length p3) rfl
  have c4 := (unhide kb).cell (i := 4) (v := .slice a4 m.paces.length p4) rfl
  have c5 := (unhide kb).cell (i := 5) (v := .int .i64 m.now) rfl
  go_wp2_with fail
  clear c0 c1 c2 c3 c4 c5
  refine (l12Idle_any (unhide Hv) hbn (by omega)).mono ?_
  rw [← unhide HI, unhide Hq]
  rintro e w3 ⟨rfl, hb⟩
  replace Hv := hide ((unhide Hv).below hb)
  replace kb := hide ((unhide kb).below hb (unhide kb).lt)
  replace BB := hide ((unhide BB).trans (hb.mono (unhide BB).size))
  clear hb
  go_wp2_with fail
  go_ret
  exact ⟨rfl, unhide BB⟩

set_option maxHeartbeats 8000000 in
theorem specWorking_any (w : World) (v0 v1 v2 v3 v4 : Value) (m : SmyV) (h : Smy w v0 v1 v2 v3 v4 m) :
    Calls Tryz.prog 33 #[.agg #[v0, v1, v2, v3, v4, .int .i64 m.now]] w fun e w' => ∃ v', e = .returned v' ∧ NumsAt w.heap.size w' v' (workingV m) ∧ Below w.heap.size w w' := by
  obtain ⟨M, hM⟩ : ∃ x, workingV m = x := ⟨_, rfl⟩
  rw [hM]
  have HM := hide hM
  clear hM
  have HW := hide h
  have Hv0 := hide ((h.alloc (.cells #[v0, v1, v2, v3, v4, .int .i64 m.now] 32)).alloc (.cells #[] 2))
  obtain ⟨a0, p0, rfl, _, _⟩ := IsRooms.shape h.rooms
  obtain ⟨a1, p1, rfl, _, _⟩ := IsRec.shape h.guilds
  obtain ⟨a2, p2, rfl, _, _⟩ := IsRec.shape h.smiths
  obtain ⟨a3, p3, rfl, _, _⟩ := IsRec.shape h.desks
  obtain ⟨a4, p4, rfl, _, _⟩ := IsRec.shape h.paces
  clear h
  have kb1 : Hid (Blk ((w.alloc (.cells #[.slice a0 m.rooms.length p0, .slice a1 m.guilds.length p1, .slice a2 m.smiths.length p2, .slice a3 m.desks.length p3, .slice a4 m.paces.length p4, .int .i64 m.now] 32)).alloc (.cells #[] 2)) w.heap.size 32 #[.slice a0 m.rooms.length p0, .slice a1 m.guilds.length p1, .slice a2 m.smiths.length p2, .slice a3 m.desks.length p3, .slice a4 m.paces.length p4, .int .i64 m.now]) := hide ((Blk.new w _ _).alloc _)
  have BB1 : Hid (Below w.heap.size w ((w.alloc (.cells #[.slice a0 m.rooms.length p0, .slice a1 m.guilds.length p1, .slice a2 m.smiths.length p2, .slice a3 m.desks.length p3, .slice a4 m.paces.length p4, .int .i64 m.now] 32)).alloc (.cells #[] 2))) := hide (((Below.refl _ _).alloc (Nat.le_refl _) _).alloc (by simp) _)
  have E0 : Hid (NumsAt (w.heap.size + 1) ((w.alloc (.cells #[.slice a0 m.rooms.length p0, .slice a1 m.guilds.length p1, .slice a2 m.smiths.length p2, .slice a3 m.desks.length p3, .slice a4 m.paces.length p4, .int .i64 m.now] 32)).alloc (.cells #[] 2)) (.slice (some ⟨w.heap.size + 1, 0, none⟩) 0 0) []) := hide (recs_empty (by simp) (by simp))
  obtain ⟨ok, hok⟩ : ∃ q, smyB m = q := ⟨_, rfl⟩
  have Hok := hide hok
  clear hok
  go_enter Tryz.func33, Tryz.ntmps33
  go_wp2_with fail
  go_loopw [3, 4] (fun l i wr => ∃ k : Nat, k ≤ m.desks.length ∧ i = .int .i64 k ∧ NumsAt (w.heap.size + 1) wr l (whos (m.desks.take k)) ∧ (k = 0 ∨ smyB m = true) ∧ Blk wr w.heap.size 32 #[.slice a0 m.rooms.length p0, .slice a1 m.guilds.length p1, .slice a2 m.smiths.length p2, .slice a3 m.desks.length p3, .slice a4 m.paces.length p4, .int .i64 m.now] ∧ Below w.heap.size w wr) (fun _ i _ => m.desks.length - (intOf i).toNat)
  case atStart => exact ⟨0, Nat.zero_le _, rfl, unhide E0, .inl rfl, unhide kb1, unhide BB1⟩
  case round =>
    obtain ⟨k, hk, rfl, hl, hz, hkb, hb0⟩ := hrel
    obtain ⟨la, lc, rfl⟩ := RecAt.shape hl
    have HL := hide hl
    have kb := hide hkb
    have BB := hide hb0
    have Hz := hide hz
    clear hz
    have Hv := hide ((unhide HW).below hb0)
    have hfl : (whos (m.desks.take k)).length = k := by rw [whos_len, List.length_take]; omega
    have Hfl := hide hfl
    clear hl hkb hb0 hfl
    have c0 := (unhide kb).cell (i := 0) (v := .slice a0 m.rooms.length p0) rfl
    have c1 := (unhide kb).cell (i := 1) (v := .slice a1 m.guilds.length p1) rfl
    have c2 := (unhide kb).cell (i := 2) (v := .slice a2 m.smiths.length p2) rfl
    have c3 := (unhide kb).cell (i := 3) (v := .slice a3 m.desks.length p3) rfl
    have c4 := (unhide kb).cell (i := 4) (v := .slice a4 m.paces.length p4) rfl
    have c5 := (unhide kb).cell (i := 5) (v := .int .i64 m.now) rfl
    by_cases hlt : k < m.desks.length
    · -- one more
      have hlt1 : (k : Int) < (m.desks.length : Int) := by omega
      go_wp2_with fail
      clear c0 c1 c2 c3 c4 c5
      refine (spec_q (unhide Hok) (unhide Hv)).mono ?_
      rintro e w1 ⟨rfl, hb⟩
      replace HL := hide (RecAt.later (unhide HL) hb)
      replace Hv := hide ((unhide Hv).below hb)
      replace kb := hide ((unhide kb).below hb (unhide kb).lt)
      replace BB := hide ((unhide BB).trans (hb.mono (unhide BB).size))
      clear hb
      cases ok
      · obtain rfl : k = 0 := by
          rcases unhide Hz with e | e
          · exact e
          · rw [unhide Hok] at e; cases e
        obtain rfl : M = [] := by rw [← unhide HM]; unfold workingV; rw [unhide Hok]; rfl
        go_wp2_with fail
        go_ret
        exact ⟨_, rfl, RecAt.mono (unhide HL) (Nat.le_succ _), unhide BB⟩
      obtain ⟨_, _, hde, _, _, r3⟩ := (unhide Hv).desks
      cases hde
      rcases r3 with e0 | ⟨db, off, rfl, hbw, hcl⟩
      · rw [e0] at hlt; simp at hlt
      obtain ⟨d0, d1, d2⟩ := desk_cells hcl hlt
      have HT : Hid (whos (m.desks.take (k + 1)) = whos (m.desks.take k) ++ [(recAt m.desks k).2.1]) := hide (whos_take hlt)
      generalize recAt m.desks k = d at *
      obtain ⟨op, wh, mk⟩ := d
      simp only at d0 d1 d2 HT
      clear hcl
      have c3 := (unhide kb).cell (i := 3) (v := .slice (some ⟨db, off, none⟩) m.desks.length p3) rfl
      obtain ⟨X, hX⟩ : ∃ x, x = w1 := ⟨_, rfl⟩
      clear hX
      have hsx := (unhide BB).size
      have hlx := (unhide kb).lt
      have hfw : m.desks.length ≤ 8 := (smy_loose (unhide Hok)).sane.eight
      have hfl : (whos (m.desks.take k)).length ≤ 8 := by rw [unhide Hfl]; omega
      go_wp2_with (at_builtin; refine wpList_append_recs tyN rfl (.tmp 17) (.tmp 24) 30 Tryz.underlying30 rfl (w.heap.size + 1) _ _ (whos (m.desks.take k)) [wh] rfl rfl (RecAt.later (unhide HL) ((Below.refl _ _).alloc (Nat.le_refl _) _)) (recs_one wh rfl (Nat.le_refl _) (by omega)) (by simp; omega) (by simp; omega) ?_; intro u9 w9 hp9 hg9 hat9; have HP9 := hide hp9; have HG9 := hide hg9; clear hp9 hg9 hat9)
      have hgo : ∀ i, (Value.slice la (whos (m.desks.take k)).length lc).ownBlock = some i → w.heap.size + 1 ≤ i := fun i e => (RecAt.lt (unhide HL) e).1
      have hb9 : Below (w.heap.size + 1) w1 w9 := ((Below.refl _ _).alloc hlx _).trans ((Below.refl _ _).grown (unhide HG9) (by simp; omega) hgo)
      have hb8 := (unhide BB).trans (hb9.mono (Nat.le_succ _))
      go_wp2_with fail
      go_roundw
      case rel => exact ⟨k + 1, by omega, by go_num, by rw [unhide HT]; exact unhide HP9, .inr (unhide Hok), (unhide kb).below hb9 (Nat.lt_succ_self _), hb8⟩
      case measure => simp [intOf]; omega
    · -- all
      obtain rfl : k = m.desks.length := by omega
      have HL9 : Hid (NumsAt (w.heap.size + 1) wr (.slice la (whos (m.desks.take m.desks.length)).length lc) M) := hide (by
        have h9 := unhide HL
        rw [← unhide HM]
        unfold workingV
        rcases unhide Hz with e | e
        · have hd0 : m.desks = [] := List.eq_nil_of_length_eq_zero e
          rw [hd0] at h9 ⊢
          split <;> exact h9
        · rw [e]
          simp only [if_true]
          rw [List.take_length] at h9 ⊢
          exact h9)
      go_wp2_with fail
      go_ret
      exact ⟨_, rfl, RecAt.mono (unhide HL9) (Nat.le_succ _), unhide BB⟩

end Go.Proofs.YtmfmfdiphlkdiaaGreat

/- A hall copied by the program, and a new smithy: lists, and the contract of copyOfHall. Condition: the hall can be read. -/
namespace Go.Proofs.YtmfmfdiphlkdiaaGreat
open Go.ChangeShapes Go.WideShapes Go.ChangeAt Go.RowKit Go.Sort
set_option linter.unusedVariables false
set_option linter.unusedSimpArgs false
set_option maxRecDepth 100000

theorem own_hall_empty {B g : Nat} {w : World} (hg : g = w.heap.size) (hB : B ≤ g) : OwnHall B (w.alloc (.cells #[] 130)) (.slice (some ⟨g, 0, none⟩) 0 0) [] := by
  subst hg
  exact ⟨⟨by simp [rcells], .inr ⟨_, 0, #[], rfl, hB, heap_alloc_new w _, Nat.le_refl _, Nat.zero_le _, by simp, by simp [rcells]⟩⟩, fun _ h => (by cases h), fun _ h => (by cases h), List.Pairwise.nil⟩

set_option maxHeartbeats 1000000 in
theorem copied_any {w : World} {v : Value} {ps : List PaceV} (h : IsPaces w v ps) (hl : ps.length ≤ 1000) : Calls Tryz.prog 184 #[v] w fun e w' => ∃ v', e = .returned v' ∧ PacesAt w.heap.size w' v' ps ∧ Below w.heap.size w w' := by
  have HR := hide (IsPaces.rec (h.below ((Below.refl _ _).alloc (Nat.le_refl _) (.cells #[] 143))))
  obtain ⟨a, cap, rfl, hc, hm, hr⟩ := h
  clear hr
  go_enter Tryz.func184, Tryz.ntmps184
  go_wp2_with (at_builtin; refine wpList_append_recs tyPace rfl (.tmp 3) (.tmp 4) 179 Tryz.underlying179 rfl w.heap.size _ _ [] ps rfl rfl (recs_empty rfl (Nat.le_refl _)) (unhide HR) (by simp; omega) (by simp) ?_; intro u9 w9 hp9 hg9 hat9; rw [List.nil_append] at hp9; have HP9 := hide hp9; have HG9 := hide hg9; clear hp9 hg9 hat9)
  have hb9 : Below w.heap.size w w9 := ((Below.refl _ _).alloc (Nat.le_refl _) _).trans ((Below.refl _ _).grown (unhide HG9) (by simp) (fun i e => by cases e; exact Nat.le_refl _))
  go_wp2_with fail
  go_ret
  exact ⟨_, rfl, unhide HP9, hb9⟩

set_option maxHeartbeats 8000000 in
theorem copyOfHall_any {w : World} {v : Value} {rs : List RoomV} (h : IsRooms w v rs) (hl : rs.length ≤ 1000) (hp : ∀ r ∈ rs, r.2.length ≤ 1000) :
    Calls Tryz.prog 128 #[.agg #[v]] w fun e w' => ∃ v' qs, e = .returned (.agg #[v']) ∧ qs.map (·.1) = rs ∧ OwnHall w.heap.size w' v' qs ∧ Below w.heap.size w w' := by
  obtain ⟨a, cap, rfl, hc, hm, hr⟩ := h
  have Hr := hide hr
  have HP := hide hp
  clear hr hp
  go_enter Tryz.func128, Tryz.ntmps128
  go_wp2_with fail
  go_loopw [3, 10] (fun u i wr => ∃ (k : Nat) (qs : List (RoomV × Value)) (ua : Option Addr) (uc : Nat), k ≤ rs.length ∧ i = .int .i64 k ∧ u = .slice ua k uc ∧ Blk wr (w.heap.size + 1) 26 #[.slice none 0 0] ∧ OwnHall (w.heap.size + 2) wr (.slice ua k uc) qs ∧ qs.map (·.1) = rs.take k ∧ Below w.heap.size w wr) (fun _ i _ => rs.length - (intOf i).toNat)
  case atStart =>
    refine ⟨0, [], _, _, Nat.zero_le _, rfl, rfl, ?_, own_hall_empty (by simp) (by simp), rfl, (((Below.refl _ _).alloc (Nat.le_refl _) _).alloc (by simp) _).alloc (by simp; omega) _⟩
    have k := Blk.new (w.alloc (.cells #[.slice a rs.length cap] 26)) 26 #[.slice none 0 0]
    rw [World.size_alloc] at k
    exact k.alloc _
  case round =>
    obtain ⟨k, qs, ua, uc, hk, rfl, rfl, kr, ho, hq, hb⟩ := hrel
    have hql : qs.length = k := by have := congrArg List.length hq; simp at this; omega
    have Hql := hide hql
    clear hql
    have Kr := hide kr
    have Ho := hide ho
    have Hq := hide hq
    have Hb := hide hb
    have hsz := kr.lt
    by_cases hlt : k < rs.length
    · have hlt1 : (k : Int) < (rs.length : Int) := by omega
      rcases unhide Hr with e0 | ⟨b, off, rfl, hbw, hcl⟩
      · rw [e0] at hlt; simp at hlt
      obtain ⟨c0, pv, c1, hpv⟩ := hcl k hlt
      rw [← hb.cell (p := ⟨b, off + k * 2, none⟩) hbw] at c0
      rw [← hb.cell (p := ⟨b, off + k * 2 + 1, none⟩) hbw] at c1
      have Hpv := hide (hpv.below (hb.mono (Nat.le_refl _)))
      have hpl := unhide HP (roomAt rs k) (by unfold roomAt; simp [List.getD, hlt])
      have Htk : Hid (rs.take (k + 1) = rs.take k ++ [roomAt rs k]) := hide (by rw [List.take_succ_eq_append_getElem hlt]; unfold roomAt; simp [List.getD, hlt])
      generalize roomAt rs k = r at *
      obtain ⟨n, ps⟩ := r
      simp only at c0 hpl hpv
      obtain ⟨pa, pc, rfl, _, _, _⟩ := hpv
      have hbw' : b < wr.heap.size := by have := hb.size; omega
      clear hcl kr ho hq hb
      go_wp2_with fail
      clear c0 c1
      have hba : Below wr.heap.size wr (wr.alloc (.cells #[.int .i64 n, .slice pa ps.length pc] 130)) := (Below.refl _ _).alloc (Nat.le_refl _) _
      have KB : Hid (Blk (wr.alloc (.cells #[.int .i64 n, .slice pa ps.length pc] 130)) wr.heap.size 130 #[.int .i64 n, .slice pa ps.length pc]) := hide (Blk.new wr _ _)
      replace Kr := hide ((unhide Kr).below hba (unhide Kr).lt)
      have HLB : Hid (∀ i, (Value.slice ua k uc).ownBlock = some i → i < wr.heap.size) := hide (fun i e => ((unhide Ho).lt (.inl e)).2)
      replace Ho := hide ((unhide Ho).later hba)
      replace Hb := hide ((unhide Hb).trans (hba.mono (unhide Hb).size))
      replace Hpv := hide ((unhide Hpv).below hba)
      have hsz2 : w.heap.size + 2 ≤ (wr.alloc (.cells #[.int .i64 n, .slice pa ps.length pc] 130)).heap.size := by have := (unhide Kr).lt; simp at this ⊢; omega
      clear hba
      generalize wr.alloc (.cells #[.int .i64 n, .slice pa ps.length pc] 130) = X at *
      generalize wr.heap.size = rb at *
      have s0 := (unhide KB).cell (i := 0) (v := .int .i64 n) rfl
      have s1 := (unhide KB).cell (i := 1) (v := .slice pa ps.length pc) rfl
      refine wp_region_last (S := fun w' => w'.cell? ⟨rb, 0, none⟩ = some (.int .i64 n) ∧ w'.cell? ⟨rb, 1, none⟩ = some (.slice pa ps.length pc)) (by kernel_rfl) (List.cons_ne_nil _ _) (by kernel_rfl) ⟨s0, s1⟩ (fun hHeld => ?_)
      simp only [List.dropLast_cons_cons, List.dropLast_singleton, List.length_cons, List.length_nil, Nat.zero_add, Nat.reduceAdd]
      (refine wpAnyH_take (i := 0) (v := ?_) rfl (by kernel_rfl) (by kernel_rfl) (by kernel_rfl) (fun _ _ _ h => h) (Or.inl ⟨by rfl, ?_⟩) (by assumption) ?_; rotate_left; (intro W9 hSw; (try dsimp only at hSw); go_simp; (try with_reducible rfl)); (try simp only [Act.put, List.setIfInBounds_toArray, List.set_cons_zero, List.set_cons_succ]))
      (refine wpAnyH_take (i := 1) (v := ?_) rfl (by kernel_rfl) (by kernel_rfl) (by kernel_rfl) (fun _ _ _ h => h) (Or.inl ⟨by rfl, ?_⟩) (by assumption) ?_; rotate_left; (intro W9 hSw; (try dsimp only at hSw); go_simp; (try with_reducible rfl)); (try simp only [Act.put, List.setIfInBounds_toArray, List.set_cons_zero, List.set_cons_succ]))
      (refine wpAnyH_take (i := 2) (v := ?_) rfl (by kernel_rfl) (by kernel_rfl) (by kernel_rfl) (fun _ _ _ h => h) (Or.inl ⟨by rfl, ?_⟩) (by assumption) ?_; rotate_left; (intro W9 hSw; (try dsimp only at hSw); go_simp; (try with_reducible rfl)); (try simp only [Act.put, List.setIfInBounds_toArray, List.set_cons_zero, List.set_cons_succ]))
      (refine wpAnyH_take (i := 3) (v := ?_) rfl (by kernel_rfl) (by kernel_rfl) (by kernel_rfl) (fun _ _ _ h => h) (Or.inl ⟨by rfl, ?_⟩) (by assumption) ?_; rotate_left; (intro W9 hSw; (try dsimp only at hSw); go_simp; (try with_reducible rfl)); (try simp only [Act.put, List.setIfInBounds_toArray, List.set_cons_zero, List.set_cons_succ]))
      (refine wpAnyH_take (i := 4) (v := ?_) rfl (by kernel_rfl) (by kernel_rfl) (by kernel_rfl) (fun _ _ _ h => h) (Or.inl ⟨by rfl, ?_⟩) (by assumption) ?_; rotate_left; (intro W9 hSw; (try dsimp only at hSw); go_simp; (try with_reducible rfl)); (try simp only [Act.put, List.setIfInBounds_toArray, List.set_cons_zero, List.set_cons_succ]))
      refine wpAnyH_ready (rs := [5]) (by kernel_rfl) (by simp) ?_
      refine AllReadyH.cons rfl (fun K hK => ?_) AllReadyH.nil
      go_simp
      refine (copied_any ((unhide Hpv).below (Below.refl _ _).drew) hpl).mono ?_
      rintro e9 w4 ⟨v4, rfl, hp4, hb4⟩
      obtain ⟨pa4, pc4, rfl⟩ := PacesAt.shape hp4
      have X4 : Below X.heap.size X w4 := (Below.refl X.heap.size X).drew.trans hb4
      have HO4 : Hid (PacesAt X.heap.size w4 (.slice pa4 ps.length pc4) ps) := hide hp4
      have HX4 := hide X4
      have hz4 := X4.size
      have t0 := (X4.cell (p := ⟨rb, 0, none⟩) (unhide KB).lt).trans s0
      have t1 := (X4.cell (p := ⟨rb, 1, none⟩) (unhide KB).lt).trans s1
      clear hp4 hb4 X4
      refine hK.out _ _ ⟨t0, t1⟩ (fun hHeld => ?_)
      clear hK K
      (try simp only [Act.put, List.setIfInBounds_toArray, List.set_cons_zero, List.set_cons_succ])
      (refine wpAnyH_take (i := 6) (v := ?_) rfl (by kernel_rfl) (by kernel_rfl) (by kernel_rfl) (fun _ _ _ h => h) (Or.inl ⟨by rfl, ?_⟩) (by assumption) ?_; rotate_left; (intro W9 hSw; (try dsimp only at hSw); go_simp; (try with_reducible rfl)); (try simp only [Act.put, List.setIfInBounds_toArray, List.set_cons_zero, List.set_cons_succ]))
      have KB5 := ((unhide KB).below (unhide HX4) (unhide KB).lt).alloc (.cells #[.int .i64 n, .slice pa4 ps.length pc4] 130)
      have u0 := KB5.cell (i := 0) (v := .int .i64 n) rfl
      have u1 := KB5.cell (i := 1) (v := .slice pa ps.length pc) rfl
      refine wpAnyH_ready (rs := [7]) (by kernel_rfl) (by simp) ?_
      refine AllReadyH.cons rfl (fun K hK => ?_) AllReadyH.nil
      go_simp
      refine hK.out _ _ ⟨u0, u1⟩ (fun hHeld => ?_)
      clear hK K
      (try simp only [Act.put, List.setIfInBounds_toArray, List.set_cons_zero, List.set_cons_succ])
      obtain ⟨v5, w5, hrun5, hown5, hg5, hat5⟩ := run_append_room (w := w4.alloc (.cells #[.int .i64 n, .slice pa4 ps.length pc4] 130)) (t := 24) (ty := 24) (base := w.heap.size + 2) (v := .slice ua k uc) (n := k) (xs := rcells qs) Tryz.underlying24 (World.ownsRow.alloc (by have h9 := ((unhide Ho).later (unhide HX4)).row; rw [unhide Hql] at h9; exact h9) _) (g := w4.heap.size) (c := 1) (cell_new w4 (i := 0) rfl) (cell_new w4 (i := 1) rfl) rfl (by omega) (by simp; omega)
      obtain ⟨a5, c5, rfl⟩ := own_shape hown5
      have hn5 : ∀ i, (Value.slice ua k uc).ownBlock = some i → w.heap.size + 2 ≤ i ∧ i < X.heap.size := fun i e => (unhide Ho).lt (.inl e)
      have hrbX := (unhide KB).lt
      have RB : Hid (∀ i, (Value.slice ua k uc).ownBlock = some i → i ≠ rb) := hide (fun i e e2 => by have := unhide HLB i e; omega)
      have KB6 := KB5.same (w' := w5) (hg5.block _ KB5.lt (fun e => unhide RB _ e.symm rfl))
      have y0 := KB6.cell (i := 0) (v := .int .i64 n) rfl
      have y1 := KB6.cell (i := 1) (v := .slice pa ps.length pc) rfl
      have HO5 := hide hown5
      have HG5 := hide hg5
      have HA5 := hide hat5
      have R5 := hide hrun5
      have X5 : Hid (Below (w.heap.size + 2) X w5) := hide (by
        have q1 : Below X.heap.size X w4 := unhide HX4
        have q2 : Below w4.heap.size w4 (w4.alloc (.cells #[.int .i64 n, .slice pa4 ps.length pc4] 130)) := (Below.refl _ _).alloc (Nat.le_refl _) _
        have q3 : Below (w.heap.size + 2) (w4.alloc (.cells #[.int .i64 n, .slice pa4 ps.length pc4] 130)) w5 := (Below.refl _ _).grown (unhide HG5) (by have := q1.size; simp; omega) (fun i e => ((unhide Ho).lt (.inl e)).1)
        exact ((q1.mono (by omega)).trans (q2.mono (by have := q1.size; omega))).trans q3)
      have hp5 : OwnHall (w.heap.size + 2) w5 (.slice a5 (k + 1) c5) (qs ++ [((n, ps), .slice pa4 ps.length pc4)]) := by
        have q1 : OwnHall (w.heap.size + 2) w4 (.slice ua k uc) qs := (unhide Ho).later (unhide HX4)
        have q2 : PacesAt X.heap.size w4 (.slice pa4 ps.length pc4) ps := unhide HO4
        have q3 : PacesAt (w.heap.size + 2) w4 (.slice pa4 ps.length pc4) ps := q2.mono (by omega)
        refine OwnHall.push (w := w4) (w1 := w5) (v := .slice ua k uc) (o := .cells #[.int .i64 n, .slice pa4 ps.length pc4] 130) q1 q3 ?_ ?_ ?_ (unhide HG5) (unhide HA5)
        · intro b' e e'
          have h8 := (q2.lt e).1
          have h9 := ((unhide Ho).lt (.inl e')).2
          omega
        · intro q hq' b' e e'
          have h8 := (q2.lt e').1
          have h9 := ((unhide Ho).lt (.inr ⟨q, hq', e⟩)).2
          omega
        · rw [unhide Hql]; exact unhide HO5
      have HP5 := hide hp5
      clear hp5 hown5 hg5 hat5 hrun5 KB5 KB6
      refine wpAnyH_ready (rs := [8]) (by kernel_rfl) (by simp) ?_
      refine AllReadyH.cons rfl (fun K hK => ?_) AllReadyH.nil
      refine step_append_run rfl (.tmp 14) (.tmp 21) 24 rfl rfl rfl (unhide R5) ?_
      refine hK.out _ _ ⟨y0, y1⟩ (fun hHeld => ?_)
      clear hK K
      (try simp only [Act.put, List.setIfInBounds_toArray, List.set_cons_zero, List.set_cons_succ])
      refine wpAnyH_done (by kernel_rfl) ?_ _
      refine tailQ_run rfl rfl ?_
      go_simp
      clear hHeld
      go_wp2_with fail
      go_roundw
      case rel =>
        exact ⟨k + 1, qs ++ [((n, ps), .slice pa4 ps.length pc4)], a5, c5, by omega, by go_num, rfl, (unhide Kr).below (unhide X5) (by omega), unhide HP5, by rw [List.map_append, unhide Hq, unhide Htk]; rfl, (unhide Hb).trans ((unhide X5).mono (by omega))⟩
      case measure => simp [intOf]; omega
    · obtain rfl : k = rs.length := by omega
      have r0 := kr.cell (i := 0) rfl
      have r1 := kr.free 0
      go_wp2_with fail
      rw [List.take_length] at hq
      refine bodyPost_ret (v := .agg #[.slice ua rs.length uc]) (by simp [results, Tryz.results128, go_sem, *]) rfl ⟨_, qs, rfl, hq, ?_, ?_⟩
      · exact (ho.same fun i h0 hi => heap_setCell_other _ _ _ _ (by show i ≠ w.heap.size + 1; omega)).mono (by omega)
      · exact hb.setCell (by show _ ≤ w.heap.size + 1; omega) _

end Go.Proofs.YtmfmfdiphlkdiaaGreat

/- The members of a set, as a list; the model's Members and FirstOf. No condition. -/
namespace Go.Proofs.YtmfmfdiphlkdiaaGreat
open Go.ChangeShapes Go.WideShapes Go.ChangeAt Go.RowKit
set_option linter.unusedVariables false

/-- The benches below k that are in the set s, in their order. -/
def upto (s : Int) : Nat → List Int
  | 0 => []
  | k + 1 => if memB s k = true then upto s k ++ [(k : Int)] else upto s k
def mems (s : Int) : List Int := upto s 8
def firstMV (s : Int) : Int := (mems s).headD (-1)
theorem upto_hit {s : Int} {k : Nat} (h : memB s k = true) : upto s (k + 1) = upto s k ++ [(k : Int)] := by simp [upto, h]
theorem upto_miss {s : Int} {k : Nat} (h : memB s k = false) : upto s (k + 1) = upto s k := by simp [upto, h]
theorem upto_len (s : Int) : ∀ k, (upto s k).length ≤ k
  | 0 => by simp [upto]
  | k + 1 => by
    have := upto_len s k
    cases h : memB s k
    · rw [upto_miss h]; omega
    · rw [upto_hit h]; simp; omega
theorem upto_none {s : Int} (h : inB s 0 255 = false) : ∀ k, upto s k = []
  | 0 => rfl
  | k + 1 => by rw [upto_miss (memB_f (.inl h))]; exact upto_none h k
theorem upto_pre (s : Int) : ∀ k, k ≤ 8 → upto s k <+: mems s := by
  have step : ∀ k, upto s k <+: upto s (k + 1) := fun k => by
    cases h : memB s k
    · rw [upto_miss h]; exact List.prefix_refl _
    · rw [upto_hit h]; exact List.prefix_append _ _
  have go : ∀ d k, upto s k <+: upto s (k + d) := by
    intro d
    induction d with
    | zero => intro k; exact List.prefix_refl _
    | succ d ih => intro k; exact (ih k).trans (step (k + d))
  intro k hk
  have := go (8 - k) k
  rwa [show k + (8 - k) = 8 by omega] at this
end Go.Proofs.YtmfmfdiphlkdiaaGreat

/- The program's Members and FirstOf, which range over an iterator. No condition. -/
namespace Go.Proofs.YtmfmfdiphlkdiaaGreat
open Go.ChangeShapes Go.WideShapes Go.ChangeAt Go.RowKit Go.Shelf
set_option linter.unusedVariables false
attribute [local go_sem] Oper.semAt_some

/-- The box Bn holds on what it held. -/
def KeepsBox (Bn : Nat) (t : TypeId) (W W' : World) : Prop := ∀ v, Boxed W Bn t v → Boxed W' Bn t v
theorem KeepsBox.trans {Bn : Nat} {t : TypeId} {A B C : World} (h : KeepsBox Bn t A B) (k : KeepsBox Bn t B C) : KeepsBox Bn t A C := fun v hv => k v (h v hv)
theorem KeepsBox.putObj {Bn : Nat} {t : TypeId} {n : Nat} (h : Bn < n) (W : World) (l : Nat) (o o' : Obj) (hl : n ≤ l) (_ : W.heap[l]? = some o) (_ : o.isCells = false) (_ : o.isWalk = false) : KeepsBox Bn t W (W.putObj l o') :=
  fun v hv => hv.kept (grownBy_putObj' W l o') (fun e => by cases e; omega)

set_option maxRecDepth 100000 in
set_option maxHeartbeats 1000000 in
/-- The iterator: each member of the set s, in their order, until a round says no more. -/
theorem members1_in (n : Nat) (hn : 1 ≤ n) (l Bn : Nat) (s : Int) (J Jx : List Int → World → Prop)
    (hY : ∀ pre x W, J pre W → pre.length < 8 → YieldAt Fence.wide (n - 1) Tryz.prog l #[.int .i64 x] W fun e W' =>
      (e = .returned (.bool true) ∧ J (pre ++ [x]) W' ∧ KeepsBox Bn 2 W W') ∨ (e = .returned (.bool false) ∧ Jx (pre ++ [x]) W'))
    (W : World) (hBn : Boxed W Bn 2 (.int .i64 s)) (h0 : J [] W) :
    CallsIn Fence.wide n Tryz.prog 292 #[.func (.yield l) #[] #[], .pointer (some ⟨Bn, 0, none⟩)] W fun e W' => (∃ v, e = .returned v) ∧
      ((∃ ys, ys = mems s ∧ J ys W') ∨ (∃ pre, pre <+: mems s ∧ Jx pre W')) := by
  refine callsIn_of_wp Tryz.func292 rfl trivial ?_ rfl
  simp only [Tryz.ntmps292, List.size_toArray, List.length_cons, List.length_nil, Nat.reduceAdd, Nat.reduceSub, Array.replicate_succ, Array.replicate_zero, List.push_toArray, List.append_toArray, List.nil_append, List.cons_append]
  gi_wp2
  gi_loopw [4] (fun i wr => ∃ k : Nat, k ≤ 8 ∧ i = .int .i64 k ∧ Boxed wr Bn 2 (.int .i64 s) ∧ J (upto s k) wr)
    (fun i wr => 8 - (intOf i).toNat)
  case atStart => exact ⟨0, by omega, rfl, hBn, h0⟩
  case round =>
    obtain ⟨k, hk, rfl, hbx, hJ⟩ := hrel
    have hul := upto_len s k
    have hc := hbx.cell
    have Hb := hide hbx
    clear hbx
    by_cases hlt : (k : Int) < 8
    · cases hm : memB s k
      · gi_wp2_with (refine ⟨trivial, ?_⟩; gi_at_call 178; refine (callsIn_wide.2 (implInSet_any _ _ _)).mono ?_; rintro e w' ⟨rfl, rfl⟩)
        refine ⟨fun _ h => (by cases h), ?_⟩
        gi_wp2
        go_roundw
        case rel => exact ⟨k + 1, by omega, by go_num, unhide Hb, by rw [upto_miss hm]; exact hJ⟩
        case measure => simp [intOf]; omega
      · obtain ⟨fn, tmps, assign, body, hy, hR⟩ := hY (upto s k) k wr hJ (by omega)
        gi_wp2_with (refine ⟨trivial, ?_⟩; gi_at_call 178; refine (callsIn_wide.2 (implInSet_any _ _ _)).mono ?_; rintro e w' ⟨rfl, rfl⟩)
        refine hR.mono ?_
        rintro e W3 (⟨rfl, hJ3, hk3⟩ | ⟨rfl, hJx3⟩)
        · gi_wp2
          go_roundw
          case rel => exact ⟨k + 1, by omega, by go_num, hk3 _ (unhide Hb), by rw [upto_hit hm]; exact hJ3⟩
          case measure => simp [intOf]; omega
        · gi_wp2
          refine bodyPost_ret (results_none rfl _ _ _) rfl ?_
          exact ⟨⟨_, rfl⟩, .inr ⟨upto s k ++ [(k : Int)], by rw [← upto_hit hm]; exact upto_pre s (k + 1) (by omega), hJx3⟩⟩
    · obtain rfl : k = 8 := by omega
      gi_wp2
      go_end0
      exact ⟨⟨_, rfl⟩, .inl hJ⟩

set_option maxHeartbeats 1000000 in
theorem membersOf_in (n : Nat) (s : Int) (w : World) :
    CallsIn Fence.wide n Tryz.prog 288 #[.int .i64 s] w fun e w' => e = .returned (.func (.func 292) #[] #[.pointer (some ⟨w.heap.size, 0, none⟩)]) ∧ w' = w.alloc (.cells #[.int .i64 s] 2) := by
  refine callsIn_of_wp Tryz.func288 rfl trivial ?_ rfl
  simp only [Tryz.ntmps288, List.size_toArray, List.length_cons, List.length_nil, Nat.reduceAdd, Nat.reduceSub, Array.replicate_succ, Array.replicate_zero, List.push_toArray, List.append_toArray, List.nil_append, List.cons_append]
  gi_wp2
  go_ret
  exact ⟨rfl, rfl⟩

theorem members_stops (n : Nat) (hn : 1 ≤ n) (Bn : Nat) (s : Int) (w : World) (hBn : Boxed w Bn 2 (.int .i64 s)) :
    SeqStopsK Fence.wide n Tryz.prog 292 #[.pointer (some ⟨Bn, 0, none⟩)] (fun x : Int => #[Value.int .i64 x]) (KeepsBox Bn 2) (fun ys => ys = mems s) (fun pre => pre <+: mems s) 8 w := fun l J Jx W hW _ _ hY h0 =>
  members1_in n hn l Bn s J Jx hY W ((hW.block Bn hBn.lt).trans hBn) h0

set_option maxRecDepth 100000 in
set_option maxHeartbeats 2000000 in
theorem implFirstOf_in (n : Nat) (hn : 3 ≤ n) (s : Int) (w : World) :
    CallsIn Fence.wide n Tryz.prog 285 #[.int .i64 s] w fun e w' => e = .returned (.int .i64 (firstMV s)) ∧ Below w.heap.size w w' := by
  have h1 : 1 ≤ n := by omega
  refine callsIn_of_wp_marks Tryz.func285 rfl trivial ?_ rfl
  simp only [Tryz.ntmps285, List.size_toArray, List.length_cons, List.length_nil, Nat.reduceAdd, Nat.reduceSub, Array.replicate_succ, Array.replicate_zero, List.push_toArray, List.append_toArray, List.nil_append, List.cons_append]
  gi_wp2_with (refine ⟨trivial, ?_⟩; gi_at_call 288; refine (membersOf_in (n - 1) _ _).mono ?_; rintro e w' ⟨rfl, rfl⟩)
  have bR := Boxed.new w 2 (.int .i64 0)
  have bN := Boxed.new (w.alloc (.cells #[.int .i64 0] 2)) 2 (.int .i64 s)
  simp only [World.size_alloc] at bN
  have hB0 : Below w.heap.size w ((w.alloc (.cells #[.int .i64 0] 2)).alloc (.cells #[.int .i64 s] 2)) := ((Below.refl _ w).alloc (Nat.le_refl _) _).alloc (by simp) _
  refine wpIn_rangeFunc_ownG rfl h1 (gf := 292) (lb := #[.pointer (some ⟨w.heap.size + 1, 0, none⟩)]) rfl trivial (enters_of Tryz.func292 (by kernel_rfl) rfl)
    (members_stops (n - 1) (by omega) (w.heap.size + 1) s _ bN) (fun h k => h.trans k) (KeepsBox.putObj (by simp)) (Below.refl _ _) (fun _ => rfl)
    (fun pre W => (pre = [] ∧ Boxed W w.heap.size 2 (.int .i64 0)) ∧ Below w.heap.size w W)
    (fun c pre W => (c = .ret ∧ ∃ x, pre = [x] ∧ Boxed W w.heap.size 2 (.int .i64 x)) ∧ Below w.heap.size w W)
    (OwnFrom.and (Own.from (fun s A B row hs hg hr => ⟨hs.1, hs.2.kept hg (fun e => by obtain ⟨o, ho, hc⟩ := hr _ e.symm; rw [show A.heap[w.heap.size]? = _ from hs.2] at ho; cases ho; cases hc)⟩) _) (ownFrom_below (Nat.le_refl _) (by simp; omega)))
    (fun c => OwnFrom.and (Own.from (fun s A B row hs hg hr => by obtain ⟨e1, x, e2, hb⟩ := hs; exact ⟨e1, x, e2, hb.kept hg (fun e => by obtain ⟨o, ho, hc⟩ := hr _ e.symm; rw [show A.heap[w.heap.size]? = _ from hb] at ho; cases ho; cases hc)⟩) _) (ownFrom_below (Nat.le_refl _) (by simp; omega)))
    ⟨⟨rfl, bR.alloc _⟩, hB0⟩
    (fun x => { tmps := #[.int .i64 s, undef, .pointer (some ⟨w.heap.size, 0, none⟩), .int .i64 x, .int .i64 s, .func (.func 292) #[] #[.pointer (some ⟨w.heap.size + 1, 0, none⟩)], .int .i64 x, undef], defers := [] }) ?assign ?body ?done ?stop
  case assign =>
    intro l x W K hK
    gi_wp2
    exact hK
  case body =>
    rintro l pre x W ⟨⟨rfl, hb⟩, hB⟩ _
    have hc := hb.cell
    have hf := hb.frozen
    gi_wp2
    exact ⟨(KeepsOthers.setCell _ _ _).from _, ⟨rfl, x, rfl, hb.set _⟩, hB.setCell (p := ⟨w.heap.size, 0, none⟩) (Nat.le_refl _) _⟩
  case done =>
    rintro D ys W hD hys ⟨⟨hp, hb⟩, hB⟩ hK
    have hc := hb.cell
    have hf := hb.frozen
    gi_wp2
    have hK' := (KeepsOthers.setCell W ⟨w.heap.size, 0, none⟩ (.int .i64 (-1))).same D _ hK rfl
    refine ⟨by simp, .inl ⟨_, _, rfl, run_takeDeferred hK', ?_⟩⟩
    have hc5 := cell_kept (hb.set (.int .i64 (-1))).cell (grownBy_putObj' _ D (.deferred none)) (fun r e => by cases e; exact ⟨_, hK', rfl⟩)
    have hm : mems s = [] := hys.symm.trans hp
    refine ⟨.int .i64 (-1), ?_, ret_int (by unfold firstMV; rw [hm]; rfl), (hB.setCell (p := ⟨w.heap.size, 0, none⟩) (Nat.le_refl _) _).trans (belowK_b (w := w) (Nat.le_refl _) _ D _ _ (by simp at hD; omega) hK' rfl rfl)⟩
    simp [results, Tryz.f285, go_sem, hc5]
  case stop =>
    rintro D c pre W hD hpre ⟨⟨rfl, x, rfl, hb⟩, hB⟩ hK
    gi_wp2
    refine ⟨by simp, .inl ⟨_, _, rfl, run_takeDeferred hK, ?_⟩⟩
    have hc5 := cell_kept hb.cell (grownBy_putObj' _ D (.deferred none)) (fun r e => by cases e; exact ⟨_, hK, rfl⟩)
    have hx : firstMV s = x := by obtain ⟨r, hr⟩ := hpre; unfold firstMV; rw [← hr]; rfl
    refine ⟨.int .i64 x, ?_, ret_int hx.symm, hB.trans (belowK_b (w := w) (Nat.le_refl _) W D _ _ (by simp at hD; omega) hK rfl rfl)⟩
    simp [results, Tryz.f285, go_sem, hc5]

theorem implFirstOf_any (s : Int) (w : World) : Calls Tryz.prog 285 #[.int .i64 s] w fun e w' => e = .returned (.int .i64 (firstMV s)) ∧ Below w.heap.size w w' :=
  callsIn_wide.1 (implFirstOf_in 3 (Nat.le_refl _) s w)

end Go.Proofs.YtmfmfdiphlkdiaaGreat

/- The program's side of chapter 9, up to SmithOk: contracts of the checks of a smith and of its shape. No condition. -/
namespace Go.Proofs.YtmfmfdiphlkdiaaGreat
open Go.ChangeShapes Go.WideShapes Go.ChangeAt Go.RowKit Go.Sort
set_option linter.unusedVariables false

theorem first_all : ∀ k : Fin 256, (firstMV (k.val : Int) != -1) = inB (k.val : Int) 1 255 := by decide +kernel
theorem first_may (s : Int) : (firstMV s != -1) = inB s 1 255 := by
  cases h : inB s 0 255
  · have hf : firstMV s = -1 := by unfold firstMV mems; rw [upto_none h]; rfl
    have h2 : s < 0 ∨ 255 < s := by
      rcases Int.lt_or_le s 0 with h1 | h1
      · exact .inl h1
      · rcases Int.lt_or_le 255 s with h2 | h2
        · exact .inr h2
        · rw [inB_t h1 h2] at h; cases h
    rw [hf, inB_f (by omega)]; rfl
  · obtain ⟨h0, h1⟩ := inB_of h
    obtain ⟨n, rfl⟩ := Int.eq_ofNat_of_zero_le h0
    exact first_all ⟨n, by omega⟩

theorem implFirstOf_v {s f : Int} (h : firstMV s = f) (w : World) : Calls Tryz.prog 285 #[.int .i64 s] w fun e w' => e = .returned (.int .i64 f) ∧ Below w.heap.size w w' := by
  have := implFirstOf_any s w; rw [h] at this; exact this
theorem isMay_any (s : Int) (w : World) : Calls Tryz.prog 278 #[.int .i64 s] w fun e w' => e = .returned (.bool (inB s 1 255)) ∧ Below w.heap.size w w' := by
  have hf := first_may s
  obtain ⟨f, hv⟩ : ∃ f, firstMV s = f := ⟨_, rfl⟩
  have Hv := hide hv
  rw [hv] at hf
  have Hf := hide hf
  clear hf hv
  go_enter Tryz.func278, Tryz.ntmps278
  go_wp2_with fail
  refine (implFirstOf_v (unhide Hv) _).mono ?_
  rintro e w1 ⟨rfl, hb⟩
  go_wp2_with fail
  go_ret
  exact ⟨ret_bool (unhide Hf), hb⟩

theorem isCarry_any (c r : Int) (w : World) : Calls Tryz.prog 279 #[.int .i64 c, .int .i64 r] w fun e w' => e = .returned (.bool (inB c 0 (weightV r - 1))) ∧ w' = w := by
  obtain ⟨x, hv⟩ : ∃ x, weightV r = x := ⟨_, rfl⟩
  have Hv := hide hv
  rw [hv]
  clear hv
  by_cases h0 : 0 ≤ c
  · by_cases h1 : c < x
    · rw [inB_t (x := c) (lo := 0) (hi := x - 1) h0 (by omega)]
      go_enter Tryz.func279, Tryz.ntmps279
      go_wp2_with (go_at_call 286; refine (implWeightOf_v (unhide Hv) _).mono ?_; rintro e w' ⟨rfl, rfl⟩)
      go_ret
      exact ⟨rfl, rfl⟩
    · rw [inB_f (x := c) (lo := 0) (hi := x - 1) (by omega)]
      go_enter Tryz.func279, Tryz.ntmps279
      go_wp2_with (go_at_call 286; refine (implWeightOf_v (unhide Hv) _).mono ?_; rintro e w' ⟨rfl, rfl⟩)
      go_ret
      exact ⟨ret_bool (b := false) (by rw [decide_eq_false_iff_not]; omega), rfl⟩
  · rw [inB_f (x := c) (lo := 0) (hi := x - 1) (by omega)]
    go_enter Tryz.func279, Tryz.ntmps279
    go_wp2_with fail
    go_ret
    exact ⟨rfl, rfl⟩

theorem smithHad_any (n : Int) (w : World) : Calls Tryz.prog 240 #[.int .i64 n] w fun e w' => e = .returned (.bool (inB n (-1000000000000) 1000000000000)) ∧ w' = w := by
  go_enter Tryz.func240, Tryz.ntmps240
  go_wp2_with (go_at_call 176; refine (liesFrom_any _ _ _ _).mono ?_; rintro e w' ⟨rfl, rfl⟩)
  go_ret
  exact ⟨rfl, rfl⟩

theorem isCarry_v {c r : Int} {q : Bool} (h : inB c 0 (weightV r - 1) = q) (w : World) : Calls Tryz.prog 279 #[.int .i64 c, .int .i64 r] w fun e w' => e = .returned (.bool q) ∧ w' = w := by
  have := isCarry_any c r w; rw [h] at this; exact this
theorem inB_none (x : Int) : inB x 0 (0 - 1) = false := by
  refine inB_f ?_
  rcases Int.lt_or_le x 0 with h | h
  · exact .inl h
  · exact .inr (by omega)
/-- A rank that is none leaves no carry. -/
theorem presB_eq (st be rk my gu lo hi hd ca ut wk : Int) : presB (st, be, rk, my, gu, lo, hi, hd, ca, ut, wk) = (inB st 1 3 && (inB be 0 7 && (inB my 1 255 && (inB gu (-1) 5 && (pairB lo hi && (inB hd (-1000000000000) 1000000000000 && (inB ca 0 (weightV rk - 1) && (inB ut 0 1024 && (inB wk 0 100000000000))))))))) := by
  unfold presB
  simp only
  cases hr : inB rk (-5) 5
  · rw [weightV_none hr, show inB ca 0 (0 - 1) = false from inB_none ca]
    simp
  · simp only [Bool.true_and]
set_option maxRecDepth 100000 in
set_option maxHeartbeats 4000000 in
theorem isPresent_any (st be rk my gu lo hi hd ca ut wk : Int) (w : World) : Calls Tryz.prog 265 #[.agg #[.int .i64 st, .int .i64 be, .int .i64 rk, .int .i64 my, .int .i64 gu, .int .i64 lo, .int .i64 hi, .int .i64 hd, .int .i64 ca, .int .i64 ut, .int .i64 wk]] w fun e w' => e = .returned (.bool (presB (st, be, rk, my, gu, lo, hi, hd, ca, ut, wk))) ∧ Below w.heap.size w w' := by
  rw [presB_eq]
  obtain ⟨qc, hqc⟩ : ∃ q, inB ca 0 (weightV rk - 1) = q := ⟨_, rfl⟩
  have Hc := hide hqc
  rw [hqc]
  clear hqc
  cases h_st : inB st 1 3
  · go_enter Tryz.func265, Tryz.ntmps265
    go_wp2_with (first | (go_at_call 176; refine (liesFrom_any _ _ _ _).mono ?_; rintro e w' ⟨rfl, rfl⟩) | (go_at_call 213; refine (isBench_any _ _).mono ?_; rintro e w' ⟨rfl, rfl⟩) | (go_at_call 201; refine (areBounds_any _ _ _).mono ?_; rintro e w' ⟨rfl, rfl⟩) | (go_at_call 240; refine (smithHad_any _ _).mono ?_; rintro e w' ⟨rfl, rfl⟩) | (go_at_call 279; refine (isCarry_v (unhide Hc) _).mono ?_; rintro e w' ⟨rfl, rfl⟩) | (go_at_call 280; refine (isUtil_any _ _).mono ?_; rintro e w' ⟨rfl, rfl⟩))
    go_ret
    exact ⟨rfl, (Below.refl _ _).alloc (Nat.le_refl _) _⟩
  cases h_be : inB be 0 7
  · go_enter Tryz.func265, Tryz.ntmps265
    go_wp2_with (first | (go_at_call 176; refine (liesFrom_any _ _ _ _).mono ?_; rintro e w' ⟨rfl, rfl⟩) | (go_at_call 213; refine (isBench_any _ _).mono ?_; rintro e w' ⟨rfl, rfl⟩) | (go_at_call 201; refine (areBounds_any _ _ _).mono ?_; rintro e w' ⟨rfl, rfl⟩) | (go_at_call 240; refine (smithHad_any _ _).mono ?_; rintro e w' ⟨rfl, rfl⟩) | (go_at_call 279; refine (isCarry_v (unhide Hc) _).mono ?_; rintro e w' ⟨rfl, rfl⟩) | (go_at_call 280; refine (isUtil_any _ _).mono ?_; rintro e w' ⟨rfl, rfl⟩))
    go_ret
    exact ⟨rfl, (Below.refl _ _).alloc (Nat.le_refl _) _⟩
  cases h_my : inB my 1 255
  · go_enter Tryz.func265, Tryz.ntmps265
    go_wp2_with (first | (go_at_call 176; refine (liesFrom_any _ _ _ _).mono ?_; rintro e w' ⟨rfl, rfl⟩) | (go_at_call 213; refine (isBench_any _ _).mono ?_; rintro e w' ⟨rfl, rfl⟩) | (go_at_call 201; refine (areBounds_any _ _ _).mono ?_; rintro e w' ⟨rfl, rfl⟩) | (go_at_call 240; refine (smithHad_any _ _).mono ?_; rintro e w' ⟨rfl, rfl⟩) | (go_at_call 279; refine (isCarry_v (unhide Hc) _).mono ?_; rintro e w' ⟨rfl, rfl⟩) | (go_at_call 280; refine (isUtil_any _ _).mono ?_; rintro e w' ⟨rfl, rfl⟩))
    refine (isMay_any _ _).mono ?_
    rintro e w1 ⟨rfl, hb⟩
    have c2 : w1.cell? ⟨w.heap.size, 2, none⟩ = some (.int .i64 rk) := (hb.cell (p := ⟨w.heap.size, 2, none⟩) (by simp)).trans (cell_new _ rfl)
    have c4 : w1.cell? ⟨w.heap.size, 4, none⟩ = some (.int .i64 gu) := (hb.cell (p := ⟨w.heap.size, 4, none⟩) (by simp)).trans (cell_new _ rfl)
    have c5 : w1.cell? ⟨w.heap.size, 5, none⟩ = some (.int .i64 lo) := (hb.cell (p := ⟨w.heap.size, 5, none⟩) (by simp)).trans (cell_new _ rfl)
    have c6 : w1.cell? ⟨w.heap.size, 6, none⟩ = some (.int .i64 hi) := (hb.cell (p := ⟨w.heap.size, 6, none⟩) (by simp)).trans (cell_new _ rfl)
    have c7 : w1.cell? ⟨w.heap.size, 7, none⟩ = some (.int .i64 hd) := (hb.cell (p := ⟨w.heap.size, 7, none⟩) (by simp)).trans (cell_new _ rfl)
    have c8 : w1.cell? ⟨w.heap.size, 8, none⟩ = some (.int .i64 ca) := (hb.cell (p := ⟨w.heap.size, 8, none⟩) (by simp)).trans (cell_new _ rfl)
    have c9 : w1.cell? ⟨w.heap.size, 9, none⟩ = some (.int .i64 ut) := (hb.cell (p := ⟨w.heap.size, 9, none⟩) (by simp)).trans (cell_new _ rfl)
    have c10 : w1.cell? ⟨w.heap.size, 10, none⟩ = some (.int .i64 wk) := (hb.cell (p := ⟨w.heap.size, 10, none⟩) (by simp)).trans (cell_new _ rfl)
    have Hb := hide (((Below.refl w.heap.size w).alloc (Nat.le_refl _) _).trans (hb.mono (by simp)))
    clear hb
    go_wp2_with (first | (go_at_call 176; refine (liesFrom_any _ _ _ _).mono ?_; rintro e w' ⟨rfl, rfl⟩) | (go_at_call 213; refine (isBench_any _ _).mono ?_; rintro e w' ⟨rfl, rfl⟩) | (go_at_call 201; refine (areBounds_any _ _ _).mono ?_; rintro e w' ⟨rfl, rfl⟩) | (go_at_call 240; refine (smithHad_any _ _).mono ?_; rintro e w' ⟨rfl, rfl⟩) | (go_at_call 279; refine (isCarry_v (unhide Hc) _).mono ?_; rintro e w' ⟨rfl, rfl⟩) | (go_at_call 280; refine (isUtil_any _ _).mono ?_; rintro e w' ⟨rfl, rfl⟩))
    go_ret
    exact ⟨rfl, unhide Hb⟩
  cases h_gu : inB gu (-1) 5
  · go_enter Tryz.func265, Tryz.ntmps265
    go_wp2_with (first | (go_at_call 176; refine (liesFrom_any _ _ _ _).mono ?_; rintro e w' ⟨rfl, rfl⟩) | (go_at_call 213; refine (isBench_any _ _).mono ?_; rintro e w' ⟨rfl, rfl⟩) | (go_at_call 201; refine (areBounds_any _ _ _).mono ?_; rintro e w' ⟨rfl, rfl⟩) | (go_at_call 240; refine (smithHad_any _ _).mono ?_; rintro e w' ⟨rfl, rfl⟩) | (go_at_call 279; refine (isCarry_v (unhide Hc) _).mono ?_; rintro e w' ⟨rfl, rfl⟩) | (go_at_call 280; refine (isUtil_any _ _).mono ?_; rintro e w' ⟨rfl, rfl⟩))
    refine (isMay_any _ _).mono ?_
    rintro e w1 ⟨rfl, hb⟩
    have c2 : w1.cell? ⟨w.heap.size, 2, none⟩ = some (.int .i64 rk) := (hb.cell (p := ⟨w.heap.size, 2, none⟩) (by simp)).trans (cell_new _ rfl)
    have c4 : w1.cell? ⟨w.heap.size, 4, none⟩ = some (.int .i64 gu) := (hb.cell (p := ⟨w.heap.size, 4, none⟩) (by simp)).trans (cell_new _ rfl)
    have c5 : w1.cell? ⟨w.heap.size, 5, none⟩ = some (.int .i64 lo) := (hb.cell (p := ⟨w.heap.size, 5, none⟩) (by simp)).trans (cell_new _ rfl)
    have c6 : w1.cell? ⟨w.heap.size, 6, none⟩ = some (.int .i64 hi) := (hb.cell (p := ⟨w.heap.size, 6, none⟩) (by simp)).trans (cell_new _ rfl)
    have c7 : w1.cell? ⟨w.heap.size, 7, none⟩ = some (.int .i64 hd) := (hb.cell (p := ⟨w.heap.size, 7, none⟩) (by simp)).trans (cell_new _ rfl)
    have c8 : w1.cell? ⟨w.heap.size, 8, none⟩ = some (.int .i64 ca) := (hb.cell (p := ⟨w.heap.size, 8, none⟩) (by simp)).trans (cell_new _ rfl)
    have c9 : w1.cell? ⟨w.heap.size, 9, none⟩ = some (.int .i64 ut) := (hb.cell (p := ⟨w.heap.size, 9, none⟩) (by simp)).trans (cell_new _ rfl)
    have c10 : w1.cell? ⟨w.heap.size, 10, none⟩ = some (.int .i64 wk) := (hb.cell (p := ⟨w.heap.size, 10, none⟩) (by simp)).trans (cell_new _ rfl)
    have Hb := hide (((Below.refl w.heap.size w).alloc (Nat.le_refl _) _).trans (hb.mono (by simp)))
    clear hb
    go_wp2_with (first | (go_at_call 176; refine (liesFrom_any _ _ _ _).mono ?_; rintro e w' ⟨rfl, rfl⟩) | (go_at_call 213; refine (isBench_any _ _).mono ?_; rintro e w' ⟨rfl, rfl⟩) | (go_at_call 201; refine (areBounds_any _ _ _).mono ?_; rintro e w' ⟨rfl, rfl⟩) | (go_at_call 240; refine (smithHad_any _ _).mono ?_; rintro e w' ⟨rfl, rfl⟩) | (go_at_call 279; refine (isCarry_v (unhide Hc) _).mono ?_; rintro e w' ⟨rfl, rfl⟩) | (go_at_call 280; refine (isUtil_any _ _).mono ?_; rintro e w' ⟨rfl, rfl⟩))
    go_ret
    exact ⟨rfl, unhide Hb⟩
  cases h_pr : pairB lo hi
  · go_enter Tryz.func265, Tryz.ntmps265
    go_wp2_with (first | (go_at_call 176; refine (liesFrom_any _ _ _ _).mono ?_; rintro e w' ⟨rfl, rfl⟩) | (go_at_call 213; refine (isBench_any _ _).mono ?_; rintro e w' ⟨rfl, rfl⟩) | (go_at_call 201; refine (areBounds_any _ _ _).mono ?_; rintro e w' ⟨rfl, rfl⟩) | (go_at_call 240; refine (smithHad_any _ _).mono ?_; rintro e w' ⟨rfl, rfl⟩) | (go_at_call 279; refine (isCarry_v (unhide Hc) _).mono ?_; rintro e w' ⟨rfl, rfl⟩) | (go_at_call 280; refine (isUtil_any _ _).mono ?_; rintro e w' ⟨rfl, rfl⟩))
    refine (isMay_any _ _).mono ?_
    rintro e w1 ⟨rfl, hb⟩
    have c2 : w1.cell? ⟨w.heap.size, 2, none⟩ = some (.int .i64 rk) := (hb.cell (p := ⟨w.heap.size, 2, none⟩) (by simp)).trans (cell_new _ rfl)
    have c4 : w1.cell? ⟨w.heap.size, 4, none⟩ = some (.int .i64 gu) := (hb.cell (p := ⟨w.heap.size, 4, none⟩) (by simp)).trans (cell_new _ rfl)
    have c5 : w1.cell? ⟨w.heap.size, 5, none⟩ = some (.int .i64 lo) := (hb.cell (p := ⟨w.heap.size, 5, none⟩) (by simp)).trans (cell_new _ rfl)
    have c6 : w1.cell? ⟨w.heap.size, 6, none⟩ = some (.int .i64 hi) := (hb.cell (p := ⟨w.heap.size, 6, none⟩) (by simp)).trans (cell_new _ rfl)
    have c7 : w1.cell? ⟨w.heap.size, 7, none⟩ = some (.int .i64 hd) := (hb.cell (p := ⟨w.heap.size, 7, none⟩) (by simp)).trans (cell_new _ rfl)
    have c8 : w1.cell? ⟨w.heap.size, 8, none⟩ = some (.int .i64 ca) := (hb.cell (p := ⟨w.heap.size, 8, none⟩) (by simp)).trans (cell_new _ rfl)
    have c9 : w1.cell? ⟨w.heap.size, 9, none⟩ = some (.int .i64 ut) := (hb.cell (p := ⟨w.heap.size, 9, none⟩) (by simp)).trans (cell_new _ rfl)
    have c10 : w1.cell? ⟨w.heap.size, 10, none⟩ = some (.int .i64 wk) := (hb.cell (p := ⟨w.heap.size, 10, none⟩) (by simp)).trans (cell_new _ rfl)
    have Hb := hide (((Below.refl w.heap.size w).alloc (Nat.le_refl _) _).trans (hb.mono (by simp)))
    clear hb
    go_wp2_with (first | (go_at_call 176; refine (liesFrom_any _ _ _ _).mono ?_; rintro e w' ⟨rfl, rfl⟩) | (go_at_call 213; refine (isBench_any _ _).mono ?_; rintro e w' ⟨rfl, rfl⟩) | (go_at_call 201; refine (areBounds_any _ _ _).mono ?_; rintro e w' ⟨rfl, rfl⟩) | (go_at_call 240; refine (smithHad_any _ _).mono ?_; rintro e w' ⟨rfl, rfl⟩) | (go_at_call 279; refine (isCarry_v (unhide Hc) _).mono ?_; rintro e w' ⟨rfl, rfl⟩) | (go_at_call 280; refine (isUtil_any _ _).mono ?_; rintro e w' ⟨rfl, rfl⟩))
    go_ret
    exact ⟨rfl, unhide Hb⟩
  cases h_hd : inB hd (-1000000000000) 1000000000000
  · go_enter Tryz.func265, Tryz.ntmps265
    go_wp2_with (first | (go_at_call 176; refine (liesFrom_any _ _ _ _).mono ?_; rintro e w' ⟨rfl, rfl⟩) | (go_at_call 213; refine (isBench_any _ _).mono ?_; rintro e w' ⟨rfl, rfl⟩) | (go_at_call 201; refine (areBounds_any _ _ _).mono ?_; rintro e w' ⟨rfl, rfl⟩) | (go_at_call 240; refine (smithHad_any _ _).mono ?_; rintro e w' ⟨rfl, rfl⟩) | (go_at_call 279; refine (isCarry_v (unhide Hc) _).mono ?_; rintro e w' ⟨rfl, rfl⟩) | (go_at_call 280; refine (isUtil_any _ _).mono ?_; rintro e w' ⟨rfl, rfl⟩))
    refine (isMay_any _ _).mono ?_
    rintro e w1 ⟨rfl, hb⟩
    have c2 : w1.cell? ⟨w.heap.size, 2, none⟩ = some (.int .i64 rk) := (hb.cell (p := ⟨w.heap.size, 2, none⟩) (by simp)).trans (cell_new _ rfl)
    have c4 : w1.cell? ⟨w.heap.size, 4, none⟩ = some (.int .i64 gu) := (hb.cell (p := ⟨w.heap.size, 4, none⟩) (by simp)).trans (cell_new _ rfl)
    have c5 : w1.cell? ⟨w.heap.size, 5, none⟩ = some (.int .i64 lo) := (hb.cell (p := ⟨w.heap.size, 5, none⟩) (by simp)).trans (cell_new _ rfl)
    have c6 : w1.cell? ⟨w.heap.size, 6, none⟩ = some (.int .i64 hi) := (hb.cell (p := ⟨w.heap.size, 6, none⟩) (by simp)).trans (cell_new _ rfl)
    have c7 : w1.cell? ⟨w.heap.size, 7, none⟩ = some (.int .i64 hd) := (hb.cell (p := ⟨w.heap.size, 7, none⟩) (by simp)).trans (cell_new _ rfl)
    have c8 : w1.cell? ⟨w.heap.size, 8, none⟩ = some (.int .i64 ca) := (hb.cell (p := ⟨w.heap.size, 8, none⟩) (by simp)).trans (cell_new _ rfl)
    have c9 : w1.cell? ⟨w.heap.size, 9, none⟩ = some (.int .i64 ut) := (hb.cell (p := ⟨w.heap.size, 9, none⟩) (by simp)).trans (cell_new _ rfl)
    have c10 : w1.cell? ⟨w.heap.size, 10, none⟩ = some (.int .i64 wk) := (hb.cell (p := ⟨w.heap.size, 10, none⟩) (by simp)).trans (cell_new _ rfl)
    have Hb := hide (((Below.refl w.heap.size w).alloc (Nat.le_refl _) _).trans (hb.mono (by simp)))
    clear hb
    go_wp2_with (first | (go_at_call 176; refine (liesFrom_any _ _ _ _).mono ?_; rintro e w' ⟨rfl, rfl⟩) | (go_at_call 213; refine (isBench_any _ _).mono ?_; rintro e w' ⟨rfl, rfl⟩) | (go_at_call 201; refine (areBounds_any _ _ _).mono ?_; rintro e w' ⟨rfl, rfl⟩) | (go_at_call 240; refine (smithHad_any _ _).mono ?_; rintro e w' ⟨rfl, rfl⟩) | (go_at_call 279; refine (isCarry_v (unhide Hc) _).mono ?_; rintro e w' ⟨rfl, rfl⟩) | (go_at_call 280; refine (isUtil_any _ _).mono ?_; rintro e w' ⟨rfl, rfl⟩))
    go_ret
    exact ⟨rfl, unhide Hb⟩
  cases qc
  · go_enter Tryz.func265, Tryz.ntmps265
    go_wp2_with (first | (go_at_call 176; refine (liesFrom_any _ _ _ _).mono ?_; rintro e w' ⟨rfl, rfl⟩) | (go_at_call 213; refine (isBench_any _ _).mono ?_; rintro e w' ⟨rfl, rfl⟩) | (go_at_call 201; refine (areBounds_any _ _ _).mono ?_; rintro e w' ⟨rfl, rfl⟩) | (go_at_call 240; refine (smithHad_any _ _).mono ?_; rintro e w' ⟨rfl, rfl⟩) | (go_at_call 279; refine (isCarry_v (unhide Hc) _).mono ?_; rintro e w' ⟨rfl, rfl⟩) | (go_at_call 280; refine (isUtil_any _ _).mono ?_; rintro e w' ⟨rfl, rfl⟩))
    refine (isMay_any _ _).mono ?_
    rintro e w1 ⟨rfl, hb⟩
    have c2 : w1.cell? ⟨w.heap.size, 2, none⟩ = some (.int .i64 rk) := (hb.cell (p := ⟨w.heap.size, 2, none⟩) (by simp)).trans (cell_new _ rfl)
    have c4 : w1.cell? ⟨w.heap.size, 4, none⟩ = some (.int .i64 gu) := (hb.cell (p := ⟨w.heap.size, 4, none⟩) (by simp)).trans (cell_new _ rfl)
    have c5 : w1.cell? ⟨w.heap.size, 5, none⟩ = some (.int .i64 lo) := (hb.cell (p := ⟨w.heap.size, 5, none⟩) (by simp)).trans (cell_new _ rfl)
    have c6 : w1.cell? ⟨w.heap.size, 6, none⟩ = some (.int .i64 hi) := (hb.cell (p := ⟨w.heap.size, 6, none⟩) (by simp)).trans (cell_new _ rfl)
    have c7 : w1.cell? ⟨w.heap.size, 7, none⟩ = some (.int .i64 hd) := (hb.cell (p := ⟨w.heap.size, 7, none⟩) (by simp)).trans (cell_new _ rfl)
    have c8 : w1.cell? ⟨w.heap.size, 8, none⟩ = some (.int .i64 ca) := (hb.cell (p := ⟨w.heap.size, 8, none⟩) (by simp)).trans (cell_new _ rfl)
    have c9 : w1.cell? ⟨w.heap.size, 9, none⟩ = some (.int .i64 ut) := (hb.cell (p := ⟨w.heap.size, 9, none⟩) (by simp)).trans (cell_new _ rfl)
    have c10 : w1.cell? ⟨w.heap.size, 10, none⟩ = some (.int .i64 wk) := (hb.cell (p := ⟨w.heap.size, 10, none⟩) (by simp)).trans (cell_new _ rfl)
    have Hb := hide (((Below.refl w.heap.size w).alloc (Nat.le_refl _) _).trans (hb.mono (by simp)))
    clear hb
    go_wp2_with (first | (go_at_call 176; refine (liesFrom_any _ _ _ _).mono ?_; rintro e w' ⟨rfl, rfl⟩) | (go_at_call 213; refine (isBench_any _ _).mono ?_; rintro e w' ⟨rfl, rfl⟩) | (go_at_call 201; refine (areBounds_any _ _ _).mono ?_; rintro e w' ⟨rfl, rfl⟩) | (go_at_call 240; refine (smithHad_any _ _).mono ?_; rintro e w' ⟨rfl, rfl⟩) | (go_at_call 279; refine (isCarry_v (unhide Hc) _).mono ?_; rintro e w' ⟨rfl, rfl⟩) | (go_at_call 280; refine (isUtil_any _ _).mono ?_; rintro e w' ⟨rfl, rfl⟩))
    go_ret
    exact ⟨rfl, unhide Hb⟩
  cases h_ut : inB ut 0 1024
  · go_enter Tryz.func265, Tryz.ntmps265
    go_wp2_with (first | (go_at_call 176; refine (liesFrom_any _ _ _ _).mono ?_; rintro e w' ⟨rfl, rfl⟩) | (go_at_call 213; refine (isBench_any _ _).mono ?_; rintro e w' ⟨rfl, rfl⟩) | (go_at_call 201; refine (areBounds_any _ _ _).mono ?_; rintro e w' ⟨rfl, rfl⟩) | (go_at_call 240; refine (smithHad_any _ _).mono ?_; rintro e w' ⟨rfl, rfl⟩) | (go_at_call 279; refine (isCarry_v (unhide Hc) _).mono ?_; rintro e w' ⟨rfl, rfl⟩) | (go_at_call 280; refine (isUtil_any _ _).mono ?_; rintro e w' ⟨rfl, rfl⟩))
    refine (isMay_any _ _).mono ?_
    rintro e w1 ⟨rfl, hb⟩
    have c2 : w1.cell? ⟨w.heap.size, 2, none⟩ = some (.int .i64 rk) := (hb.cell (p := ⟨w.heap.size, 2, none⟩) (by simp)).trans (cell_new _ rfl)
    have c4 : w1.cell? ⟨w.heap.size, 4, none⟩ = some (.int .i64 gu) := (hb.cell (p := ⟨w.heap.size, 4, none⟩) (by simp)).trans (cell_new _ rfl)
    have c5 : w1.cell? ⟨w.heap.size, 5, none⟩ = some (.int .i64 lo) := (hb.cell (p := ⟨w.heap.size, 5, none⟩) (by simp)).trans (cell_new _ rfl)
    have c6 : w1.cell? ⟨w.heap.size, 6, none⟩ = some (.int .i64 hi) := (hb.cell (p := ⟨w.heap.size, 6, none⟩) (by simp)).trans (cell_new _ rfl)
    have c7 : w1.cell? ⟨w.heap.size, 7, none⟩ = some (.int .i64 hd) := (hb.cell (p := ⟨w.heap.size, 7, none⟩) (by simp)).trans (cell_new _ rfl)
    have c8 : w1.cell? ⟨w.heap.size, 8, none⟩ = some (.int .i64 ca) := (hb.cell (p := ⟨w.heap.size, 8, none⟩) (by simp)).trans (cell_new _ rfl)
    have c9 : w1.cell? ⟨w.heap.size, 9, none⟩ = some (.int .i64 ut) := (hb.cell (p := ⟨w.heap.size, 9, none⟩) (by simp)).trans (cell_new _ rfl)
    have c10 : w1.cell? ⟨w.heap.size, 10, none⟩ = some (.int .i64 wk) := (hb.cell (p := ⟨w.heap.size, 10, none⟩) (by simp)).trans (cell_new _ rfl)
    have Hb := hide (((Below.refl w.heap.size w).alloc (Nat.le_refl _) _).trans (hb.mono (by simp)))
    clear hb
    go_wp2_with (first | (go_at_call 176; refine (liesFrom_any _ _ _ _).mono ?_; rintro e w' ⟨rfl, rfl⟩) | (go_at_call 213; refine (isBench_any _ _).mono ?_; rintro e w' ⟨rfl, rfl⟩) | (go_at_call 201; refine (areBounds_any _ _ _).mono ?_; rintro e w' ⟨rfl, rfl⟩) | (go_at_call 240; refine (smithHad_any _ _).mono ?_; rintro e w' ⟨rfl, rfl⟩) | (go_at_call 279; refine (isCarry_v (unhide Hc) _).mono ?_; rintro e w' ⟨rfl, rfl⟩) | (go_at_call 280; refine (isUtil_any _ _).mono ?_; rintro e w' ⟨rfl, rfl⟩))
    go_ret
    exact ⟨rfl, unhide Hb⟩
  cases h_wk : inB wk 0 100000000000
  · go_enter Tryz.func265, Tryz.ntmps265
    go_wp2_with (first | (go_at_call 176; refine (liesFrom_any _ _ _ _).mono ?_; rintro e w' ⟨rfl, rfl⟩) | (go_at_call 213; refine (isBench_any _ _).mono ?_; rintro e w' ⟨rfl, rfl⟩) | (go_at_call 201; refine (areBounds_any _ _ _).mono ?_; rintro e w' ⟨rfl, rfl⟩) | (go_at_call 240; refine (smithHad_any _ _).mono ?_; rintro e w' ⟨rfl, rfl⟩) | (go_at_call 279; refine (isCarry_v (unhide Hc) _).mono ?_; rintro e w' ⟨rfl, rfl⟩) | (go_at_call 280; refine (isUtil_any _ _).mono ?_; rintro e w' ⟨rfl, rfl⟩))
    refine (isMay_any _ _).mono ?_
    rintro e w1 ⟨rfl, hb⟩
    have c2 : w1.cell? ⟨w.heap.size, 2, none⟩ = some (.int .i64 rk) := (hb.cell (p := ⟨w.heap.size, 2, none⟩) (by simp)).trans (cell_new _ rfl)
    have c4 : w1.cell? ⟨w.heap.size, 4, none⟩ = some (.int .i64 gu) := (hb.cell (p := ⟨w.heap.size, 4, none⟩) (by simp)).trans (cell_new _ rfl)
    have c5 : w1.cell? ⟨w.heap.size, 5, none⟩ = some (.int .i64 lo) := (hb.cell (p := ⟨w.heap.size, 5, none⟩) (by simp)).trans (cell_new _ rfl)
    have c6 : w1.cell? ⟨w.heap.size, 6, none⟩ = some (.int .i64 hi) := (hb.cell (p := ⟨w.heap.size, 6, none⟩) (by simp)).trans (cell_new _ rfl)
    have c7 : w1.cell? ⟨w.heap.size, 7, none⟩ = some (.int .i64 hd) := (hb.cell (p := ⟨w.heap.size, 7, none⟩) (by simp)).trans (cell_new _ rfl)
    have c8 : w1.cell? ⟨w.heap.size, 8, none⟩ = some (.int .i64 ca) := (hb.cell (p := ⟨w.heap.size, 8, none⟩) (by simp)).trans (cell_new _ rfl)
    have c9 : w1.cell? ⟨w.heap.size, 9, none⟩ = some (.int .i64 ut) := (hb.cell (p := ⟨w.heap.size, 9, none⟩) (by simp)).trans (cell_new _ rfl)
    have c10 : w1.cell? ⟨w.heap.size, 10, none⟩ = some (.int .i64 wk) := (hb.cell (p := ⟨w.heap.size, 10, none⟩) (by simp)).trans (cell_new _ rfl)
    have Hb := hide (((Below.refl w.heap.size w).alloc (Nat.le_refl _) _).trans (hb.mono (by simp)))
    clear hb
    go_wp2_with (first | (go_at_call 176; refine (liesFrom_any _ _ _ _).mono ?_; rintro e w' ⟨rfl, rfl⟩) | (go_at_call 213; refine (isBench_any _ _).mono ?_; rintro e w' ⟨rfl, rfl⟩) | (go_at_call 201; refine (areBounds_any _ _ _).mono ?_; rintro e w' ⟨rfl, rfl⟩) | (go_at_call 240; refine (smithHad_any _ _).mono ?_; rintro e w' ⟨rfl, rfl⟩) | (go_at_call 279; refine (isCarry_v (unhide Hc) _).mono ?_; rintro e w' ⟨rfl, rfl⟩) | (go_at_call 280; refine (isUtil_any _ _).mono ?_; rintro e w' ⟨rfl, rfl⟩))
    go_ret
    exact ⟨rfl, unhide Hb⟩
  go_enter Tryz.func265, Tryz.ntmps265
  go_wp2_with (first | (go_at_call 176; refine (liesFrom_any _ _ _ _).mono ?_; rintro e w' ⟨rfl, rfl⟩) | (go_at_call 213; refine (isBench_any _ _).mono ?_; rintro e w' ⟨rfl, rfl⟩) | (go_at_call 201; refine (areBounds_any _ _ _).mono ?_; rintro e w' ⟨rfl, rfl⟩) | (go_at_call 240; refine (smithHad_any _ _).mono ?_; rintro e w' ⟨rfl, rfl⟩) | (go_at_call 279; refine (isCarry_v (unhide Hc) _).mono ?_; rintro e w' ⟨rfl, rfl⟩) | (go_at_call 280; refine (isUtil_any _ _).mono ?_; rintro e w' ⟨rfl, rfl⟩))
  refine (isMay_any _ _).mono ?_
  rintro e w1 ⟨rfl, hb⟩
  have c2 : w1.cell? ⟨w.heap.size, 2, none⟩ = some (.int .i64 rk) := (hb.cell (p := ⟨w.heap.size, 2, none⟩) (by simp)).trans (cell_new _ rfl)
  have c4 : w1.cell? ⟨w.heap.size, 4, none⟩ = some (.int .i64 gu) := (hb.cell (p := ⟨w.heap.size, 4, none⟩) (by simp)).trans (cell_new _ rfl)
  have c5 : w1.cell? ⟨w.heap.size, 5, none⟩ = some (.int .i64 lo) := (hb.cell (p := ⟨w.heap.size, 5, none⟩) (by simp)).trans (cell_new _ rfl)
  have c6 : w1.cell? ⟨w.heap.size, 6, none⟩ = some (.int .i64 hi) := (hb.cell (p := ⟨w.heap.size, 6, none⟩) (by simp)).trans (cell_new _ rfl)
  have c7 : w1.cell? ⟨w.heap.size, 7, none⟩ = some (.int .i64 hd) := (hb.cell (p := ⟨w.heap.size, 7, none⟩) (by simp)).trans (cell_new _ rfl)
  have c8 : w1.cell? ⟨w.heap.size, 8, none⟩ = some (.int .i64 ca) := (hb.cell (p := ⟨w.heap.size, 8, none⟩) (by simp)).trans (cell_new _ rfl)
  have c9 : w1.cell? ⟨w.heap.size, 9, none⟩ = some (.int .i64 ut) := (hb.cell (p := ⟨w.heap.size, 9, none⟩) (by simp)).trans (cell_new _ rfl)
  have c10 : w1.cell? ⟨w.heap.size, 10, none⟩ = some (.int .i64 wk) := (hb.cell (p := ⟨w.heap.size, 10, none⟩) (by simp)).trans (cell_new _ rfl)
  have Hb := hide (((Below.refl w.heap.size w).alloc (Nat.le_refl _) _).trans (hb.mono (by simp)))
  clear hb
  go_wp2_with (first | (go_at_call 176; refine (liesFrom_any _ _ _ _).mono ?_; rintro e w' ⟨rfl, rfl⟩) | (go_at_call 213; refine (isBench_any _ _).mono ?_; rintro e w' ⟨rfl, rfl⟩) | (go_at_call 201; refine (areBounds_any _ _ _).mono ?_; rintro e w' ⟨rfl, rfl⟩) | (go_at_call 240; refine (smithHad_any _ _).mono ?_; rintro e w' ⟨rfl, rfl⟩) | (go_at_call 279; refine (isCarry_v (unhide Hc) _).mono ?_; rintro e w' ⟨rfl, rfl⟩) | (go_at_call 280; refine (isUtil_any _ _).mono ?_; rintro e w' ⟨rfl, rfl⟩))
  go_ret
  exact ⟨rfl, unhide Hb⟩

end Go.Proofs.YtmfmfdiphlkdiaaGreat

