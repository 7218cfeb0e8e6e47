/- Part 27 of what the proof rests on. No condition but those that a theorem names. -/
import Derived.Test.YtgdpaigcmoifbaaGreatXe23
import Derived.Test.YtgdpaigcmoifbaaGreatXe24
namespace Go.Proofs.YtgdpaigcmoifbaaGreat
open Go.ChangeShapes Go.WideShapes Go.ChangeAt Go.RowKit Go.Sort Go.Proofs.Tryz
set_option linter.unusedVariables false
set_option maxHeartbeats 2000000 in
theorem l11Who_q {w : World} {v0 v1 v2 v3 v4 : Value} {m : SmyV} {who : Int} {q : Bool} (hq : whoB m who = q) (h : Smy w v0 v1 v2 v3 v4 m) :
  cB 63 #[.agg #[v0, v1, v2, v3, v4, .int .i64 m.now], .int .i64 who] w (.bool q) := by
 subst hq
 obtain ⟨a0, p0, rfl, _, _⟩ := IsRooms.shape h.rooms
 obtain ⟨a1, p1, rfl, _, _⟩ := IsRec.shape h.guilds
 obtain ⟨a2, p2, rfl, hc2, hm2, r2⟩ := h.smiths
 obtain ⟨a3, p3, rfl, _, _⟩ := IsRec.shape h.desks
 obtain ⟨a4, p4, rfl, _, _⟩ := IsRec.shape h.paces
 clear h
 have Ba : Hid (Below w.heap.size w (w.alloc (.cells (S6 a0 p0 a1 p1 a2 p2 a3 p3 a4 p4 m) 32))) := hide ((ba _ _))
 cases hi : inB who 0 ((m.smiths.length : Int) - 1)
 ·have hw : whoB m who = false := by unfold whoB; rw [hi]; rfl
  have Hi := hide hi
  rw [hw]
  clear hi hw r2
  go_enter func63, ntmps63
  go_wp2_with (go_at_call 129; refine (l1In_any _ _ _ _).mono ?_; rw [uh Hi]; rintro e w' ⟨rfl, h9⟩; subst w')
  go_ret
  exact ⟨rfl, uh Ba⟩
 ·obtain ⟨i0, i1⟩ := inB_of hi
  obtain ⟨k, rfl⟩ : ∃ k : Nat, who = k := ⟨who.toNat, by omega⟩
  have hk : k < m.smiths.length := by omega
  have hw : whoB m (k : Int) = !((recAt m.smiths k).1 == 0) := by unfold whoB; rw [hi]; simp
  rcases r2 with e0 | ⟨sb, off, rfl, hbw, hcl⟩
  ·rw [e0] at hk; simp at hk
  obtain ⟨d0, _⟩ := smith_cells hcl hk
  have Hi := hide hi
  rw [hw]
  clear hi hw hcl
  have hk1 : (k : Int) < (m.smiths.length : Int) := by omega
  generalize (recAt m.smiths k).1 = st at *
  go_enter func63, ntmps63
  go_wp2_with (go_at_call 129; refine (l1In_any _ _ _ _).mono ?_; rw [uh Hi]; rintro e w' ⟨rfl, h9⟩; subst w')
  go_ret
  exact ⟨rfl, uh Ba⟩
end Go.Proofs.YtgdpaigcmoifbaaGreat
