/- A list of records (Act), or one, that is handed in, opened: what it reads as. No condition. -/
import Derived.Test.YtmdgokjeobnnaaaDoorActRec
import Derived.Test.YtmdgokjeobnnaaaDoorRecOpen
namespace Go.Proofs.YtmdgokjeobnnaaaDoor
open Go.ChangeShapes Go.WideShapes Go.ChangeAt Go.RowKit Go.Deep
set_option linter.unusedVariables false


set_option maxRecDepth 100000 in
theorem open_act {H : Type} {enc : TypeId × Value → H} {W : World} {spare : Nat → Bool} {held : Bool} {r : Reach} {b0 : Nat} {v : Value} {d : DataW H} {p : List MemPlace}
    (hv : Value.okWide Tryd.prog W r b0 23 v) (h : DataW.Trod enc Tryd.prog W 0 spare held 23 v d p) : ∃ x : ActV, v = .agg (encAct x).toArray := by
  refine open_rec (k := 4) (enc := encAct) Tryd.underlying23 (by kernel_rfl) (by kernel_rfl) rfl ?_ hv h
  intro cs hl hc
  match cs, hl with
  | [c0, c1, c2, c3], _ =>
    obtain ⟨u0, n0, y0, e0, t0⟩ := hc 0 _ rfl
    obtain ⟨u1, n1, y1, e1, t1⟩ := hc 1 _ rfl
    obtain ⟨u2, n2, y2, e2, t2⟩ := hc 2 _ rfl
    obtain ⟨u3, n3, y3, e3, t3⟩ := hc 3 _ rfl
    obtain ⟨z0, q0, _⟩ := DataW.trod_int Tryd.underlying2 t0
    obtain ⟨z1, q1, _⟩ := DataW.trod_int Tryd.underlying2 t1
    obtain ⟨z2, q2, _⟩ := DataW.trod_int Tryd.underlying2 t2
    obtain ⟨z3, q3, _⟩ := DataW.trod_int Tryd.underlying2 t3
    cases e0; cases e1; cases e2; cases e3; cases q0; cases q1; cases q2; cases q3
    exact ⟨(z0, z1, z2, z3), rfl⟩

theorem i64_of {n : Int} (h : (Lit.int .i64 n).wf = true) : -9223372036854775808 ≤ n ∧ n ≤ 9223372036854775807 := by
  unfold Lit.wf at h
  simp only [Bool.and_eq_true, decide_eq_true_eq] at h
  exact h
set_option maxRecDepth 100000 in
/-- One record that is handed in, with its numbers' bounds. -/
theorem open_act_fit {H : Type} {enc : TypeId × Value → H} {W : World} {spare : Nat → Bool} {held : Bool} {r : Reach} {b0 : Nat} {v : Value} {d : DataW H} {p : List MemPlace}
    (hv : Value.okWide Tryd.prog W r b0 23 v) (h : DataW.Trod enc Tryd.prog W 0 spare held 23 v d p) : ∃ x : ActV, v = .agg (encAct x).toArray ∧ (-9223372036854775808 ≤ x.1 ∧ x.1 ≤ 9223372036854775807) ∧ (-9223372036854775808 ≤ x.2.1 ∧ x.2.1 ≤ 9223372036854775807) ∧ (-9223372036854775808 ≤ x.2.2.1 ∧ x.2.2.1 ≤ 9223372036854775807) ∧ (-9223372036854775808 ≤ x.2.2.2 ∧ x.2.2.2 ≤ 9223372036854775807) := by
  have key : ∃ x : { x : ActV // (-9223372036854775808 ≤ x.1 ∧ x.1 ≤ 9223372036854775807) ∧ (-9223372036854775808 ≤ x.2.1 ∧ x.2.1 ≤ 9223372036854775807) ∧ (-9223372036854775808 ≤ x.2.2.1 ∧ x.2.2.1 ≤ 9223372036854775807) ∧ (-9223372036854775808 ≤ x.2.2.2 ∧ x.2.2.2 ≤ 9223372036854775807) }, v = .agg (encAct x.1).toArray := by
    refine open_rec (k := 4) (enc := fun (x : { x : ActV // (-9223372036854775808 ≤ x.1 ∧ x.1 ≤ 9223372036854775807) ∧ (-9223372036854775808 ≤ x.2.1 ∧ x.2.1 ≤ 9223372036854775807) ∧ (-9223372036854775808 ≤ x.2.2.1 ∧ x.2.2.1 ≤ 9223372036854775807) ∧ (-9223372036854775808 ≤ x.2.2.2 ∧ x.2.2.2 ≤ 9223372036854775807) }) => encAct x.1) Tryd.underlying23 (by kernel_rfl) (by kernel_rfl) rfl ?_ hv h
    intro cs hl hc
    match cs, hl with
    | [c0, c1, c2, c3], _ =>
      obtain ⟨u0, n0, y0, e0, t0⟩ := hc 0 _ rfl
      obtain ⟨u1, n1, y1, e1, t1⟩ := hc 1 _ rfl
      obtain ⟨u2, n2, y2, e2, t2⟩ := hc 2 _ rfl
      obtain ⟨u3, n3, y3, e3, t3⟩ := hc 3 _ rfl
      obtain ⟨z0, q0, _, f0⟩ := DataW.trod_int Tryd.underlying2 t0
      obtain ⟨z1, q1, _, f1⟩ := DataW.trod_int Tryd.underlying2 t1
      obtain ⟨z2, q2, _, f2⟩ := DataW.trod_int Tryd.underlying2 t2
      obtain ⟨z3, q3, _, f3⟩ := DataW.trod_int Tryd.underlying2 t3
      cases e0; cases e1; cases e2; cases e3; cases q0; cases q1; cases q2; cases q3
      exact ⟨⟨(z0, z1, z2, z3), i64_of f0, i64_of f1, i64_of f2, i64_of f3⟩, rfl⟩
  obtain ⟨⟨x, hx⟩, e⟩ := key
  exact ⟨x, e, hx⟩

end Go.Proofs.YtmdgokjeobnnaaaDoor
