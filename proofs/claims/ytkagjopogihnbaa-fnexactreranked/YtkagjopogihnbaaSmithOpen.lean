/- A list of records (Smith), or one, that is handed in, opened: what it reads as. No condition. -/
import Derived.Test.YtkagjopogihnbaaSmithRec
import Derived.Test.YtkagjopogihnbaaRecOpen
namespace Go.Proofs.Ytkagjopogihnbaa
open Go.ChangeShapes Go.WideShapes Go.ChangeAt Go.RowKit Go.Deep
set_option linter.unusedVariables false


set_option maxRecDepth 100000 in
theorem open_smith {H : Type} {enc : TypeId × Value → H} {W : World} {spare : Nat → Bool} {held : Bool} {r : Reach} {b0 : Nat} {v : Value} {d : DataW H} {p : List MemPlace}
    (hv : Value.okWide Try.prog W r b0 32 v) (h : DataW.Trod enc Try.prog W 0 spare held 32 v d p) : ∃ x : SmithV, v = .agg (encSmith x).toArray := by
  refine open_rec (k := 11) (enc := encSmith) Try.underlying32 (by kernel_rfl) (by kernel_rfl) rfl ?_ hv h
  intro cs hl hc
  match cs, hl with
  | [c0, c1, c2, c3, c4, c5, c6, c7, c8, c9, c10], _ =>
    obtain ⟨u0, n0, y0, e0, t0⟩ := hc 0 _ rfl
    obtain ⟨u1, n1, y1, e1, t1⟩ := hc 1 _ rfl
    obtain ⟨u2, n2, y2, e2, t2⟩ := hc 2 _ rfl
    obtain ⟨u3, n3, y3, e3, t3⟩ := hc 3 _ rfl
    obtain ⟨u4, n4, y4, e4, t4⟩ := hc 4 _ rfl
    obtain ⟨u5, n5, y5, e5, t5⟩ := hc 5 _ rfl
    obtain ⟨u6, n6, y6, e6, t6⟩ := hc 6 _ rfl
    obtain ⟨u7, n7, y7, e7, t7⟩ := hc 7 _ rfl
    obtain ⟨u8, n8, y8, e8, t8⟩ := hc 8 _ rfl
    obtain ⟨u9, n9, y9, e9, t9⟩ := hc 9 _ rfl
    obtain ⟨u10, n10, y10, e10, t10⟩ := hc 10 _ rfl
    obtain ⟨z0, q0, _⟩ := DataW.trod_int Try.underlying2 t0
    obtain ⟨z1, q1, _⟩ := DataW.trod_int Try.underlying2 t1
    obtain ⟨z2, q2, _⟩ := DataW.trod_int Try.underlying2 t2
    obtain ⟨z3, q3, _⟩ := DataW.trod_int Try.underlying2 t3
    obtain ⟨z4, q4, _⟩ := DataW.trod_int Try.underlying2 t4
    obtain ⟨z5, q5, _⟩ := DataW.trod_int Try.underlying2 t5
    obtain ⟨z6, q6, _⟩ := DataW.trod_int Try.underlying2 t6
    obtain ⟨z7, q7, _⟩ := DataW.trod_int Try.underlying2 t7
    obtain ⟨z8, q8, _⟩ := DataW.trod_int Try.underlying2 t8
    obtain ⟨z9, q9, _⟩ := DataW.trod_int Try.underlying2 t9
    obtain ⟨z10, q10, _⟩ := DataW.trod_int Try.underlying2 t10
    cases e0; cases e1; cases e2; cases e3; cases e4; cases e5; cases e6; cases e7; cases e8; cases e9; cases e10; cases q0; cases q1; cases q2; cases q3; cases q4; cases q5; cases q6; cases q7; cases q8; cases q9; cases q10
    exact ⟨(z0, z1, z2, z3, z4, z5, z6, z7, z8, z9, z10), rfl⟩

end Go.Proofs.Ytkagjopogihnbaa
