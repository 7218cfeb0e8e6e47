/- At every smithy, one and bench, CoalWith answers as its model and leaves its argument unchanged. No condition. -/
import Derived.Test.YtgdpaigcmoifbaaGreatXe01
import Derived.Test.YtgdpaigcmoifbaaGreatXe02
import Derived.Test.YtgdpaigcmoifbaaGreatXe03
import Derived.Test.YtgdpaigcmoifbaaGreatXe04
import Derived.Test.YtgdpaigcmoifbaaGreatXe05
import Derived.Test.YtgdpaigcmoifbaaGreatXe06
import Derived.Test.YtgdpaigcmoifbaaGreatXe07
import Derived.Test.YtgdpaigcmoifbaaGreatXe08
import Derived.Test.YtgdpaigcmoifbaaGreatXe09
import Derived.Test.YtgdpaigcmoifbaaGreatXe10
import Derived.Test.YtgdpaigcmoifbaaGreatXe11
import Derived.Test.YtgdpaigcmoifbaaGreatXe12
import Derived.Test.YtgdpaigcmoifbaaGreatXe13
import Derived.Test.YtgdpaigcmoifbaaGreatXe14
import Derived.Test.YtgdpaigcmoifbaaGreatXe15
import Derived.Test.YtgdpaigcmoifbaaGreatXe16
import Derived.Test.YtgdpaigcmoifbaaGreatXe17
import Derived.Test.YtgdpaigcmoifbaaGreatXe18
import Derived.Test.YtgdpaigcmoifbaaGreatXe19
import Derived.Test.YtgdpaigcmoifbaaGreatXe20
import Derived.Test.YtgdpaigcmoifbaaGreatXe21
import Derived.Test.YtgdpaigcmoifbaaGreatXe22
import Derived.Test.YtgdpaigcmoifbaaGreatXe23
import Derived.Test.YtgdpaigcmoifbaaGreatXe24
import Derived.Test.YtgdpaigcmoifbaaGreatXe25
import Derived.Test.YtgdpaigcmoifbaaGreatXe26
import Derived.Test.YtgdpaigcmoifbaaGreatXe27
import Derived.Test.YtgdpaigcmoifbaaGreatXe28
import Derived.Test.YtgdpaigcmoifbaaGreatXe30
import Derived.Test.YtgdpaigcmoifbaaGreatXe32
import Derived.Test.YtgdpaigcmoifbaaGreatRows
import Derived.WalkKit
import Derived.ProofKit
import Derived.OpenShut
import Derived.ChangeOld
import Derived.Below
namespace Go.Proofs.YtgdpaigcmoifbaaGreat.fnExactCoalWith
open Go.ChangeShapes Go.WideShapes Go.ChangeAt Go.RowKit
set_option linter.unusedVariables false

theorem own : ownKnob Tryz.prog.godebug = none := by kernel_rfl
theorem laidOut : laidOutB Tryz.prog = true := by kernel_rfl

set_option maxRecDepth 100000 in
theorem lifted (os : Os) (started : os.Started) (H : Type) (enc : TypeId × Value → H) :
    ReturnsInHanded {} Tryz.checked os 6 .any (Rows.fnExactCoalWithSpec.pre6 enc Tryz.prog Tryz.f6 Rows.fnExactCoalWithRow.domain false) (Rows.fnExactCoalWithSpec.post enc Tryz.prog Tryz.f6 false true false false) := by
  refine returnsInHanded_of_change (C := Tryz.checked) own started (by kernel_rfl) Tryz.func6
    (ChangeSpec.witness6 (enc := enc) (C := Tryz.checked) false ⟨#[], #[.agg #[.slice none 0 0, .slice none 0 0, .slice none 0 0, .slice none 0 0, .slice none 0 0, .int .i64 0], .int .i64 0, .int .i64 0], []⟩ 8 (by kernel_rfl) (by kernel_rfl) (by kernel_rfl) (by kernel_rfl)) ?_
  intro W base args ds gs before hval0 hW hcnd _
  have hval : ∀ (j : Nat) t v, Tryz.f6.params[j]? = some t → args[j]? = some v → Value.okWide Tryz.prog W .any base t v := hval0
  have hW' := hW
  obtain ⟨p, q, hA0, hV, rfl, hfz, hnd⟩ := hW
  have hA : DataW.TrodAll enc Tryz.prog W 0 (fun _ => true) true Tryz.f6.params.toList args.toList ds p := hA0
  rw [Tryz.params6] at hA hval
  obtain ⟨v0, vs0, d0, ds0, p0, q0, hargs, rfl, rfl, h0, r0⟩ := trodAll_cons hA
  obtain ⟨v1, vs1, d1, ds1, p1, q1, rfl, rfl, rfl, h1, r1⟩ := trodAll_cons r0
  obtain ⟨v2, vs2, d2, ds2, p2, q2, rfl, rfl, rfl, h2, r2⟩ := trodAll_cons r1
  obtain ⟨rfl, rfl, rfl⟩ := trodAll_nil r2
  obtain rfl : args = #[v0, v1, v2] := by cases args; simp_all
  obtain ⟨rfl, rfl⟩ := trodVars_none hV
  have k0 := h0
  have lt0 : ∀ x ∈ p0, x.block < W.heap.size := by obtain ⟨m, hm⟩ := k0; exact DataW.trod_lt m _ _ _ hm
  obtain ⟨y0a, y0b, y0c, y0d, y0e, m0, rfl, w0⟩ := open_smithy (hval 0 64 v0 rfl rfl) h0
  obtain ⟨a1, rfl, rfl, rfl, w1⟩ := open_int Tryz.underlying2 (hval 1 2 v1 rfl rfl) h1
  obtain ⟨a2, rfl, rfl, rfl, w2⟩ := open_int Tryz.underlying2 (hval 2 2 v2 rfl rfl) h2
  clear hA0 hval0
  refine (walkFnExactCoalWith y0a y0b y0c y0d y0e m0 a1 a2 W w0).mono fun e W' ⟨he, bel⟩ => ?_
  subst he
  exact ⟨_, rfl, _, _, _, [], _, [], hW', trodAll_mk1 (shut_bool Tryz.underlying4 _), (trodAll_cons_mk (Below.trod laidOut (by kernel_rfl) (of_decide_eq_true (by kernel_rfl)) k0 bel lt0) (trodAll_cons_mk (shut_int Tryz.underlying2 w1) (trodAll_cons_mk (shut_int Tryz.underlying2 w2) trodAll_mk0))), rfl, bel.frame _, fun h => by cases h⟩

theorem c_inPlace : (Rows.fnExactCoalWithRow.inPlace == Tryz.prog.inPlace 6) = true := by kernel_rfl
theorem c_unfollowed : (Rows.fnExactCoalWithRow.unfollowed == Tryz.prog.unfollowed 6) = true := by kernel_rfl
theorem c_recurses : (Rows.fnExactCoalWithRow.recurses == Tryz.prog.recurses 6) = true := by kernel_rfl
theorem c_named : (Rows.fnExactCoalWithRow.named == Tryz.prog.varsNamed 6) = true := by kernel_rfl
theorem c_all : joinedFacts Tryz.prog 6 Tryz.f6 Rows.fnExactCoalWithSpec Rows.fnExactCoalWithRow = true := by
  unfold joinedFacts
  rw [c_inPlace, c_unfollowed, c_recurses, c_named]
  kernel_rfl
theorem c_fn : Tryz.prog.funcNamed Rows.fnExactCoalWithRow.func = some 6 := by kernel_rfl
theorem over : Rows.fnExactCoalWithRow.holds Tryz.pinned (OpenSpec.ofChange Rows.fnExactCoalWithSpec) :=
  OpenClaim.holds_of_wide 6 Tryz.f6 rfl rfl rfl rfl rfl rfl rfl ⟨rfl, rfl, rfl, rfl, rfl⟩ rfl rfl rfl rfl rfl c_fn Tryz.func6 c_all
    (of_decide_eq_true (by kernel_rfl)) (by unfold Func.isWrapper; first | (rw [if_pos (by decide +kernel)]; kernel_rfl) | (rw [if_neg (by decide +kernel)]; exact ⟨rfl, rfl⟩))
    (fun os started H enc _ => lifted os started H enc)

end Go.Proofs.YtgdpaigcmoifbaaGreat.fnExactCoalWith
namespace Go.Proofs.YtgdpaigcmoifbaaGreat
theorem FnExactCoalWith_holds : Rows.FnExactCoalWithSaid := fnExactCoalWith.over
end Go.Proofs.YtgdpaigcmoifbaaGreat
