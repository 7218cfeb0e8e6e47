/- At every smithy the program answers Working as the model does, in memory of its own, and leaves the smithy as it was. No condition. -/
import Derived.Test.YtmfmfdiphlkdiaaGreatXt01
import Derived.Test.YtmfmfdiphlkdiaaGreatXt02
import Derived.Test.YtmfmfdiphlkdiaaGreatXt03
import Derived.Test.YtmfmfdiphlkdiaaGreatXt04
import Derived.Test.YtmfmfdiphlkdiaaGreatXt05
import Derived.Test.YtmfmfdiphlkdiaaGreatXt06
import Derived.Test.YtmfmfdiphlkdiaaGreatXt07
import Derived.Test.YtmfmfdiphlkdiaaGreatXt08
import Derived.Test.YtmfmfdiphlkdiaaGreatXt09
import Derived.Test.YtmfmfdiphlkdiaaGreatXt10
import Derived.Test.YtmfmfdiphlkdiaaGreatXt11
import Derived.Test.YtmfmfdiphlkdiaaGreatXt12
import Derived.Test.YtmfmfdiphlkdiaaGreatXt13
import Derived.Test.YtmfmfdiphlkdiaaGreatRows
import Derived.WalkKit
import Derived.ProofKit
import Derived.OpenShut
import Derived.ChangeOld
import Derived.Below
namespace Go.Proofs.YtmfmfdiphlkdiaaGreat.fnExactWorking
open Go.ChangeShapes Go.WideShapes Go.ChangeAt Go.RowKit
set_option linter.unusedVariables false

theorem own : ownKnob Tryz.prog.godebug = none := by kernel_rfl
theorem laidOut : laidOutB Tryz.prog = true := by kernel_rfl

set_option maxRecDepth 100000 in
theorem lifted (os : Os) (started : os.Started) (H : Type) (enc : TypeId × Value → H) :
    ReturnsInHanded {} Tryz.checked os 8 .any (Rows.fnExactWorkingSpec.pre6 enc Tryz.prog Tryz.f8 Rows.fnExactWorkingRow.domain false) (Rows.fnExactWorkingSpec.post enc Tryz.prog Tryz.f8 false true false false) := by
  refine returnsInHanded_of_change (C := Tryz.checked) own started (by kernel_rfl) Tryz.func8
    (ChangeSpec.witness6 (enc := enc) (C := Tryz.checked) false ⟨#[], #[.agg #[.slice none 0 0, .slice none 0 0, .slice none 0 0, .slice none 0 0, .slice none 0 0, .int .i64 0]], []⟩ 8 (by kernel_rfl) (by kernel_rfl) (by kernel_rfl) (by kernel_rfl)) ?_
  intro W base args ds gs before hval0 hW hcnd _
  have hval : ∀ (j : Nat) t v, Tryz.f8.params[j]? = some t → args[j]? = some v → Value.okWide Tryz.prog W .any base t v := hval0
  have hW' := hW
  obtain ⟨p, q, hA0, hV, rfl, hfz, hnd⟩ := hW
  have hA : DataW.TrodAll enc Tryz.prog W 0 (fun _ => true) true Tryz.f8.params.toList args.toList ds p := hA0
  rw [Tryz.params8] at hA hval
  obtain ⟨v0, vs0, d0, ds0, p0, q0, hargs, rfl, rfl, h0, r0⟩ := trodAll_cons hA
  obtain ⟨rfl, rfl, rfl⟩ := trodAll_nil r0
  obtain rfl : args = #[v0] := by cases args; simp_all
  obtain ⟨rfl, rfl⟩ := trodVars_none hV
  have k0 := h0
  have lt0 : ∀ x ∈ p0, x.block < W.heap.size := by obtain ⟨m, hm⟩ := k0; exact DataW.trod_lt m _ _ _ hm
  obtain ⟨y0a, y0b, y0c, y0d, y0e, m0, rfl, w0⟩ := open_smithy (hval 0 63 v0 rfl rfl) h0
  clear hA0 hval0
  refine (walkFnExactWorking y0a y0b y0c y0d y0e m0 W w0).mono fun e W' ⟨he, bel⟩ => ?_
  subst he
  exact ⟨_, rfl, _, _, _, [], _, [], hW', trodAll_mk1 (shut_bool Tryz.underlying4 _), (trodAll_cons_mk (Below.trod laidOut (by kernel_rfl) (of_decide_eq_true (by kernel_rfl)) k0 bel lt0) trodAll_mk0), rfl, bel.frame _, fun h => by cases h⟩

theorem over : Rows.fnExactWorkingRow.holds Tryz.pinned (OpenSpec.ofChange Rows.fnExactWorkingSpec) :=
  OpenClaim.holds_of_wide 8 Tryz.f8 rfl rfl rfl rfl rfl rfl rfl ⟨rfl, rfl, rfl, rfl, rfl⟩ rfl rfl rfl rfl rfl (by kernel_rfl) Tryz.func8 (by kernel_rfl)
    (of_decide_eq_true (by kernel_rfl)) (by unfold Func.isWrapper; first | (rw [if_pos (by decide +kernel)]; kernel_rfl) | (rw [if_neg (by decide +kernel)]; exact ⟨rfl, rfl⟩))
    (fun os started H enc _ => lifted os started H enc)

end Go.Proofs.YtmfmfdiphlkdiaaGreat.fnExactWorking
namespace Go.Proofs.YtmfmfdiphlkdiaaGreat
theorem FnExactWorking_holds : Rows.FnExactWorkingSaid := fnExactWorking.over
end Go.Proofs.YtmfmfdiphlkdiaaGreat
