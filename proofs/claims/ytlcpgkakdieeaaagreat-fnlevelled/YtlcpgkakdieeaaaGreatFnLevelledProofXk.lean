/- levelled, nobody is at a bench too weak while a strong enough one is idle, and none is idle while one waits who may work there -/
import Derived.Test.YtlcpgkakdieeaaaGreatXk01
import Derived.Test.YtlcpgkakdieeaaaGreatXk02
import Derived.Test.YtlcpgkakdieeaaaGreatXk03
import Derived.Test.YtlcpgkakdieeaaaGreatXk04
import Derived.Test.YtlcpgkakdieeaaaGreatXk05
import Derived.Test.YtlcpgkakdieeaaaGreatXk06
import Derived.Test.YtlcpgkakdieeaaaGreatXk07
import Derived.Test.YtlcpgkakdieeaaaGreatXk08
import Derived.Test.YtlcpgkakdieeaaaGreatXk09
import Derived.Test.YtlcpgkakdieeaaaGreatXk10
import Derived.Test.YtlcpgkakdieeaaaGreatXk11
import Derived.Test.YtlcpgkakdieeaaaGreatXk12
import Derived.Test.YtlcpgkakdieeaaaGreatXk13
import Derived.Test.YtlcpgkakdieeaaaGreatXk14
import Derived.Test.YtlcpgkakdieeaaaGreatXk15
import Derived.Test.YtlcpgkakdieeaaaGreatXk16
import Derived.Test.YtlcpgkakdieeaaaGreatXk17
import Derived.Test.YtlcpgkakdieeaaaGreatXk18
import Derived.Test.YtlcpgkakdieeaaaGreatXk19
import Derived.Test.YtlcpgkakdieeaaaGreatXk20
import Derived.Test.YtlcpgkakdieeaaaGreatXk21
import Derived.Test.YtlcpgkakdieeaaaGreatXk22
import Derived.Test.YtlcpgkakdieeaaaGreatXk23
import Derived.Test.YtlcpgkakdieeaaaGreatXk24
import Derived.Test.YtlcpgkakdieeaaaGreatXk25
import Derived.Test.YtlcpgkakdieeaaaGreatXk26
import Derived.Test.YtlcpgkakdieeaaaGreatXk27
import Derived.Test.YtlcpgkakdieeaaaGreatXk28
import Derived.Test.YtlcpgkakdieeaaaGreatXk29
import Derived.Test.YtlcpgkakdieeaaaGreatXk30
import Derived.Test.YtlcpgkakdieeaaaGreatXk31
import Derived.Test.YtlcpgkakdieeaaaGreatXk32
import Derived.Test.YtlcpgkakdieeaaaGreatXk33
import Derived.Test.YtlcpgkakdieeaaaGreatXk34
import Derived.Test.YtlcpgkakdieeaaaGreatXk35
import Derived.Test.YtlcpgkakdieeaaaGreatXk36
import Derived.Test.YtlcpgkakdieeaaaGreatXk37
import Derived.Test.YtlcpgkakdieeaaaGreatXk38
import Derived.Test.YtlcpgkakdieeaaaGreatXk39
import Derived.Test.YtlcpgkakdieeaaaGreatXk40
import Derived.Test.YtlcpgkakdieeaaaGreatXk41
import Derived.Test.YtlcpgkakdieeaaaGreatXk42
import Derived.Test.YtlcpgkakdieeaaaGreatRows
import Derived.WalkKit
import Derived.ProofKit
import Derived.OpenShut
import Derived.ShutString
import Derived.ChangeOld
import Derived.Below
namespace Go.Proofs.YtlcpgkakdieeaaaGreat.fnLevelled
open Go.ChangeShapes Go.WideShapes Go.ChangeAt Go.RowKit
open Go.ChangeMaps (open_string shut_string)
open Draw (Rz)
set_option linter.unusedVariables false

theorem own : ownKnob Tryz.prog.godebug = none := by kernel_rfl
theorem laidOut : laidOutB Tryz.prog = true := by kernel_rfl

theorem walk (a0 : Option Addr) (len0 cap0 : Nat) (z0 : List Int) (w : World) (w0 : Rz .u8 w a0 len0 cap0 z0) :
    Calls Tryz.prog 3 #[.slice a0 len0 cap0] w fun e w' => e = .returned (.bool true) ∧ Below w.heap.size w w' := by
  exact OR a0 len0 cap0 z0 w w0

set_option maxRecDepth 100000 in
theorem lifted (os : Os) (started : os.Started) (H : Type) (enc : TypeId × Value → H) :
    ReturnsInHanded {} Tryz.checked os 3 .any (Rows.fnLevelledSpec.pre6 enc Tryz.prog Tryz.f3 Rows.fnLevelledRow.domain false) (Rows.fnLevelledSpec.post enc Tryz.prog Tryz.f3 false true false false) := by
  refine returnsInHanded_of_change (C := Tryz.checked) own started (by kernel_rfl) Tryz.func3
    (ChangeSpec.witness6 (enc := enc) (C := Tryz.checked) false ⟨#[], #[.slice none 0 0], []⟩ 8 (by kernel_rfl) (by kernel_rfl) (by kernel_rfl) (by kernel_rfl)) ?_
  intro W base args ds gs before hval0 hW hcnd _
  have hval : ∀ (j : Nat) t v, Tryz.f3.params[j]? = some t → args[j]? = some v → Value.okWide Tryz.prog W .any base t v := hval0
  have hW' := hW
  obtain ⟨p, q, hA0, hV, rfl, hfz, hnd⟩ := hW
  have hA : DataW.TrodAll enc Tryz.prog W 0 (fun _ => true) true Tryz.f3.params.toList args.toList ds p := hA0
  rw [Tryz.params3] at hA hval
  obtain ⟨v0, vs0, d0, ds0, p0, q0, hargs, rfl, rfl, h0, r0⟩ := trodAll_cons hA
  obtain ⟨rfl, rfl, rfl⟩ := trodAll_nil r0
  obtain rfl : args = #[v0] := by cases args; simp_all
  obtain ⟨rfl, rfl⟩ := trodVars_none hV
  obtain ⟨a0, len0, cap0, rfl⟩ := okWide_slice Tryz.underlying22 (hval 0 22 v0 rfl rfl)
  have k0 := h0
  have lt0 : ∀ x ∈ p0, x.block < W.heap.size := by obtain ⟨m, hm⟩ := k0; exact DataW.trod_lt m _ _ _ hm
  obtain ⟨z0, w0⟩ : ∃ zs, Rz .u8 W a0 len0 cap0 zs := by
    obtain ⟨fuel, hf⟩ := h0
    rcases open_ints Tryz.underlying22 Tryz.underlying5 (by kernel_rfl) hf with ⟨hcs, _⟩ | ⟨x, l, c, zs, hcs, _, hl, hm, hz, _, hcell, hwz⟩
    · simp [Value.cells] at hcs
      obtain ⟨rfl, rfl, rfl⟩ := hcs
      exact ⟨[], .inl ⟨rfl, rfl, rfl, rfl⟩⟩
    · simp [Value.cells] at hcs
      obtain ⟨rfl, rfl, rfl⟩ := hcs
      exact ⟨zs, .inr ⟨_, rfl, hl, hm, by simpa using hz, hcell, hwz⟩⟩
  clear hA0 hval0
  refine (walk a0 len0 cap0 z0 W w0).mono fun e W' ⟨he, bel⟩ => ?_
  subst he
  exact ⟨_, rfl, _, _, _, [], _, [], hW', trodAll_mk1 (shut_bool Tryz.underlying4 _), (trodAll_cons_mk (Below.trod laidOut (by kernel_rfl) (of_decide_eq_true (by kernel_rfl)) k0 bel lt0) trodAll_mk0), rfl, bel.frame _, fun h => by cases h⟩

theorem c_inPlace : (Rows.fnLevelledRow.inPlace == Tryz.prog.inPlace 3) = true := by kernel_rfl
theorem c_unfollowed : (Rows.fnLevelledRow.unfollowed == Tryz.prog.unfollowed 3) = true := by kernel_rfl
theorem c_recurses : (Rows.fnLevelledRow.recurses == Tryz.prog.recurses 3) = true := by kernel_rfl
theorem c_named : (Rows.fnLevelledRow.named == Tryz.prog.varsNamed 3) = true := by kernel_rfl
theorem c_all : joinedFacts Tryz.prog 3 Tryz.f3 Rows.fnLevelledSpec Rows.fnLevelledRow = true := by
  unfold joinedFacts
  rw [c_inPlace, c_unfollowed, c_recurses, c_named]
  kernel_rfl
theorem c_fn : Tryz.prog.funcNamed Rows.fnLevelledRow.func = some 3 := by kernel_rfl
theorem over : Rows.fnLevelledRow.holds Tryz.pinned (OpenSpec.ofChange Rows.fnLevelledSpec) :=
  OpenClaim.holds_of_wide 3 Tryz.f3 rfl rfl rfl rfl rfl rfl rfl ⟨rfl, rfl, rfl, rfl, rfl⟩ rfl rfl rfl rfl rfl c_fn Tryz.func3 c_all
    (of_decide_eq_true (by kernel_rfl)) (by unfold Func.isWrapper; first | (rw [if_pos (by decide +kernel)]; kernel_rfl) | (rw [if_neg (by decide +kernel)]; exact ⟨rfl, rfl⟩))
    (fun os started H enc _ => lifted os started H enc)

theorem proved : Rows.FnLevelledSaid := over
#print axioms proved
end Go.Proofs.YtlcpgkakdieeaaaGreat.fnLevelled
namespace Go.Proofs.YtlcpgkakdieeaaaGreat
theorem FnLevelled_holds : Rows.FnLevelledSaid := fnLevelled.over
end Go.Proofs.YtlcpgkakdieeaaaGreat
