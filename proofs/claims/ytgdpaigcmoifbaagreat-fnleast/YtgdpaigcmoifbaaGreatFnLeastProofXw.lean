/- who works had least of all there, and where one waits somebody works -/
import Derived.Test.YtgdpaigcmoifbaaGreatXw01
import Derived.Test.YtgdpaigcmoifbaaGreatXw02
import Derived.Test.YtgdpaigcmoifbaaGreatXw03
import Derived.Test.YtgdpaigcmoifbaaGreatXw04
import Derived.Test.YtgdpaigcmoifbaaGreatXw05
import Derived.Test.YtgdpaigcmoifbaaGreatXw06
import Derived.Test.YtgdpaigcmoifbaaGreatXw07
import Derived.Test.YtgdpaigcmoifbaaGreatXw08
import Derived.Test.YtgdpaigcmoifbaaGreatXw09
import Derived.Test.YtgdpaigcmoifbaaGreatXw10
import Derived.Test.YtgdpaigcmoifbaaGreatXw11
import Derived.Test.YtgdpaigcmoifbaaGreatXw12
import Derived.Test.YtgdpaigcmoifbaaGreatXw13
import Derived.Test.YtgdpaigcmoifbaaGreatXw14
import Derived.Test.YtgdpaigcmoifbaaGreatXw15
import Derived.Test.YtgdpaigcmoifbaaGreatXw16
import Derived.Test.YtgdpaigcmoifbaaGreatXw17
import Derived.Test.YtgdpaigcmoifbaaGreatXw18
import Derived.Test.YtgdpaigcmoifbaaGreatXw19
import Derived.Test.YtgdpaigcmoifbaaGreatXw20
import Derived.Test.YtgdpaigcmoifbaaGreatXw21
import Derived.Test.YtgdpaigcmoifbaaGreatXw22
import Derived.Test.YtgdpaigcmoifbaaGreatXw23
import Derived.Test.YtgdpaigcmoifbaaGreatXw24
import Derived.Test.YtgdpaigcmoifbaaGreatXw25
import Derived.Test.YtgdpaigcmoifbaaGreatXw26
import Derived.Test.YtgdpaigcmoifbaaGreatXw27
import Derived.Test.YtgdpaigcmoifbaaGreatXw28
import Derived.Test.YtgdpaigcmoifbaaGreatXw29
import Derived.Test.YtgdpaigcmoifbaaGreatXw30
import Derived.Test.YtgdpaigcmoifbaaGreatXw31
import Derived.Test.YtgdpaigcmoifbaaGreatXw32
import Derived.Test.YtgdpaigcmoifbaaGreatXw33
import Derived.Test.YtgdpaigcmoifbaaGreatXw34
import Derived.Test.YtgdpaigcmoifbaaGreatXw35
import Derived.Test.YtgdpaigcmoifbaaGreatXw36
import Derived.Test.YtgdpaigcmoifbaaGreatXw37
import Derived.Test.YtgdpaigcmoifbaaGreatXw38
import Derived.Test.YtgdpaigcmoifbaaGreatXw39
import Derived.Test.YtgdpaigcmoifbaaGreatXw41
import Derived.Test.YtgdpaigcmoifbaaGreatXw42
import Derived.Test.YtgdpaigcmoifbaaGreatXw43
import Derived.Test.YtgdpaigcmoifbaaGreatXw44
import Derived.Test.YtgdpaigcmoifbaaGreatRows
import Derived.WalkKit
import Derived.ProofKit
import Derived.OpenShut
import Derived.ShutString
import Derived.ChangeOld
import Derived.Below
namespace Go.Proofs.YtgdpaigcmoifbaaGreat.fnLeast
open Go.ChangeShapes Go.WideShapes Go.ChangeAt Go.RowKit
open Go.ChangeMaps (open_string shut_string)
open Draw (Vt)
set_option linter.unusedVariables false

theorem own : ownKnob Tryz.prog.godebug = none := by kernel_rfl
theorem laidOut : laidOutB Tryz.prog = true := by kernel_rfl

theorem walk (a0 : Option Addr) (len0 cap0 : Nat) (z0 : List Int) (w : World) (w0 : Vt .u8 w a0 len0 cap0 z0) :
    Calls Tryz.prog 11 #[.slice a0 len0 cap0] w fun e w' => e = .returned (.bool true) ∧ Below w.heap.size w w' := by
  exact IE a0 len0 cap0 z0 w w0

set_option maxRecDepth 100000 in
theorem lifted (os : Os) (started : os.Started) (H : Type) (enc : TypeId × Value → H) :
    ReturnsInHanded {} Tryz.checked os 11 .any (Rows.fnLeastSpec.pre6 enc Tryz.prog Tryz.f11 Rows.fnLeastRow.domain false) (Rows.fnLeastSpec.post enc Tryz.prog Tryz.f11 false true false false) := by
  refine returnsInHanded_of_change (C := Tryz.checked) own started (by kernel_rfl) Tryz.func11
    (ChangeSpec.witness6 (enc := enc) (C := Tryz.checked) false ⟨#[], #[.slice none 0 0], []⟩ 8 (by kernel_rfl) (by kernel_rfl) (by kernel_rfl) (by kernel_rfl)) ?_
  intro W base args ds gs before hval0 hW hcnd _
  have hval : ∀ (j : Nat) t v, Tryz.f11.params[j]? = some t → args[j]? = some v → Value.okWide Tryz.prog W .any base t v := hval0
  have hW' := hW
  obtain ⟨p, q, hA0, hV, rfl, hfz, hnd⟩ := hW
  have hA : DataW.TrodAll enc Tryz.prog W 0 (fun _ => true) true Tryz.f11.params.toList args.toList ds p := hA0
  rw [Tryz.params11] at hA hval
  obtain ⟨v0, vs0, d0, ds0, p0, q0, hargs, rfl, rfl, h0, r0⟩ := trodAll_cons hA
  obtain ⟨rfl, rfl, rfl⟩ := trodAll_nil r0
  obtain rfl : args = #[v0] := by cases args; simp_all
  obtain ⟨rfl, rfl⟩ := trodVars_none hV
  obtain ⟨a0, len0, cap0, rfl⟩ := okWide_slice Tryz.underlying22 (hval 0 22 v0 rfl rfl)
  have k0 := h0
  have lt0 : ∀ x ∈ p0, x.block < W.heap.size := by obtain ⟨m, hm⟩ := k0; exact DataW.trod_lt m _ _ _ hm
  obtain ⟨z0, w0⟩ : ∃ zs, Vt .u8 W a0 len0 cap0 zs := by
    obtain ⟨fuel, hf⟩ := h0
    rcases open_ints Tryz.underlying22 Tryz.underlying5 (by kernel_rfl) hf with ⟨hcs, _⟩ | ⟨x, l, c, zs, hcs, _, hl, hm, hz, _, hcell, hwz⟩
    · simp [Value.cells] at hcs
      obtain ⟨rfl, rfl, rfl⟩ := hcs
      exact ⟨[], .inl ⟨rfl, rfl, rfl, rfl⟩⟩
    · simp [Value.cells] at hcs
      obtain ⟨rfl, rfl, rfl⟩ := hcs
      exact ⟨zs, .inr ⟨_, rfl, hl, hm, by simpa using hz, hcell, hwz⟩⟩
  clear hA0 hval0
  refine (walk a0 len0 cap0 z0 W w0).mono fun e W' ⟨he, bel⟩ => ?_
  subst he
  exact ⟨_, rfl, _, _, _, [], _, [], hW', trodAll_mk1 (shut_bool Tryz.underlying4 _), (trodAll_cons_mk (Below.trod laidOut (by kernel_rfl) (of_decide_eq_true (by kernel_rfl)) k0 bel lt0) trodAll_mk0), rfl, bel.frame _, fun h => by cases h⟩

theorem c_inPlace : (Rows.fnLeastRow.inPlace == Tryz.prog.inPlace 11) = true := by kernel_rfl
theorem c_unfollowed : (Rows.fnLeastRow.unfollowed == Tryz.prog.unfollowed 11) = true := by kernel_rfl
theorem c_recurses : (Rows.fnLeastRow.recurses == Tryz.prog.recurses 11) = true := by kernel_rfl
theorem c_named : (Rows.fnLeastRow.named == Tryz.prog.varsNamed 11) = true := by kernel_rfl
theorem c_all : joinedFacts Tryz.prog 11 Tryz.f11 Rows.fnLeastSpec Rows.fnLeastRow = true := by
  unfold joinedFacts
  rw [c_inPlace, c_unfollowed, c_recurses, c_named]
  kernel_rfl
theorem c_fn : Tryz.prog.funcNamed Rows.fnLeastRow.func = some 11 := by kernel_rfl
theorem over : Rows.fnLeastRow.holds Tryz.pinned (OpenSpec.ofChange Rows.fnLeastSpec) :=
  OpenClaim.holds_of_wide 11 Tryz.f11 rfl rfl rfl rfl rfl rfl rfl ⟨rfl, rfl, rfl, rfl, rfl⟩ rfl rfl rfl rfl rfl c_fn Tryz.func11 c_all
    (of_decide_eq_true (by kernel_rfl)) (by unfold Func.isWrapper; first | (rw [if_pos (by decide +kernel)]; kernel_rfl) | (rw [if_neg (by decide +kernel)]; exact ⟨rfl, rfl⟩))
    (fun os started H enc _ => lifted os started H enc)

theorem proved : Rows.FnLeastSaid := over
#print axioms proved
end Go.Proofs.YtgdpaigcmoifbaaGreat.fnLeast
namespace Go.Proofs.YtgdpaigcmoifbaaGreat
theorem FnLeast_holds : Rows.FnLeastSaid := fnLeast.over
end Go.Proofs.YtgdpaigcmoifbaaGreat
