/- FnRight: what is At a bench, what is used there and what one wants is what the lists say, for every input; no condition. -/
import Derived.Test.YthbbahagpmdooaaGreatXq01
import Derived.Test.YthbbahagpmdooaaGreatXq02
import Derived.Test.YthbbahagpmdooaaGreatXq03
import Derived.Test.YthbbahagpmdooaaGreatXq04
import Derived.Test.YthbbahagpmdooaaGreatXq05
import Derived.Test.YthbbahagpmdooaaGreatXq06
import Derived.Test.YthbbahagpmdooaaGreatXq07
import Derived.Test.YthbbahagpmdooaaGreatXq08
import Derived.Test.YthbbahagpmdooaaGreatXq09
import Derived.Test.YthbbahagpmdooaaGreatXq10
import Derived.Test.YthbbahagpmdooaaGreatXq11
import Derived.Test.YthbbahagpmdooaaGreatXq12
import Derived.Test.YthbbahagpmdooaaGreatXq13
import Derived.Test.YthbbahagpmdooaaGreatXq14
import Derived.Test.YthbbahagpmdooaaGreatXq15
import Derived.Test.YthbbahagpmdooaaGreatXq16
import Derived.Test.YthbbahagpmdooaaGreatXq17
import Derived.Test.YthbbahagpmdooaaGreatXq18
import Derived.Test.YthbbahagpmdooaaGreatXq19
import Derived.Test.YthbbahagpmdooaaGreatXq20
import Derived.Test.YthbbahagpmdooaaGreatXq21
import Derived.Test.YthbbahagpmdooaaGreatXq22
import Derived.Test.YthbbahagpmdooaaGreatXq23
import Derived.Test.YthbbahagpmdooaaGreatXq24
import Derived.Test.YthbbahagpmdooaaGreatXq25
import Derived.Test.YthbbahagpmdooaaGreatXq26
import Derived.Test.YthbbahagpmdooaaGreatXq27
import Derived.Test.YthbbahagpmdooaaGreatXq28
import Derived.Test.YthbbahagpmdooaaGreatXq29
import Derived.Test.YthbbahagpmdooaaGreatXq30
import Derived.Test.YthbbahagpmdooaaGreatXq31
import Derived.Test.YthbbahagpmdooaaGreatXq32
import Derived.Test.YthbbahagpmdooaaGreatXq33
import Derived.Test.YthbbahagpmdooaaGreatXq34
import Derived.Test.YthbbahagpmdooaaGreatXq35
import Derived.Test.YthbbahagpmdooaaGreatXq36
import Derived.Test.YthbbahagpmdooaaGreatXq37
import Derived.Test.YthbbahagpmdooaaGreatXq38
import Derived.Test.YthbbahagpmdooaaGreatXq39
import Derived.Test.YthbbahagpmdooaaGreatXq40
import Derived.Test.YthbbahagpmdooaaGreatXq41
import Derived.Test.YthbbahagpmdooaaGreatXq42
import Derived.Test.YthbbahagpmdooaaGreatXq43
import Derived.Test.YthbbahagpmdooaaGreatRows
import Derived.WalkKit
import Derived.ProofKit
import Derived.OpenShut
import Derived.ShutString
import Derived.ChangeOld
import Derived.Below
namespace Go.Proofs.YthbbahagpmdooaaGreat.fnRight
open Go.ChangeShapes Go.WideShapes Go.ChangeAt Go.RowKit
open Go.ChangeMaps (open_string shut_string)
open Draw (NR)
set_option linter.unusedVariables false

theorem own : ownKnob Tryz.prog.godebug = none := by kernel_rfl
theorem laidOut : laidOutB Tryz.prog = true := by kernel_rfl

theorem walk (a0 : Option Addr) (len0 cap0 : Nat) (z0 : List Int) (w : World) (w0 : NR .u8 w a0 len0 cap0 z0) :
    Calls Tryz.prog 3 #[.slice a0 len0 cap0] w fun e w' => e = .returned (.bool true) ∧ Below w.heap.size w w' := by
  exact MS a0 len0 cap0 z0 w w0

set_option maxRecDepth 100000 in
theorem lifted (os : Os) (started : os.Started) (H : Type) (enc : TypeId × Value → H) :
    ReturnsInHanded {} Tryz.checked os 3 .any (Rows.fnRightSpec.pre6 enc Tryz.prog Tryz.f3 Rows.fnRightRow.domain false) (Rows.fnRightSpec.post enc Tryz.prog Tryz.f3 false true false false) := by
  refine returnsInHanded_of_change (C := Tryz.checked) own started (by kernel_rfl) Tryz.func3
    (ChangeSpec.witness6 (enc := enc) (C := Tryz.checked) false ⟨#[], #[.slice none 0 0], []⟩ 8 (by kernel_rfl) (by kernel_rfl) (by kernel_rfl) (by kernel_rfl)) ?_
  intro W base args ds gs before hval0 hW hcnd _
  have hval : ∀ (j : Nat) t v, Tryz.f3.params[j]? = some t → args[j]? = some v → Value.okWide Tryz.prog W .any base t v := hval0
  have hW' := hW
  obtain ⟨p, q, hA0, hV, rfl, hfz, hnd⟩ := hW
  have hA : DataW.TrodAll enc Tryz.prog W 0 (fun _ => true) true Tryz.f3.params.toList args.toList ds p := hA0
  rw [Tryz.params3] at hA hval
  obtain ⟨v0, vs0, d0, ds0, p0, q0, hargs, rfl, rfl, h0, r0⟩ := trodAll_cons hA
  obtain ⟨rfl, rfl, rfl⟩ := trodAll_nil r0
  obtain rfl : args = #[v0] := by cases args; simp_all
  obtain ⟨rfl, rfl⟩ := trodVars_none hV
  obtain ⟨a0, len0, cap0, rfl⟩ := okWide_slice Tryz.underlying22 (hval 0 22 v0 rfl rfl)
  have k0 := h0
  have lt0 : ∀ x ∈ p0, x.block < W.heap.size := by obtain ⟨m, hm⟩ := k0; exact DataW.trod_lt m _ _ _ hm
  obtain ⟨z0, w0⟩ : ∃ zs, NR .u8 W a0 len0 cap0 zs := by
    obtain ⟨fuel, hf⟩ := h0
    rcases open_ints Tryz.underlying22 Tryz.underlying5 (by kernel_rfl) hf with ⟨hcs, _⟩ | ⟨x, l, c, zs, hcs, _, hl, hm, hz, _, hcell, hwz⟩
    · simp [Value.cells] at hcs
      obtain ⟨rfl, rfl, rfl⟩ := hcs
      exact ⟨[], .inl ⟨rfl, rfl, rfl, rfl⟩⟩
    · simp [Value.cells] at hcs
      obtain ⟨rfl, rfl, rfl⟩ := hcs
      exact ⟨zs, .inr ⟨_, rfl, hl, hm, by simpa using hz, hcell, hwz⟩⟩
  clear hA0 hval0
  refine (walk a0 len0 cap0 z0 W w0).mono fun e W' ⟨he, bel⟩ => ?_
  subst he
  exact ⟨_, rfl, _, _, _, [], _, [], hW', trodAll_mk1 (shut_bool Tryz.underlying4 _), (trodAll_cons_mk (Below.trod laidOut (by kernel_rfl) (of_decide_eq_true (by kernel_rfl)) k0 bel lt0) trodAll_mk0), rfl, bel.frame _, fun h => by cases h⟩

theorem c_inPlace : (Rows.fnRightRow.inPlace == Tryz.prog.inPlace 3) = true := by kernel_rfl
theorem c_unfollowed : (Rows.fnRightRow.unfollowed == Tryz.prog.unfollowed 3) = true := by kernel_rfl
theorem c_recurses : (Rows.fnRightRow.recurses == Tryz.prog.recurses 3) = true := by kernel_rfl
theorem c_named : (Rows.fnRightRow.named == Tryz.prog.varsNamed 3) = true := by kernel_rfl
theorem c_all : joinedFacts Tryz.prog 3 Tryz.f3 Rows.fnRightSpec Rows.fnRightRow = true := by
  unfold joinedFacts
  rw [c_inPlace, c_unfollowed, c_recurses, c_named]
  kernel_rfl
theorem c_fn : Tryz.prog.funcNamed Rows.fnRightRow.func = some 3 := by kernel_rfl
theorem over : Rows.fnRightRow.holds Tryz.pinned (OpenSpec.ofChange Rows.fnRightSpec) :=
  OpenClaim.holds_of_wide 3 Tryz.f3 rfl rfl rfl rfl rfl rfl rfl ⟨rfl, rfl, rfl, rfl, rfl⟩ rfl rfl rfl rfl rfl c_fn Tryz.func3 c_all
    (of_decide_eq_true (by kernel_rfl)) (by unfold Func.isWrapper; first | (rw [if_pos (by decide +kernel)]; kernel_rfl) | (rw [if_neg (by decide +kernel)]; exact ⟨rfl, rfl⟩))
    (fun os started H enc _ => lifted os started H enc)

theorem proved : Rows.FnRightSaid := over
#print axioms proved
end Go.Proofs.YthbbahagpmdooaaGreat.fnRight
namespace Go.Proofs.YthbbahagpmdooaaGreat
theorem FnRight_holds : Rows.FnRightSaid := fnRight.over
end Go.Proofs.YthbbahagpmdooaaGreat
