/- FnActText: an act is read from its text. -/
import Derived.Test.YtmdgokjeobnnaaaGreatDoorXt01
import Derived.Test.YtmdgokjeobnnaaaGreatDoorXt02
import Derived.Test.YtmdgokjeobnnaaaGreatDoorXt03
import Derived.Test.YtmdgokjeobnnaaaGreatDoorXt04
import Derived.Test.YtmdgokjeobnnaaaGreatDoorXt05
import Derived.Test.YtmdgokjeobnnaaaGreatDoorXt06
import Derived.Test.YtmdgokjeobnnaaaGreatDoorXt07
import Derived.Test.YtmdgokjeobnnaaaGreatDoorXt08
import Derived.Test.YtmdgokjeobnnaaaGreatDoorXt09
import Derived.Test.YtmdgokjeobnnaaaGreatDoorXt10
import Derived.Test.YtmdgokjeobnnaaaGreatDoorXt11
import Derived.Test.YtmdgokjeobnnaaaGreatDoorXt12
import Derived.Test.YtmdgokjeobnnaaaGreatDoorXt13
import Derived.Test.YtmdgokjeobnnaaaGreatDoorXt14
import Derived.Test.YtmdgokjeobnnaaaGreatDoorXt15
import Derived.Test.YtmdgokjeobnnaaaGreatDoorXt16
import Derived.Test.YtmdgokjeobnnaaaGreatDoorXt17
import Derived.Test.YtmdgokjeobnnaaaGreatDoorXt18
import Derived.Test.YtmdgokjeobnnaaaGreatDoorXt19
import Derived.Test.YtmdgokjeobnnaaaGreatDoorXt20
import Derived.Test.YtmdgokjeobnnaaaGreatDoorXt21
import Derived.Test.YtmdgokjeobnnaaaGreatDoorXt22
import Derived.Test.YtmdgokjeobnnaaaGreatDoorXt23
import Derived.Test.YtmdgokjeobnnaaaGreatDoorXt24
import Derived.Test.YtmdgokjeobnnaaaGreatDoorXt25
import Derived.Test.YtmdgokjeobnnaaaGreatDoorXt26
import Derived.Test.YtmdgokjeobnnaaaGreatDoorXt27
import Derived.Test.YtmdgokjeobnnaaaGreatDoorXt28
import Derived.Test.YtmdgokjeobnnaaaGreatDoorXt29
import Derived.Test.YtmdgokjeobnnaaaGreatDoorXt30
import Derived.Test.YtmdgokjeobnnaaaGreatDoorXt31
import Derived.Test.YtmdgokjeobnnaaaGreatDoorXt32
import Derived.Test.YtmdgokjeobnnaaaGreatDoorRows
import Derived.Test.YtmdgokjeobnnaaaGreatDoorCards
import Derived.Test.YtmdgokjeobnnaaaGreatDoorTie
import Derived.WalkKit
import Derived.ProofKit
import Derived.OpenShut
import Derived.ChangeOld
import Derived.Below
import Derived.LaidMore
import Derived.Stop.Joined
import Derived.SevenTiedAt
import Derived.LaidSub
import Derived.LaidOnce
namespace Go.Proofs.YtmdgokjeobnnaaaGreatDoor.fnActText
open Go.ChangeShapes Go.WideShapes Go.ChangeAt Go.WideMaps Go.WideElems Go.RowKit
open Go.ChangeMaps (open_string shut_string)
set_option linter.unusedVariables false

theorem own : ownKnob Tryz.prog.godebug = none := by kernel_rfl
theorem laidOut : laidOutB Tryz.prog = true := by kernel_rfl
set_option maxRecDepth 100000 in
theorem lifted (os : Os) (started : os.Started) (H : Type) (enc : TypeId × Value → H) :
    ReturnsInHanded {} Tryz.checked os 3 .any (fun w args => (Rows.fnActTextSpec.pre enc Tryz.prog Tryz.f3 [] false w args ∧ laidMetH Tryz.prog Rows.fnActTextRow.laid w) ∧ sizedMet enc Tryz.prog Tryz.f3 (OpenSpec.ofChange Rows.fnActTextSpec) false w args)
      (Rows.fnActTextSpec.post enc Tryz.prog Tryz.f3 false true false false) := by
  refine Xt (C := Tryz.checked) (X := fun w _ => laidMetH Tryz.prog Rows.fnActTextRow.laid w) (fun _ _ _ hh h => h.of_heap hh) own started (by kernel_rfl) Tryz.func3
    (ChangeSpec.witness_shaped (enc := enc) (C := Tryz.checked) (os := os) (X := fun w _ => laidMetH Tryz.prog Rows.fnActTextRow.laid w) false (World.laidAll Tryz.prog os Rows.fnActTextRow.laid) #[.slice none 0 0] 8 (World.laidAll_os _ _ _)
      (World.shaped_of_ZipB (by kernel_rfl) (by kernel_rfl)) (by kernel_rfl) (by kernel_rfl) (by kernel_rfl)
      (by rw [MakeChecks.laidMetH_plain _ _ _ (by kernel_rfl)]; exact laidMet_laidAll _ (by kernel_rfl) (by kernel_rfl))) ?_
  intro W base args ds gs before hval0 hW _ hL hsh
  have hval : ∀ (j : Nat) t v, Tryz.f3.params[j]? = some t → args[j]? = some v → Value.okWide Tryz.prog W .any base t v := hval0
  have hW' := hW
  obtain ⟨p, q, hA0, hV, rfl, hfz, hnd⟩ := hW
  have hA : DataW.TrodAll enc Tryz.prog W 0 (fun _ => true) true Tryz.f3.params.toList args.toList ds p := hA0
  rw [Tryz.params3] at hA hval
  obtain ⟨v0, vs0, d0, ds0, p0, q0, hargs, rfl, rfl, h0, r0⟩ := trodAll_cons hA
  obtain ⟨rfl, rfl, rfl⟩ := trodAll_nil r0
  obtain rfl : args = #[v0] := by cases args; simp_all
  obtain ⟨rfl, rfl⟩ := trodVars_none hV
  have k0 := h0
  have lt0 : ∀ x ∈ p0, x.block < W.heap.size := by obtain ⟨m, hm⟩ := k0; exact DataW.trod_lt m _ _ _ hm
  obtain ⟨a0, len0, cap0, rfl⟩ := okWide_slice Tryz.underlying22 (hval 0 22 v0 rfl rfl)
  obtain ⟨z0, w0⟩ : ∃ zs, Draw.IsRow .u8 W a0 len0 cap0 zs := by
    obtain ⟨fuel, hf⟩ := h0
    rcases open_ints Tryz.underlying22 Tryz.underlying5 (by kernel_rfl) hf with ⟨hcs, _⟩ | ⟨x, l, c, zs, hcs, _, hl, hm, hz, _, hcell, hwz⟩
    · simp [Value.cells] at hcs
      obtain ⟨rfl, rfl, rfl⟩ := hcs
      exact ⟨[], .inl ⟨rfl, rfl, rfl, rfl⟩⟩
    · simp [Value.cells] at hcs
      obtain ⟨rfl, rfl, rfl⟩ := hcs
      exact ⟨zs, .inr ⟨_, rfl, hl, hm, by simpa using hz, hcell, hwz⟩⟩
  clear hA0 hval0
  refine (P2 a0 len0 cap0 z0 W w0 (PQ hL hsh)).mono fun e W' ⟨he, bel⟩ => ?_
  subst he
  exact ⟨_, rfl, _, _, _, [], _, [], hW', trodAll_mk1 (shut_bool Tryz.underlying4 _), (trodAll_cons_mk (Below.trod laidOut (by kernel_rfl) (of_decide_eq_true (by kernel_rfl)) k0 bel lt0) trodAll_mk0), rfl, bel.frame _, fun h => by cases h⟩

theorem over : Rows.fnActTextRow.holds Tryz.pinned (OpenSpec.ofChange Rows.fnActTextSpec) :=
  OpenClaim.holds_of_wide 3 Tryz.f3 rfl rfl rfl rfl rfl rfl rfl ⟨rfl, rfl, rfl, rfl, rfl⟩ rfl rfl rfl rfl rfl (by kernel_rfl) Tryz.func3 (by kernel_rfl)
    (of_decide_eq_true (by kernel_rfl)) (by unfold Func.isWrapper; first | (rw [if_pos (by decide +kernel)]; kernel_rfl) | (rw [if_neg (by decide +kernel)]; exact ⟨rfl, rfl⟩))
    (fun os started H enc _ => lifted os started H enc)

end Go.Proofs.YtmdgokjeobnnaaaGreatDoor.fnActText
namespace Go.Proofs.YtmdgokjeobnnaaaGreatDoor
open Go
theorem FnActText_holds : Rows.FnActTextCardSaid :=
  Claim7.holds_tied_plain_at .later [] [.data, .data, .data, .data, .sentinel, .sentinel, .pinned] true (true, "993a0ca7a81f593227b18318a44cfdd9a79ab56310cd397a68762cf996cfc34d") true
    fnActText.over (fun _ h => by cases h) (by kernel_rfl) (fun _ h => by cases h) fnActText_row_tie rfl ⟨rfl, rfl⟩ (by kernel_rfl) rfl
    (fun f fn hf hfn => by
      obtain rfl : f = 3 := Option.some.inj ((show Tryz.prog.funcNamed "loop.example/g00553/laws.FnActText" = some 3 by kernel_rfl).symm.trans hf) |>.symm
      obtain rfl : fn = Tryz.f3 := (Option.some.inj (Tryz.func3.symm.trans hfn)).symm
      exact ⟨by kernel_rfl, fun j t ht => by
        rw [Tryz.params3] at ht
        have hm : t ∈ [22] := by simpa using Array.mem_of_getElem? ht
        have hall : ([22].all fun u => !Tryz.prog.wantsStandIn u) = true := by kernel_rfl
        exact (show Tryz.prog.wantsStandIn t = false by simpa using List.all_eq_true.1 hall t hm)⟩)
    (by kernel_rfl)
end Go.Proofs.YtmdgokjeobnnaaaGreatDoor
