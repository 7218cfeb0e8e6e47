/- FnChanged: for every code the law returns true: whatever is changed, a smithy stays right, and what is refused changes nothing. Conditions: the listed variables lie as the card says. -/
import Derived.Test.YtamgfpdahadnfaaGreatDoorXh01
import Derived.Test.YtamgfpdahadnfaaGreatDoorXh02
import Derived.Test.YtamgfpdahadnfaaGreatDoorXh03
import Derived.Test.YtamgfpdahadnfaaGreatDoorXh04
import Derived.Test.YtamgfpdahadnfaaGreatDoorXh05
import Derived.Test.YtamgfpdahadnfaaGreatDoorXh06
import Derived.Test.YtamgfpdahadnfaaGreatDoorXh07
import Derived.Test.YtamgfpdahadnfaaGreatDoorXh08
import Derived.Test.YtamgfpdahadnfaaGreatDoorXh09
import Derived.Test.YtamgfpdahadnfaaGreatDoorXh10
import Derived.Test.YtamgfpdahadnfaaGreatDoorXh11
import Derived.Test.YtamgfpdahadnfaaGreatDoorXh12
import Derived.Test.YtamgfpdahadnfaaGreatDoorXh13
import Derived.Test.YtamgfpdahadnfaaGreatDoorXh14
import Derived.Test.YtamgfpdahadnfaaGreatDoorXh15
import Derived.Test.YtamgfpdahadnfaaGreatDoorXh16
import Derived.Test.YtamgfpdahadnfaaGreatDoorXh17
import Derived.Test.YtamgfpdahadnfaaGreatDoorXh18
import Derived.Test.YtamgfpdahadnfaaGreatDoorXh19
import Derived.Test.YtamgfpdahadnfaaGreatDoorXh20
import Derived.Test.YtamgfpdahadnfaaGreatDoorRows
import Derived.Test.YtamgfpdahadnfaaGreatDoorCards
import Derived.Test.YtamgfpdahadnfaaGreatDoorTie
import Derived.WalkKit
import Derived.ProofKit
import Derived.OpenShut
import Derived.ChangeOld
import Derived.Below
import Derived.LaidMore
import Derived.Stop.Joined
import Derived.SevenTiedAt
import Derived.LaidSub
import Derived.LaidOnce
import Derived.OpenVars
namespace Go.Proofs.YtamgfpdahadnfaaGreatDoor.fnChanged
open Go.ChangeShapes Go.WideShapes Go.ChangeAt Go.WideMaps Go.WideElems Go.RowKit
set_option linter.unusedVariables false

theorem own : ownKnob Tryz.prog.godebug = none := by kernel_rfl
theorem laidOut : laidOutB Tryz.prog = true := by kernel_rfl
set_option maxRecDepth 100000 in
theorem door_met (os : Os) (args : Array Value) : laidMetH Tryz.prog Rows.fnChangedRow.laid ((World.doorLaid Tryz.prog 111 os).forCall (fun _ _ => 0) ⟨#[], args, []⟩).memory :=
  laidMetH_of_parts3 (fuel := 8) (laidMet_of_run' 8 (by kernel_rfl) (by kernel_rfl)) (by kernel_rfl) (by kernel_rfl)

theorem varsOk : varsRowed Tryz.prog ["loop.example/g00553/impl.errRange", "loop.example/g00553/impl.errNone", "loop.example/g00553/impl.errState", "loop.example/g00553/impl.errFull", "loop.example/g00553/impl.errLast"] = true := by kernel_rfl
theorem gs_len {H : Type} {enc : TypeId × Value → H} {W : World} {sp : Nat → Bool} : ∀ {ns : List String} {gs : List (DataW H)} {ps : List MemPlace}, DataW.TrodVars enc Tryz.prog W sp ns gs ps → gs.length = ns.length
  | [], [], _, _ => rfl
  | [], _ :: _, _, h => h.elim
  | _ :: _, [], _, h => h.elim
  | _ :: ns, _ :: gs, _, ⟨_, _, _, _, _, _, _, _, _, _, hs, _⟩ => by simp [gs_len hs]

set_option maxRecDepth 100000 in
theorem lifted (os : Os) (started : os.Started) (H : Type) (enc : TypeId × Value → H) :
    ReturnsInHanded {} Tryz.checked os 5 .any (fun w args => (Rows.fnChangedSpec.pre enc Tryz.prog Tryz.f5 [] false w args ∧ laidMetH Tryz.prog Rows.fnChangedRow.laid w) ∧ sizedMet enc Tryz.prog Tryz.f5 (OpenSpec.ofChange Rows.fnChangedSpec) false w args)
      (Rows.fnChangedSpec.post enc Tryz.prog Tryz.f5 false true false false) := by
  refine returnsInHanded_of_change_and (C := Tryz.checked) (X := fun w _ => laidMetH Tryz.prog Rows.fnChangedRow.laid w) (fun _ _ _ hh h => h.of_heap hh) own started (by kernel_rfl) Tryz.func5
    (ChangeSpec.witness_shaped (enc := enc) (C := Tryz.checked) (os := os) (X := fun w _ => laidMetH Tryz.prog Rows.fnChangedRow.laid w) false (World.doorLaid Tryz.prog 111 os) #[.slice none 0 0] 8 rfl (World.shaped_of_RefB (by kernel_rfl) (by kernel_rfl)) (by kernel_rfl) (by kernel_rfl) (by kernel_rfl) (door_met os _)) ?_
  intro W base args ds gs before hval0 hW _ _ hL _
  have hval : ∀ (j : Nat) t v, Tryz.f5.params[j]? = some t → args[j]? = some v → Value.okWide Tryz.prog W .any base t v := hval0
  have hW' := hW
  obtain ⟨p, q, hA0, hV, rfl, hfz, hnd⟩ := hW
  have hA : DataW.TrodAll enc Tryz.prog W 0 (fun _ => true) true Tryz.f5.params.toList args.toList ds p := hA0
  rw [Tryz.params5] at hA hval
  obtain ⟨v0, vs0, d0, ds0, p0, q0, hargs, rfl, rfl, h0, r0⟩ := trodAll_cons hA
  obtain ⟨rfl, rfl, rfl⟩ := trodAll_nil r0
  obtain rfl : args = #[v0] := by cases args; simp_all
  have hgl : gs.length = 5 := gs_len hV
  obtain ⟨g1, g2, g3, g4, g5, rfl⟩ : ∃ g1 g2 g3 g4 g5, gs = [g1, g2, g3, g4, g5] := by
    match gs, hgl with
    | [g1, g2, g3, g4, g5], _ => exact ⟨g1, g2, g3, g4, g5, rfl⟩
  have k0 := h0
  have lt0 : ∀ x ∈ p0, x.block < W.heap.size := by obtain ⟨m, hm⟩ := k0; exact DataW.trod_lt m _ _ _ hm
  obtain ⟨a0, len0, cap0, rfl⟩ := okWide_slice Tryz.underlying22 (hval 0 22 v0 rfl rfl)
  obtain ⟨z0, w0⟩ : ∃ zs, Draw.IsRow .u8 W a0 len0 cap0 zs := by
    obtain ⟨fuel, hf⟩ := h0
    rcases open_ints Tryz.underlying22 Tryz.underlying5 (by kernel_rfl) hf with ⟨hcs, _⟩ | ⟨x, l, c, zs, hcs, _, hl, hm, hz, _, hcell, hwz⟩
    · simp [Value.cells] at hcs
      obtain ⟨rfl, rfl, rfl⟩ := hcs
      exact ⟨[], .inl ⟨rfl, rfl, rfl, rfl⟩⟩
    · simp [Value.cells] at hcs
      obtain ⟨rfl, rfl, rfl⟩ := hcs
      exact ⟨zs, .inr ⟨_, rfl, hl, hm, by simpa using hz, hcell, hwz⟩⟩
  clear hA0 hval0
  refine (Le a0 len0 cap0 z0 W w0 (ym hL)).mono fun e W' ⟨he, bel⟩ => ?_
  subst he
  exact ⟨_, rfl, _, _, _, [], _, q, hW', trodAll_mk1 (shut_bool Tryz.underlying4 _), (trodAll_cons_mk (Below.trod laidOut (by kernel_rfl) (of_decide_eq_true (by kernel_rfl)) k0 bel lt0) trodAll_mk0), Below.trodVars laidOut bel varsOk hV, bel.frame _, fun h => by cases h⟩

theorem c_inPlace : (Rows.fnChangedRow.inPlace == Tryz.prog.inPlace 5) = true := by kernel_rfl
theorem c_unfollowed : (Rows.fnChangedRow.unfollowed == Tryz.prog.unfollowed 5) = true := by kernel_rfl
theorem c_recurses : (Rows.fnChangedRow.recurses == Tryz.prog.recurses 5) = true := by kernel_rfl
theorem c_named : (Rows.fnChangedRow.named == Tryz.prog.varsNamed 5) = true := by kernel_rfl
theorem c_all : joinedFacts Tryz.prog 5 Tryz.f5 Rows.fnChangedSpec Rows.fnChangedRow = true := by
  unfold joinedFacts
  rw [c_inPlace, c_unfollowed, c_recurses, c_named]
  kernel_rfl
theorem c_fn : Tryz.prog.funcNamed Rows.fnChangedRow.func = some 5 := by kernel_rfl
theorem over : Rows.fnChangedRow.holds Tryz.pinned (OpenSpec.ofChange Rows.fnChangedSpec) :=
  OpenClaim.holds_of_wide 5 Tryz.f5 rfl rfl rfl rfl rfl rfl rfl ⟨rfl, rfl, rfl, rfl, rfl⟩ rfl rfl rfl rfl rfl c_fn Tryz.func5 c_all
    (of_decide_eq_true (by kernel_rfl)) (by unfold Func.isWrapper; first | (rw [if_pos (by decide +kernel)]; kernel_rfl) | (rw [if_neg (by decide +kernel)]; exact ⟨rfl, rfl⟩))
    (fun os started H enc _ => lifted os started H enc)

end Go.Proofs.YtamgfpdahadnfaaGreatDoor.fnChanged
namespace Go.Proofs.YtamgfpdahadnfaaGreatDoor
open Go
theorem fnChanged.k_wf : Rows.fnChangedRow.wfByText (OpenSpec.ofChange Rows.fnChangedSpec) = true := by kernel_rfl
theorem fnChanged.k_stand : ([22].all fun u => !Tryz.prog.wantsStandIn u) = true := by kernel_rfl
theorem FnChanged_holds : Rows.FnChangedCardSaid :=
  Claim7.holds_tied_plain_at .later [] [.handle, .sentinel, .sentinel, .sentinel, .sentinel, .sentinel] true (true, "2497011163f39bcfcc7d2aec09398a703f526d3afba5bc583a669a9c70e20489") true
    fnChanged.over (fun _ h => by cases h) fnChanged.k_wf (fun _ h => by cases h) fnChanged_row_tie rfl ⟨rfl, rfl⟩ xZ rfl
    (fun f fn hf hfn => by
      obtain rfl : f = 5 := Option.some.inj (fnChanged.c_fn.symm.trans hf) |>.symm
      obtain rfl : fn = Tryz.f5 := (Option.some.inj (Tryz.func5.symm.trans hfn)).symm
      exact ⟨ze, fun j t ht => by
        rw [Tryz.params5] at ht
        have hm : t ∈ [22] := by simpa using Array.mem_of_getElem? ht
        exact (show Tryz.prog.wantsStandIn t = false by simpa using List.all_eq_true.1 fnChanged.k_stand t hm)⟩)
    (xY _ rfl)
end Go.Proofs.YtamgfpdahadnfaaGreatDoor
