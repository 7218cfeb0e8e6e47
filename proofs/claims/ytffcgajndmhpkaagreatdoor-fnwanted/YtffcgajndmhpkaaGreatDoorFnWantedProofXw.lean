/- FnWanted: for every code the law returns true: the pace that is wanted is enough for the bench that needs most, if any is, and the slowest that is; who grants it changes nothing else. Conditions: the listed variables lie as the card says. -/
import Derived.Test.YtffcgajndmhpkaaGreatDoorXw01
import Derived.Test.YtffcgajndmhpkaaGreatDoorXw02
import Derived.Test.YtffcgajndmhpkaaGreatDoorXw03
import Derived.Test.YtffcgajndmhpkaaGreatDoorXw04
import Derived.Test.YtffcgajndmhpkaaGreatDoorXw05
import Derived.Test.YtffcgajndmhpkaaGreatDoorXw06
import Derived.Test.YtffcgajndmhpkaaGreatDoorXw07
import Derived.Test.YtffcgajndmhpkaaGreatDoorXw08
import Derived.Test.YtffcgajndmhpkaaGreatDoorXw09
import Derived.Test.YtffcgajndmhpkaaGreatDoorXw10
import Derived.Test.YtffcgajndmhpkaaGreatDoorXw11
import Derived.Test.YtffcgajndmhpkaaGreatDoorXw12
import Derived.Test.YtffcgajndmhpkaaGreatDoorXw13
import Derived.Test.YtffcgajndmhpkaaGreatDoorXw14
import Derived.Test.YtffcgajndmhpkaaGreatDoorXw15
import Derived.Test.YtffcgajndmhpkaaGreatDoorXw16
import Derived.Test.YtffcgajndmhpkaaGreatDoorXw17
import Derived.Test.YtffcgajndmhpkaaGreatDoorXw18
import Derived.Test.YtffcgajndmhpkaaGreatDoorXw19
import Derived.Test.YtffcgajndmhpkaaGreatDoorXw20
import Derived.Test.YtffcgajndmhpkaaGreatDoorXw21
import Derived.Test.YtffcgajndmhpkaaGreatDoorXw22
import Derived.Test.YtffcgajndmhpkaaGreatDoorXw23
import Derived.Test.YtffcgajndmhpkaaGreatDoorXw24
import Derived.Test.YtffcgajndmhpkaaGreatDoorXw25
import Derived.Test.YtffcgajndmhpkaaGreatDoorXw26
import Derived.Test.YtffcgajndmhpkaaGreatDoorXw27
import Derived.Test.YtffcgajndmhpkaaGreatDoorXw28
import Derived.Test.YtffcgajndmhpkaaGreatDoorXw29
import Derived.Test.YtffcgajndmhpkaaGreatDoorXw30
import Derived.Test.YtffcgajndmhpkaaGreatDoorXw31
import Derived.Test.YtffcgajndmhpkaaGreatDoorXw32
import Derived.Test.YtffcgajndmhpkaaGreatDoorXw33
import Derived.Test.YtffcgajndmhpkaaGreatDoorXw34
import Derived.Test.YtffcgajndmhpkaaGreatDoorXw35
import Derived.Test.YtffcgajndmhpkaaGreatDoorXw36
import Derived.Test.YtffcgajndmhpkaaGreatDoorXw37
import Derived.Test.YtffcgajndmhpkaaGreatDoorXw38
import Derived.Test.YtffcgajndmhpkaaGreatDoorXw39
import Derived.Test.YtffcgajndmhpkaaGreatDoorXw40
import Derived.Test.YtffcgajndmhpkaaGreatDoorXw41
import Derived.Test.YtffcgajndmhpkaaGreatDoorXw42
import Derived.Test.YtffcgajndmhpkaaGreatDoorXw43
import Derived.Test.YtffcgajndmhpkaaGreatDoorXw44
import Derived.Test.YtffcgajndmhpkaaGreatDoorXw45
import Derived.Test.YtffcgajndmhpkaaGreatDoorRows
import Derived.Test.YtffcgajndmhpkaaGreatDoorCards
import Derived.Test.YtffcgajndmhpkaaGreatDoorTie
import Derived.WalkKit
import Derived.ProofKit
import Derived.OpenShut
import Derived.ChangeOld
import Derived.Below
import Derived.LaidMore
import Derived.Stop.Joined
import Derived.SevenTiedAt
import Derived.LaidSub
import Derived.LaidOnce
import Derived.OpenVars
namespace Go.Proofs.YtffcgajndmhpkaaGreatDoor.fnWanted
open Go.ChangeShapes Go.WideShapes Go.ChangeAt Go.WideMaps Go.WideElems Go.RowKit
set_option linter.unusedVariables false

theorem own : ownKnob Tryz.prog.godebug = none := by kernel_rfl
theorem laidOut : laidOutB Tryz.prog = true := by kernel_rfl
set_option maxRecDepth 100000 in
theorem door_met (os : Os) (args : Array Value) : laidMetH Tryz.prog Rows.fnWantedRow.laid ((World.doorLaid Tryz.prog 111 os).forCall (fun _ _ => 0) ⟨#[], args, []⟩).memory :=
  laidMetH_of_parts3 (fuel := 8) (laidMet_of_run' 8 (by kernel_rfl) (by kernel_rfl)) (by kernel_rfl) (by kernel_rfl)

theorem varsOk : varsRowed Tryz.prog ["loop.example/g00553/impl.errNone", "loop.example/g00553/impl.errRange", "loop.example/g00553/impl.errState", "loop.example/g00553/impl.errFull", "loop.example/g00553/impl.errLast"] = true := by kernel_rfl
theorem gs_len {H : Type} {enc : TypeId × Value → H} {W : World} {sp : Nat → Bool} : ∀ {ns : List String} {gs : List (DataW H)} {ps : List MemPlace}, DataW.TrodVars enc Tryz.prog W sp ns gs ps → gs.length = ns.length
  | [], [], _, _ => rfl
  | [], _ :: _, _, h => h.elim
  | _ :: _, [], _, h => h.elim
  | _ :: ns, _ :: gs, _, ⟨_, _, _, _, _, _, _, _, _, _, hs, _⟩ => by simp [gs_len hs]

set_option maxRecDepth 100000 in
theorem lifted (os : Os) (started : os.Started) (H : Type) (enc : TypeId × Value → H) :
    ReturnsInHanded {} Tryz.checked os 4 .any (fun w args => (Rows.fnWantedSpec.pre enc Tryz.prog Tryz.f4 [] false w args ∧ laidMetH Tryz.prog Rows.fnWantedRow.laid w) ∧ sizedMet enc Tryz.prog Tryz.f4 (OpenSpec.ofChange Rows.fnWantedSpec) false w args)
      (Rows.fnWantedSpec.post enc Tryz.prog Tryz.f4 false true false false) := by
  refine returnsInHanded_of_change_and (C := Tryz.checked) (X := fun w _ => laidMetH Tryz.prog Rows.fnWantedRow.laid w) (fun _ _ _ hh h => h.of_heap hh) own started (by kernel_rfl) Tryz.func4
    (ChangeSpec.witness_shaped (enc := enc) (C := Tryz.checked) (os := os) (X := fun w _ => laidMetH Tryz.prog Rows.fnWantedRow.laid w) false (World.doorLaid Tryz.prog 111 os) #[.slice none 0 0] 8 rfl (World.shaped_of_RefB (by kernel_rfl) (by kernel_rfl)) (by kernel_rfl) (by kernel_rfl) (by kernel_rfl) (door_met os _)) ?_
  intro W base args ds gs before hval0 hW _ _ hL _
  have hval : ∀ (j : Nat) t v, Tryz.f4.params[j]? = some t → args[j]? = some v → Value.okWide Tryz.prog W .any base t v := hval0
  have hW' := hW
  obtain ⟨p, q, hA0, hV, rfl, hfz, hnd⟩ := hW
  have hA : DataW.TrodAll enc Tryz.prog W 0 (fun _ => true) true Tryz.f4.params.toList args.toList ds p := hA0
  rw [Tryz.params4] at hA hval
  obtain ⟨v0, vs0, d0, ds0, p0, q0, hargs, rfl, rfl, h0, r0⟩ := trodAll_cons hA
  obtain ⟨rfl, rfl, rfl⟩ := trodAll_nil r0
  obtain rfl : args = #[v0] := by cases args; simp_all
  have hgl : gs.length = 5 := gs_len hV
  obtain ⟨g1, g2, g3, g4, g5, rfl⟩ : ∃ g1 g2 g3 g4 g5, gs = [g1, g2, g3, g4, g5] := by
    match gs, hgl with
    | [g1, g2, g3, g4, g5], _ => exact ⟨g1, g2, g3, g4, g5, rfl⟩
  have k0 := h0
  have lt0 : ∀ x ∈ p0, x.block < W.heap.size := by obtain ⟨m, hm⟩ := k0; exact DataW.trod_lt m _ _ _ hm
  obtain ⟨a0, len0, cap0, rfl⟩ := okWide_slice Tryz.underlying22 (hval 0 22 v0 rfl rfl)
  obtain ⟨z0, w0⟩ : ∃ zs, Draw.IsRow .u8 W a0 len0 cap0 zs := by
    obtain ⟨fuel, hf⟩ := h0
    rcases open_ints Tryz.underlying22 Tryz.underlying5 (by kernel_rfl) hf with ⟨hcs, _⟩ | ⟨x, l, c, zs, hcs, _, hl, hm, hz, _, hcell, hwz⟩
    · simp [Value.cells] at hcs
      obtain ⟨rfl, rfl, rfl⟩ := hcs
      exact ⟨[], .inl ⟨rfl, rfl, rfl, rfl⟩⟩
    · simp [Value.cells] at hcs
      obtain ⟨rfl, rfl, rfl⟩ := hcs
      exact ⟨zs, .inr ⟨_, rfl, hl, hm, by simpa using hz, hcell, hwz⟩⟩
  clear hA0 hval0
  refine (L8 a0 len0 cap0 z0 W w0 (BL hL)).mono fun e W' ⟨he, bel⟩ => ?_
  subst he
  exact ⟨_, rfl, _, _, _, [], _, q, hW', trodAll_mk1 (shut_bool Tryz.underlying4 _), (trodAll_cons_mk (Below.trod laidOut (by kernel_rfl) (of_decide_eq_true (by kernel_rfl)) k0 bel lt0) trodAll_mk0), Below.trodVars laidOut bel varsOk hV, bel.frame _, fun h => by cases h⟩

theorem c_inPlace : (Rows.fnWantedRow.inPlace == Tryz.prog.inPlace 4) = true := by kernel_rfl
theorem c_unfollowed : (Rows.fnWantedRow.unfollowed == Tryz.prog.unfollowed 4) = true := by kernel_rfl
theorem c_recurses : (Rows.fnWantedRow.recurses == Tryz.prog.recurses 4) = true := by kernel_rfl
theorem c_named : (Rows.fnWantedRow.named == Tryz.prog.varsNamed 4) = true := by kernel_rfl
theorem c_all : joinedFacts Tryz.prog 4 Tryz.f4 Rows.fnWantedSpec Rows.fnWantedRow = true := by
  unfold joinedFacts
  rw [c_inPlace, c_unfollowed, c_recurses, c_named]
  kernel_rfl
theorem c_fn : Tryz.prog.funcNamed Rows.fnWantedRow.func = some 4 := by kernel_rfl
theorem over : Rows.fnWantedRow.holds Tryz.pinned (OpenSpec.ofChange Rows.fnWantedSpec) :=
  OpenClaim.holds_of_wide 4 Tryz.f4 rfl rfl rfl rfl rfl rfl rfl ⟨rfl, rfl, rfl, rfl, rfl⟩ rfl rfl rfl rfl rfl c_fn Tryz.func4 c_all
    (of_decide_eq_true (by kernel_rfl)) (by unfold Func.isWrapper; first | (rw [if_pos (by decide +kernel)]; kernel_rfl) | (rw [if_neg (by decide +kernel)]; exact ⟨rfl, rfl⟩))
    (fun os started H enc _ => lifted os started H enc)

end Go.Proofs.YtffcgajndmhpkaaGreatDoor.fnWanted
namespace Go.Proofs.YtffcgajndmhpkaaGreatDoor
open Go
theorem fnWanted.k_wf : Rows.fnWantedRow.wfByText (OpenSpec.ofChange Rows.fnWantedSpec) = true := by kernel_rfl
theorem fnWanted.k_stand : ([22].all fun u => !Tryz.prog.wantsStandIn u) = true := by kernel_rfl
theorem FnWanted_holds : Rows.FnWantedCardSaid :=
  Claim7.holds_tied_plain_at .later [] [.handle, .sentinel, .sentinel, .sentinel, .sentinel, .sentinel] true (true, "626d3be9a7070331a205b817a13979c1371d85ec4c86334440f83fb2a7432c2f") true
    fnWanted.over (fun _ h => by cases h) fnWanted.k_wf (fun _ h => by cases h) fnWanted_row_tie rfl ⟨rfl, rfl⟩ BA rfl
    (fun f fn hf hfn => by
      obtain rfl : f = 4 := Option.some.inj (fnWanted.c_fn.symm.trans hf) |>.symm
      obtain rfl : fn = Tryz.f4 := (Option.some.inj (Tryz.func4.symm.trans hfn)).symm
      exact ⟨Cv, fun j t ht => by
        rw [Tryz.params4] at ht
        have hm : t ∈ [22] := by simpa using Array.mem_of_getElem? ht
        exact (show Tryz.prog.wantsStandIn t = false by simpa using List.all_eq_true.1 fnWanted.k_stand t hm)⟩)
    (Bz _ rfl)
end Go.Proofs.YtffcgajndmhpkaaGreatDoor
