/- The exact law of Limited: at every smithy, who, low and high the program answers as the model does, every field, in memory of its own, and leaves its argument alone. Conditions: the listed variables lie as the card says. -/
import Derived.Test.YtjhijildaceadaaGreatDoorXa01
import Derived.Test.YtjhijildaceadaaGreatDoorXa02
import Derived.Test.YtjhijildaceadaaGreatDoorXa03
import Derived.Test.YtjhijildaceadaaGreatDoorXa04
import Derived.Test.YtjhijildaceadaaGreatDoorXa05
import Derived.Test.YtjhijildaceadaaGreatDoorXa06
import Derived.Test.YtjhijildaceadaaGreatDoorXa07
import Derived.Test.YtjhijildaceadaaGreatDoorXa08
import Derived.Test.YtjhijildaceadaaGreatDoorXa09
import Derived.Test.YtjhijildaceadaaGreatDoorXa10
import Derived.Test.YtjhijildaceadaaGreatDoorXa11
import Derived.Test.YtjhijildaceadaaGreatDoorXa12
import Derived.Test.YtjhijildaceadaaGreatDoorXa13
import Derived.Test.YtjhijildaceadaaGreatDoorXa14
import Derived.Test.YtjhijildaceadaaGreatDoorXa15
import Derived.Test.YtjhijildaceadaaGreatDoorXa16
import Derived.Test.YtjhijildaceadaaGreatDoorXa17
import Derived.Test.YtjhijildaceadaaGreatDoorXa18
import Derived.Test.YtjhijildaceadaaGreatDoorXa19
import Derived.Test.YtjhijildaceadaaGreatDoorXa20
import Derived.Test.YtjhijildaceadaaGreatDoorXa21
import Derived.Test.YtjhijildaceadaaGreatDoorXa22
import Derived.Test.YtjhijildaceadaaGreatDoorXa23
import Derived.Test.YtjhijildaceadaaGreatDoorXa24
import Derived.Test.YtjhijildaceadaaGreatDoorXa25
import Derived.Test.YtjhijildaceadaaGreatDoorXa26
import Derived.Test.YtjhijildaceadaaGreatDoorXa27
import Derived.Test.YtjhijildaceadaaGreatDoorXa28
import Derived.Test.YtjhijildaceadaaGreatDoorXa29
import Derived.Test.YtjhijildaceadaaGreatDoorXa30
import Derived.Test.YtjhijildaceadaaGreatDoorXa37
import Derived.Test.YtjhijildaceadaaGreatDoorXa39
import Derived.Test.YtjhijildaceadaaGreatDoorXa43
import Derived.Test.YtjhijildaceadaaGreatDoorRows
import Derived.Test.YtjhijildaceadaaGreatDoorCards
import Derived.Test.YtjhijildaceadaaGreatDoorTie
import Derived.WalkKit
import Derived.ProofKit
import Derived.OpenShut
import Derived.ChangeOld
import Derived.Below
import Derived.LaidMore
import Derived.Stop.Joined
import Derived.SevenTiedAt
import Derived.LaidSub
import Derived.LaidOnce
import Derived.OpenVars
namespace Go.Proofs.YtjhijildaceadaaGreatDoor.fnExactLimited
open Go.ChangeShapes Go.WideShapes Go.ChangeAt Go.WideMaps Go.WideElems Go.RowKit
set_option linter.unusedVariables false

theorem own : ownKnob Tryz.prog.godebug = none := by kernel_rfl
theorem laidOut : laidOutB Tryz.prog = true := by kernel_rfl
set_option maxRecDepth 100000 in
theorem door_met (os : Os) (args : Array Value) : laidMetH Tryz.prog Rows.fnExactLimitedRow.laid ((World.doorLaid Tryz.prog 111 os).forCall (fun _ _ => 0) ⟨#[], args, []⟩).memory :=
  laidMetH_of_parts3 (fuel := 8) (laidMet_of_run' 8 (by kernel_rfl) (by kernel_rfl)) (by kernel_rfl) (by kernel_rfl)

theorem varsOk : varsRowed Tryz.prog ["loop.example/g00553/impl.errRange", "loop.example/g00553/impl.errNone", "loop.example/g00553/impl.errState", "loop.example/g00553/impl.errFull", "loop.example/g00553/impl.errLast"] = true := by kernel_rfl
theorem gs_len {H : Type} {enc : TypeId × Value → H} {W : World} {sp : Nat → Bool} : ∀ {ns : List String} {gs : List (DataW H)} {ps : List MemPlace}, DataW.TrodVars enc Tryz.prog W sp ns gs ps → gs.length = ns.length
  | [], [], _, _ => rfl
  | [], _ :: _, _, h => h.elim
  | _ :: _, [], _, h => h.elim
  | _ :: ns, _ :: gs, _, ⟨_, _, _, _, _, _, _, _, _, _, hs, _⟩ => by simp [gs_len hs]

set_option maxRecDepth 100000 in
theorem lifted (os : Os) (started : os.Started) (H : Type) (enc : TypeId × Value → H) :
    ReturnsInHanded {} Tryz.checked os 10 .any (fun w args => (Rows.fnExactLimitedSpec.pre enc Tryz.prog Tryz.f10 [] false w args ∧ laidMetH Tryz.prog Rows.fnExactLimitedRow.laid w) ∧ sizedMet enc Tryz.prog Tryz.f10 (OpenSpec.ofChange Rows.fnExactLimitedSpec) false w args)
      (Rows.fnExactLimitedSpec.post enc Tryz.prog Tryz.f10 false true false false) := by
  refine returnsInHanded_of_change_and (C := Tryz.checked) (X := fun w _ => laidMetH Tryz.prog Rows.fnExactLimitedRow.laid w) (fun _ _ _ hh h => h.of_heap hh) own started (by kernel_rfl) Tryz.func10
    (ChangeSpec.witness_shaped (enc := enc) (C := Tryz.checked) (os := os) (X := fun w _ => laidMetH Tryz.prog Rows.fnExactLimitedRow.laid w) false (World.doorLaid Tryz.prog 111 os) #[.agg #[.slice none 0 0, .slice none 0 0, .slice none 0 0, .slice none 0 0, .slice none 0 0, .int .i64 0], .int .i64 0, .int .i64 0, .int .i64 0] 8 rfl (World.shaped_of_RefB (by kernel_rfl) (by kernel_rfl)) (by kernel_rfl) (by kernel_rfl) (by kernel_rfl) (door_met os _)) ?_
  intro W base args ds gs before hval0 hW _ _ hL _
  have hval : ∀ (j : Nat) t v, Tryz.f10.params[j]? = some t → args[j]? = some v → Value.okWide Tryz.prog W .any base t v := hval0
  have hW' := hW
  obtain ⟨p, q, hA0, hV, rfl, hfz, hnd⟩ := hW
  have hA : DataW.TrodAll enc Tryz.prog W 0 (fun _ => true) true Tryz.f10.params.toList args.toList ds p := hA0
  rw [Tryz.params10] at hA hval
  obtain ⟨v0, vs0, d0, ds0, p0, q0, hargs, rfl, rfl, h0, r0⟩ := trodAll_cons hA
  obtain ⟨v1, vs1, d1, ds1, p1, q1, rfl, rfl, rfl, h1, r1⟩ := trodAll_cons r0
  obtain ⟨v2, vs2, d2, ds2, p2, q2, rfl, rfl, rfl, h2, r2⟩ := trodAll_cons r1
  obtain ⟨v3, vs3, d3, ds3, p3, q3, rfl, rfl, rfl, h3, r3⟩ := trodAll_cons r2
  obtain ⟨rfl, rfl, rfl⟩ := trodAll_nil r3
  obtain rfl : args = #[v0, v1, v2, v3] := by cases args; simp_all
  have hgl : gs.length = 5 := gs_len hV
  obtain ⟨g1, g2, g3, g4, g5, rfl⟩ : ∃ g1 g2 g3 g4 g5, gs = [g1, g2, g3, g4, g5] := by
    match gs, hgl with
    | [g1, g2, g3, g4, g5], _ => exact ⟨g1, g2, g3, g4, g5, rfl⟩
  have k0 := h0
  have lt0 : ∀ x ∈ p0, x.block < W.heap.size := by obtain ⟨m, hm⟩ := k0; exact DataW.trod_lt m _ _ _ hm
  obtain ⟨y0a, y0b, y0c, y0d, y0e, m0, rfl, w0⟩ := VE (hval 0 61 v0 rfl rfl) h0
  obtain ⟨a1, rfl, rfl, rfl, w1⟩ := open_int Tryz.underlying2 (hval 1 2 v1 rfl rfl) h1
  obtain ⟨a2, rfl, rfl, rfl, w2⟩ := open_int Tryz.underlying2 (hval 2 2 v2 rfl rfl) h2
  obtain ⟨a3, rfl, rfl, rfl, w3⟩ := open_int Tryz.underlying2 (hval 3 2 v3 rfl rfl) h3
  clear hA0 hval0
  refine (RU y0a y0b y0c y0d y0e m0 a1 a2 a3 W w0 (Oe hL)).mono fun e W' ⟨he, bel⟩ => ?_
  subst he
  exact ⟨_, rfl, _, _, _, [], _, q, hW', trodAll_mk1 (shut_bool Tryz.underlying4 _), (trodAll_cons_mk (Below.trod laidOut (by kernel_rfl) (of_decide_eq_true (by kernel_rfl)) k0 bel lt0) (trodAll_cons_mk (shut_int Tryz.underlying2 w1) (trodAll_cons_mk (shut_int Tryz.underlying2 w2) (trodAll_cons_mk (shut_int Tryz.underlying2 w3) trodAll_mk0)))), Below.trodVars laidOut bel varsOk hV, bel.frame _, fun h => by cases h⟩

theorem c_inPlace : (Rows.fnExactLimitedRow.inPlace == Tryz.prog.inPlace 10) = true := by kernel_rfl
theorem c_unfollowed : (Rows.fnExactLimitedRow.unfollowed == Tryz.prog.unfollowed 10) = true := by kernel_rfl
theorem c_recurses : (Rows.fnExactLimitedRow.recurses == Tryz.prog.recurses 10) = true := by kernel_rfl
theorem c_named : (Rows.fnExactLimitedRow.named == Tryz.prog.varsNamed 10) = true := by kernel_rfl
theorem c_all : joinedFacts Tryz.prog 10 Tryz.f10 Rows.fnExactLimitedSpec Rows.fnExactLimitedRow = true := by
  unfold joinedFacts
  rw [c_inPlace, c_unfollowed, c_recurses, c_named]
  kernel_rfl
theorem c_fn : Tryz.prog.funcNamed Rows.fnExactLimitedRow.func = some 10 := by kernel_rfl
theorem over : Rows.fnExactLimitedRow.holds Tryz.pinned (OpenSpec.ofChange Rows.fnExactLimitedSpec) :=
  OpenClaim.holds_of_wide 10 Tryz.f10 rfl rfl rfl rfl rfl rfl rfl ⟨rfl, rfl, rfl, rfl, rfl⟩ rfl rfl rfl rfl rfl c_fn Tryz.func10 c_all
    (of_decide_eq_true (by kernel_rfl)) (by unfold Func.isWrapper; first | (rw [if_pos (by decide +kernel)]; kernel_rfl) | (rw [if_neg (by decide +kernel)]; exact ⟨rfl, rfl⟩))
    (fun os started H enc _ => lifted os started H enc)

end Go.Proofs.YtjhijildaceadaaGreatDoor.fnExactLimited
namespace Go.Proofs.YtjhijildaceadaaGreatDoor
open Go
theorem fnExactLimited.k_wf : Rows.fnExactLimitedRow.wfByText (OpenSpec.ofChange Rows.fnExactLimitedSpec) = true := by kernel_rfl
theorem fnExactLimited.k_stand : ([61, 2, 2, 2].all fun u => !Tryz.prog.wantsStandIn u) = true := by kernel_rfl
theorem FnExactLimited_holds : Rows.FnExactLimitedCardSaid :=
  Claim7.holds_tied_plain_at .later [] [.handle, .sentinel, .sentinel, .sentinel, .sentinel, .sentinel] true (true, "6c59155b349db4fd0d9fe46676c8be769105e54703f96798ca42980aeccc2aff") true
    fnExactLimited.over (fun _ h => by cases h) fnExactLimited.k_wf (fun _ h => by cases h) fnExactLimited_row_tie rfl ⟨rfl, rfl⟩ NT rfl
    (fun f fn hf hfn => by
      obtain rfl : f = 10 := Option.some.inj (fnExactLimited.c_fn.symm.trans hf) |>.symm
      obtain rfl : fn = Tryz.f10 := (Option.some.inj (Tryz.func10.symm.trans hfn)).symm
      exact ⟨QX, fun j t ht => by
        rw [Tryz.params10] at ht
        have hm : t ∈ [61, 2, 2, 2] := by simpa using Array.mem_of_getElem? ht
        exact (show Tryz.prog.wantsStandIn t = false by simpa using List.all_eq_true.1 fnExactLimited.k_stand t hm)⟩)
    (NS _ rfl)
end Go.Proofs.YtjhijildaceadaaGreatDoor
