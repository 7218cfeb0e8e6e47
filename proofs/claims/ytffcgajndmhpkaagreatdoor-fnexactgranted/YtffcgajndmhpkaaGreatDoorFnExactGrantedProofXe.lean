/- At every smithy, every room and every pace the program answers Granted as the model does, and leaves the smithy as it was. Condition: the sentinels of the program lie in their variables, as the card ties them to its text. -/
import Derived.Test.YtffcgajndmhpkaaGreatDoorXe01
import Derived.Test.YtffcgajndmhpkaaGreatDoorXe02
import Derived.Test.YtffcgajndmhpkaaGreatDoorXe03
import Derived.Test.YtffcgajndmhpkaaGreatDoorXe04
import Derived.Test.YtffcgajndmhpkaaGreatDoorXe05
import Derived.Test.YtffcgajndmhpkaaGreatDoorXe06
import Derived.Test.YtffcgajndmhpkaaGreatDoorXe07
import Derived.Test.YtffcgajndmhpkaaGreatDoorXe08
import Derived.Test.YtffcgajndmhpkaaGreatDoorXe09
import Derived.Test.YtffcgajndmhpkaaGreatDoorXe10
import Derived.Test.YtffcgajndmhpkaaGreatDoorXe11
import Derived.Test.YtffcgajndmhpkaaGreatDoorXe12
import Derived.Test.YtffcgajndmhpkaaGreatDoorXe13
import Derived.Test.YtffcgajndmhpkaaGreatDoorXe14
import Derived.Test.YtffcgajndmhpkaaGreatDoorXe15
import Derived.Test.YtffcgajndmhpkaaGreatDoorXe16
import Derived.Test.YtffcgajndmhpkaaGreatDoorXe17
import Derived.Test.YtffcgajndmhpkaaGreatDoorXe18
import Derived.Test.YtffcgajndmhpkaaGreatDoorXe19
import Derived.Test.YtffcgajndmhpkaaGreatDoorXe20
import Derived.Test.YtffcgajndmhpkaaGreatDoorXe21
import Derived.Test.YtffcgajndmhpkaaGreatDoorRows
import Derived.Test.YtffcgajndmhpkaaGreatDoorCards
import Derived.Test.YtffcgajndmhpkaaGreatDoorTie
import Derived.WalkKit
import Derived.ProofKit
import Derived.OpenShut
import Derived.ChangeOld
import Derived.Below
import Derived.LaidMore
import Derived.Stop.Joined
import Derived.SevenTiedAt
import Derived.LaidSub
import Derived.LaidOnce
import Derived.OpenVars
namespace Go.Proofs.YtffcgajndmhpkaaGreatDoor.fnExactGranted
open Go.ChangeShapes Go.WideShapes Go.ChangeAt Go.WideMaps Go.WideElems Go.RowKit
set_option linter.unusedVariables false

theorem own : ownKnob Tryz.prog.godebug = none := by kernel_rfl
theorem laidOut : laidOutB Tryz.prog = true := by kernel_rfl
set_option maxRecDepth 100000 in
theorem door_met (os : Os) (args : Array Value) : laidMetH Tryz.prog Rows.fnExactGrantedRow.laid ((World.doorLaid Tryz.prog 111 os).forCall (fun _ _ => 0) ⟨#[], args, []⟩).memory :=
  laidMetH_of_parts3 (fuel := 8) (laidMet_of_run' 8 (by kernel_rfl) (by kernel_rfl)) (by kernel_rfl) (by kernel_rfl)

theorem varsOk : varsRowed Tryz.prog ["loop.example/g00553/impl.errNone", "loop.example/g00553/impl.errRange", "loop.example/g00553/impl.errState", "loop.example/g00553/impl.errFull", "loop.example/g00553/impl.errLast"] = true := by kernel_rfl
theorem gs_len {H : Type} {enc : TypeId × Value → H} {W : World} {sp : Nat → Bool} : ∀ {ns : List String} {gs : List (DataW H)} {ps : List MemPlace}, DataW.TrodVars enc Tryz.prog W sp ns gs ps → gs.length = ns.length
  | [], [], _, _ => rfl
  | [], _ :: _, _, h => h.elim
  | _ :: _, [], _, h => h.elim
  | _ :: ns, _ :: gs, _, ⟨_, _, _, _, _, _, _, _, _, _, hs, _⟩ => by simp [gs_len hs]

set_option maxRecDepth 100000 in
theorem lifted (os : Os) (started : os.Started) (H : Type) (enc : TypeId × Value → H) :
    ReturnsInHanded {} Tryz.checked os 6 .any (fun w args => (Rows.fnExactGrantedSpec.pre enc Tryz.prog Tryz.f6 [] false w args ∧ laidMetH Tryz.prog Rows.fnExactGrantedRow.laid w) ∧ sizedMet enc Tryz.prog Tryz.f6 (OpenSpec.ofChange Rows.fnExactGrantedSpec) false w args)
      (Rows.fnExactGrantedSpec.post enc Tryz.prog Tryz.f6 false true false false) := by
  refine returnsInHanded_of_change_and (C := Tryz.checked) (X := fun w _ => laidMetH Tryz.prog Rows.fnExactGrantedRow.laid w) (fun _ _ _ hh h => h.of_heap hh) own started (by kernel_rfl) Tryz.func6
    (ChangeSpec.witness_shaped (enc := enc) (C := Tryz.checked) (os := os) (X := fun w _ => laidMetH Tryz.prog Rows.fnExactGrantedRow.laid w) false (World.doorLaid Tryz.prog 111 os) #[.agg #[.slice none 0 0, .slice none 0 0, .slice none 0 0, .slice none 0 0, .slice none 0 0, .int .i64 0], .int .i64 0, .int .i64 0] 8 rfl (World.shaped_of_RefB (by kernel_rfl) (by kernel_rfl)) (by kernel_rfl) (by kernel_rfl) (by kernel_rfl) (door_met os _)) ?_
  intro W base args ds gs before hval0 hW _ _ hL _
  have hval : ∀ (j : Nat) t v, Tryz.f6.params[j]? = some t → args[j]? = some v → Value.okWide Tryz.prog W .any base t v := hval0
  have hW' := hW
  obtain ⟨p, q, hA0, hV, rfl, hfz, hnd⟩ := hW
  have hA : DataW.TrodAll enc Tryz.prog W 0 (fun _ => true) true Tryz.f6.params.toList args.toList ds p := hA0
  rw [Tryz.params6] at hA hval
  obtain ⟨v0, vs0, d0, ds0, p0, q0, hargs, rfl, rfl, h0, r0⟩ := trodAll_cons hA
  obtain ⟨v1, vs1, d1, ds1, p1, q1, rfl, rfl, rfl, h1, r1⟩ := trodAll_cons r0
  obtain ⟨v2, vs2, d2, ds2, p2, q2, rfl, rfl, rfl, h2, r2⟩ := trodAll_cons r1
  obtain ⟨rfl, rfl, rfl⟩ := trodAll_nil r2
  obtain rfl : args = #[v0, v1, v2] := by cases args; simp_all
  have hgl : gs.length = 5 := gs_len hV
  obtain ⟨g1, g2, g3, g4, g5, rfl⟩ : ∃ g1 g2 g3 g4 g5, gs = [g1, g2, g3, g4, g5] := by
    match gs, hgl with
    | [g1, g2, g3, g4, g5], _ => exact ⟨g1, g2, g3, g4, g5, rfl⟩
  have k0 := h0
  have lt0 : ∀ x ∈ p0, x.block < W.heap.size := by obtain ⟨m, hm⟩ := k0; exact DataW.trod_lt m _ _ _ hm
  obtain ⟨y0a, y0b, y0c, y0d, y0e, m0, rfl, w0⟩ := open_smithy (hval 0 61 v0 rfl rfl) h0
  obtain ⟨a1, rfl, rfl, rfl, w1⟩ := open_int Tryz.underlying2 (hval 1 2 v1 rfl rfl) h1
  obtain ⟨a2, rfl, rfl, rfl, w2⟩ := open_int Tryz.underlying2 (hval 2 2 v2 rfl rfl) h2
  clear hA0 hval0
  refine (walkFnExactGranted y0a y0b y0c y0d y0e m0 a1 a2 W w0 (ofLaid hL)).mono fun e W' ⟨he, bel⟩ => ?_
  subst he
  exact ⟨_, rfl, _, _, _, [], _, q, hW', trodAll_mk1 (shut_bool Tryz.underlying4 _), (trodAll_cons_mk (Below.trod laidOut (by kernel_rfl) (of_decide_eq_true (by kernel_rfl)) k0 bel lt0) (trodAll_cons_mk (shut_int Tryz.underlying2 w1) (trodAll_cons_mk (shut_int Tryz.underlying2 w2) trodAll_mk0))), Below.trodVars laidOut bel varsOk hV, bel.frame _, fun h => by cases h⟩

theorem c_inPlace : (Rows.fnExactGrantedRow.inPlace == Tryz.prog.inPlace 6) = true := by kernel_rfl
theorem c_unfollowed : (Rows.fnExactGrantedRow.unfollowed == Tryz.prog.unfollowed 6) = true := by kernel_rfl
theorem c_recurses : (Rows.fnExactGrantedRow.recurses == Tryz.prog.recurses 6) = true := by kernel_rfl
theorem c_named : (Rows.fnExactGrantedRow.named == Tryz.prog.varsNamed 6) = true := by kernel_rfl
theorem c_all : joinedFacts Tryz.prog 6 Tryz.f6 Rows.fnExactGrantedSpec Rows.fnExactGrantedRow = true := by
  unfold joinedFacts
  rw [c_inPlace, c_unfollowed, c_recurses, c_named]
  kernel_rfl
theorem c_fn : Tryz.prog.funcNamed Rows.fnExactGrantedRow.func = some 6 := by kernel_rfl
theorem over : Rows.fnExactGrantedRow.holds Tryz.pinned (OpenSpec.ofChange Rows.fnExactGrantedSpec) :=
  OpenClaim.holds_of_wide 6 Tryz.f6 rfl rfl rfl rfl rfl rfl rfl ⟨rfl, rfl, rfl, rfl, rfl⟩ rfl rfl rfl rfl rfl c_fn Tryz.func6 c_all
    (of_decide_eq_true (by kernel_rfl)) (by unfold Func.isWrapper; first | (rw [if_pos (by decide +kernel)]; kernel_rfl) | (rw [if_neg (by decide +kernel)]; exact ⟨rfl, rfl⟩))
    (fun os started H enc _ => lifted os started H enc)

end Go.Proofs.YtffcgajndmhpkaaGreatDoor.fnExactGranted
namespace Go.Proofs.YtffcgajndmhpkaaGreatDoor
open Go
theorem fnExactGranted.k_wf : Rows.fnExactGrantedRow.wfByText (OpenSpec.ofChange Rows.fnExactGrantedSpec) = true := by kernel_rfl
theorem fnExactGranted.k_stand : ([61, 2, 2].all fun u => !Tryz.prog.wantsStandIn u) = true := by kernel_rfl
theorem FnExactGranted_holds : Rows.FnExactGrantedCardSaid :=
  Claim7.holds_tied_plain_at .later [] [.handle, .sentinel, .sentinel, .sentinel, .sentinel, .sentinel] true (true, "626d3be9a7070331a205b817a13979c1371d85ec4c86334440f83fb2a7432c2f") true
    fnExactGranted.over (fun _ h => by cases h) fnExactGranted.k_wf (fun _ h => by cases h) fnExactGranted_row_tie rfl ⟨rfl, rfl⟩ k_main rfl
    (fun f fn hf hfn => by
      obtain rfl : f = 6 := Option.some.inj (fnExactGranted.c_fn.symm.trans hf) |>.symm
      obtain rfl : fn = Tryz.f6 := (Option.some.inj (Tryz.func6.symm.trans hfn)).symm
      exact ⟨k_looks, fun j t ht => by
        rw [Tryz.params6] at ht
        have hm : t ∈ [61, 2, 2] := by simpa using Array.mem_of_getElem? ht
        exact (show Tryz.prog.wantsStandIn t = false by simpa using List.all_eq_true.1 fnExactGranted.k_stand t hm)⟩)
    (k_goes _ rfl)
end Go.Proofs.YtffcgajndmhpkaaGreatDoor
