/- Exact Wake: the program answers as the model does, in memory of its own, and leaves its argument alone, for every input; the row lists the sentinels, the card ties them to the text of the program. -/
import Derived.Test.YtgdpaigcmoifbaaGreatDoorXr01
import Derived.Test.YtgdpaigcmoifbaaGreatDoorXr02
import Derived.Test.YtgdpaigcmoifbaaGreatDoorXr03
import Derived.Test.YtgdpaigcmoifbaaGreatDoorXr04
import Derived.Test.YtgdpaigcmoifbaaGreatDoorXr05
import Derived.Test.YtgdpaigcmoifbaaGreatDoorXr06
import Derived.Test.YtgdpaigcmoifbaaGreatDoorXr07
import Derived.Test.YtgdpaigcmoifbaaGreatDoorXr08
import Derived.Test.YtgdpaigcmoifbaaGreatDoorXr09
import Derived.Test.YtgdpaigcmoifbaaGreatDoorXr10
import Derived.Test.YtgdpaigcmoifbaaGreatDoorXr11
import Derived.Test.YtgdpaigcmoifbaaGreatDoorXr12
import Derived.Test.YtgdpaigcmoifbaaGreatDoorXr13
import Derived.Test.YtgdpaigcmoifbaaGreatDoorXr14
import Derived.Test.YtgdpaigcmoifbaaGreatDoorXr15
import Derived.Test.YtgdpaigcmoifbaaGreatDoorXr16
import Derived.Test.YtgdpaigcmoifbaaGreatDoorXr17
import Derived.Test.YtgdpaigcmoifbaaGreatDoorXr18
import Derived.Test.YtgdpaigcmoifbaaGreatDoorXr19
import Derived.Test.YtgdpaigcmoifbaaGreatDoorXr20
import Derived.Test.YtgdpaigcmoifbaaGreatDoorXr21
import Derived.Test.YtgdpaigcmoifbaaGreatDoorXr22
import Derived.Test.YtgdpaigcmoifbaaGreatDoorXr23
import Derived.Test.YtgdpaigcmoifbaaGreatDoorXr24
import Derived.Test.YtgdpaigcmoifbaaGreatDoorXr25
import Derived.Test.YtgdpaigcmoifbaaGreatDoorXr26
import Derived.Test.YtgdpaigcmoifbaaGreatDoorXr27
import Derived.Test.YtgdpaigcmoifbaaGreatDoorXr28
import Derived.Test.YtgdpaigcmoifbaaGreatDoorXr29
import Derived.Test.YtgdpaigcmoifbaaGreatDoorXr30
import Derived.Test.YtgdpaigcmoifbaaGreatDoorXr31
import Derived.Test.YtgdpaigcmoifbaaGreatDoorXr32
import Derived.Test.YtgdpaigcmoifbaaGreatDoorXr33
import Derived.Test.YtgdpaigcmoifbaaGreatDoorXr34
import Derived.Test.YtgdpaigcmoifbaaGreatDoorXr35
import Derived.Test.YtgdpaigcmoifbaaGreatDoorXr36
import Derived.Test.YtgdpaigcmoifbaaGreatDoorRows
import Derived.Test.YtgdpaigcmoifbaaGreatDoorCards
import Derived.Test.YtgdpaigcmoifbaaGreatDoorTie
import Derived.WalkKit
import Derived.ProofKit
import Derived.OpenShut
import Derived.ChangeOld
import Derived.Below
import Derived.LaidMore
import Derived.Stop.Joined
import Derived.SevenTiedAt
import Derived.LaidSub
import Derived.LaidOnce
import Derived.OpenVars
namespace Go.Proofs.YtgdpaigcmoifbaaGreatDoor.fnExactWake
open Go.ChangeShapes Go.WideShapes Go.ChangeAt Go.WideMaps Go.WideElems Go.RowKit
set_option linter.unusedVariables false

theorem own : ownKnob Tryz.prog.godebug = none := by kernel_rfl
theorem laidOut : laidOutB Tryz.prog = true := by kernel_rfl
set_option maxRecDepth 100000 in
theorem door_met (os : Os) (args : Array Value) : laidMetH Tryz.prog Rows.fnExactWakeRow.laid ((World.doorLaid Tryz.prog 111 os).forCall (fun _ _ => 0) ⟨#[], args, []⟩).memory :=
  laidMetH_of_parts3 (fuel := 8) (laidMet_of_run' 8 (by kernel_rfl) (by kernel_rfl)) (by kernel_rfl) (by kernel_rfl)

theorem varsOk : varsRowed Tryz.prog ["loop.example/g00553/impl.errNone", "loop.example/g00553/impl.errState", "loop.example/g00553/impl.errFull", "loop.example/g00553/impl.errRange", "loop.example/g00553/impl.errLast"] = true := by kernel_rfl
theorem gs_len {H : Type} {enc : TypeId × Value → H} {W : World} {sp : Nat → Bool} : ∀ {ns : List String} {gs : List (DataW H)} {ps : List MemPlace}, DataW.TrodVars enc Tryz.prog W sp ns gs ps → gs.length = ns.length
  | [], [], _, _ => rfl
  | [], _ :: _, _, h => h.elim
  | _ :: _, [], _, h => h.elim
  | _ :: ns, _ :: gs, _, ⟨_, _, _, _, _, _, _, _, _, _, hs, _⟩ => by simp [gs_len hs]

set_option maxRecDepth 100000 in
theorem lifted (os : Os) (started : os.Started) (H : Type) (enc : TypeId × Value → H) :
    ReturnsInHanded {} Tryz.checked os 5 .any (fun w args => (Rows.fnExactWakeSpec.pre enc Tryz.prog Tryz.f5 [] false w args ∧ laidMetH Tryz.prog Rows.fnExactWakeRow.laid w) ∧ sizedMet enc Tryz.prog Tryz.f5 (OpenSpec.ofChange Rows.fnExactWakeSpec) false w args)
      (Rows.fnExactWakeSpec.post enc Tryz.prog Tryz.f5 false true false false) := by
  refine returnsInHanded_of_change_and (C := Tryz.checked) (X := fun w _ => laidMetH Tryz.prog Rows.fnExactWakeRow.laid w) (fun _ _ _ hh h => h.of_heap hh) own started (by kernel_rfl) Tryz.func5
    (ChangeSpec.witness_shaped (enc := enc) (C := Tryz.checked) (os := os) (X := fun w _ => laidMetH Tryz.prog Rows.fnExactWakeRow.laid w) false (World.doorLaid Tryz.prog 111 os) #[.agg #[.slice none 0 0, .slice none 0 0, .slice none 0 0, .slice none 0 0, .slice none 0 0, .int .i64 0], .int .i64 0] 8 rfl (World.shaped_of_RefB (by kernel_rfl) (by kernel_rfl)) (by kernel_rfl) (by kernel_rfl) (by kernel_rfl) (door_met os _)) ?_
  intro W base args ds gs before hval0 hW _ _ hL _
  have hval : ∀ (j : Nat) t v, Tryz.f5.params[j]? = some t → args[j]? = some v → Value.okWide Tryz.prog W .any base t v := hval0
  have hW' := hW
  obtain ⟨p, q, hA0, hV, rfl, hfz, hnd⟩ := hW
  have hA : DataW.TrodAll enc Tryz.prog W 0 (fun _ => true) true Tryz.f5.params.toList args.toList ds p := hA0
  rw [Tryz.params5] at hA hval
  obtain ⟨v0, vs0, d0, ds0, p0, q0, hargs, rfl, rfl, h0, r0⟩ := trodAll_cons hA
  obtain ⟨v1, vs1, d1, ds1, p1, q1, rfl, rfl, rfl, h1, r1⟩ := trodAll_cons r0
  obtain ⟨rfl, rfl, rfl⟩ := trodAll_nil r1
  obtain rfl : args = #[v0, v1] := by cases args; simp_all
  have hgl : gs.length = 5 := gs_len hV
  obtain ⟨g1, g2, g3, g4, g5, rfl⟩ : ∃ g1 g2 g3 g4 g5, gs = [g1, g2, g3, g4, g5] := by
    match gs, hgl with
    | [g1, g2, g3, g4, g5], _ => exact ⟨g1, g2, g3, g4, g5, rfl⟩
  have k0 := h0
  have lt0 : ∀ x ∈ p0, x.block < W.heap.size := by obtain ⟨m, hm⟩ := k0; exact DataW.trod_lt m _ _ _ hm
  obtain ⟨y0a, y0b, y0c, y0d, y0e, m0, rfl, w0⟩ := U8 (hval 0 30 v0 rfl rfl) h0
  obtain ⟨a1, rfl, rfl, rfl, w1⟩ := open_int Tryz.underlying2 (hval 1 2 v1 rfl rfl) h1
  clear hA0 hval0
  refine (P6 y0a y0b y0c y0d y0e m0 a1 W w0 (Mm hL)).mono fun e W' ⟨he, bel⟩ => ?_
  subst he
  exact ⟨_, rfl, _, _, _, [], _, q, hW', trodAll_mk1 (shut_bool Tryz.underlying4 _), (trodAll_cons_mk (Below.trod laidOut (by kernel_rfl) (of_decide_eq_true (by kernel_rfl)) k0 bel lt0) (trodAll_cons_mk (shut_int Tryz.underlying2 w1) trodAll_mk0)), Below.trodVars laidOut bel varsOk hV, bel.frame _, fun h => by cases h⟩

theorem c_inPlace : (Rows.fnExactWakeRow.inPlace == Tryz.prog.inPlace 5) = true := by kernel_rfl
theorem c_unfollowed : (Rows.fnExactWakeRow.unfollowed == Tryz.prog.unfollowed 5) = true := by kernel_rfl
theorem c_recurses : (Rows.fnExactWakeRow.recurses == Tryz.prog.recurses 5) = true := by kernel_rfl
theorem c_named : (Rows.fnExactWakeRow.named == Tryz.prog.varsNamed 5) = true := by kernel_rfl
theorem c_all : joinedFacts Tryz.prog 5 Tryz.f5 Rows.fnExactWakeSpec Rows.fnExactWakeRow = true := by
  unfold joinedFacts
  rw [c_inPlace, c_unfollowed, c_recurses, c_named]
  kernel_rfl
theorem c_fn : Tryz.prog.funcNamed Rows.fnExactWakeRow.func = some 5 := by kernel_rfl
theorem over : Rows.fnExactWakeRow.holds Tryz.pinned (OpenSpec.ofChange Rows.fnExactWakeSpec) :=
  OpenClaim.holds_of_wide 5 Tryz.f5 rfl rfl rfl rfl rfl rfl rfl ⟨rfl, rfl, rfl, rfl, rfl⟩ rfl rfl rfl rfl rfl c_fn Tryz.func5 c_all
    (of_decide_eq_true (by kernel_rfl)) (by unfold Func.isWrapper; first | (rw [if_pos (by decide +kernel)]; kernel_rfl) | (rw [if_neg (by decide +kernel)]; exact ⟨rfl, rfl⟩))
    (fun os started H enc _ => lifted os started H enc)

end Go.Proofs.YtgdpaigcmoifbaaGreatDoor.fnExactWake
namespace Go.Proofs.YtgdpaigcmoifbaaGreatDoor
open Go
theorem fnExactWake.k_wf : Rows.fnExactWakeRow.wfByText (OpenSpec.ofChange Rows.fnExactWakeSpec) = true := by kernel_rfl
theorem fnExactWake.k_stand : ([30, 2].all fun u => !Tryz.prog.wantsStandIn u) = true := by kernel_rfl
theorem FnExactWake_holds : Rows.FnExactWakeCardSaid :=
  Claim7.holds_tied_plain_at .later [] [.handle, .sentinel, .sentinel, .sentinel, .sentinel, .sentinel] true (true, "f5eded7fd2ffa290f45a4be5e1b364cc40849fa443edd30340ad2fbd73b5c6b6") true
    fnExactWake.over (fun _ h => by cases h) fnExactWake.k_wf (fun _ h => by cases h) fnExactWake_row_tie rfl ⟨rfl, rfl⟩ L8 rfl
    (fun f fn hf hfn => by
      obtain rfl : f = 5 := Option.some.inj (fnExactWake.c_fn.symm.trans hf) |>.symm
      obtain rfl : fn = Tryz.f5 := (Option.some.inj (Tryz.func5.symm.trans hfn)).symm
      exact ⟨PF, fun j t ht => by
        rw [Tryz.params5] at ht
        have hm : t ∈ [30, 2] := by simpa using Array.mem_of_getElem? ht
        exact (show Tryz.prog.wantsStandIn t = false by simpa using List.all_eq_true.1 fnExactWake.k_stand t hm)⟩)
    (L7 _ rfl)
end Go.Proofs.YtgdpaigcmoifbaaGreatDoor
