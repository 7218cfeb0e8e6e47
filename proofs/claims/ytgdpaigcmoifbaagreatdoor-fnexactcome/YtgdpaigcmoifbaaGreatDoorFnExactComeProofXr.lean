/- Exact Come: the program answers as the model does, in memory of its own, and leaves its argument alone, for every input; the row lists the sentinels, the card ties them to the text of the program. -/
import Derived.Test.YtgdpaigcmoifbaaGreatDoorXr01
import Derived.Test.YtgdpaigcmoifbaaGreatDoorXr02
import Derived.Test.YtgdpaigcmoifbaaGreatDoorXr03
import Derived.Test.YtgdpaigcmoifbaaGreatDoorXr04
import Derived.Test.YtgdpaigcmoifbaaGreatDoorXr05
import Derived.Test.YtgdpaigcmoifbaaGreatDoorXr06
import Derived.Test.YtgdpaigcmoifbaaGreatDoorXr07
import Derived.Test.YtgdpaigcmoifbaaGreatDoorXr08
import Derived.Test.YtgdpaigcmoifbaaGreatDoorXr09
import Derived.Test.YtgdpaigcmoifbaaGreatDoorXr10
import Derived.Test.YtgdpaigcmoifbaaGreatDoorXr11
import Derived.Test.YtgdpaigcmoifbaaGreatDoorXr12
import Derived.Test.YtgdpaigcmoifbaaGreatDoorXr13
import Derived.Test.YtgdpaigcmoifbaaGreatDoorXr14
import Derived.Test.YtgdpaigcmoifbaaGreatDoorXr15
import Derived.Test.YtgdpaigcmoifbaaGreatDoorXr16
import Derived.Test.YtgdpaigcmoifbaaGreatDoorXr17
import Derived.Test.YtgdpaigcmoifbaaGreatDoorXr18
import Derived.Test.YtgdpaigcmoifbaaGreatDoorXr19
import Derived.Test.YtgdpaigcmoifbaaGreatDoorXr20
import Derived.Test.YtgdpaigcmoifbaaGreatDoorXr21
import Derived.Test.YtgdpaigcmoifbaaGreatDoorXr22
import Derived.Test.YtgdpaigcmoifbaaGreatDoorXr23
import Derived.Test.YtgdpaigcmoifbaaGreatDoorXr24
import Derived.Test.YtgdpaigcmoifbaaGreatDoorXr25
import Derived.Test.YtgdpaigcmoifbaaGreatDoorXr26
import Derived.Test.YtgdpaigcmoifbaaGreatDoorXr27
import Derived.Test.YtgdpaigcmoifbaaGreatDoorXr28
import Derived.Test.YtgdpaigcmoifbaaGreatDoorXr29
import Derived.Test.YtgdpaigcmoifbaaGreatDoorXr30
import Derived.Test.YtgdpaigcmoifbaaGreatDoorXr31
import Derived.Test.YtgdpaigcmoifbaaGreatDoorXr32
import Derived.Test.YtgdpaigcmoifbaaGreatDoorXr33
import Derived.Test.YtgdpaigcmoifbaaGreatDoorXr34
import Derived.Test.YtgdpaigcmoifbaaGreatDoorXr35
import Derived.Test.YtgdpaigcmoifbaaGreatDoorXr36
import Derived.Test.YtgdpaigcmoifbaaGreatDoorRows
import Derived.Test.YtgdpaigcmoifbaaGreatDoorCards
import Derived.Test.YtgdpaigcmoifbaaGreatDoorTie
import Derived.WalkKit
import Derived.ProofKit
import Derived.OpenShut
import Derived.ChangeOld
import Derived.Below
import Derived.LaidMore
import Derived.Stop.Joined
import Derived.SevenTiedAt
import Derived.LaidSub
import Derived.LaidOnce
import Derived.OpenVars
namespace Go.Proofs.YtgdpaigcmoifbaaGreatDoor.fnExactCome
open Go.ChangeShapes Go.WideShapes Go.ChangeAt Go.WideMaps Go.WideElems Go.RowKit
set_option linter.unusedVariables false

theorem own : ownKnob Tryz.prog.godebug = none := by kernel_rfl
theorem laidOut : laidOutB Tryz.prog = true := by kernel_rfl
set_option maxRecDepth 100000 in
theorem door_met (os : Os) (args : Array Value) : laidMetH Tryz.prog Rows.fnExactComeRow.laid ((World.doorLaid Tryz.prog 111 os).forCall (fun _ _ => 0) ⟨#[], args, []⟩).memory :=
  laidMetH_of_parts3 (fuel := 8) (laidMet_of_run' 8 (by kernel_rfl) (by kernel_rfl)) (by kernel_rfl) (by kernel_rfl)

theorem varsOk : varsRowed Tryz.prog ["loop.example/g00553/impl.errRange", "loop.example/g00553/impl.errFull", "loop.example/g00553/impl.errState", "loop.example/g00553/impl.errNone", "loop.example/g00553/impl.errLast"] = true := by kernel_rfl
theorem gs_len {H : Type} {enc : TypeId × Value → H} {W : World} {sp : Nat → Bool} : ∀ {ns : List String} {gs : List (DataW H)} {ps : List MemPlace}, DataW.TrodVars enc Tryz.prog W sp ns gs ps → gs.length = ns.length
  | [], [], _, _ => rfl
  | [], _ :: _, _, h => h.elim
  | _ :: _, [], _, h => h.elim
  | _ :: ns, _ :: gs, _, ⟨_, _, _, _, _, _, _, _, _, _, hs, _⟩ => by simp [gs_len hs]

set_option maxRecDepth 100000 in
theorem lifted (os : Os) (started : os.Started) (H : Type) (enc : TypeId × Value → H) :
    ReturnsInHanded {} Tryz.checked os 6 .any (fun w args => (Rows.fnExactComeSpec.pre enc Tryz.prog Tryz.f6 [] false w args ∧ laidMetH Tryz.prog Rows.fnExactComeRow.laid w) ∧ sizedMet enc Tryz.prog Tryz.f6 (OpenSpec.ofChange Rows.fnExactComeSpec) false w args)
      (Rows.fnExactComeSpec.post enc Tryz.prog Tryz.f6 false true false false) := by
  refine returnsInHanded_of_change_and (C := Tryz.checked) (X := fun w _ => laidMetH Tryz.prog Rows.fnExactComeRow.laid w) (fun _ _ _ hh h => h.of_heap hh) own started (by kernel_rfl) Tryz.func6
    (ChangeSpec.witness_shaped (enc := enc) (C := Tryz.checked) (os := os) (X := fun w _ => laidMetH Tryz.prog Rows.fnExactComeRow.laid w) false (World.doorLaid Tryz.prog 111 os) #[.agg #[.slice none 0 0, .slice none 0 0, .slice none 0 0, .slice none 0 0, .slice none 0 0, .int .i64 0], .int .i64 0, .int .i64 0, .int .i64 0] 8 rfl (World.shaped_of_RefB (by kernel_rfl) (by kernel_rfl)) (by kernel_rfl) (by kernel_rfl) (by kernel_rfl) (door_met os _)) ?_
  intro W base args ds gs before hval0 hW _ _ hL _
  have hval : ∀ (j : Nat) t v, Tryz.f6.params[j]? = some t → args[j]? = some v → Value.okWide Tryz.prog W .any base t v := hval0
  have hW' := hW
  obtain ⟨p, q, hA0, hV, rfl, hfz, hnd⟩ := hW
  have hA : DataW.TrodAll enc Tryz.prog W 0 (fun _ => true) true Tryz.f6.params.toList args.toList ds p := hA0
  rw [Tryz.params6] at hA hval
  obtain ⟨v0, vs0, d0, ds0, p0, q0, hargs, rfl, rfl, h0, r0⟩ := trodAll_cons hA
  obtain ⟨v1, vs1, d1, ds1, p1, q1, rfl, rfl, rfl, h1, r1⟩ := trodAll_cons r0
  obtain ⟨v2, vs2, d2, ds2, p2, q2, rfl, rfl, rfl, h2, r2⟩ := trodAll_cons r1
  obtain ⟨v3, vs3, d3, ds3, p3, q3, rfl, rfl, rfl, h3, r3⟩ := trodAll_cons r2
  obtain ⟨rfl, rfl, rfl⟩ := trodAll_nil r3
  obtain rfl : args = #[v0, v1, v2, v3] := by cases args; simp_all
  have hgl : gs.length = 5 := gs_len hV
  obtain ⟨g1, g2, g3, g4, g5, rfl⟩ : ∃ g1 g2 g3 g4 g5, gs = [g1, g2, g3, g4, g5] := by
    match gs, hgl with
    | [g1, g2, g3, g4, g5], _ => exact ⟨g1, g2, g3, g4, g5, rfl⟩
  have k0 := h0
  have lt0 : ∀ x ∈ p0, x.block < W.heap.size := by obtain ⟨m, hm⟩ := k0; exact DataW.trod_lt m _ _ _ hm
  obtain ⟨y0a, y0b, y0c, y0d, y0e, m0, rfl, w0⟩ := U8 (hval 0 30 v0 rfl rfl) h0
  obtain ⟨a1, rfl, rfl, rfl, w1⟩ := open_int Tryz.underlying2 (hval 1 2 v1 rfl rfl) h1
  obtain ⟨a2, rfl, rfl, rfl, w2⟩ := open_int Tryz.underlying2 (hval 2 2 v2 rfl rfl) h2
  obtain ⟨a3, rfl, rfl, rfl, w3⟩ := open_int Tryz.underlying2 (hval 3 2 v3 rfl rfl) h3
  clear hA0 hval0
  refine (P4 y0a y0b y0c y0d y0e m0 a1 a2 a3 W w0 (Mm hL)).mono fun e W' ⟨he, bel⟩ => ?_
  subst he
  exact ⟨_, rfl, _, _, _, [], _, q, hW', trodAll_mk1 (shut_bool Tryz.underlying4 _), (trodAll_cons_mk (Below.trod laidOut (by kernel_rfl) (of_decide_eq_true (by kernel_rfl)) k0 bel lt0) (trodAll_cons_mk (shut_int Tryz.underlying2 w1) (trodAll_cons_mk (shut_int Tryz.underlying2 w2) (trodAll_cons_mk (shut_int Tryz.underlying2 w3) trodAll_mk0)))), Below.trodVars laidOut bel varsOk hV, bel.frame _, fun h => by cases h⟩

theorem c_inPlace : (Rows.fnExactComeRow.inPlace == Tryz.prog.inPlace 6) = true := by kernel_rfl
theorem c_unfollowed : (Rows.fnExactComeRow.unfollowed == Tryz.prog.unfollowed 6) = true := by kernel_rfl
theorem c_recurses : (Rows.fnExactComeRow.recurses == Tryz.prog.recurses 6) = true := by kernel_rfl
theorem c_named : (Rows.fnExactComeRow.named == Tryz.prog.varsNamed 6) = true := by kernel_rfl
theorem c_all : joinedFacts Tryz.prog 6 Tryz.f6 Rows.fnExactComeSpec Rows.fnExactComeRow = true := by
  unfold joinedFacts
  rw [c_inPlace, c_unfollowed, c_recurses, c_named]
  kernel_rfl
theorem c_fn : Tryz.prog.funcNamed Rows.fnExactComeRow.func = some 6 := by kernel_rfl
theorem over : Rows.fnExactComeRow.holds Tryz.pinned (OpenSpec.ofChange Rows.fnExactComeSpec) :=
  OpenClaim.holds_of_wide 6 Tryz.f6 rfl rfl rfl rfl rfl rfl rfl ⟨rfl, rfl, rfl, rfl, rfl⟩ rfl rfl rfl rfl rfl c_fn Tryz.func6 c_all
    (of_decide_eq_true (by kernel_rfl)) (by unfold Func.isWrapper; first | (rw [if_pos (by decide +kernel)]; kernel_rfl) | (rw [if_neg (by decide +kernel)]; exact ⟨rfl, rfl⟩))
    (fun os started H enc _ => lifted os started H enc)

end Go.Proofs.YtgdpaigcmoifbaaGreatDoor.fnExactCome
namespace Go.Proofs.YtgdpaigcmoifbaaGreatDoor
open Go
theorem fnExactCome.k_wf : Rows.fnExactComeRow.wfByText (OpenSpec.ofChange Rows.fnExactComeSpec) = true := by kernel_rfl
theorem fnExactCome.k_stand : ([30, 2, 2, 2].all fun u => !Tryz.prog.wantsStandIn u) = true := by kernel_rfl
theorem FnExactCome_holds : Rows.FnExactComeCardSaid :=
  Claim7.holds_tied_plain_at .later [] [.handle, .sentinel, .sentinel, .sentinel, .sentinel, .sentinel] true (true, "f5eded7fd2ffa290f45a4be5e1b364cc40849fa443edd30340ad2fbd73b5c6b6") true
    fnExactCome.over (fun _ h => by cases h) fnExactCome.k_wf (fun _ h => by cases h) fnExactCome_row_tie rfl ⟨rfl, rfl⟩ L8 rfl
    (fun f fn hf hfn => by
      obtain rfl : f = 6 := Option.some.inj (fnExactCome.c_fn.symm.trans hf) |>.symm
      obtain rfl : fn = Tryz.f6 := (Option.some.inj (Tryz.func6.symm.trans hfn)).symm
      exact ⟨PF, fun j t ht => by
        rw [Tryz.params6] at ht
        have hm : t ∈ [30, 2, 2, 2] := by simpa using Array.mem_of_getElem? ht
        exact (show Tryz.prog.wantsStandIn t = false by simpa using List.all_eq_true.1 fnExactCome.k_stand t hm)⟩)
    (L7 _ rfl)
end Go.Proofs.YtgdpaigcmoifbaaGreatDoor
