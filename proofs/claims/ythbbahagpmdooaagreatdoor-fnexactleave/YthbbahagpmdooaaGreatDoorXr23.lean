/- What the proof rests on, part 23: lists and numbers, how they lie in memory, and contracts of the calls. No condition but those that a theorem names. -/
import Derived.Test.YthbbahagpmdooaaGreatDoorXr01
import Derived.Test.YthbbahagpmdooaaGreatDoorXr02
import Derived.Test.YthbbahagpmdooaaGreatDoorXr03
import Derived.Test.YthbbahagpmdooaaGreatDoorXr04
import Derived.Test.YthbbahagpmdooaaGreatDoorXr05
import Derived.Test.YthbbahagpmdooaaGreatDoorXr06
import Derived.Test.YthbbahagpmdooaaGreatDoorXr07
import Derived.Test.YthbbahagpmdooaaGreatDoorXr08
import Derived.Test.YthbbahagpmdooaaGreatDoorXr09
import Derived.Test.YthbbahagpmdooaaGreatDoorXr10
import Derived.Test.YthbbahagpmdooaaGreatDoorXr11
import Derived.Test.YthbbahagpmdooaaGreatDoorXr12
import Derived.Test.YthbbahagpmdooaaGreatDoorXr13
import Derived.Test.YthbbahagpmdooaaGreatDoorXr14
import Derived.Test.YthbbahagpmdooaaGreatDoorXr18
import Derived.Test.YthbbahagpmdooaaGreatDoorXr19
import Derived.Test.YthbbahagpmdooaaGreatDoorXr22
import Derived.Test.YthbbahagpmdooaaGreatDoorRows
import Derived.LaidMore
import Derived.Stop.Joined
import Derived.Stop.LaidErr
import Derived.Stop.LaidTwo
import Derived.LaidSub
import Derived.LaidHandle
import Derived.WalkMore
import Derived.Below
import Derived.ChangeKeysEq
import Derived.Laws.StructEq
import Derived.WalkKit
import Derived.ProofKit
import Derived.OpenShut
import Derived.Outline
import Derived.Deep.RegionHeld3
import Derived.Deep.DrawnRows
import Derived.BigRegion
import Derived.Deep.RegionLawGrows
import Derived.LaidEql
import Derived.Stop.Asserts
import Derived.RowKitTokens
import Derived.Lib.QuietBelow
import Derived.Deep.RegionWith
import Derived.Deep.QuietTactic
import Derived.BigQuiet
import Derived.Laws.OwnMore
import Derived.OwnWalk
import Derived.Lib.SmallJoins
import Derived.Deep.SlicePairs
import Derived.Maps.AppendAt
import Derived.Deep.Fields
import Derived.Deep.Slices
import Derived.OrdersHeld
import Derived.Deep.RegionHeldLaw
import Derived.Deep.DeepCutAuto
/- A smithy that is handed in, opened: what it reads as. No condition. -/
namespace Go.Proofs.YthbbahagpmdooaaGreatDoor
open Go.ChangeShapes Go.WideShapes Go.ChangeAt Go.RowKit Go.Deep
set_option linter.unusedVariables false

set_option maxRecDepth 100000 in
theorem open_smithy {H : Type} {enc : TypeId × Value → H} {W : World} {spare : Nat → Bool} {held : Bool} {r : Reach} {b0 : Nat} {v : Value} {d : DataW H} {p : List MemPlace}
    (hv : Value.okWide Tryz.prog W r b0 55 v) (h : DataW.Trod enc Tryz.prog W 0 spare held 55 v d p) : ∃ v0 v1 v2 v3 v4 m, v = .agg #[v0, v1, v2, v3, v4, .int .i64 m.now] ∧ Smy W v0 v1 v2 v3 v4 m := by
  obtain ⟨cs, rfl, hsz⟩ := okWide_struct Tryz.underlying55 hv
  have h1 : cs.size = 6 := hsz.trans (by kernel_rfl)
  obtain ⟨l⟩ := cs
  match l, h1 with
  | [c0, c1, c2, c3, c4, c5], _ =>
    obtain ⟨fuel, hf⟩ := h
    obtain ⟨xs, n, _, _, hl, hxl, hF⟩ := DataW.trod_struct Tryz.underlying55 hf
    have k1 : Tryz.prog.cellsOf 50 = 1 := by kernel_rfl
    have k2 : Tryz.prog.cellsOf 51 = 1 := by kernel_rfl
    have k3 : Tryz.prog.cellsOf 52 = 1 := by kernel_rfl
    have k4 : Tryz.prog.cellsOf 53 = 1 := by kernel_rfl
    have k5 : Tryz.prog.cellsOf 30 = 1 := by kernel_rfl
    have k6 : Tryz.prog.cellsOf 2 = 1 := by kernel_rfl
    match xs, hxl with
    | [y0, y1, y2, y3, y4, y5], _ =>
      have g0 := hF 0 _ rfl
      have g1 := hF 1 _ rfl
      have g2 := hF 2 _ rfl
      have g3 := hF 3 _ rfl
      have g4 := hF 4 _ rfl
      have g5 := hF 5 _ rfl
      simp [Value.cells, k1] at g0
      simp [Value.cells, k2] at g1
      simp [Value.cells, k3] at g2
      simp [Value.cells, k4] at g3
      simp [Value.cells, k5] at g4
      simp [Value.cells, k6] at g5
      obtain ⟨z0, n', _, _, h0⟩ := trod_struct1 Tryz.underlying50 g0
      have kr : Tryz.prog.cellsOf 48 = 1 := by kernel_rfl
      obtain ⟨rs, hr⟩ := open_rooms (v := c0) (by simpa [kr] using h0)
      obtain ⟨gs, hg⟩ := trod_guilds g1
      obtain ⟨ss, hs⟩ := trod_smiths g2
      obtain ⟨ds, hd⟩ := trod_desks g3
      obtain ⟨ps, hp⟩ := open_nums g4
      obtain ⟨now, e, _⟩ := DataW.trod_int Tryz.underlying2 g5
      cases e
      exact ⟨c0, c1, c2, c3, c4, ⟨rs, gs, ss, ds, ps, now⟩, rfl, ⟨hr, hg, hs, hd, hp⟩⟩

end Go.Proofs.YthbbahagpmdooaaGreatDoor

/- From a row's condition on the variables to what the walks ask of the sentinels: each lies in its variable, no two are one, and the library's own type of errors. No other condition. -/
namespace Go.Proofs.YthbbahagpmdooaaGreatDoor
open Go.ChangeShapes Go.WideShapes Go.ChangeAt Go.RowKit
set_option linter.unusedVariables false
set_option maxRecDepth 100000

theorem star : "*" ++ "errors.errorString" = "*errors.errorString" := by decide
theorem rowErr (u : TypeId) (h : Tryz.prog.typeName? 3 u = some "*errors.errorString") : u = 331 :=
  typeName_ptr_named (nm := "errors.errorString") (by rw [star]; kernel_rfl) (by kernel_rfl) (by decide) u (by rw [star]; exact h)
theorem rowT : (Tryz.prog.cutTypes.find? (·.1 == "internal/reflectlite.rtype")).map (·.2) = some 221 := by kernel_rfl
theorem rowOne : ((List.range Tryz.prog.types.size).filter fun t => Tryz.prog.rowNamed t [101, 114, 114, 111, 114]) = [69] := by kernel_rfl
theorem gType : Tryz.prog.globalNamed "errors.errorType" = some 4 := by kernel_rfl
theorem sent_inj {a b : Addr} {x : Option (Array Value)} (h : x = some #[sent a]) (k : x = some #[sent b]) : a = b := by
  rw [h] at k
  simpa using k
theorem one_sent {n : String} {g : Nat} {text : List UInt8} {r : List (String × DataW Unit)} {W : World} (h : laidMet Tryz.prog ((n, .iface "*errors.errorString" (.ptr (.agg [.lit (.string text)]))) :: r) W)
    (hg : Tryz.prog.globalNamed n = some g) (ht : (Tryz.prog.globals[g]?).map (·.type) = some 69) : ∃ a, W.var? Tryz.prog n = some #[sent a] ∧ W.cell? ⟨g, 0, none⟩ = some (sent a) := by
  obtain ⟨a, s, hv, _⟩ := laid_sentinel h hg ht Tryz.underlying69 rowErr Tryz.underlying331 Tryz.underlying358 rfl rfl Tryz.underlying9 (by kernel_rfl) (by kernel_rfl)
  exact ⟨a, hv, by rw [World.var?_cell hg hv 0]; rfl⟩
theorem two_sent {n0 n1 : String} {g0 g1 : Nat} {text0 text1 : List UInt8} {r : List (String × DataW Unit)} {W : World} {a0 a1 : Addr} (h : laidMet Tryz.prog ((n0, .iface "*errors.errorString" (.ptr (.agg [.lit (.string text0)]))) :: (n1, .iface "*errors.errorString" (.ptr (.agg [.lit (.string text1)]))) :: r) W)
    (hg0 : Tryz.prog.globalNamed n0 = some g0) (ht0 : (Tryz.prog.globals[g0]?).map (·.type) = some 69) (hg1 : Tryz.prog.globalNamed n1 = some g1) (ht1 : (Tryz.prog.globals[g1]?).map (·.type) = some 69)
    (v0 : W.var? Tryz.prog n0 = some #[sent a0]) (v1 : W.var? Tryz.prog n1 = some #[sent a1]) : a0 ≠ a1 ∧ (∃ c t, W.heap[a0.block]? = some (.cells c t (0, 0))) ∧ (∃ c t, W.heap[a1.block]? = some (.cells c t (0, 0))) := by
  obtain ⟨b0, b1, s0, s1, c0, c1, t0, t1, hv0, hv1, _, _, _, _, _, _, hne, hb0, hb1⟩ := laid_sentinels2 h hg0 ht0 hg1 ht1 Tryz.underlying69 rowErr Tryz.underlying331 Tryz.underlying358 rfl rfl Tryz.underlying9 (by kernel_rfl) (by kernel_rfl)
  obtain rfl := sent_inj hv0 v0
  obtain rfl := sent_inj hv1 v1
  exact ⟨hne, ⟨c0, t0, hb0⟩, ⟨c1, t1, hb1⟩⟩
theorem g_errNone : Tryz.prog.globalNamed "loop.example/g00553/impl.errNone" = some 3 := by kernel_rfl
theorem t_errNone : (Tryz.prog.globals[3]?).map (·.type) = some 69 := by kernel_rfl
theorem g_errState : Tryz.prog.globalNamed "loop.example/g00553/impl.errState" = some 2 := by kernel_rfl
theorem t_errState : (Tryz.prog.globals[2]?).map (·.type) = some 69 := by kernel_rfl
theorem g_errRange : Tryz.prog.globalNamed "loop.example/g00553/impl.errRange" = some 0 := by kernel_rfl
theorem t_errRange : (Tryz.prog.globals[0]?).map (·.type) = some 69 := by kernel_rfl
theorem g_errFull : Tryz.prog.globalNamed "loop.example/g00553/impl.errFull" = some 1 := by kernel_rfl
theorem t_errFull : (Tryz.prog.globals[1]?).map (·.type) = some 69 := by kernel_rfl
theorem ofLaid {W : World} (h : laidMetH Tryz.prog (("errors.errorType", Rows.laid_errors_errorType) :: [("loop.example/g00553/impl.errNone", Rows.laid_loop_example_g00553_impl_errNone), ("loop.example/g00553/impl.errState", Rows.laid_loop_example_g00553_impl_errState), ("loop.example/g00553/impl.errRange", Rows.laid_loop_example_g00553_impl_errRange), ("loop.example/g00553/impl.errFull", Rows.laid_loop_example_g00553_impl_errFull)]) W) : ∃ q, Errs W q := by
  have h' : laidMet Tryz.prog [("loop.example/g00553/impl.errNone", Rows.laid_loop_example_g00553_impl_errNone), ("loop.example/g00553/impl.errState", Rows.laid_loop_example_g00553_impl_errState), ("loop.example/g00553/impl.errRange", Rows.laid_loop_example_g00553_impl_errRange), ("loop.example/g00553/impl.errFull", Rows.laid_loop_example_g00553_impl_errFull)] W ∧ handlesMet Tryz.prog [("errors.errorType", Rows.laid_errors_errorType)] W := h
  obtain ⟨h0, hh⟩ := h'
  have ct : W.cell? ⟨4, 0, none⟩ = some (rty 69) := by
    obtain ⟨name, u, ty, e1, e2, e3, e4, e5⟩ := hh _ (List.mem_singleton.2 rfl)
    have en : name = [101, 114, 114, 111, 114] := (Option.some.inj e1).symm
    subst en
    obtain rfl := Option.some.inj (rowT.symm.trans e2)
    have hm : ty ∈ (List.range Tryz.prog.types.size).filter fun t => Tryz.prog.rowNamed t [101, 114, 114, 111, 114] := List.mem_filter.2 ⟨List.mem_range.2 e3, e4⟩
    rw [rowOne] at hm
    obtain rfl := List.mem_singleton.1 hm
    have h9 : typeHandle Tryz.prog 69 = .pointer (some ⟨5, 69, none⟩) := by kernel_rfl
    rw [h9] at e5
    rw [World.var?_cell gType e5 0]
    rfl
  have hA : laidMet Tryz.prog [("loop.example/g00553/impl.errNone", Rows.laid_loop_example_g00553_impl_errNone), ("loop.example/g00553/impl.errRange", Rows.laid_loop_example_g00553_impl_errRange), ("loop.example/g00553/impl.errFull", Rows.laid_loop_example_g00553_impl_errFull)] W := by
    have k := h0.filter (fun x => x.1 != "loop.example/g00553/impl.errState")
    rwa [show List.filter (fun x => x.1 != "loop.example/g00553/impl.errState") [("loop.example/g00553/impl.errNone", Rows.laid_loop_example_g00553_impl_errNone), ("loop.example/g00553/impl.errState", Rows.laid_loop_example_g00553_impl_errState), ("loop.example/g00553/impl.errRange", Rows.laid_loop_example_g00553_impl_errRange), ("loop.example/g00553/impl.errFull", Rows.laid_loop_example_g00553_impl_errFull)] = [("loop.example/g00553/impl.errNone", Rows.laid_loop_example_g00553_impl_errNone), ("loop.example/g00553/impl.errRange", Rows.laid_loop_example_g00553_impl_errRange), ("loop.example/g00553/impl.errFull", Rows.laid_loop_example_g00553_impl_errFull)] from by kernel_rfl] at k
  have hB : laidMet Tryz.prog [("loop.example/g00553/impl.errNone", Rows.laid_loop_example_g00553_impl_errNone), ("loop.example/g00553/impl.errFull", Rows.laid_loop_example_g00553_impl_errFull)] W := by
    have k := h0.filter (fun x => x.1 != "loop.example/g00553/impl.errState" && x.1 != "loop.example/g00553/impl.errRange")
    rwa [show List.filter (fun x => x.1 != "loop.example/g00553/impl.errState" && x.1 != "loop.example/g00553/impl.errRange") [("loop.example/g00553/impl.errNone", Rows.laid_loop_example_g00553_impl_errNone), ("loop.example/g00553/impl.errState", Rows.laid_loop_example_g00553_impl_errState), ("loop.example/g00553/impl.errRange", Rows.laid_loop_example_g00553_impl_errRange), ("loop.example/g00553/impl.errFull", Rows.laid_loop_example_g00553_impl_errFull)] = [("loop.example/g00553/impl.errNone", Rows.laid_loop_example_g00553_impl_errNone), ("loop.example/g00553/impl.errFull", Rows.laid_loop_example_g00553_impl_errFull)] from by kernel_rfl] at k
  have hC : laidMet Tryz.prog [("loop.example/g00553/impl.errNone", Rows.laid_loop_example_g00553_impl_errNone), ("loop.example/g00553/impl.errState", Rows.laid_loop_example_g00553_impl_errState), ("loop.example/g00553/impl.errFull", Rows.laid_loop_example_g00553_impl_errFull)] W := by
    have k := h0.filter (fun x => x.1 != "loop.example/g00553/impl.errRange")
    rwa [show List.filter (fun x => x.1 != "loop.example/g00553/impl.errRange") [("loop.example/g00553/impl.errNone", Rows.laid_loop_example_g00553_impl_errNone), ("loop.example/g00553/impl.errState", Rows.laid_loop_example_g00553_impl_errState), ("loop.example/g00553/impl.errRange", Rows.laid_loop_example_g00553_impl_errRange), ("loop.example/g00553/impl.errFull", Rows.laid_loop_example_g00553_impl_errFull)] = [("loop.example/g00553/impl.errNone", Rows.laid_loop_example_g00553_impl_errNone), ("loop.example/g00553/impl.errState", Rows.laid_loop_example_g00553_impl_errState), ("loop.example/g00553/impl.errFull", Rows.laid_loop_example_g00553_impl_errFull)] from by kernel_rfl] at k
  obtain ⟨a1, v1, c1⟩ := one_sent h0 g_errNone t_errNone
  obtain ⟨a2, v2, c2⟩ := one_sent h0.tail g_errState t_errState
  obtain ⟨a3, v3, c3⟩ := one_sent h0.tail.tail g_errRange t_errRange
  obtain ⟨a4, v4, c4⟩ := one_sent h0.tail.tail.tail g_errFull t_errFull
  obtain ⟨n12, bn121, bn122⟩ := two_sent h0 g_errNone t_errNone g_errState t_errState v1 v2
  obtain ⟨n23, bn232, bn233⟩ := two_sent h0.tail g_errState t_errState g_errRange t_errRange v2 v3
  obtain ⟨n34, bn343, bn344⟩ := two_sent h0.tail.tail g_errRange t_errRange g_errFull t_errFull v3 v4
  obtain ⟨n13, bn131, bn133⟩ := two_sent hA g_errNone t_errNone g_errRange t_errRange v1 v3
  obtain ⟨n14, bn141, bn144⟩ := two_sent hB g_errNone t_errNone g_errFull t_errFull v1 v4
  obtain ⟨n24, bn242, bn244⟩ := two_sent hC.tail g_errState t_errState g_errFull t_errFull v2 v4
  exact ⟨fun i => if i = 1 then a1 else if i = 2 then a2 else if i = 3 then a3 else a4, c1, c2, c3, c4, ct, bn121, bn122, bn233, bn344, n12, n13, n14, n23, n24, n34⟩

end Go.Proofs.YthbbahagpmdooaaGreatDoor

/- Contracts of the model's changes (Leave): each answers what the plain lists say, in memory of its own. Condition: the smithy can be read. -/
namespace Go.Proofs.YthbbahagpmdooaaGreatDoor
open Go.ChangeShapes Go.WideShapes Go.ChangeAt Go.RowKit Go.Sort
set_option linter.unusedVariables false
set_option linter.unusedSimpArgs false

set_option maxRecDepth 100000 in
set_option maxHeartbeats 8000000 in
theorem specLeave_any {w : World} {v0 v1 v2 v3 v4 : Value} {m : SmyV} (who : Int) (h : Smy w v0 v1 v2 v3 v4 m) :
    Calls Tryz.prog 28 #[.agg #[v0, v1, v2, v3, v4, .int .i64 m.now], .int .i64 who] w fun e w' => GotM w.heap.size (leaveV m who).1 (leaveV m who).2 e w' ∧ Below w.heap.size w w' := by
  obtain ⟨X, hX⟩ : ∃ x, leaveV m who = x := ⟨_, rfl⟩
  rw [hX]
  have HX := hide hX
  clear hX
  have Hv0 := hide h
  obtain ⟨a0, p0, rfl, _, _⟩ := IsRooms.shape h.rooms
  obtain ⟨a1, p1, rfl, _, _⟩ := IsRec.shape h.guilds
  obtain ⟨a2, p2, rfl, _, _⟩ := IsRec.shape h.smiths
  obtain ⟨a3, p3, rfl, _, _⟩ := IsRec.shape h.desks
  obtain ⟨a4, p4, rfl, _, _⟩ := IsRec.shape h.paces
  clear h
  obtain ⟨ok, hok⟩ : ∃ q, smyB m = q := ⟨_, rfl⟩
  have Hok := hide hok
  clear hok
  go_enter Tryz.func28, Tryz.ntmps28
  go_wp2_with fail
  have kb : Hid (Blk ((w.alloc (.cells #[.slice a0 m.rooms.length p0, .slice a1 m.guilds.length p1, .slice a2 m.smiths.length p2, .slice a3 m.desks.length p3, .slice a4 m.paces.length p4, .int .i64 m.now] 32)).alloc (.cells #[.slice none 0 0, .slice none 0 0, .slice none 0 0, .slice none 0 0, .slice none 0 0, .int .i64 0] 32)) w.heap.size 32 #[.slice a0 m.rooms.length p0, .slice a1 m.guilds.length p1, .slice a2 m.smiths.length p2, .slice a3 m.desks.length p3, .slice a4 m.paces.length p4, .int .i64 m.now]) := hide ((Blk.new w _ _).alloc _)
  have kr : Hid (Blk ((w.alloc (.cells #[.slice a0 m.rooms.length p0, .slice a1 m.guilds.length p1, .slice a2 m.smiths.length p2, .slice a3 m.desks.length p3, .slice a4 m.paces.length p4, .int .i64 m.now] 32)).alloc (.cells #[.slice none 0 0, .slice none 0 0, .slice none 0 0, .slice none 0 0, .slice none 0 0, .int .i64 0] 32)) (w.heap.size + 1) 32 #[.slice none 0 0, .slice none 0 0, .slice none 0 0, .slice none 0 0, .slice none 0 0, .int .i64 0]) := hide (by
    have k := Blk.new (w.alloc (.cells #[.slice a0 m.rooms.length p0, .slice a1 m.guilds.length p1, .slice a2 m.smiths.length p2, .slice a3 m.desks.length p3, .slice a4 m.paces.length p4, .int .i64 m.now] 32)) 32 #[.slice none 0 0, .slice none 0 0, .slice none 0 0, .slice none 0 0, .slice none 0 0, .int .i64 0]
    rw [World.size_alloc] at k
    exact k)
  have BB : Hid (Below w.heap.size w ((w.alloc (.cells #[.slice a0 m.rooms.length p0, .slice a1 m.guilds.length p1, .slice a2 m.smiths.length p2, .slice a3 m.desks.length p3, .slice a4 m.paces.length p4, .int .i64 m.now] 32)).alloc (.cells #[.slice none 0 0, .slice none 0 0, .slice none 0 0, .slice none 0 0, .slice none 0 0, .int .i64 0] 32))) := hide (((Below.refl _ _).alloc (Nat.le_refl _) _).alloc (by simp) _)
  have Hv := hide ((unhide Hv0).below (unhide BB))
  clear Hv0
  generalize (w.alloc (.cells #[.slice a0 m.rooms.length p0, .slice a1 m.guilds.length p1, .slice a2 m.smiths.length p2, .slice a3 m.desks.length p3, .slice a4 m.paces.length p4, .int .i64 m.now] 32)).alloc (.cells #[.slice none 0 0, .slice none 0 0, .slice none 0 0, .slice none 0 0, .slice none 0 0, .int .i64 0] 32) = W at *
  refine (spec_q (unhide Hok) (unhide Hv)).mono ?_
  rintro e w1 ⟨rfl, hb⟩
  replace kb := hide ((unhide kb).below hb (unhide kb).lt)
  replace kr := hide ((unhide kr).below hb (unhide kr).lt)
  replace Hv := hide ((unhide Hv).below hb)
  replace BB := hide ((unhide BB).trans (hb.mono (unhide BB).size))
  clear hb
  cases ok
  · -- it is not right
    have c0 := (unhide kb).cell (i := 0) (v := .slice a0 m.rooms.length p0) rfl
    have c1 := (unhide kb).cell (i := 1) (v := .slice a1 m.guilds.length p1) rfl
    have c2 := (unhide kb).cell (i := 2) (v := .slice a2 m.smiths.length p2) rfl
    have c3 := (unhide kb).cell (i := 3) (v := .slice a3 m.desks.length p3) rfl
    have c4 := (unhide kb).cell (i := 4) (v := .slice a4 m.paces.length p4) rfl
    have c5 := (unhide kb).cell (i := 5) (v := .int .i64 m.now) rfl
    go_wp2_with fail
    clear c0 c1 c2 c3 c4 c5
    refine (l15Bad_any (unhide Hv)).mono ?_
    rintro e w2 ⟨rfl, hb⟩
    replace kb := hide ((unhide kb).below hb (unhide kb).lt)
    replace kr := hide ((unhide kr).below hb (unhide kr).lt)
    replace Hv := hide ((unhide Hv).below hb)
    replace BB := hide ((unhide BB).trans (hb.mono (unhide BB).size))
    clear hb
    have o0 := (unhide kr).cell (i := 0) (v := .slice none 0 0) rfl
    have o1 := (unhide kr).cell (i := 1) (v := .slice none 0 0) rfl
    have o2 := (unhide kr).cell (i := 2) (v := .slice none 0 0) rfl
    have o3 := (unhide kr).cell (i := 3) (v := .slice none 0 0) rfl
    have o4 := (unhide kr).cell (i := 4) (v := .slice none 0 0) rfl
    have o5 := (unhide kr).cell (i := 5) (v := .int .i64 0) rfl
    have f0 := (unhide kr).free 0
    have f1 := (unhide kr).free 1
    have f2 := (unhide kr).free 2
    have f3 := (unhide kr).free 3
    have f4 := (unhide kr).free 4
    have f5 := (unhide kr).free 5
    go_wp2_with fail
    have hX0 : X = (zeroM, 3) := by rw [← unhide HX]; unfold leaveV; rw [unhide Hok]; rfl
    refine bodyPost_ret (v := .tuple #[.agg #[.slice none 0 0, .slice none 0 0, .slice none 0 0, .slice none 0 0, .slice none 0 0, .int .i64 0], .int .i64 3]) (by simp [results, Tryz.results28, go_sem, *]) rfl ⟨?_, ?_⟩
    · rw [hX0]; exact ⟨_, _, _, _, _, [], rfl, full_zero _ _⟩
    · iterate 6 (refine Below.setCell ?_ (by show _ ≤ w.heap.size + 1; omega) _)
      exact unhide BB
  have hlo := smy_loose (unhide Hok)
  have HLo := hide hlo
  have HFew := hide (few_of hlo)
  clear hlo
  have c0 := (unhide kb).cell (i := 0) (v := .slice a0 m.rooms.length p0) rfl
  have c1 := (unhide kb).cell (i := 1) (v := .slice a1 m.guilds.length p1) rfl
  have c2 := (unhide kb).cell (i := 2) (v := .slice a2 m.smiths.length p2) rfl
  have c3 := (unhide kb).cell (i := 3) (v := .slice a3 m.desks.length p3) rfl
  have c4 := (unhide kb).cell (i := 4) (v := .slice a4 m.paces.length p4) rfl
  have c5 := (unhide kb).cell (i := 5) (v := .int .i64 m.now) rfl
  go_wp2_with fail
  clear c0 c1 c2 c3 c4 c5
  have hWs : w.heap.size + 2 ≤ w1.heap.size := by have := (unhide kr).lt; omega
  refine (l11Copy_any (unhide Hv) (unhide HFew)).mono ?_
  rintro e w2 ⟨y0, y1, y2, y3, y4, oq, rfl, ho, hb⟩
  have k9 := ho.smy
  obtain ⟨b0, q0, rfl, _, _⟩ := IsRooms.shape k9.rooms
  obtain ⟨b1, q1, rfl, _, _⟩ := IsRec.shape k9.guilds
  obtain ⟨b2, q2, rfl, _, _⟩ := IsRec.shape k9.smiths
  obtain ⟨b3, q3, rfl, _, _⟩ := IsRec.shape k9.desks
  obtain ⟨b4, q4, rfl, _, _⟩ := IsRec.shape k9.paces
  clear k9
  replace kb := hide ((unhide kb).below hb (unhide kb).lt)
  replace kr := hide ((unhide kr).below hb (unhide kr).lt)
  replace Hv := hide ((unhide Hv).below hb)
  replace BB := hide ((unhide BB).trans (hb.mono (unhide BB).size))
  have HO := hide (ho.mono hWs)
  have LO : Hid (∀ k, OwnB (.slice b0 m.rooms.length q0) (.slice b1 m.guilds.length q1) (.slice b2 m.smiths.length q2) (.slice b3 m.desks.length q3) (.slice b4 m.paces.length q4) oq k → w.heap.size + 2 ≤ k ∧ k < w2.heap.size) := hide (fun k e => (unhide HO).own e)
  have hsz9 := hb.size
  clear ho hb
  go_upto_region 4 with fail
  have hba : Below w2.heap.size w2 (w2.alloc (.cells #[.slice b0 m.rooms.length q0, .slice b1 m.guilds.length q1, .slice b2 m.smiths.length q2, .slice b3 m.desks.length q3, .slice b4 m.paces.length q4, .int .i64 m.now] 32)) := (Below.refl _ _).alloc (Nat.le_refl _) _
  replace kb := hide ((unhide kb).below hba (unhide kb).lt)
  replace kr := hide ((unhide kr).below hba (unhide kr).lt)
  replace Hv := hide ((unhide Hv).below hba)
  replace HO := hide ((unhide HO).below hba)
  replace BB := hide ((unhide BB).trans (hba.mono (unhide BB).size))
  have ko : Hid (Blk (w2.alloc (.cells #[.slice b0 m.rooms.length q0, .slice b1 m.guilds.length q1, .slice b2 m.smiths.length q2, .slice b3 m.desks.length q3, .slice b4 m.paces.length q4, .int .i64 m.now] 32)) w2.heap.size 32 #[.slice b0 m.rooms.length q0, .slice b1 m.guilds.length q1, .slice b2 m.smiths.length q2, .slice b3 m.desks.length q3, .slice b4 m.paces.length q4, .int .i64 m.now]) := hide (Blk.new _ _ _)
  have hob : w.heap.size + 2 ≤ w2.heap.size := Nat.le_trans hWs hsz9
  clear hba hsz9 hWs
  generalize w2.alloc (.cells #[.slice b0 m.rooms.length q0, .slice b1 m.guilds.length q1, .slice b2 m.smiths.length q2, .slice b3 m.desks.length q3, .slice b4 m.paces.length q4, .int .i64 m.now] 32) = W2 at *
  generalize w2.heap.size = ob at *
  obtain ⟨qw, hqw⟩ : ∃ q, whoB m who = q := ⟨_, rfl⟩
  have Hqw := hide hqw
  clear hqw
  have c0 := (unhide kb).cell (i := 0) (v := .slice a0 m.rooms.length p0) rfl
  have c1 := (unhide kb).cell (i := 1) (v := .slice a1 m.guilds.length p1) rfl
  have c2 := (unhide kb).cell (i := 2) (v := .slice a2 m.smiths.length p2) rfl
  have c3 := (unhide kb).cell (i := 3) (v := .slice a3 m.desks.length p3) rfl
  have c4 := (unhide kb).cell (i := 4) (v := .slice a4 m.paces.length p4) rfl
  have c5 := (unhide kb).cell (i := 5) (v := .int .i64 m.now) rfl
  go_wp2_with fail
  clear c0 c1 c2 c3 c4 c5
  refine (l11Who_q (unhide Hqw) (unhide Hv)).mono ?_
  rintro e w3 ⟨rfl, hb⟩
  replace kb := hide ((unhide kb).below hb (unhide kb).lt)
  replace kr := hide ((unhide kr).below hb (unhide kr).lt)
  replace Hv := hide ((unhide Hv).below hb)
  replace HO := hide ((unhide HO).below hb)
  replace ko := hide ((unhide ko).below hb (unhide ko).lt)
  replace BB := hide ((unhide BB).trans (hb.mono (unhide BB).size))
  clear hb
  cases qw
  · -- none
    have x0 := (unhide ko).cell (i := 0) (v := .slice b0 m.rooms.length q0) rfl
    have x1 := (unhide ko).cell (i := 1) (v := .slice b1 m.guilds.length q1) rfl
    have x2 := (unhide ko).cell (i := 2) (v := .slice b2 m.smiths.length q2) rfl
    have x3 := (unhide ko).cell (i := 3) (v := .slice b3 m.desks.length q3) rfl
    have x4 := (unhide ko).cell (i := 4) (v := .slice b4 m.paces.length q4) rfl
    have x5 := (unhide ko).cell (i := 5) (v := .int .i64 m.now) rfl
    have o0 := (unhide kr).cell (i := 0) (v := .slice none 0 0) rfl
    have o1 := (unhide kr).cell (i := 1) (v := .slice none 0 0) rfl
    have o2 := (unhide kr).cell (i := 2) (v := .slice none 0 0) rfl
    have o3 := (unhide kr).cell (i := 3) (v := .slice none 0 0) rfl
    have o4 := (unhide kr).cell (i := 4) (v := .slice none 0 0) rfl
    have o5 := (unhide kr).cell (i := 5) (v := .int .i64 0) rfl
    have f0 := (unhide kr).free 0
    have f1 := (unhide kr).free 1
    have f2 := (unhide kr).free 2
    have f3 := (unhide kr).free 3
    have f4 := (unhide kr).free 4
    have f5 := (unhide kr).free 5
    go_wp2_with fail
    have hX0 : X = (m, 1) := by rw [← unhide HX]; unfold leaveV; rw [unhide Hok, unhide Hqw]; rfl
    refine bodyPost_ret (v := .tuple #[.agg #[.slice b0 m.rooms.length q0, .slice b1 m.guilds.length q1, .slice b2 m.smiths.length q2, .slice b3 m.desks.length q3, .slice b4 m.paces.length q4, .int .i64 m.now], .int .i64 1]) (by simp [results, Tryz.results28, go_sem, *]) rfl ⟨?_, ?_⟩
    · rw [hX0]; refine ⟨_, _, _, _, _, oq, rfl, ?_⟩
      iterate 6 (refine FullSmy.set_off ?_ (fun k e => by have := (unhide LO k e).1; omega) _ _)
      exact (unhide HO).mono (by omega)
    · iterate 6 (refine Below.setCell ?_ (by show _ ≤ w.heap.size + 1; omega) _)
      exact unhide BB
  obtain ⟨k, rfl, hk, hs0⟩ := whoB_of (unhide Hqw)
  have hk1 : (k : Int) < (m.smiths.length : Int) := by omega
  obtain ⟨g2, hga, _, _, hc2, hz2⟩ := RecAt.view encSmith_len (by omega) (unhide HO).smiths rfl (by omega)
  cases hga
  have hg2o := (unhide LO g2 (.inr (.inr (.inr (.inl rfl)))))
  have x2 := (unhide ko).cell (i := 2) (v := .slice (some ⟨g2, 0, none⟩) m.smiths.length q2) rfl
  have s0 := hc2 k hk 0 _ rfl
  have g0 := hz2 (k * 11 + 0)
  have s1 := hc2 k hk 1 _ rfl
  have g1 := hz2 (k * 11 + 1)
  have s2 := hc2 k hk 2 _ rfl
  have g2 := hz2 (k * 11 + 2)
  have s3 := hc2 k hk 3 _ rfl
  have g3 := hz2 (k * 11 + 3)
  have s4 := hc2 k hk 4 _ rfl
  have g4 := hz2 (k * 11 + 4)
  have s5 := hc2 k hk 5 _ rfl
  have g5 := hz2 (k * 11 + 5)
  have s6 := hc2 k hk 6 _ rfl
  have g6 := hz2 (k * 11 + 6)
  have s7 := hc2 k hk 7 _ rfl
  have g7 := hz2 (k * 11 + 7)
  have s8 := hc2 k hk 8 _ rfl
  have g8 := hz2 (k * 11 + 8)
  have s9 := hc2 k hk 9 _ rfl
  have g9 := hz2 (k * 11 + 9)
  have s10 := hc2 k hk 10 _ rfl
  have g10 := hz2 (k * 11 + 10)
  simp only [Nat.add_zero] at s0 g0
  have hput := (unhide HO).putW rfl hk (zeroS)
  rw [show encSmith (zeroS) = [.int .i64 0, .int .i64 0, .int .i64 0, .int .i64 0, .int .i64 0, .int .i64 0, .int .i64 0, .int .i64 0, .int .i64 0, .int .i64 0, .int .i64 0] from rfl, setW11] at hput
  have HP := hide hput
  clear hput hc2 hz2 HO
  go_upto_region 7 with fail
  clear x2 s0 g0 s1 g1 s2 g2 s3 g3 s4 g4 s5 g5 s6 g6 s7 g7 s8 g8 s9 g9 s10 g10
  replace ko : Hid (Blk ((((((((((((w3).setCell ⟨g2, k * 11, none⟩ (.int .i64 0)).setCell ⟨g2, k * 11 + 1, none⟩ (.int .i64 0)).setCell ⟨g2, k * 11 + 2, none⟩ (.int .i64 0)).setCell ⟨g2, k * 11 + 3, none⟩ (.int .i64 0)).setCell ⟨g2, k * 11 + 4, none⟩ (.int .i64 0)).setCell ⟨g2, k * 11 + 5, none⟩ (.int .i64 0)).setCell ⟨g2, k * 11 + 6, none⟩ (.int .i64 0)).setCell ⟨g2, k * 11 + 7, none⟩ (.int .i64 0)).setCell ⟨g2, k * 11 + 8, none⟩ (.int .i64 0)).setCell ⟨g2, k * 11 + 9, none⟩ (.int .i64 0)).setCell ⟨g2, k * 11 + 10, none⟩ (.int .i64 0)) ob 32 #[.slice b0 m.rooms.length q0, .slice b1 m.guilds.length q1, .slice (some ⟨g2, 0, none⟩) m.smiths.length q2, .slice b3 m.desks.length q3, .slice b4 m.paces.length q4, .int .i64 m.now]) := hide ((((((((((((unhide ko).other (a := ⟨g2, k * 11, none⟩) (by show ob ≠ g2; omega) (.int .i64 0)).other (a := ⟨g2, k * 11 + 1, none⟩) (by show ob ≠ g2; omega) (.int .i64 0)).other (a := ⟨g2, k * 11 + 2, none⟩) (by show ob ≠ g2; omega) (.int .i64 0)).other (a := ⟨g2, k * 11 + 3, none⟩) (by show ob ≠ g2; omega) (.int .i64 0)).other (a := ⟨g2, k * 11 + 4, none⟩) (by show ob ≠ g2; omega) (.int .i64 0)).other (a := ⟨g2, k * 11 + 5, none⟩) (by show ob ≠ g2; omega) (.int .i64 0)).other (a := ⟨g2, k * 11 + 6, none⟩) (by show ob ≠ g2; omega) (.int .i64 0)).other (a := ⟨g2, k * 11 + 7, none⟩) (by show ob ≠ g2; omega) (.int .i64 0)).other (a := ⟨g2, k * 11 + 8, none⟩) (by show ob ≠ g2; omega) (.int .i64 0)).other (a := ⟨g2, k * 11 + 9, none⟩) (by show ob ≠ g2; omega) (.int .i64 0)).other (a := ⟨g2, k * 11 + 10, none⟩) (by show ob ≠ g2; omega) (.int .i64 0))
  replace kr : Hid (Blk ((((((((((((w3).setCell ⟨g2, k * 11, none⟩ (.int .i64 0)).setCell ⟨g2, k * 11 + 1, none⟩ (.int .i64 0)).setCell ⟨g2, k * 11 + 2, none⟩ (.int .i64 0)).setCell ⟨g2, k * 11 + 3, none⟩ (.int .i64 0)).setCell ⟨g2, k * 11 + 4, none⟩ (.int .i64 0)).setCell ⟨g2, k * 11 + 5, none⟩ (.int .i64 0)).setCell ⟨g2, k * 11 + 6, none⟩ (.int .i64 0)).setCell ⟨g2, k * 11 + 7, none⟩ (.int .i64 0)).setCell ⟨g2, k * 11 + 8, none⟩ (.int .i64 0)).setCell ⟨g2, k * 11 + 9, none⟩ (.int .i64 0)).setCell ⟨g2, k * 11 + 10, none⟩ (.int .i64 0)) (w.heap.size + 1) 32 #[.slice none 0 0, .slice none 0 0, .slice none 0 0, .slice none 0 0, .slice none 0 0, .int .i64 0]) := hide ((((((((((((unhide kr).other (a := ⟨g2, k * 11, none⟩) (by show w.heap.size + 1 ≠ g2; omega) (.int .i64 0)).other (a := ⟨g2, k * 11 + 1, none⟩) (by show w.heap.size + 1 ≠ g2; omega) (.int .i64 0)).other (a := ⟨g2, k * 11 + 2, none⟩) (by show w.heap.size + 1 ≠ g2; omega) (.int .i64 0)).other (a := ⟨g2, k * 11 + 3, none⟩) (by show w.heap.size + 1 ≠ g2; omega) (.int .i64 0)).other (a := ⟨g2, k * 11 + 4, none⟩) (by show w.heap.size + 1 ≠ g2; omega) (.int .i64 0)).other (a := ⟨g2, k * 11 + 5, none⟩) (by show w.heap.size + 1 ≠ g2; omega) (.int .i64 0)).other (a := ⟨g2, k * 11 + 6, none⟩) (by show w.heap.size + 1 ≠ g2; omega) (.int .i64 0)).other (a := ⟨g2, k * 11 + 7, none⟩) (by show w.heap.size + 1 ≠ g2; omega) (.int .i64 0)).other (a := ⟨g2, k * 11 + 8, none⟩) (by show w.heap.size + 1 ≠ g2; omega) (.int .i64 0)).other (a := ⟨g2, k * 11 + 9, none⟩) (by show w.heap.size + 1 ≠ g2; omega) (.int .i64 0)).other (a := ⟨g2, k * 11 + 10, none⟩) (by show w.heap.size + 1 ≠ g2; omega) (.int .i64 0))
  replace BB : Hid (Below w.heap.size w ((((((((((((w3).setCell ⟨g2, k * 11, none⟩ (.int .i64 0)).setCell ⟨g2, k * 11 + 1, none⟩ (.int .i64 0)).setCell ⟨g2, k * 11 + 2, none⟩ (.int .i64 0)).setCell ⟨g2, k * 11 + 3, none⟩ (.int .i64 0)).setCell ⟨g2, k * 11 + 4, none⟩ (.int .i64 0)).setCell ⟨g2, k * 11 + 5, none⟩ (.int .i64 0)).setCell ⟨g2, k * 11 + 6, none⟩ (.int .i64 0)).setCell ⟨g2, k * 11 + 7, none⟩ (.int .i64 0)).setCell ⟨g2, k * 11 + 8, none⟩ (.int .i64 0)).setCell ⟨g2, k * 11 + 9, none⟩ (.int .i64 0)).setCell ⟨g2, k * 11 + 10, none⟩ (.int .i64 0))) := hide ((((((((((((unhide BB).setCell (p := ⟨g2, k * 11, none⟩) (by show w.heap.size ≤ g2; omega) (.int .i64 0)).setCell (p := ⟨g2, k * 11 + 1, none⟩) (by show w.heap.size ≤ g2; omega) (.int .i64 0)).setCell (p := ⟨g2, k * 11 + 2, none⟩) (by show w.heap.size ≤ g2; omega) (.int .i64 0)).setCell (p := ⟨g2, k * 11 + 3, none⟩) (by show w.heap.size ≤ g2; omega) (.int .i64 0)).setCell (p := ⟨g2, k * 11 + 4, none⟩) (by show w.heap.size ≤ g2; omega) (.int .i64 0)).setCell (p := ⟨g2, k * 11 + 5, none⟩) (by show w.heap.size ≤ g2; omega) (.int .i64 0)).setCell (p := ⟨g2, k * 11 + 6, none⟩) (by show w.heap.size ≤ g2; omega) (.int .i64 0)).setCell (p := ⟨g2, k * 11 + 7, none⟩) (by show w.heap.size ≤ g2; omega) (.int .i64 0)).setCell (p := ⟨g2, k * 11 + 8, none⟩) (by show w.heap.size ≤ g2; omega) (.int .i64 0)).setCell (p := ⟨g2, k * 11 + 9, none⟩) (by show w.heap.size ≤ g2; omega) (.int .i64 0)).setCell (p := ⟨g2, k * 11 + 10, none⟩) (by show w.heap.size ≤ g2; omega) (.int .i64 0))
  clear kb Hv
  generalize (((((((((((w3).setCell ⟨g2, k * 11, none⟩ (.int .i64 0)).setCell ⟨g2, k * 11 + 1, none⟩ (.int .i64 0)).setCell ⟨g2, k * 11 + 2, none⟩ (.int .i64 0)).setCell ⟨g2, k * 11 + 3, none⟩ (.int .i64 0)).setCell ⟨g2, k * 11 + 4, none⟩ (.int .i64 0)).setCell ⟨g2, k * 11 + 5, none⟩ (.int .i64 0)).setCell ⟨g2, k * 11 + 6, none⟩ (.int .i64 0)).setCell ⟨g2, k * 11 + 7, none⟩ (.int .i64 0)).setCell ⟨g2, k * 11 + 8, none⟩ (.int .i64 0)).setCell ⟨g2, k * 11 + 9, none⟩ (.int .i64 0)).setCell ⟨g2, k * 11 + 10, none⟩ (.int .i64 0) = W3 at *
  have hfw := unhide HFew
  go_wp2_with fail
  have hofR : ∀ k, OwnB (.slice b0 m.rooms.length q0) (.slice b1 m.guilds.length q1) (.slice (some ⟨g2, 0, none⟩) m.smiths.length q2) (.slice b3 m.desks.length q3) (.slice b4 m.paces.length q4) oq k → k ≠ ob := fun k e => by have := (unhide LO k e).2; omega
  refine (l15Done_any (m := setS m k zeroS) (unhide ko) (unhide HP) (fun e => hofR _ (.inr (.inr (.inr (.inl e)))) rfl) (fun e => hofR _ (.inr (.inr (.inr (.inr (.inl e))))) rfl) (by show (m.smiths.set k _).length ≤ 800; have := hfw.smiths; simp; omega) hfw.desks).mono ?_
  rintro e w4 ⟨rfl, hf9, ht9⟩
  replace kr := hide ((unhide kr).two ht9 (fun e => by have := (unhide LO _ (.inr (.inr (.inr (.inl e))))).1; omega) (fun e => by have := (unhide LO _ (.inr (.inr (.inr (.inr (.inl e)))))).1; omega))
  replace BB := hide ((unhide BB).trans (ht9.below (unhide BB).size (fun k e => by have := (unhide LO k (.inr (.inr (.inr (.inl e))))).1; omega) (fun k e => by have := (unhide LO k (.inr (.inr (.inr (.inr (.inl e)))))).1; omega)))
  have HF9 := hide hf9
  clear hf9 ht9 hofR
  have o0 := (unhide kr).cell (i := 0) (v := .slice none 0 0) rfl
  have o1 := (unhide kr).cell (i := 1) (v := .slice none 0 0) rfl
  have o2 := (unhide kr).cell (i := 2) (v := .slice none 0 0) rfl
  have o3 := (unhide kr).cell (i := 3) (v := .slice none 0 0) rfl
  have o4 := (unhide kr).cell (i := 4) (v := .slice none 0 0) rfl
  have o5 := (unhide kr).cell (i := 5) (v := .int .i64 0) rfl
  have f0 := (unhide kr).free 0
  have f1 := (unhide kr).free 1
  have f2 := (unhide kr).free 2
  have f3 := (unhide kr).free 3
  have f4 := (unhide kr).free 4
  have f5 := (unhide kr).free 5
  go_wp2_with fail
  have hX0 : X = (turnV (setS m k zeroS), 0) := by rw [← unhide HX]; unfold leaveV; rw [unhide Hok, unhide Hqw]; simp only [if_true, Int.toNat_natCast]
  have hnow : (turnV (setS m k zeroS)).now = m.now := (turnK_same _ _).2.2.2.1
  refine bodyPost_ret (v := .tuple #[.agg #[.slice b0 m.rooms.length q0, .slice b1 m.guilds.length q1, .slice (some ⟨g2, 0, none⟩) m.smiths.length q2, .slice b3 m.desks.length q3, .slice b4 m.paces.length q4, .int .i64 m.now], .int .i64 0]) (by simp [results, Tryz.results28, go_sem, setS, *]) rfl ⟨?_, ?_⟩
  · rw [hX0]; refine ⟨_, _, _, _, _, oq, by rw [hnow], ?_⟩
    iterate 6 (refine FullSmy.set_off ?_ (fun k e => by have := (unhide LO k e).1; omega) _ _)
    exact (unhide HF9).mono (by omega)
  · iterate 6 (refine Below.setCell ?_ (by show _ ≤ w.heap.size + 1; omega) _)
    exact unhide BB

end Go.Proofs.YthbbahagpmdooaaGreatDoor

