/- What the proof rests on, part 7: lists and numbers, how they lie in memory, and contracts of the calls. No condition but those that a theorem names. -/
import Derived.Test.YthbbahagpmdooaaGreatDoorXr01
import Derived.Test.YthbbahagpmdooaaGreatDoorXr02
import Derived.Test.YthbbahagpmdooaaGreatDoorXr03
import Derived.Test.YthbbahagpmdooaaGreatDoorXr06
import Derived.WalkKit
import Derived.LaidEql
import Derived.Stop.Asserts
import Derived.RowKitTokens
import Derived.Below
import Derived.Lib.QuietBelow
import Derived.Deep.RegionWith
import Derived.Deep.QuietTactic
import Derived.BigQuiet
import Derived.ProofKit
import Derived.OpenShut
import Derived.Outline
import Derived.Laws.OwnMore
import Derived.OwnWalk
import Derived.Maps.AppendAt
import Derived.Lib.SmallJoins
import Derived.Deep.Fields
import Derived.Deep.Slices
/- errors.As by its contracts, for what the program hands it: nil, a sentinel, a refusal. Conditions: those that each theorem names. -/
namespace Go.Proofs.YthbbahagpmdooaaGreatDoor
open Go.ChangeShapes Go.WideShapes Go.ChangeAt Go.RowKit
set_option linter.unusedVariables false
set_option linter.unusedSimpArgs false

abbrev tgt (b : Nat) : Value := .iface 114 (.pointer (some ⟨b, 0, none⟩))
abbrev valP (b : Nat) : Value := .agg #[.pointer (some ⟨5, 114, none⟩), .pointer (some ⟨b, 0, none⟩), .int .u64 150]
abbrev valE (b : Nat) : Value := .agg #[.pointer (some ⟨5, 112, none⟩), .pointer (some ⟨b, 0, none⟩), .int .u64 406]
abbrev valR (b : Nat) : Value := .agg #[.pointer (some ⟨5, 112, none⟩), .pointer (some ⟨b, 0, none⟩), .int .u64 150]

open Extern.ReflectliteValue in
theorem vOfT (b : Nat) (w : World) : (callFunc 154 #[tgt b]).run Tryz.prog w = .ok (.value (valP w.heap.size)) (w.alloc (.cells #[.pointer (some ⟨b, 0, none⟩)] 114)) := by
  rw [@run_callFunc_extern Tryz.prog 154 _ (fun args => unpack (args.getD 0 (.tuple #[]))) Tryz.func154 (by kernel_rfl) (by kernel_rfl) (by kernel_rfl) (by kernel_rfl)]
  kernel_rfl
open Extern.ReflectliteValue in
theorem vOfR (b : Nat) (w : World) : (callFunc 154 #[refu b]).run Tryz.prog w = .ok (.value (valR w.heap.size)) (w.alloc (.cells #[.pointer (some ⟨b, 0, none⟩)] 112)) := by
  rw [@run_callFunc_extern Tryz.prog 154 _ (fun args => unpack (args.getD 0 (.tuple #[]))) Tryz.func154 (by kernel_rfl) (by kernel_rfl) (by kernel_rfl) (by kernel_rfl)]
  kernel_rfl
open Extern.ReflectliteValue in
theorem vType (b : Nat) (w : World) : (callFunc 155 #[valP b]).run Tryz.prog w = .ok (.value (rty 114)) w := by
  rw [@run_callFunc_extern Tryz.prog 155 _ (methodAny (valueError "reflectlite.Value.Type" 0) fun t _ _ _ => Extern.ReflectliteType.toType t) Tryz.func155 (by kernel_rfl) (by kernel_rfl) (by kernel_rfl) (by kernel_rfl)]
  kernel_rfl
theorem mKind (p : Value) (w : World) : (method 471 221 (.agg #[p]) "Kind").run Tryz.prog w = .ok (355, p) w := by kernel_rfl
theorem mElem (v : Value) (w : World) : (method 471 221 v "Elem").run Tryz.prog w = .ok (373, v) w := by kernel_rfl
theorem mImpl (v : Value) (w : World) : (method 471 221 v "Implements").run Tryz.prog w = .ok (374, v) w := by kernel_rfl
theorem mAssi (v : Value) (w : World) : (method 471 221 v "AssignableTo").run Tryz.prog w = .ok (371, v) w := by kernel_rfl
theorem kindP (w : World) : (callFunc 355 #[.pointer (some ⟨5, 114, none⟩)]).run Tryz.prog w = .ok (.value (.int .u8 22)) w := by
  rw [@run_callFunc_extern Tryz.prog 355 _ (Extern.ReflectliteType.abiMethod fun t => do pure (.int .u8 (← Extern.Rtype.kind t))) Tryz.func355 (by kernel_rfl) (by kernel_rfl) (by kernel_rfl) (by kernel_rfl)]
  kernel_rfl
theorem kindR (w : World) : (callFunc 355 #[.pointer (some ⟨5, 112, none⟩)]).run Tryz.prog w = .ok (.value (.int .u8 22)) w := by
  rw [@run_callFunc_extern Tryz.prog 355 _ (Extern.ReflectliteType.abiMethod fun t => do pure (.int .u8 (← Extern.Rtype.kind t))) Tryz.func355 (by kernel_rfl) (by kernel_rfl) (by kernel_rfl) (by kernel_rfl)]
  kernel_rfl
theorem elemP (w : World) : (callFunc 373 #[.agg #[.pointer (some ⟨5, 114, none⟩)]]).run Tryz.prog w = .ok (.value (rty 112)) w := by
  rw [@run_callFunc_extern Tryz.prog 373 _ (Extern.ReflectliteType.method Extern.ReflectliteType.elem) Tryz.func373 (by kernel_rfl) (by kernel_rfl) (by kernel_rfl) (by kernel_rfl)]
  kernel_rfl
theorem implR (w : World) : (callFunc 374 #[.agg #[.pointer (some ⟨5, 112, none⟩)], rty 69]).run Tryz.prog w = .ok (.value (.bool true)) w := by
  rw [@run_callFunc_extern Tryz.prog 374 _ (Extern.ReflectliteType.relation "Implements" Extern.ReflectliteType.implements_) Tryz.func374 (by kernel_rfl) (by kernel_rfl) (by kernel_rfl) (by kernel_rfl)]
  kernel_rfl
theorem assiE (w : World) : (callFunc 371 #[.agg #[.pointer (some ⟨5, 331, none⟩)], rty 112]).run Tryz.prog w = .ok (.value (.bool false)) w := by
  rw [@run_callFunc_extern Tryz.prog 371 _ (Extern.ReflectliteType.relation "AssignableTo" Extern.ReflectliteType.assignableTo) Tryz.func371 (by kernel_rfl) (by kernel_rfl) (by kernel_rfl) (by kernel_rfl)]
  kernel_rfl
theorem assiR (w : World) : (callFunc 371 #[.agg #[.pointer (some ⟨5, 112, none⟩)], rty 112]).run Tryz.prog w = .ok (.value (.bool true)) w := by
  rw [@run_callFunc_extern Tryz.prog 371 _ (Extern.ReflectliteType.relation "AssignableTo" Extern.ReflectliteType.assignableTo) Tryz.func371 (by kernel_rfl) (by kernel_rfl) (by kernel_rfl) (by kernel_rfl)]
  kernel_rfl
theorem noAsE (v : Value) (xT : TypeId) (w : World) : (Instr.typeAssert (.iface 331 v) xT 226 true).run Tryz.prog w = .ok (.tuple #[.nilIface, .bool false]) w := run_typeAssert_lacksB Tryz.underlying226 (by kernel_rfl) (by kernel_rfl) v xT w
open Extern.ReflectliteValue in
theorem vNil (b : Nat) (x : Addr) (w : World) (hc : w.cell? ⟨b, 0, none⟩ = some (.pointer (some x))) : (callFunc 156 #[valP b]).run Tryz.prog w = .ok (.value (.bool false)) w := by
  rw [@run_callFunc_extern Tryz.prog 156 _ (Extern.ReflectliteValue.method (valueError "reflectlite.Value.IsNil" 0) isNil) Tryz.func156 (by kernel_rfl) (by kernel_rfl) (by kernel_rfl) (by kernel_rfl)]
  have hp : (parts (valP b)).run Tryz.prog w = .ok (some (114, ⟨b, 0, none⟩, 150)) w := by kernel_rfl
  have ha : (isAgg 114).run Tryz.prog w = .ok false w := by kernel_rfl
  have hl : (loadVar 114 ⟨b, 0, none⟩).run Tryz.prog w = .ok (.pointer (some x)) w := by simp [loadVar, ha, run_load, hc]
  show ((do match ← parts (valP b) with | none => valueError "reflectlite.Value.IsNil" 0 | some (t, a, fl) => isNil t a fl (fl % 32) : Sem Value).run Tryz.prog w).andThen _ = _
  simp [hp, isNil, hl]
open Extern.ReflectliteValue in
theorem vElem (b r : Nat) (w : World) (hc : w.cell? ⟨b, 0, none⟩ = some (.pointer (some ⟨r, 0, none⟩))) : (callFunc 210 #[valP b]).run Tryz.prog w = .ok (.value (valE r)) w := by
  rw [@run_callFunc_extern Tryz.prog 210 _ (Extern.ReflectliteValue.method (valueError "reflectlite.Value.Elem" 0) elem) Tryz.func210 (by kernel_rfl) (by kernel_rfl) (by kernel_rfl) (by kernel_rfl)]
  have hp : (parts (valP b)).run Tryz.prog w = .ok (some (114, ⟨b, 0, none⟩, 150)) w := by kernel_rfl
  have ha : (isAgg 114).run Tryz.prog w = .ok false w := by kernel_rfl
  have hl : (loadVar 114 ⟨b, 0, none⟩).run Tryz.prog w = .ok (.pointer (some ⟨r, 0, none⟩)) w := by simp [loadVar, ha, run_load, hc]
  have he : (Extern.Rtype.elem? 114).run Tryz.prog w = .ok (some 112) w := by kernel_rfl
  have hm : (mk 112 ⟨r, 0, none⟩ flagAddr).run Tryz.prog w = .ok (valE r) w := by kernel_rfl
  show ((do match ← parts (valP b) with | none => valueError "reflectlite.Value.Elem" 0 | some (t, a, fl) => elem t a fl (fl % 32) : Sem Value).run Tryz.prog w).andThen _ = _
  simp [hp, elem, hl, he, hm]
open Extern.ReflectliteValue in
theorem vSet (b r p : Nat) (w : World) (hc : w.cell? ⟨b, 0, none⟩ = some (.pointer (some ⟨p, 0, none⟩))) (hr : w.cell? ⟨r, 0, none⟩ = some (.pointer none)) (hzr : w.frozen? ⟨r, 0, none⟩ = false) : (callFunc 211 #[valE r, valR b]).run Tryz.prog w = .ok (.value (.tuple #[])) (w.setCell ⟨r, 0, none⟩ (.pointer (some ⟨p, 0, none⟩))) := by
  rw [@run_callFunc_extern Tryz.prog 211 _ Extern.ReflectliteValue.set Tryz.func211 (by kernel_rfl) (by kernel_rfl) (by kernel_rfl) (by kernel_rfl)]
  have hp : (parts (valE r)).run Tryz.prog w = .ok (some (112, ⟨r, 0, none⟩, 406)) w := by kernel_rfl
  have hq : (parts (valR b)).run Tryz.prog w = .ok (some (112, ⟨b, 0, none⟩, 150)) w := by kernel_rfl
  have ha : (isAgg 112).run Tryz.prog w = .ok false w := by kernel_rfl
  have hl : (loadVar 112 ⟨b, 0, none⟩).run Tryz.prog w = .ok (.pointer (some ⟨p, 0, none⟩)) w := by simp [loadVar, ha, run_load, hc]
  have hd : (Extern.Rtype.directlyAssignable 112 112).run Tryz.prog w = .ok true w := by kernel_rfl
  have hs : (storeVar 112 ⟨r, 0, none⟩ (.pointer (some ⟨p, 0, none⟩))).run Tryz.prog w = .ok () (w.setCell ⟨r, 0, none⟩ (.pointer (some ⟨p, 0, none⟩))) := by
    have hz : (sizeOf 112).run Tryz.prog w = .ok 1 w := by kernel_rfl
    simp [storeVar, hz, storeCells, Value.cells]
    show (store ⟨r, 0, none⟩ (.pointer (some ⟨p, 0, none⟩))).run Tryz.prog w = _
    rw [run_store _ _ _ _ _ rfl, hr]
    simp [hzr]
  have h0 : (Extern.ReflectliteValue.set #[valE r, valR b]).run Tryz.prog w = .ok (.tuple #[]) (w.setCell ⟨r, 0, none⟩ (.pointer (some ⟨p, 0, none⟩))) := by
    unfold Extern.ReflectliteValue.set
    show Sem.run Tryz.prog (parts (valE r) >>= _) w = _
    rw [Sem.run_bind, hp]
    simp only [Result.andThen_ok]
    show Sem.run Tryz.prog (parts (valR b) >>= _) w = _
    rw [Sem.run_bind, hq]
    simp only [Result.andThen_ok]
    simp [hl, hd, hs, flagAddr]
  rw [h0]; rfl

theorem as_nil (v : Value) (w : World) : Calls Tryz.prog 98 #[.nilIface, v] w fun e w' => e = .returned (.bool false) ∧ w' = w := by
  go_enter Tryz.func98, Tryz.ntmps98
  go_wp2
  go_ret
  exact ⟨rfl, rfl⟩
abbrev asW (b : Nat) (w : World) : World := (w.alloc (.cells #[.pointer (some ⟨b, 0, none⟩)] 114)).alloc (.cells #[.pointer (some ⟨5, 114, none⟩), .pointer (some ⟨w.heap.size, 0, none⟩), .int .u64 150] 163)
theorem asW_cell (b : Nat) (w : World) : (asW b w).cell? ⟨w.heap.size, 0, none⟩ = some (.pointer (some ⟨b, 0, none⟩)) := by go_simp
theorem asW_below (b : Nat) (w : World) : Below w.heap.size w (asW b w) := ((Below.refl _ _).alloc (Nat.le_refl _) _).alloc (by simp) _
set_option maxRecDepth 100000 in
set_option maxHeartbeats 2000000 in
theorem as_no (a : Addr) (b : Nat) (w : World) (hT : w.cell? ⟨4, 0, none⟩ = some (rty 69)) : Calls Tryz.prog 98 #[sent a, tgt b] w fun e w' => e = .returned (.bool false) ∧ Below w.heap.size w w' := by
  have h1 := vOfT
  have h2 := vType
  have h3 := mKind
  have h4 := kindP
  have h5 := kindR
  have h6 := mElem
  have h7 := elemP
  have h8 := mImpl
  have h9 := implR
  have h10 := vNil w.heap.size ⟨b, 0, none⟩ (asW b w) (asW_cell b w)
  have hT2 : (asW b w).cell? ⟨4, 0, none⟩ = some (rty 69) := ((asW_below b w).cell (World.block_lt_of_cell? _ _ hT)).trans hT
  have t1 := tyE
  have t2 := mAssi
  have t3 := assiE
  have t4 := noAsE
  have uE := noUnwrapE
  have vE := noUnwrapsE
  go_enter Tryz.func98, Tryz.ntmps98
  go_wp2
  refine wp_loop_rounds 1 ?_
  rw [rounds_succ]
  go_wp2
  go_ret
  exact ⟨rfl, ((asW_below b w).alloc (by simp; omega) _)⟩
theorem below_set {n : Nat} {w W : World} {b : Nat} {v : Value} (h : Below n w W) (hn : n ≤ b) : Below n w (W.setCell ⟨b, 0, none⟩ v) := Below.setCell h hn v
abbrev asX (b : Nat) (w : World) : World := (asW b w).alloc (.cells #[.pointer (some ⟨5, 114, none⟩), .pointer (some ⟨w.heap.size, 0, none⟩), .int .u64 150] 163)
abbrev asY (b p : Nat) (w : World) : World := (asX b w).alloc (.cells #[.pointer (some ⟨p, 0, none⟩)] 112)
theorem asX_cell (b : Nat) (w : World) : (asX b w).cell? ⟨w.heap.size, 0, none⟩ = some (.pointer (some ⟨b, 0, none⟩)) := by go_simp
theorem asX_size (b : Nat) (w : World) : (asX b w).heap.size = w.heap.size + 1 + 1 + 1 := by simp
theorem asY_cell (b p : Nat) (w : World) : (asY b p w).cell? ⟨w.heap.size + 1 + 1 + 1, 0, none⟩ = some (.pointer (some ⟨p, 0, none⟩)) := by go_simp
theorem asY_below (b p : Nat) (w : World) : Below w.heap.size w (asY b p w) := ((asW_below b w).alloc (by simp; omega) _).alloc (by simp; omega) _
set_option maxRecDepth 100000 in
set_option maxHeartbeats 2000000 in
theorem as_yes (b p : Nat) (w : World) (hT : w.cell? ⟨4, 0, none⟩ = some (rty 69)) (hb : w.cell? ⟨b, 0, none⟩ = some (.pointer none)) (hz : w.frozen? ⟨b, 0, none⟩ = false) : Calls Tryz.prog 98 #[refu p, tgt b] w fun e w' => e = .returned (.bool true) ∧ w'.cell? ⟨b, 0, none⟩ = some (.pointer (some ⟨p, 0, none⟩)) ∧ ∀ n, n ≤ b → n ≤ w.heap.size → Below n w w' := by
  have h1 := vOfT
  have h2 := vType
  have h3 := mKind
  have h4 := kindP
  have h5 := kindR
  have h6 := mElem
  have h7 := elemP
  have h8 := mImpl
  have h9 := implR
  have h10 := vNil w.heap.size ⟨b, 0, none⟩ (asW b w) (asW_cell b w)
  have hT2 : (asW b w).cell? ⟨4, 0, none⟩ = some (rty 69) := ((asW_below b w).cell (World.block_lt_of_cell? _ _ hT)).trans hT
  have t1 := tyR
  have t2 := mAssi
  have t3 := assiR
  have k1 := vOfR p (asX b w)
  rw [asX_size] at k1
  have k2 := vElem w.heap.size b (asX b w) (asX_cell b w)
  have hlt := World.block_lt_of_cell? _ _ hb
  have hb2 : (asY b p w).cell? ⟨b, 0, none⟩ = some (.pointer none) := ((asY_below b p w).cell hlt).trans hb
  have hz2 : (asY b p w).frozen? ⟨b, 0, none⟩ = false := ((asY_below b p w).frozen hlt).trans hz
  have k3 := vSet (w.heap.size + 1 + 1 + 1) b p (asY b p w) (asY_cell b p w) hb2 hz2
  go_enter Tryz.func98, Tryz.ntmps98
  go_wp2
  refine wp_loop_rounds 1 ?_
  rw [rounds_succ]
  go_wp2
  go_ret
  exact ⟨rfl, World.cell?_setCell_same _ _ _ hb2, fun n hn hnw => below_set ((asY_below b p w).mono hnw) hn⟩

end Go.Proofs.YthbbahagpmdooaaGreatDoor

/- What the program's codes ask of its sentinels: each lies in a variable, no two are one, and nothing that a call writes reaches them. And codeOf. Conditions: those that each theorem names. -/
namespace Go.Proofs.YthbbahagpmdooaaGreatDoor
open Go.ChangeShapes Go.WideShapes Go.ChangeAt Go.RowKit Go.Sort
set_option linter.unusedVariables false
set_option linter.unusedSimpArgs false
set_option maxRecDepth 100000

/-- The sentinels, by their codes. -/
structure Errs (w : World) (q : Int → Addr) : Prop where
  c1 : w.cell? ⟨3, 0, none⟩ = some (sent (q 1))
  c2 : w.cell? ⟨2, 0, none⟩ = some (sent (q 2))
  c3 : w.cell? ⟨0, 0, none⟩ = some (sent (q 3))
  c4 : w.cell? ⟨1, 0, none⟩ = some (sent (q 4))
  ct : w.cell? ⟨4, 0, none⟩ = some (rty 69)
  b1 : ∃ c t, w.heap[(q 1).block]? = some (.cells c t (0, 0))
  b2 : ∃ c t, w.heap[(q 2).block]? = some (.cells c t (0, 0))
  b3 : ∃ c t, w.heap[(q 3).block]? = some (.cells c t (0, 0))
  b4 : ∃ c t, w.heap[(q 4).block]? = some (.cells c t (0, 0))
  n12 : q 1 ≠ q 2
  n13 : q 1 ≠ q 3
  n14 : q 1 ≠ q 4
  n23 : q 2 ≠ q 3
  n24 : q 2 ≠ q 4
  n34 : q 3 ≠ q 4
theorem blk_later {w w' : World} {k : Nat} (h : ∃ c t, w.heap[k]? = some (.cells c t (0, 0))) (hb : Below w.heap.size w w') : ∃ c t, w'.heap[k]? = some (.cells c t (0, 0)) := by
  obtain ⟨c, t, e⟩ := h
  exact ⟨c, t, (hb.block k (Array.getElem?_eq_some_iff.1 e).1).trans e⟩
theorem Errs.below {w w' : World} {q : Int → Addr} (h : Errs w q) (hb : Below w.heap.size w w') : Errs w' q :=
  ⟨(hb.cell (World.block_lt_of_cell? _ _ h.c1)).trans h.c1, (hb.cell (World.block_lt_of_cell? _ _ h.c2)).trans h.c2, (hb.cell (World.block_lt_of_cell? _ _ h.c3)).trans h.c3, (hb.cell (World.block_lt_of_cell? _ _ h.c4)).trans h.c4, (hb.cell (World.block_lt_of_cell? _ _ h.ct)).trans h.ct, blk_later h.b1 hb, blk_later h.b2 hb, blk_later h.b3 hb, blk_later h.b4 hb, h.n12, h.n13, h.n14, h.n23, h.n24, h.n34⟩
theorem codeOf_nil (w : World) : Calls Tryz.prog 99 #[.nilIface] w fun e w' => e = .returned (.int .i64 0) ∧ w' = w := by
  go_enter Tryz.func99, Tryz.ntmps99
  go_wp2_with fail
  go_ret
  exact ⟨rfl, rfl⟩
theorem codeOf_wrap1 (p : Nat) {w : World} {q : Int → Addr} (h : Errs w q) (hp : w.cell? ⟨p, 6, none⟩ = some (sent (q 1))) : Calls Tryz.prog 99 #[refu p] w fun e w' => e = .returned (.int .i64 1) ∧ w' = w := by
  have HE := hide h
  have Hp := hide hp
  clear hp
  obtain ⟨x1, x2, x3, x4, _⟩ := h
  go_enter Tryz.func99, Tryz.ntmps99
  go_wp2_with fail
  refine (is_wrap_same p (q 1) _ (unhide Hp)).mono ?_
  rintro e w' ⟨rfl, h9⟩
  subst w'
  go_wp2_with fail
  go_ret
  exact ⟨rfl, rfl⟩
theorem codeOf_wrap2 (p : Nat) {w : World} {q : Int → Addr} (h : Errs w q) (hp : w.cell? ⟨p, 6, none⟩ = some (sent (q 2))) : Calls Tryz.prog 99 #[refu p] w fun e w' => e = .returned (.int .i64 2) ∧ w' = w := by
  have HE := hide h
  have Hp := hide hp
  clear hp
  obtain ⟨x1, x2, x3, x4, _⟩ := h
  go_enter Tryz.func99, Tryz.ntmps99
  go_wp2_with fail
  obtain ⟨ca, ta, ha⟩ := (unhide HE).b2
  obtain ⟨cb, tb, hb⟩ := (unhide HE).b1
  refine (is_wrap_other p _ (unhide Hp) ((unhide HE).n12.symm) ha hb).mono ?_
  clear ha hb
  rintro e w' ⟨rfl, h9⟩
  subst w'
  go_wp2_with fail
  refine (is_wrap_same p (q 2) _ (unhide Hp)).mono ?_
  rintro e w' ⟨rfl, h9⟩
  subst w'
  go_wp2_with fail
  go_ret
  exact ⟨rfl, rfl⟩
theorem codeOf_wrap3 (p : Nat) {w : World} {q : Int → Addr} (h : Errs w q) (hp : w.cell? ⟨p, 6, none⟩ = some (sent (q 3))) : Calls Tryz.prog 99 #[refu p] w fun e w' => e = .returned (.int .i64 3) ∧ w' = w := by
  have HE := hide h
  have Hp := hide hp
  clear hp
  obtain ⟨x1, x2, x3, x4, _⟩ := h
  go_enter Tryz.func99, Tryz.ntmps99
  go_wp2_with fail
  obtain ⟨ca, ta, ha⟩ := (unhide HE).b3
  obtain ⟨cb, tb, hb⟩ := (unhide HE).b1
  refine (is_wrap_other p _ (unhide Hp) ((unhide HE).n13.symm) ha hb).mono ?_
  clear ha hb
  rintro e w' ⟨rfl, h9⟩
  subst w'
  go_wp2_with fail
  obtain ⟨ca, ta, ha⟩ := (unhide HE).b3
  obtain ⟨cb, tb, hb⟩ := (unhide HE).b2
  refine (is_wrap_other p _ (unhide Hp) ((unhide HE).n23.symm) ha hb).mono ?_
  clear ha hb
  rintro e w' ⟨rfl, h9⟩
  subst w'
  go_wp2_with fail
  obtain ⟨ca, ta, ha⟩ := (unhide HE).b3
  obtain ⟨cb, tb, hb⟩ := (unhide HE).b4
  refine (is_wrap_other p _ (unhide Hp) ((unhide HE).n34) ha hb).mono ?_
  clear ha hb
  rintro e w' ⟨rfl, h9⟩
  subst w'
  go_wp2_with fail
  go_ret
  exact ⟨rfl, rfl⟩
theorem codeOf_wrap4 (p : Nat) {w : World} {q : Int → Addr} (h : Errs w q) (hp : w.cell? ⟨p, 6, none⟩ = some (sent (q 4))) : Calls Tryz.prog 99 #[refu p] w fun e w' => e = .returned (.int .i64 4) ∧ w' = w := by
  have HE := hide h
  have Hp := hide hp
  clear hp
  obtain ⟨x1, x2, x3, x4, _⟩ := h
  go_enter Tryz.func99, Tryz.ntmps99
  go_wp2_with fail
  obtain ⟨ca, ta, ha⟩ := (unhide HE).b4
  obtain ⟨cb, tb, hb⟩ := (unhide HE).b1
  refine (is_wrap_other p _ (unhide Hp) ((unhide HE).n14.symm) ha hb).mono ?_
  clear ha hb
  rintro e w' ⟨rfl, h9⟩
  subst w'
  go_wp2_with fail
  obtain ⟨ca, ta, ha⟩ := (unhide HE).b4
  obtain ⟨cb, tb, hb⟩ := (unhide HE).b2
  refine (is_wrap_other p _ (unhide Hp) ((unhide HE).n24.symm) ha hb).mono ?_
  clear ha hb
  rintro e w' ⟨rfl, h9⟩
  subst w'
  go_wp2_with fail
  refine (is_wrap_same p (q 4) _ (unhide Hp)).mono ?_
  rintro e w' ⟨rfl, h9⟩
  subst w'
  go_wp2_with fail
  go_ret
  exact ⟨rfl, rfl⟩
theorem codeOf_bare {w : World} {q : Int → Addr} (h : Errs w q) : Calls Tryz.prog 99 #[sent (q 3)] w fun e w' => e = .returned (.int .i64 3) ∧ w' = w := by
  have HE := hide h
  obtain ⟨x1, x2, x3, x4, _⟩ := h
  go_enter Tryz.func99, Tryz.ntmps99
  go_wp2_with fail
  obtain ⟨ca, ta, ha⟩ := (unhide HE).b3
  obtain ⟨cb, tb, hb⟩ := (unhide HE).b1
  refine (is_other _ ((unhide HE).n13.symm) ha hb).mono ?_
  clear ha hb
  rintro e w' ⟨rfl, h9⟩
  subst w'
  go_wp2_with fail
  obtain ⟨ca, ta, ha⟩ := (unhide HE).b3
  obtain ⟨cb, tb, hb⟩ := (unhide HE).b2
  refine (is_other _ ((unhide HE).n23.symm) ha hb).mono ?_
  clear ha hb
  rintro e w' ⟨rfl, h9⟩
  subst w'
  go_wp2_with fail
  obtain ⟨ca, ta, ha⟩ := (unhide HE).b3
  obtain ⟨cb, tb, hb⟩ := (unhide HE).b4
  refine (is_other _ ((unhide HE).n34) ha hb).mono ?_
  clear ha hb
  rintro e w' ⟨rfl, h9⟩
  subst w'
  go_wp2_with fail
  go_ret
  exact ⟨rfl, rfl⟩
theorem codeOf_wrap {c : Int} (hc : c = 1 ∨ c = 2 ∨ c = 3 ∨ c = 4) (p : Nat) {w : World} {q : Int → Addr} (h : Errs w q) (hp : w.cell? ⟨p, 6, none⟩ = some (sent (q c))) : Calls Tryz.prog 99 #[refu p] w fun e w' => e = .returned (.int .i64 c) ∧ w' = w := by
  rcases hc with rfl | rfl | rfl | rfl
  · exact codeOf_wrap1 p h hp
  · exact codeOf_wrap2 p h hp
  · exact codeOf_wrap3 p h hp
  · exact codeOf_wrap4 p h hp

end Go.Proofs.YthbbahagpmdooaaGreatDoor

/- Contracts of chapter 3's functions and of their models: each returns the plain number that is defined here, at every argument of type int64; nothing in memory is changed. -/
namespace Go.Proofs.YthbbahagpmdooaaGreatDoor
open Go.ChangeShapes Go.WideShapes Go.ChangeAt Go.RowKit
set_option linter.unusedVariables false

/-- The weight of the rank that is k above 0. -/
def lightT (k : Nat) : Int := [1024, 819, 655, 524, 419, 335].getD k 0
/-- The weight of the rank that is k below 0. -/
def heavyT (k : Nat) : Int := [1024, 1280, 1600, 2000, 2500, 3125].getD k 0
def weightV (r : Int) : Int := if inB r (-5) 5 then (if 0 ≤ r then lightT r.toNat else heavyT (-r).toNat) else 0

theorem lightT_all : ∀ k : Fin 5, lightT (k.val + 1) = lightT k.val * 4 / 5 ∧ 0 ≤ lightT k.val ∧ lightT k.val ≤ 1024 := by decide
theorem heavyT_all : ∀ k : Fin 5, heavyT (k.val + 1) = heavyT k.val * 5 / 4 ∧ 0 ≤ heavyT k.val ∧ heavyT k.val ≤ 3125 := by decide
theorem lightT_step {k : Nat} (h : k < 5) : lightT (k + 1) = lightT k * 4 / 5 ∧ 0 ≤ lightT k ∧ lightT k ≤ 1024 := lightT_all ⟨k, h⟩
theorem heavyT_step {k : Nat} (h : k < 5) : heavyT (k + 1) = heavyT k * 5 / 4 ∧ 0 ≤ heavyT k ∧ heavyT k ≤ 3125 := heavyT_all ⟨k, h⟩

theorem ranks {r : Int} (h : inB r (-5) 5 = true) : r = -5 ∨ r = -4 ∨ r = -3 ∨ r = -2 ∨ r = -1 ∨ r = 0 ∨ r = 1 ∨ r = 2 ∨ r = 3 ∨ r = 4 ∨ r = 5 := by
  have := inB_of h
  omega
theorem weightV_none {r : Int} (h : inB r (-5) 5 = false) : weightV r = 0 := by unfold weightV; simp [h]
theorem weightV_up {r : Int} (h : inB r (-5) 5 = true) (h0 : 0 ≤ r) : weightV r = lightT r.toNat := by unfold weightV; simp [h, h0]
theorem weightV_down {r : Int} (h : inB r (-5) 5 = true) (h0 : ¬ 0 ≤ r) : weightV r = heavyT (-r).toNat := by unfold weightV; simp [h, h0]

theorem l3Rank_any (x : Int) (w : World) : Calls Tryz.prog 108 #[.int .i64 x] w fun e w' => e = .returned (.bool (inB x (-5) 5)) ∧ w' = w := by
  go_enter Tryz.func108, Tryz.ntmps108
  go_wp2_with (go_at_call 56; refine (l1In_any _ _ _ _).mono ?_; rintro e w' ⟨rfl, rfl⟩)
  go_ret
  exact ⟨rfl, rfl⟩

set_option maxHeartbeats 400000 in
theorem specWeightOf_any (r : Int) (w : World) : Calls Tryz.prog 111 #[.int .i64 r] w fun e w' => e = .returned (.int .i64 (weightV r)) ∧ w' = w := by
  cases hb : inB r (-5) 5
  · rw [weightV_none hb]
    go_enter Tryz.func111, Tryz.ntmps111
    go_wp2_with (go_at_call 108; refine (l3Rank_any _ _).mono ?_; rintro e w' ⟨rfl, rfl⟩)
    go_ret
    exact ⟨rfl, rfl⟩
  · obtain ⟨r0, r1⟩ := inB_of hb
    by_cases h0 : 0 ≤ r
    · rw [weightV_up hb h0]
      obtain ⟨n, rfl⟩ := Int.eq_ofNat_of_zero_le h0
      rw [Int.toNat_natCast]
      go_enter Tryz.func111, Tryz.ntmps111
      go_wp2_with (go_at_call 108; refine (l3Rank_any _ _).mono ?_; rintro e w' ⟨rfl, rfl⟩)
      go_loop [0, 3] (fun i s => ∃ k : Nat, k ≤ n ∧ i = .int .i64 ((n : Int) - k) ∧ s = .int .i64 (lightT k)) (fun i _ => (intOf i).toNat)
      case atStart => exact ⟨0, Nat.zero_le _, by simp, rfl⟩
      case round =>
        obtain ⟨k, hk, rfl, rfl⟩ := hrel
        by_cases hlt : k < n
        · obtain ⟨hs, f1, f2⟩ := lightT_step (k := k) (by omega)
          have Hs := hide hs
          clear hs
          generalize lightT k = z at *
          go_wp2_with fail
          go_round
          case rel => exact ⟨k + 1, by omega, by go_num, by rw [unhide Hs]⟩
          case measure => simp [intOf]; omega
        · obtain rfl : k = n := by omega
          go_wp2_with fail
          go_loop [0, 3] (fun i s => i = .int .i64 0 ∧ s = .int .i64 (lightT k)) (fun _ _ => 0)
          case atStart => exact ⟨by simp, rfl⟩
          case round =>
            obtain ⟨rfl, rfl⟩ := hrel
            go_wp2_with fail
            go_ret
            exact ⟨rfl, rfl⟩
    · rw [weightV_down hb h0]
      obtain ⟨n, hn⟩ := Int.eq_ofNat_of_zero_le (show 0 ≤ -r by omega)
      obtain rfl : r = -(n : Int) := by omega
      rw [show (-(-(n : Int))).toNat = n by omega]
      clear hn
      go_enter Tryz.func111, Tryz.ntmps111
      go_wp2_with (go_at_call 108; refine (l3Rank_any _ _).mono ?_; rintro e w' ⟨rfl, rfl⟩)
      go_loop [0, 3] (fun i s => i = .int .i64 (-(n : Int)) ∧ s = .int .i64 1024) (fun _ _ => 0)
      case atStart => exact ⟨rfl, rfl⟩
      case round =>
        obtain ⟨rfl, rfl⟩ := hrel
        go_wp2_with fail
        go_loop [0, 3] (fun i s => ∃ k : Nat, k ≤ n ∧ i = .int .i64 ((k : Int) - n) ∧ s = .int .i64 (heavyT k)) (fun i _ => (-(intOf i)).toNat)
        case atStart => exact ⟨0, Nat.zero_le _, by simp, rfl⟩
        case round =>
          obtain ⟨k, hk, rfl, rfl⟩ := hrel
          by_cases hlt : k < n
          · obtain ⟨hs, f1, f2⟩ := heavyT_step (k := k) (by omega)
            have Hs := hide hs
            clear hs
            generalize heavyT k = z at *
            go_wp2_with fail
            go_round
            case rel => exact ⟨k + 1, by omega, by go_num, by rw [unhide Hs]⟩
            case measure => simp [intOf]; omega
          · obtain rfl : k = n := by omega
            go_wp2_with fail
            go_ret
            exact ⟨rfl, rfl⟩

theorem heavier_any {x y : Int} (h0 : 0 ≤ x) (h1 : x ≤ 100000) (h : x * 5 / 4 = y) (w : World) : Calls Tryz.prog 320 #[.int .i64 x] w fun e w' => e = .returned (.int .i64 y) ∧ w' = w := by
  subst h
  go_enter Tryz.func320, Tryz.ntmps320
  go_wp2
  go_ret
  exact ⟨rfl, rfl⟩
theorem lighter_any {x y : Int} (h0 : 0 ≤ x) (h1 : x ≤ 100000) (h : x * 4 / 5 = y) (w : World) : Calls Tryz.prog 321 #[.int .i64 x] w fun e w' => e = .returned (.int .i64 y) ∧ w' = w := by
  subst h
  go_enter Tryz.func321, Tryz.ntmps321
  go_wp2
  go_ret
  exact ⟨rfl, rfl⟩

set_option maxHeartbeats 2000000 in
theorem implWeightOf_any (r : Int) (w : World) : Calls Tryz.prog 301 #[.int .i64 r] w fun e w' => e = .returned (.int .i64 (weightV r)) ∧ w' = w := by
  cases hb : inB r (-5) 5
  · rw [weightV_none hb]
    have hr : r < -5 ∨ 5 < r := by
      by_cases h1 : -5 ≤ r
      · by_cases h2 : r ≤ 5
        · rw [inB_t h1 h2] at hb; cases hb
        · omega
      · omega
    have e1 : ¬ r = -5 := by omega
    have e2 : ¬ r = -4 := by omega
    have e3 : ¬ r = -3 := by omega
    have e4 : ¬ r = -2 := by omega
    have e5 : ¬ r = -1 := by omega
    have e6 : ¬ r = 0 := by omega
    have e7 : ¬ r = 5 := by omega
    have e8 : ¬ r = 4 := by omega
    have e9 : ¬ r = 3 := by omega
    have e10 : ¬ r = 2 := by omega
    have e11 : ¬ r = 1 := by omega
    clear hb hr
    go_enter Tryz.func301, Tryz.ntmps301
    go_wp2_with fail
    go_ret
    exact ⟨rfl, rfl⟩
  · rcases ranks hb with rfl | rfl | rfl | rfl | rfl | rfl | rfl | rfl | rfl | rfl | rfl
    all_goals
      clear hb
      go_enter Tryz.func301, Tryz.ntmps301
      go_wp2_with (first
        | (go_at_call 320; refine (heavier_any (by decide) (by decide) rfl _).mono ?_; rintro e w' ⟨rfl, rfl⟩)
        | (go_at_call 321; refine (lighter_any (by decide) (by decide) rfl _).mono ?_; rintro e w' ⟨rfl, rfl⟩))
      go_ret
      exact ⟨rfl, rfl⟩

end Go.Proofs.YthbbahagpmdooaaGreatDoor

/- Guilds as plain lists of numbers: which are right, their bounds, what lies within them. Lists and numbers alone; no condition but those that a theorem names. -/
namespace Go.Proofs.YthbbahagpmdooaaGreatDoor
open Go.ChangeShapes Go.WideShapes Go.ChangeAt Go.RowKit Go.Sort
set_option linter.unusedVariables false

def pairB (lo hi : Int) : Bool := inB lo 0 1024 && inB hi 0 1024 && decide (lo ≤ hi)
theorem pairB_of {lo hi : Int} (h : pairB lo hi = true) : 0 ≤ lo ∧ lo ≤ 1024 ∧ 0 ≤ hi ∧ hi ≤ 1024 ∧ lo ≤ hi := by
  unfold pairB at h
  simp only [Bool.and_eq_true, decide_eq_true_eq] at h
  obtain ⟨⟨h1, h2⟩, h3⟩ := h
  exact ⟨(inB_of h1).1, (inB_of h1).2, (inB_of h2).1, (inB_of h2).2, h3⟩
def guildB (g : GuildV) (n : Int) : Bool := inB g.1 (-1) (n - 1) && pairB g.2.1 g.2.2
/-- The first k of them are right. -/
def upToB (ps : List GuildV) (k : Nat) : Bool := (List.range k).all fun i => guildB (recAt ps i) i
theorem upToB_succ (ps : List GuildV) (k : Nat) : upToB ps (k + 1) = (upToB ps k && guildB (recAt ps k) k) := by unfold upToB; rw [List.range_succ, List.all_append]; simp
theorem upToB_f {ps : List GuildV} {k n : Nat} (hk : k < n) (h : guildB (recAt ps k) k = false) : upToB ps n = false := by
  unfold upToB
  rw [List.all_eq_false]
  exact ⟨k, List.mem_range.2 hk, by simp [h]⟩
def guildsB (ps : List GuildV) : Bool := upToB ps ps.length && decide (ps.length ≤ 6)
theorem guildsB_of {ps : List GuildV} (h : guildsB ps = true) : upToB ps ps.length = true ∧ ps.length ≤ 6 := by
  unfold guildsB at h
  simpa using h
theorem guildsB_f {ps : List GuildV} {k : Nat} (hk : k < ps.length) (h : guildB (recAt ps k) k = false) : guildsB ps = false := by unfold guildsB; rw [upToB_f hk h]; rfl
theorem guildsB_long {ps : List GuildV} (h : 6 < ps.length) : guildsB ps = false := by unfold guildsB; simp; omega
end Go.Proofs.YthbbahagpmdooaaGreatDoor

/- Contracts of chapter 8's functions and of their models: each returns what the plain lists say and writes into no memory that was there. Condition: the slices can be read, and what a theorem names. -/
namespace Go.Proofs.YthbbahagpmdooaaGreatDoor
open Go.ChangeShapes Go.WideShapes Go.ChangeAt Go.RowKit Go.Sort
set_option linter.unusedVariables false

theorem pairB_t {lo hi : Int} (h0 : 0 ≤ lo) (h1 : lo ≤ hi) (h2 : hi ≤ 1024) : pairB lo hi = true := by unfold pairB; rw [inB_t h0 (by omega), inB_t (by omega) h2]; simp; omega
theorem pairB_f {lo hi : Int} (h : lo < 0 ∨ hi < lo ∨ 1024 < hi) : pairB lo hi = false := by
  cases e : pairB lo hi
  · rfl
  · have := pairB_of e; omega

theorem areBounds_any (lo hi : Int) (w : World) : Calls Tryz.prog 265 #[.int .i64 lo, .int .i64 hi] w fun e w' => e = .returned (.bool (pairB lo hi)) ∧ w' = w := by
  by_cases h1 : 0 ≤ lo
  · by_cases h2 : lo ≤ hi
    · by_cases h3 : hi ≤ 1024
      all_goals
        go_enter Tryz.func265, Tryz.ntmps265
        go_wp2
        go_ret
        exact ⟨ret_bool (by first | exact (pairB_t h1 h2 h3).symm | exact (pairB_f (by omega)).symm), rfl⟩
    · go_enter Tryz.func265, Tryz.ntmps265
      go_wp2
      go_ret
      exact ⟨ret_bool (pairB_f (by omega)).symm, rfl⟩
  · go_enter Tryz.func265, Tryz.ntmps265
    go_wp2
    go_ret
    exact ⟨ret_bool (pairB_f (by omega)).symm, rfl⟩

theorem guildOk_any (a lo hi n : Int) (w : World) : Calls Tryz.prog 230 #[.agg #[.int .i64 a, .int .i64 lo, .int .i64 hi], .int .i64 n] w fun e w' => e = .returned (.bool (guildB (a, lo, hi) n)) ∧ Below w.heap.size w w' := by
  by_cases h1 : -1 ≤ a
  · by_cases h2 : a < n
    · have hg : guildB (a, lo, hi) n = pairB lo hi := by unfold guildB; rw [inB_t h1 (by omega)]; rfl
      rw [hg]; clear hg
      go_enter Tryz.func230, Tryz.ntmps230
      go_wp2_with (go_at_call 265; refine (areBounds_any _ _ _).mono ?_; rintro e w' ⟨rfl, rfl⟩)
      go_ret
      exact ⟨rfl, (Below.refl _ _).alloc (Nat.le_refl _) _⟩
    · have hg : guildB (a, lo, hi) n = false := by unfold guildB; rw [inB_f (.inr (by omega))]; rfl
      rw [hg]; clear hg
      go_enter Tryz.func230, Tryz.ntmps230
      go_wp2_with fail
      go_ret
      exact ⟨rfl, (Below.refl _ _).alloc (Nat.le_refl _) _⟩
  · have hg : guildB (a, lo, hi) n = false := by unfold guildB; rw [inB_f (.inl (by omega))]; rfl
    rw [hg]; clear hg
    go_enter Tryz.func230, Tryz.ntmps230
    go_wp2_with fail
    go_ret
    exact ⟨rfl, (Below.refl _ _).alloc (Nat.le_refl _) _⟩

set_option maxHeartbeats 2000000 in
theorem implGuildsOk_any {w : World} {v : Value} {ps : List GuildV} (h : IsGuilds w v ps) :
    Calls Tryz.prog 184 #[v] w fun e w' => e = .returned (.bool (guildsB ps)) ∧ Below w.heap.size w w' := by
  obtain ⟨a, cap, rfl, hc, hm, hr⟩ := h
  have Hr := hide hr
  clear hr
  by_cases hbig : 6 < ps.length
  · go_enter Tryz.func184, Tryz.ntmps184
    go_wp2_with fail
    go_ret
    exact ⟨ret_bool (guildsB_long hbig).symm, Below.refl _ _⟩
  go_enter Tryz.func184, Tryz.ntmps184
  go_wp2_with fail
  go_loopw [10] (fun i wr => ∃ k : Nat, k ≤ ps.length ∧ i = .int .i64 k ∧ upToB ps k = true ∧ Below w.heap.size w wr) (fun i _ => ps.length - (intOf i).toNat)
  case atStart => exact ⟨0, Nat.zero_le _, rfl, rfl, Below.refl _ _⟩
  case round =>
    obtain ⟨k, hk, rfl, hst, hb⟩ := hrel
    have Hst := hide hst
    have Hb := hide hb
    clear hst
    by_cases hlt : k < ps.length
    · rcases unhide Hr with h0 | ⟨b, off, rfl, hbw, hcl⟩
      · rw [h0] at hlt; simp at hlt
      have hbr : b < wr.heap.size := Nat.lt_of_lt_of_le hbw hb.size
      obtain ⟨c0, c1, c2⟩ := guild_cells hcl hlt
      rw [← hb.cell (p := ⟨b, off + k * 3, none⟩) hbw] at c0
      rw [← hb.cell (p := ⟨b, off + k * 3 + 1, none⟩) hbw] at c1
      rw [← hb.cell (p := ⟨b, off + k * 3 + 2, none⟩) hbw] at c2
      generalize hp : recAt ps k = p at c0 c1 c2
      have Hp := hide hp
      clear hp
      obtain ⟨x0, x1, x2⟩ := p
      simp only at c0 c1 c2
      have hsz := hb.size
      clear hcl hb
      go_wp2_with fail
      refine (guildOk_any _ _ _ _ _).mono ?_
      rintro e w1 ⟨rfl, hb1⟩
      have Hb1 := hide ((unhide Hb).trans (((Below.refl _ _).alloc hsz _).trans (hb1.mono (by simp; omega))))
      clear hb1
      cases hg : guildB (x0, x1, x2) k
      · go_wp2_with fail
        go_ret
        exact ⟨ret_bool (guildsB_f hlt (by rw [unhide Hp]; exact hg)).symm, unhide Hb1⟩
      · go_wp2_with fail
        go_roundw
        case rel => exact ⟨k + 1, by omega, by go_num, by rw [upToB_succ, unhide Hst, unhide Hp, hg]; rfl, unhide Hb1⟩
        case measure => simp [intOf]; omega
    · obtain rfl : k = ps.length := by omega
      go_wp2_with fail
      go_ret
      exact ⟨ret_bool (by unfold guildsB; rw [unhide Hst]; simp; omega), hb⟩

end Go.Proofs.YthbbahagpmdooaaGreatDoor

/- Contracts of chapter 8's models: each returns what the plain lists say and writes into no memory that was there. Condition: the slices can be read, and what a theorem names. -/
namespace Go.Proofs.YthbbahagpmdooaaGreatDoor
open Go.ChangeShapes Go.WideShapes Go.ChangeAt Go.RowKit Go.Sort
set_option linter.unusedVariables false

theorem drewN_below {B : Nat} {w w' : World} (h : Below B w w') (n : Nat) : Below B w (w'.drewN n) := ⟨h.os, h.tape, h.output, h.size, h.block⟩

theorem guildForce_any (x : Int) (w : World) : Calls Tryz.prog 112 #[.int .i64 x] w fun e w' => e = .returned (.bool (inB x 0 1024)) ∧ w' = w := by
  go_enter Tryz.func112, Tryz.ntmps112
  go_wp2_with (go_at_call 56; refine (l1In_any _ _ _ _).mono ?_; rintro e w' ⟨rfl, rfl⟩)
  go_ret
  exact ⟨rfl, rfl⟩

theorem l8Pair_any (lo hi : Int) (w : World) : Calls Tryz.prog 109 #[.int .i64 lo, .int .i64 hi] w fun e w' => e = .returned (.bool (pairB lo hi)) ∧ w' = w := by
  cases h1 : inB lo 0 1024
  · have hp : pairB lo hi = false := by unfold pairB; rw [h1]; rfl
    rw [hp]; clear hp
    go_enter Tryz.func109, Tryz.ntmps109
    go_wp2_with (go_at_call 112; refine (guildForce_any _ _).mono ?_; rintro e w' ⟨rfl, rfl⟩)
    go_ret
    exact ⟨rfl, rfl⟩
  · cases h2 : inB hi 0 1024
    · have hp : pairB lo hi = false := by unfold pairB; rw [h1, h2]; rfl
      rw [hp]; clear hp
      go_enter Tryz.func109, Tryz.ntmps109
      go_wp2_with (go_at_call 112; refine (guildForce_any _ _).mono ?_; rintro e w' ⟨rfl, rfl⟩)
      go_ret
      exact ⟨rfl, rfl⟩
    · have hp : pairB lo hi = decide (lo ≤ hi) := by unfold pairB; rw [h1, h2]; rfl
      rw [hp]; clear hp
      by_cases h3 : lo ≤ hi
      all_goals
        go_enter Tryz.func109, Tryz.ntmps109
        go_wp2_with (go_at_call 112; refine (guildForce_any _ _).mono ?_; rintro e w' ⟨rfl, rfl⟩)
        go_ret
        exact ⟨ret_bool (by first | (simp; done) | (simp; omega)), rfl⟩

set_option maxHeartbeats 2000000 in
theorem specGuildsOk_any {w : World} {v : Value} {ps : List GuildV} (h : IsGuilds w v ps) :
    Calls Tryz.prog 122 #[v] w fun e w' => e = .returned (.bool (guildsB ps)) ∧ Below w.heap.size w w' := by
  obtain ⟨a, cap, rfl, hc, hm, hr⟩ := h
  have Hr := hide hr
  clear hr
  go_enter Tryz.func122, Tryz.ntmps122
  go_wp2_with fail
  go_loopw [3] (fun i wr => ∃ k : Nat, k ≤ ps.length ∧ i = .int .i64 k ∧ upToB ps k = true ∧ Below w.heap.size w wr) (fun i _ => ps.length - (intOf i).toNat)
  case atStart => exact ⟨0, Nat.zero_le _, rfl, rfl, Below.refl _ _⟩
  case round =>
    obtain ⟨k, hk, rfl, hst, hb⟩ := hrel
    have Hst := hide hst
    have Hb := hide hb
    clear hst
    by_cases hlt : k < ps.length
    · rcases unhide Hr with h0 | ⟨b, off, rfl, hbw, hcl⟩
      · rw [h0] at hlt; simp at hlt
      obtain ⟨c0, c1, c2⟩ := guild_cells hcl hlt
      rw [← hb.cell (p := ⟨b, off + k * 3, none⟩) hbw] at c0
      rw [← hb.cell (p := ⟨b, off + k * 3 + 1, none⟩) hbw] at c1
      rw [← hb.cell (p := ⟨b, off + k * 3 + 2, none⟩) hbw] at c2
      generalize hp : recAt ps k = p at c0 c1 c2
      have Hp := hide hp
      clear hp
      obtain ⟨x0, x1, x2⟩ := p
      simp only at c0 c1 c2
      clear hcl hb
      have hg : guildB (x0, x1, x2) k = (inB x0 (-1) ((k : Int) - 1) && pairB x1 x2) := rfl
      have Hg := hide hg
      clear hg
      cases h1 : inB x0 (-1) ((k : Int) - 1)
      · go_wp2_with fail
        go_quiet (first | exact Calls.quiet_of_same (l1In_any _ _ _ _) | exact Calls.quiet_of_same (l8Pair_any _ _ _))
        go_wp2_with fail
        go_ret
        exact ⟨ret_bool (guildsB_f hlt (by rw [unhide Hp, unhide Hg, h1]; rfl)).symm, drewN_below (unhide Hb) _⟩
      cases h2 : pairB x1 x2
      · go_wp2_with fail
        go_quiet (first | exact Calls.quiet_of_same (l1In_any _ _ _ _) | exact Calls.quiet_of_same (l8Pair_any _ _ _))
        go_wp2_with fail
        go_ret
        exact ⟨ret_bool (guildsB_f hlt (by rw [unhide Hp, unhide Hg, h1, h2]; rfl)).symm, drewN_below (unhide Hb) _⟩
      · go_wp2_with fail
        go_quiet (first | exact Calls.quiet_of_same (l1In_any _ _ _ _) | exact Calls.quiet_of_same (l8Pair_any _ _ _))
        go_wp2_with fail
        go_roundw
        case rel => exact ⟨k + 1, by omega, by go_num, by rw [upToB_succ, unhide Hst, unhide Hp, unhide Hg, h1, h2]; rfl, drewN_below (unhide Hb) _⟩
        case measure => simp [intOf]; omega
    · obtain rfl : k = ps.length := by omega
      by_cases hbig : ps.length ≤ 6
      all_goals
        go_wp2_with fail
        go_ret
        exact ⟨ret_bool (by unfold guildsB; rw [unhide Hst]; simp; omega), hb⟩

end Go.Proofs.YthbbahagpmdooaaGreatDoor

/- Smiths as eleven plain numbers: which are right, which are gone, what they are when charged and with another rank. Numbers alone; no condition but those that a theorem names. -/
namespace Go.Proofs.YthbbahagpmdooaaGreatDoor
open Go.ChangeShapes Go.WideShapes Go.ChangeAt Go.RowKit Go.Sort
set_option linter.unusedVariables false

/-- Each number is within its limits. -/
def presB (x : SmithV) : Bool :=
  inB x.1 1 3 && (inB x.2.1 0 7 && (inB x.2.2.1 (-5) 5 && (inB x.2.2.2.1 1 255 && (inB x.2.2.2.2.1 (-1) 5 && (pairB x.2.2.2.2.2.1 x.2.2.2.2.2.2.1 && (inB x.2.2.2.2.2.2.2.1 (-1000000000000) 1000000000000 &&
    (inB x.2.2.2.2.2.2.2.2.1 0 (weightV x.2.2.1 - 1) && (inB x.2.2.2.2.2.2.2.2.2.1 0 1024 && inB x.2.2.2.2.2.2.2.2.2.2 0 100000000000))))))))
/-- All are zero. -/
def zeroS : SmithV := (0, 0, 0, 0, 0, 0, 0, 0, 0, 0, 0)
/-- Number by number alike. -/
def sameB (x y : SmithV) : Bool := x.1 == y.1 && (x.2.1 == y.2.1 && (x.2.2.1 == y.2.2.1 && (x.2.2.2.1 == y.2.2.2.1 && (x.2.2.2.2.1 == y.2.2.2.2.1 && (x.2.2.2.2.2.1 == y.2.2.2.2.2.1 && (x.2.2.2.2.2.2.1 == y.2.2.2.2.2.2.1 && (x.2.2.2.2.2.2.2.1 == y.2.2.2.2.2.2.2.1 && (x.2.2.2.2.2.2.2.2.1 == y.2.2.2.2.2.2.2.2.1 && (x.2.2.2.2.2.2.2.2.2.1 == y.2.2.2.2.2.2.2.2.2.1 && (x.2.2.2.2.2.2.2.2.2.2 == y.2.2.2.2.2.2.2.2.2.2))))))))))
theorem sameB_refl (x : SmithV) : sameB x x = true := by unfold sameB; simp
theorem sameB_of {x y : SmithV} (h : sameB x y = true) : x = y := by
  obtain ⟨x0, x1, x2, x3, x4, x5, x6, x7, x8, x9, x10⟩ := x
  obtain ⟨y0, y1, y2, y3, y4, y5, y6, y7, y8, y9, y10⟩ := y
  unfold sameB at h
  simp only [Bool.and_eq_true, beq_iff_eq] at h
  obtain ⟨rfl, rfl, rfl, rfl, rfl, rfl, rfl, rfl, rfl, rfl, rfl⟩ := h
  rfl
def goneB (x : SmithV) : Bool := sameB x zeroS
def smithB (x : SmithV) : Bool := goneB x || presB x
theorem weight_in (r : Int) : 0 ≤ weightV r ∧ weightV r ≤ 3125 := by
  cases h : inB r (-5) 5
  · rw [weightV_none h]; omega
  · rcases ranks h with rfl | rfl | rfl | rfl | rfl | rfl | rfl | rfl | rfl | rfl | rfl <;> decide
theorem presB_of {st be rk my gu lo hi hd ca ut wk : Int} (h : presB (st, be, rk, my, gu, lo, hi, hd, ca, ut, wk) = true) : (1 ≤ st ∧ st ≤ 3) ∧ (0 ≤ be ∧ be ≤ 7) ∧ inB rk (-5) 5 = true ∧ (1 ≤ my ∧ my ≤ 255) ∧ (-1 ≤ gu ∧ gu ≤ 5) ∧ pairB lo hi = true ∧ (-1000000000000 ≤ hd ∧ hd ≤ 1000000000000) ∧ (0 ≤ ca ∧ ca ≤ weightV rk - 1) ∧ (0 ≤ ut ∧ ut ≤ 1024) ∧ (0 ≤ wk ∧ wk ≤ 100000000000) := by
  unfold presB at h
  simp only [Bool.and_eq_true] at h
  obtain ⟨h0, h1, h2, h3, h4, h5, h6, h7, h8, h9⟩ := h
  exact ⟨inB_of h0, inB_of h1, h2, inB_of h3, inB_of h4, h5, inB_of h6, inB_of h7, inB_of h8, inB_of h9⟩
theorem goneB_of {x : SmithV} (h : goneB x = true) : x = zeroS := sameB_of h
theorem goneB_zero : goneB zeroS = true := sameB_refl _
theorem goneB_st {x : SmithV} (h : x.1 ≠ 0) : goneB x = false := by
  cases hg : goneB x
  · rfl
  · exact absurd (show x.1 = 0 by rw [goneB_of hg]; rfl) h
theorem presB_st {x : SmithV} (h : x.1 = 0) : presB x = false := by
  unfold presB
  rw [h]
  rfl
end Go.Proofs.YthbbahagpmdooaaGreatDoor

/- Contracts of chapter 2's small functions and of their models: whether a number is a set, and whether a bench is in it. No condition but those that a theorem names. -/
namespace Go.Proofs.YthbbahagpmdooaaGreatDoor
open Go.ChangeShapes Go.WideShapes Go.ChangeAt Go.RowKit
set_option linter.unusedVariables false

theorem implSetOk_any (s : Int) (w : World) : Calls Tryz.prog 236 #[.int .i64 s] w fun e w' => e = .returned (.bool (inB s 0 255)) ∧ w' = w := by
  by_cases h1 : 0 ≤ s
  · by_cases h2 : s ≤ 255
    all_goals
      go_enter Tryz.func236, Tryz.ntmps236
      go_wp2
      go_ret
      exact ⟨ret_bool (by first | exact (inB_t h1 h2).symm | exact (inB_f (by omega)).symm), rfl⟩
  · go_enter Tryz.func236, Tryz.ntmps236
    go_wp2
    go_ret
    exact ⟨ret_bool (inB_f (by omega)).symm, rfl⟩

theorem isBench_any (i : Int) (w : World) : Calls Tryz.prog 237 #[.int .i64 i] w fun e w' => e = .returned (.bool (inB i 0 7)) ∧ w' = w := by
  by_cases h1 : 0 ≤ i
  · by_cases h2 : i < 8
    all_goals
      go_enter Tryz.func237, Tryz.ntmps237
      go_wp2
      go_ret
      exact ⟨ret_bool (by first | exact (inB_t h1 (by omega)).symm | exact (inB_f (by omega)).symm), rfl⟩
  · go_enter Tryz.func237, Tryz.ntmps237
    go_wp2
    go_ret
    exact ⟨ret_bool (inB_f (by omega)).symm, rfl⟩

/-- Whether the bit i of s is set. -/
def bitB (s i : Int) : Bool := decide (s / 2 ^ i.toNat % 2 = 1)
/-- Whether the bench i is in the set s. -/
def memB (s i : Int) : Bool := inB s 0 255 && inB i 0 7 && bitB s i

theorem i64_and1 (n : Int) : bits .and .i64 n 1 = n % 2 := by
  have h1 : (BitVec.ofInt 64 1).toNat = 2 ^ 1 - 1 := by decide
  have key : (BitVec.ofInt 64 n &&& BitVec.ofInt 64 1).toNat = (n % ((2 ^ 64 : Nat) : Int)).toNat % 2 ^ 1 := by
    rw [BitVec.toNat_and, BitVec.toNat_ofInt, h1, Nat.and_two_pow_sub_one_eq_mod]
  show IntKind.i64.wrap ((BitVec.ofInt 64 n &&& BitVec.ofInt 64 1).toNat : Nat) = n % 2
  rw [key, IntKind.wrap_i64]
  omega
theorem bit_eq (s i : Int) : (bits .and .i64 (s / 2 ^ i.toNat) 1 == 1) = bitB s i := by rw [i64_and1]; unfold bitB; rfl
theorem memB_f {s i : Int} (h : inB s 0 255 = false ∨ inB i 0 7 = false) : memB s i = false := by unfold memB; rcases h with h | h <;> simp [h]
theorem memB_t {s i : Int} (hs : inB s 0 255 = true) (hi : inB i 0 7 = true) : memB s i = bitB s i := by unfold memB; simp [hs, hi]

theorem l2Has_any (s i : Int) (w : World) (hs : 0 ≤ s) (hs2 : s ≤ 255) (hi : 0 ≤ i) (hi2 : i ≤ 7) : Calls Tryz.prog 57 #[.int .i64 s, .int .i64 i] w fun e w' => e = .returned (.bool (bitB s i)) ∧ w' = w := by
  go_enter Tryz.func57, Tryz.ntmps57
  go_wp2
  go_ret
  exact ⟨ret_bool (bit_eq s i), rfl⟩

theorem implInSet_any (s i : Int) (w : World) : Calls Tryz.prog 192 #[.int .i64 s, .int .i64 i] w fun e w' => e = .returned (.bool (memB s i)) ∧ w' = w := by
  by_cases hb : inB s 0 255 = true
  · obtain ⟨hs, hs2⟩ := inB_of hb
    by_cases hc : inB i 0 7 = true
    · obtain ⟨hi, hi2⟩ := inB_of hc
      go_enter Tryz.func192, Tryz.ntmps192
      go_wp2_with (first | (go_at_call 236; refine (implSetOk_any _ _).mono ?_; rintro e w' ⟨rfl, rfl⟩) | (go_at_call 237; refine (isBench_any _ _).mono ?_; rintro e w' ⟨rfl, rfl⟩))
      go_ret
      exact ⟨ret_bool ((bit_eq s i).trans (memB_t hb hc).symm), rfl⟩
    · have hc' : inB i 0 7 = false := by simpa using hc
      go_enter Tryz.func192, Tryz.ntmps192
      go_wp2_with (first | (go_at_call 236; refine (implSetOk_any _ _).mono ?_; rintro e w' ⟨rfl, rfl⟩) | (go_at_call 237; refine (isBench_any _ _).mono ?_; rintro e w' ⟨rfl, rfl⟩))
      go_ret
      exact ⟨ret_bool (memB_f (.inr hc')).symm, rfl⟩
  · have hb' : inB s 0 255 = false := by simpa using hb
    go_enter Tryz.func192, Tryz.ntmps192
    go_wp2_with (first | (go_at_call 236; refine (implSetOk_any _ _).mono ?_; rintro e w' ⟨rfl, rfl⟩) | (go_at_call 237; refine (isBench_any _ _).mono ?_; rintro e w' ⟨rfl, rfl⟩))
    go_ret
    exact ⟨ret_bool (memB_f (.inl hb')).symm, rfl⟩

end Go.Proofs.YthbbahagpmdooaaGreatDoor

/- Smithies as plain lists: which are right. Lists and numbers alone; no condition but those that a theorem names. -/
namespace Go.Proofs.YthbbahagpmdooaaGreatDoor
open Go.ChangeShapes Go.WideShapes Go.ChangeAt Go.RowKit Go.Sort
set_option linter.unusedVariables false

/-- Who waits or works. -/
def presS (s : SmithV) : Bool := s.1 == 2 || s.1 == 3
def bandB (had mark : Int) : Bool := inB had (-1000000000000) 1000000000000 && (inB mark (-1000000000000) 1000000000000 && inB (had - mark) (-20000) 63000)
def deskB (d : DeskV) : Bool := inB d.2.2 (-900000000000) 900000000000
def paceInB (m : SmyV) (j : Nat) : Bool := inB (recAt m.paces j) 0 (((roomAt m.rooms j).2.length : Int) - 1)
/-- A right smith whose guild and bench are there. -/
def hereB (m : SmyV) (s : SmithV) : Bool := smithB s && (s.1 == 0 || (decide (s.2.2.2.2.1 < m.guilds.length) && decide (s.2.1 < m.desks.length)))
/-- Who waits or works is at an open bench that is in its May, and in the band. -/
def seatB (m : SmyV) (s : SmithV) : Bool := !presS s || ((recAt m.desks s.2.1.toNat).1 && (bitB s.2.2.2.1 s.2.1 && bandB s.2.2.2.2.2.2.2.1 (recAt m.desks s.2.1.toNat).2.2))
def headB (m : SmyV) : Bool := hallB m.rooms && (guildsB m.guilds && (decide (m.smiths.length ≤ 12) && (decide ((m.desks.length : Int) = benchSum m.rooms) && (decide (m.paces.length = m.rooms.length) && inB m.now 0 1000000))))
def upDesks (m : SmyV) (k : Nat) : Bool := (List.range k).all fun j => deskB (recAt m.desks j)
def upOpen (m : SmyV) (k : Nat) : Bool := (List.range k).any fun j => (recAt m.desks j).1
def upPaces (m : SmyV) (k : Nat) : Bool := (List.range k).all fun j => paceInB m j
def upSmiths (m : SmyV) (k : Nat) : Bool := (List.range k).all fun j => hereB m (recAt m.smiths j) && seatB m (recAt m.smiths j)
/-- Right, but for who works. -/
def looseB (m : SmyV) : Bool := headB m && (upDesks m m.desks.length && (upPaces m m.paces.length && (upSmiths m m.smiths.length && upOpen m m.desks.length)))

theorem all_up {p : Nat → Bool} (k : Nat) : (List.range (k + 1)).all p = ((List.range k).all p && p k) := by rw [List.range_succ, List.all_append]; simp
theorem any_up {p : Nat → Bool} (k : Nat) : (List.range (k + 1)).any p = ((List.range k).any p || p k) := by rw [List.range_succ, List.any_append]; simp
theorem all_no {p : Nat → Bool} {k n : Nat} (hk : k < n) (h : p k = false) : (List.range n).all p = false := by
  rw [List.all_eq_false]
  exact ⟨k, List.mem_range.2 hk, by simp [h]⟩
theorem all_at {p : Nat → Bool} {k n : Nat} (h : (List.range n).all p = true) (hk : k < n) : p k = true := List.all_eq_true.1 h k (List.mem_range.2 hk)
theorem looseB_head {m : SmyV} (h : headB m = false) : looseB m = false := by unfold looseB; rw [h]; rfl
theorem looseB_desk {m : SmyV} {k : Nat} (hk : k < m.desks.length) (h : deskB (recAt m.desks k) = false) : looseB m = false := by
  unfold looseB upDesks
  rw [all_no hk h]; simp
theorem looseB_pace {m : SmyV} {k : Nat} (hk : k < m.paces.length) (h : paceInB m k = false) : looseB m = false := by
  unfold looseB upPaces
  rw [all_no (p := fun j => paceInB m j) hk h]; simp
theorem looseB_smith {m : SmyV} {k : Nat} (hk : k < m.smiths.length) (h : (hereB m (recAt m.smiths k) && seatB m (recAt m.smiths k)) = false) : looseB m = false := by
  unfold looseB upSmiths
  rw [all_no (p := fun j => hereB m (recAt m.smiths j) && seatB m (recAt m.smiths j)) hk h]; simp
theorem looseB_all {m : SmyV} (h1 : headB m = true) (h2 : upDesks m m.desks.length = true) (h3 : upPaces m m.paces.length = true) (h4 : upSmiths m m.smiths.length = true) : looseB m = upOpen m m.desks.length := by
  unfold looseB; rw [h1, h2, h3, h4]; rfl
theorem hereB_of {m : SmyV} {s : SmithV} (h : hereB m s = true) (hp : presS s = true) : 0 ≤ s.2.1 ∧ s.2.1 < m.desks.length ∧ s.2.1 ≤ 7 ∧ 1 ≤ s.2.2.2.1 ∧ s.2.2.2.1 ≤ 255 ∧ s.2.2.2.2.1 < m.guilds.length := by
  obtain ⟨st, be, rk, my, gu, lo, hi, hd, ca, ut, wk⟩ := s
  have hst : st ≠ 0 := by
    intro e
    subst e
    cases hp
  unfold hereB at h
  simp only [Bool.and_eq_true, Bool.or_eq_true, decide_eq_true_eq] at h
  obtain ⟨h1, h2⟩ := h
  rcases h2 with h2 | ⟨h2, h3⟩
  · exact absurd (by simpa using h2) hst
  · have hs : smithB (st, be, rk, my, gu, lo, hi, hd, ca, ut, wk) = presB (st, be, rk, my, gu, lo, hi, hd, ca, ut, wk) := by unfold smithB; rw [goneB_st hst, Bool.false_or]
    rw [hs] at h1
    obtain ⟨_, ⟨b0, b1⟩, _, ⟨m0, m1⟩, _⟩ := presB_of h1
    exact ⟨b0, h3, b1, m0, m1, h2⟩

/-- Of the first k smiths: who works at b (-1: nobody), and whether one waits there; none where two work. -/
def scanV (ss : List SmithV) (b : Int) : Nat → Option (Int × Bool)
  | 0 => some (-1, false)
  | k + 1 => match scanV ss b k with
    | none => none
    | some (wk, wt) => if (recAt ss k).2.1 = b ∧ presS (recAt ss k) = true then (if (recAt ss k).1 = 2 then some (wk, true) else if 0 ≤ wk then none else some ((k : Int), wt)) else some (wk, wt)
def benchOkB (m : SmyV) (b : Nat) : Bool := match scanV m.smiths b m.smiths.length with
  | none => false
  | some (wk, wt) => (recAt m.desks b).2.1 == wk && !(wt && decide (wk < 0))
def smyB (m : SmyV) : Bool := looseB m && (List.range m.desks.length).all (benchOkB m)

end Go.Proofs.YthbbahagpmdooaaGreatDoor

