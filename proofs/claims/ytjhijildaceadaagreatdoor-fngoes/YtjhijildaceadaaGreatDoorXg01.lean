/- Part 1 of what the proof rests on. No condition but those that a theorem names. -/
import Derived.Test.YtjhijildaceadaaGreatDoorRows
import Derived.Test.YtjhijildaceadaaGreatDoorTie
import Derived.KernelRfl
import Derived.SevenTiedAt
import Derived.Test.YtjhijildaceadaaGreatDoorChecked
import GoSem.Claim
import GoSem.ClaimJoined
import GoSem.ClaimMapViews
import Derived.JoinedTies
import Derived.RowKit
import Derived.WalkKit
import Derived.ProofKit
import Derived.OpenShut
import Derived.Outline
import Derived.LaidEql
import Derived.Stop.Asserts
import Derived.RowKitTokens
import Derived.Below
import Derived.Deep.QuietTactic
import Derived.BigQuiet
import Derived.Laws.OwnMore
import Derived.OwnWalk
import Derived.Lib.QuietBelow
import Derived.Maps.AppendAt
set_option maxHeartbeats 8000000
set_option maxRecDepth 100000
namespace Go.Proofs.YtjhijildaceadaaGreatDoor
open Go
variable {w w' w0 w1 w2 w3 w₀ wr W W' X A B C : World} {v v0 v1 v2 v3 v4 u u0 u1 u2 u3 u4 : Value}
theorem CJ : Tryz.pinned.checked.prog.mainIs = some (true, "6c59155b349db4fd0d9fe46676c8be769105e54703f96798ca42980aeccc2aff".toList) := by kernel_rfl
theorem Dx:true=Tryz.pinned.checked.prog.looks []:=by kernel_rfl
theorem ED:(Tryz.prog.funcs.toList.any Func.goes)=false:=by kernel_rfl
theorem Dv (f:FuncId):Tryz.prog.goes f=false:=by
 have h:∀ fn ∈ Tryz.prog.funcs.toList,Func.goes fn=false:=fun fn hf=>by
  have:=List.any_eq_false.1 ED fn hf
  simpa using this
 have hg:∀ g:FuncId,(Tryz.prog.funcs[g]?).any Func.goes=false:=fun g=>by
  cases hx:Tryz.prog.funcs[g]? with
  | none=>rfl
  | some fn=>exact h fn (by simpa using Array.mem_of_getElem? hx)
 unfold Program.goes
 simp [hg]
 intro _ i hi
 exact h _ (by simp)
theorem CI (c:OpenClaim) (hc:c.start= .entering):false=c.goesBy Tryz.pinned.checked.prog:=by
 show false=c.goesBy Tryz.prog
 unfold OpenClaim.goesBy Program.goesAt Program.goesFrom
 rw [hc]
 cases Tryz.prog.funcNamed c.func with
 | none=>rfl
 | some f=>simp [Dv]
open Go.ChangeShapes Go.WideShapes Go.ChangeAt Go.RowKit
set_option linter.unusedVariables false
theorem Zy {k:IntKind} {a b:Int} (h:a=b):Ending.returned (.int k a)= .returned (.int k b):=by rw [h]
theorem Z5 {a b:Bool} (h:a=b):Ending.returned (.bool a)= .returned (.bool b):=by rw [h]
def inB (x lo hi:Int):Bool:=decide (lo<=x/\x<=hi)
theorem Zm {x lo hi:Int} (h1:lo<=x) (h2:x<=hi):inB x lo hi=true:=by unfold inB;exact decide_eq_true ⟨h1,h2⟩
theorem U8 {x lo hi:Int} (h:x<lo\/hi<x):inB x lo hi=false:=by unfold inB;exact decide_eq_false (by omega)
theorem ZR {x lo hi:Int} (h:inB x lo hi=true):lo<=x/\x<=hi:=by unfold inB at h;exact of_decide_eq_true h
theorem Z9 {p:Prop} (h:p):Hid p:=h
theorem uh {p:Prop} (h:Hid p):p:=h
theorem Ni (a b:Int) (w:World):Calls Tryz.prog 279 #[.int .i64 a,.int .i64 b] w fun e w'=>e= .returned (.int .i64 (min a b))/\w'=w:=by
 by_cases h:a<b
 all_goals
  go_enter Tryz.func279,Tryz.ntmps279
  go_wp2
  go_ret
  exact ⟨Zy (by omega),rfl⟩
theorem UF (a b:Int) (w:World):Calls Tryz.prog 138 #[.int .i64 a,.int .i64 b] w fun e w'=>e= .returned (.int .i64 (max a b))/\w'=w:=by
 by_cases h:b<a
 all_goals
  go_enter Tryz.func138,Tryz.ntmps138
  go_wp2
  go_ret
  exact ⟨Zy (by omega),rfl⟩
theorem TS (x l h:Int) (w:World):Calls Tryz.prog 281 #[.int .i64 x,.int .i64 l,.int .i64 h] w fun e w'=>e= .returned (.int .i64 (min (max x l) h))/\w'=w:=by
 go_enter Tryz.func281,Tryz.ntmps281
 go_wp2_with (first | (go_at_call 279;refine (Ni _ _ _).mono ?_;rintro e w' ⟨rfl,rfl⟩) | (go_at_call 138;refine (UF _ _ _).mono ?_;rintro e w' ⟨rfl,rfl⟩))
 go_ret
 exact ⟨rfl,rfl⟩
theorem P1 (x l h:Int) (w:World):Calls Tryz.prog 325 #[.int .i64 x,.int .i64 l,.int .i64 h] w fun e w'=>e= .returned (.int .i64 (min (max x l) h))/\w'=w:=by
 by_cases c1:x<l
 ·by_cases c2:h<l
  all_goals
   go_enter Tryz.func325,Tryz.ntmps325
   go_wp2
   all_goals (go_ret;exact ⟨Zy (by omega),rfl⟩)
 ·by_cases c2:h<x
  all_goals
   go_enter Tryz.func325,Tryz.ntmps325
   go_wp2
   all_goals (go_ret;exact ⟨Zy (by omega),rfl⟩)
theorem Z1 (x lo hi:Int) (w:World):Calls Tryz.prog 76 #[.int .i64 x,.int .i64 lo,.int .i64 hi] w fun e w'=>e= .returned (.bool (inB x lo hi))/\w'=w:=by
 by_cases h1:lo<=x
 ·by_cases h2:x<=hi
  all_goals
   go_enter Tryz.func76,Tryz.ntmps76
   go_wp2
   go_ret
   exact ⟨Z5 (by first | exact (Zm h1 h2).symm | exact (U8 (by omega)).symm),rfl⟩
 ·go_enter Tryz.func76,Tryz.ntmps76
  go_wp2
  go_ret
  exact ⟨Z5 (U8 (by omega)).symm,rfl⟩
theorem UE (x:Int) (w:World):Calls Tryz.prog 375 #[.int .i64 x] w fun e w'=>e= .returned (.bool (inB x 0 1000000000))/\w'=w:=by
 go_enter Tryz.func375,Tryz.ntmps375
 go_wp2_with (go_at_call 76;refine (Z1 _ _ _ _).mono ?_;rintro e w' ⟨rfl,rfl⟩)
 go_ret
 exact ⟨rfl,rfl⟩
theorem OU (x:Int) (w:World):Calls Tryz.prog 342 #[.int .i64 x] w fun e w'=>e= .returned (.bool (inB x 0 1024))/\w'=w:=by
 by_cases h1:0<=x
 ·by_cases h2:x<=1024
  all_goals
   go_enter Tryz.func342,Tryz.ntmps342
   go_wp2
   go_ret
   exact ⟨Z5 (by first | exact (Zm h1 h2).symm | exact (U8 (by omega)).symm),rfl⟩
 ·go_enter Tryz.func342,Tryz.ntmps342
  go_wp2
  go_ret
  exact ⟨Z5 (U8 (by omega)).symm,rfl⟩
theorem sA {α:Type} (l:List α) (i:Nat) (a:α):l.toArray.setIfInBounds i a=(l.set i a).toArray:=by simp
theorem sZ {α:Type} (x:α) (l:List α) (a:α):(x::l).set 0 a=a::l:=rfl
theorem sS {α:Type} (x:α) (l:List α) (n:Nat) (a:α):(x::l).set (n+1) a=x::l.set n a:=rfl
set_option linter.unusedSimpArgs false
abbrev XW (a:Addr):Value:= .iface 344 (.pointer (some a))
abbrev R1 (b:Nat):Value:= .iface 159 (.pointer (some ⟨b,0,none⟩))
abbrev rty (t:Nat):Value:= .iface 268 (.agg #[.pointer (some ⟨6,t,none⟩)])
theorem tyE (v:Value) (w:World):(callFunc 301 #[.iface 344 v]).run Tryz.prog w= .ok (.value (rty 344)) w:=by
 rw [@run_callFunc_extern Tryz.prog 301 _ Extern.ReflectliteType.typeOf Tryz.func301 (by kernel_rfl) (by kernel_rfl) (by kernel_rfl) (by kernel_rfl)]
 kernel_rfl
theorem tyR (v:Value) (w:World):(callFunc 301 #[.iface 159 v]).run Tryz.prog w= .ok (.value (rty 159)) w:=by
 rw [@run_callFunc_extern Tryz.prog 301 _ Extern.ReflectliteType.typeOf Tryz.func301 (by kernel_rfl) (by kernel_rfl) (by kernel_rfl) (by kernel_rfl)]
 kernel_rfl
theorem CN (v : Value) (w : World) : (method 484 268 v "Comparable").run Tryz.prog w = .ok (421, v) w := by kernel_rfl
theorem CE (w:World):(callFunc 421 #[.agg #[.pointer (some ⟨6,344,none⟩)]]).run Tryz.prog w= .ok (.value (.bool true)) w:=by
 rw [@run_callFunc_extern Tryz.prog 421 _ (Extern.ReflectliteType.method fun t => do Extern.Rtype.noPackHeld "Comparable" t; pure (.bool (← typeInfo t).comparable)) Tryz.func421 (by kernel_rfl) (by kernel_rfl) (by kernel_rfl) (by kernel_rfl)]
 kernel_rfl
theorem IG:(Tryz.prog.info? 344).map (·.comparable)=some true:=by kernel_rfl
theorem IH:(Tryz.prog.info? 371).map (·.size)=some 1:=by kernel_rfl
theorem Df (v:Value) (xT:TypeId) (w:World):(Instr.typeAssert (.iface 344 v) xT 313 true).run Tryz.prog w= .ok (.tuple #[.nilIface,.bool false]) w:=run_typeAssert_lacksB Tryz.underlying313 (by kernel_rfl) (by kernel_rfl) v xT w
theorem Rg (v:Value) (xT:TypeId) (w:World):(Instr.typeAssert (.iface 344 v) xT 276 true).run Tryz.prog w= .ok (.tuple #[.nilIface,.bool false]) w:=run_typeAssert_lacksB Tryz.underlying276 (by kernel_rfl) (by kernel_rfl) v xT w
theorem Sw (v:Value) (xT:TypeId) (w:World):(Instr.typeAssert (.iface 344 v) xT 278 true).run Tryz.prog w= .ok (.tuple #[.nilIface,.bool false]) w:=run_typeAssert_lacksB Tryz.underlying278 (by kernel_rfl) (by kernel_rfl) v xT w
theorem Dg (v:Value) (xT:TypeId) (w:World):(Instr.typeAssert (.iface 159 v) xT 313 true).run Tryz.prog w= .ok (.tuple #[.nilIface,.bool false]) w:=run_typeAssert_lacksB Tryz.underlying313 (by kernel_rfl) (by kernel_rfl) v xT w
theorem OM (v:Value) (xT:TypeId) (w:World):(Instr.typeAssert (.iface 159 v) xT 276 true).run Tryz.prog w= .ok (.tuple #[.iface 159 v,.bool true]) w:=run_typeAssert_hasB Tryz.underlying276 (by kernel_rfl) v xT w
theorem HJ (v : Value) (w : World) : (method 484 159 v "Unwrap").run Tryz.prog w = .ok (404, v) w := by kernel_rfl
theorem RO {a b:Addr} {ca cb:Array Value} {ta tb:TypeId} (w:World) (hne:a ≠ b) (ha:w.heap[a.block]?=some (.cells ca ta (0,0))) (hb:w.heap[b.block]?=some (.cells cb tb (0,0))):Calls Tryz.prog 248 #[XW a,XW b] w fun e w'=>e= .returned (.bool false)/\w'=w:=by
 obtain ⟨i,hi,hcmp⟩:=Option.map_eq_some_iff.1 IG
 obtain ⟨j,hj,hjs⟩:=Option.map_eq_some_iff.1 IH
 have tT:=tyE
 have cT:=CE
 have mR:=CN
 have nE:=Df
 have uE:=Rg
 have vE:=Sw
 have heq:=run_eql_iface_ptr_other (P:=Tryz.prog) w Tryz.underlying97 Tryz.underlying344 hi hcmp hj (by rw [hjs];decide) hne ha hb
 go_enter Tryz.func248,Tryz.ntmps248
 go_wp2
 refine wp_loop_rounds 1 ?_
 rw [rounds_succ]
 go_wp2
 go_ret
 exact ⟨rfl,rfl⟩
theorem VQ (pb:Nat) (b:Addr) (w:World) (h1:w.cell? ⟨pb,6,none⟩=some (XW b)):Calls Tryz.prog 248 #[R1 pb,XW b] w fun e w'=>e= .returned (.bool true)/\w'=w:=by
 obtain ⟨i,hi,hcmp⟩:=Option.map_eq_some_iff.1 IG
 obtain ⟨j,hj,hjs⟩:=Option.map_eq_some_iff.1 IH
 have tT:=tyE
 have cT:=CE
 have mR:=CN
 have nW:=Dg
 have uW:=OM
 have mU:=HJ
 have heq:=run_eql_iface_ptr_same (P:=Tryz.prog) w b Tryz.underlying97 Tryz.underlying344 hi hcmp hj
 have hty:=run_eql_iface_types (P:=Tryz.prog) 159 344 (.pointer (some ⟨pb,0,none⟩)) (.pointer (some b)) Tryz.underlying97 (by decide) w
 go_enter Tryz.func248,Tryz.ntmps248
 go_wp2
 refine wp_loop_rounds 2 ?_
 rw [rounds_succ]
 go_wp2
 rw [rounds_succ]
 go_wp2
 go_ret
 exact ⟨rfl,rfl⟩
theorem Y1 (pb:Nat) {a b:Addr} {ca cb:Array Value} {ta tb:TypeId} (w:World) (h1:w.cell? ⟨pb,6,none⟩=some (XW a)) (hne:a ≠ b) (ha:w.heap[a.block]?=some (.cells ca ta (0,0))) (hb:w.heap[b.block]?=some (.cells cb tb (0,0))):Calls Tryz.prog 248 #[R1 pb,XW b] w fun e w'=>e= .returned (.bool false)/\w'=w:=by
 obtain ⟨i,hi,hcmp⟩:=Option.map_eq_some_iff.1 IG
 obtain ⟨j,hj,hjs⟩:=Option.map_eq_some_iff.1 IH
 have tT:=tyE
 have cT:=CE
 have mR:=CN
 have nE:=Df
 have uE:=Rg
 have vE:=Sw
 have nW:=Dg
 have uW:=OM
 have mU:=HJ
 have heq:=run_eql_iface_ptr_other (P:=Tryz.prog) w Tryz.underlying97 Tryz.underlying344 hi hcmp hj (by rw [hjs];decide) hne ha hb
 have hty:=run_eql_iface_types (P:=Tryz.prog) 159 344 (.pointer (some ⟨pb,0,none⟩)) (.pointer (some b)) Tryz.underlying97 (by decide) w
 go_enter Tryz.func248,Tryz.ntmps248
 go_wp2
 refine wp_loop_rounds 2 ?_
 rw [rounds_succ]
 go_wp2
 rw [rounds_succ]
 go_wp2
 go_ret
 exact ⟨rfl,rfl⟩
abbrev tgt (b:Nat):Value:= .iface 161 (.pointer (some ⟨b,0,none⟩))
abbrev LV (b:Nat):Value:= .agg #[.pointer (some ⟨6,161,none⟩),.pointer (some ⟨b,0,none⟩),.int .u64 150]
abbrev GC (b:Nat):Value:= .agg #[.pointer (some ⟨6,159,none⟩),.pointer (some ⟨b,0,none⟩),.int .u64 406]
abbrev Fq (b:Nat):Value:= .agg #[.pointer (some ⟨6,159,none⟩),.pointer (some ⟨b,0,none⟩),.int .u64 150]
open Extern.ReflectliteValue in
theorem CA (b:Nat) (w:World):(callFunc 244 #[tgt b]).run Tryz.prog w= .ok (.value (LV w.heap.size)) (w.alloc (.cells #[.pointer (some ⟨b,0,none⟩)] 161)):=by
 rw [@run_callFunc_extern Tryz.prog 244 _ (fun args=>unpack (args.getD 0 (.tuple #[]))) Tryz.func244 (by kernel_rfl) (by kernel_rfl) (by kernel_rfl) (by kernel_rfl)]
 kernel_rfl
open Extern.ReflectliteValue in
theorem Cm (b:Nat) (w:World):(callFunc 244 #[R1 b]).run Tryz.prog w= .ok (.value (Fq w.heap.size)) (w.alloc (.cells #[.pointer (some ⟨b,0,none⟩)] 159)):=by
 rw [@run_callFunc_extern Tryz.prog 244 _ (fun args=>unpack (args.getD 0 (.tuple #[]))) Tryz.func244 (by kernel_rfl) (by kernel_rfl) (by kernel_rfl) (by kernel_rfl)]
 kernel_rfl
open Extern.ReflectliteValue in
theorem Dj (b:Nat) (w:World):(callFunc 245 #[LV b]).run Tryz.prog w= .ok (.value (rty 161)) w:=by
 rw [@run_callFunc_extern Tryz.prog 245 _ (methodAny (valueError "reflectlite.Value.Type" 0) fun t _ _ _ => Extern.ReflectliteType.toType t) Tryz.func245 (by kernel_rfl) (by kernel_rfl) (by kernel_rfl) (by kernel_rfl)]
 kernel_rfl
theorem Dd (p : Value) (w : World) : (method 484 268 (.agg #[p]) "Kind").run Tryz.prog w = .ok (396, p) w := by kernel_rfl
theorem Db (v : Value) (w : World) : (method 484 268 v "Elem").run Tryz.prog w = .ok (422, v) w := by kernel_rfl
theorem Dc (v : Value) (w : World) : (method 484 268 v "Implements").run Tryz.prog w = .ok (423, v) w := by kernel_rfl
theorem Da (v : Value) (w : World) : (method 484 268 v "AssignableTo").run Tryz.prog w = .ok (420, v) w := by kernel_rfl
theorem C8 (w:World):(callFunc 396 #[.pointer (some ⟨6,161,none⟩)]).run Tryz.prog w= .ok (.value (.int .u8 22)) w:=by
 rw [@run_callFunc_extern Tryz.prog 396 _ (Extern.ReflectliteType.abiMethod fun t=>do pure (.int .u8 (<-Extern.Rtype.kind t))) Tryz.func396 (by kernel_rfl) (by kernel_rfl) (by kernel_rfl) (by kernel_rfl)]
 kernel_rfl
theorem C9 (w:World):(callFunc 396 #[.pointer (some ⟨6,159,none⟩)]).run Tryz.prog w= .ok (.value (.int .u8 22)) w:=by
 rw [@run_callFunc_extern Tryz.prog 396 _ (Extern.ReflectliteType.abiMethod fun t=>do pure (.int .u8 (<-Extern.Rtype.kind t))) Tryz.func396 (by kernel_rfl) (by kernel_rfl) (by kernel_rfl) (by kernel_rfl)]
 kernel_rfl
theorem C5 (w:World):(callFunc 422 #[.agg #[.pointer (some ⟨6,161,none⟩)]]).run Tryz.prog w= .ok (.value (rty 159)) w:=by
 rw [@run_callFunc_extern Tryz.prog 422 _ (Extern.ReflectliteType.method Extern.ReflectliteType.elem) Tryz.func422 (by kernel_rfl) (by kernel_rfl) (by kernel_rfl) (by kernel_rfl)]
 kernel_rfl
theorem C7 (w:World):(callFunc 423 #[.agg #[.pointer (some ⟨6,159,none⟩)],rty 97]).run Tryz.prog w= .ok (.value (.bool true)) w:=by
 rw [@run_callFunc_extern Tryz.prog 423 _ (Extern.ReflectliteType.relation "Implements" Extern.ReflectliteType.implements_) Tryz.func423 (by kernel_rfl) (by kernel_rfl) (by kernel_rfl) (by kernel_rfl)]
 kernel_rfl
theorem Cr (w:World):(callFunc 420 #[.agg #[.pointer (some ⟨6,344,none⟩)],rty 159]).run Tryz.prog w= .ok (.value (.bool false)) w:=by
 rw [@run_callFunc_extern Tryz.prog 420 _ (Extern.ReflectliteType.relation "AssignableTo" Extern.ReflectliteType.assignableTo) Tryz.func420 (by kernel_rfl) (by kernel_rfl) (by kernel_rfl) (by kernel_rfl)]
 kernel_rfl
theorem Cs (w:World):(callFunc 420 #[.agg #[.pointer (some ⟨6,159,none⟩)],rty 159]).run Tryz.prog w= .ok (.value (.bool true)) w:=by
 rw [@run_callFunc_extern Tryz.prog 420 _ (Extern.ReflectliteType.relation "AssignableTo" Extern.ReflectliteType.assignableTo) Tryz.func420 (by kernel_rfl) (by kernel_rfl) (by kernel_rfl) (by kernel_rfl)]
 kernel_rfl
theorem Cv (v:Value) (xT:TypeId) (w:World):(Instr.typeAssert (.iface 344 v) xT 273 true).run Tryz.prog w= .ok (.tuple #[.nilIface,.bool false]) w:=run_typeAssert_lacksB Tryz.underlying273 (by kernel_rfl) (by kernel_rfl) v xT w
open Extern.ReflectliteValue in
theorem Cz (b:Nat) (x:Addr) (w:World) (hc:w.cell? ⟨b,0,none⟩=some (.pointer (some x))):(callFunc 246 #[LV b]).run Tryz.prog w= .ok (.value (.bool false)) w:=by
 rw [@run_callFunc_extern Tryz.prog 246 _ (Extern.ReflectliteValue.method (valueError "reflectlite.Value.IsNil" 0) isNil) Tryz.func246 (by kernel_rfl) (by kernel_rfl) (by kernel_rfl) (by kernel_rfl)]
 have hp:(parts (LV b)).run Tryz.prog w= .ok (some (161,⟨b,0,none⟩,150)) w:=by kernel_rfl
 have ha:(isAgg 161).run Tryz.prog w= .ok false w:=by kernel_rfl
 have hl:(loadVar 161 ⟨b,0,none⟩).run Tryz.prog w= .ok (.pointer (some x)) w:=by simp [loadVar,ha,run_load,hc]
 show ((do match ← parts (LV b) with | none => valueError "reflectlite.Value.IsNil" 0 | some (t, a, fl) => isNil t a fl (fl % 32) : Sem Value).run Tryz.prog w).andThen _ = _
 simp [hp,isNil,hl]
open Extern.ReflectliteValue in
theorem Cy (b r:Nat) (w:World) (hc:w.cell? ⟨b,0,none⟩=some (.pointer (some ⟨r,0,none⟩))):(callFunc 302 #[LV b]).run Tryz.prog w= .ok (.value (GC r)) w:=by
 rw [@run_callFunc_extern Tryz.prog 302 _ (Extern.ReflectliteValue.method (valueError "reflectlite.Value.Elem" 0) elem) Tryz.func302 (by kernel_rfl) (by kernel_rfl) (by kernel_rfl) (by kernel_rfl)]
 have hp:(parts (LV b)).run Tryz.prog w= .ok (some (161,⟨b,0,none⟩,150)) w:=by kernel_rfl
 have ha:(isAgg 161).run Tryz.prog w= .ok false w:=by kernel_rfl
 have hl:(loadVar 161 ⟨b,0,none⟩).run Tryz.prog w= .ok (.pointer (some ⟨r,0,none⟩)) w:=by simp [loadVar,ha,run_load,hc]
 have he:(Extern.Rtype.elem? 161).run Tryz.prog w= .ok (some 159) w:=by kernel_rfl
 have hm:(mk 159 ⟨r,0,none⟩ flagAddr).run Tryz.prog w= .ok (GC r) w:=by kernel_rfl
 show ((do match ← parts (LV b) with | none => valueError "reflectlite.Value.Elem" 0 | some (t, a, fl) => elem t a fl (fl % 32) : Sem Value).run Tryz.prog w).andThen _ = _
 simp [hp,elem,hl,he,hm]
open Extern.ReflectliteValue in
theorem Cn (b r p:Nat) (w:World) (hc:w.cell? ⟨b,0,none⟩=some (.pointer (some ⟨p,0,none⟩))) (hr:w.cell? ⟨r,0,none⟩=some (.pointer none)) (hzr:w.frozen? ⟨r,0,none⟩=false):(callFunc 303 #[GC r,Fq b]).run Tryz.prog w= .ok (.value (.tuple #[])) (w.setCell ⟨r,0,none⟩ (.pointer (some ⟨p,0,none⟩))):=by
 rw [@run_callFunc_extern Tryz.prog 303 _ Extern.ReflectliteValue.set Tryz.func303 (by kernel_rfl) (by kernel_rfl) (by kernel_rfl) (by kernel_rfl)]
 have hp:(parts (GC r)).run Tryz.prog w= .ok (some (159,⟨r,0,none⟩,406)) w:=by kernel_rfl
 have hq:(parts (Fq b)).run Tryz.prog w= .ok (some (159,⟨b,0,none⟩,150)) w:=by kernel_rfl
 have ha:(isAgg 159).run Tryz.prog w= .ok false w:=by kernel_rfl
 have hl:(loadVar 159 ⟨b,0,none⟩).run Tryz.prog w= .ok (.pointer (some ⟨p,0,none⟩)) w:=by simp [loadVar,ha,run_load,hc]
 have hd:(Extern.Rtype.directlyAssignable 159 159).run Tryz.prog w= .ok true w:=by kernel_rfl
 have hs:(storeVar 159 ⟨r,0,none⟩ (.pointer (some ⟨p,0,none⟩))).run Tryz.prog w= .ok () (w.setCell ⟨r,0,none⟩ (.pointer (some ⟨p,0,none⟩))):=by
  have hz:(sizeOf 159).run Tryz.prog w= .ok 1 w:=by kernel_rfl
  simp [storeVar,hz,storeCells,Value.cells]
  show (store ⟨r,0,none⟩ (.pointer (some ⟨p,0,none⟩))).run Tryz.prog w=_
  rw [run_store _ _ _ _ _ rfl,hr]
  simp [hzr]
 have h0:(Extern.ReflectliteValue.set #[GC r,Fq b]).run Tryz.prog w= .ok (.tuple #[]) (w.setCell ⟨r,0,none⟩ (.pointer (some ⟨p,0,none⟩))):=by
  unfold Extern.ReflectliteValue.set
  show Sem.run Tryz.prog (parts (GC r) >>=_) w=_
  rw [Sem.run_bind,hp]
  simp only [Result.andThen_ok]
  show Sem.run Tryz.prog (parts (Fq b) >>=_) w=_
  rw [Sem.run_bind,hq]
  simp only [Result.andThen_ok]
  simp [hl,hd,hs,flagAddr]
 rw [h0];rfl
theorem CB (v:Value) (w:World):Calls Tryz.prog 181 #[.nilIface,v] w fun e w'=>e= .returned (.bool false)/\w'=w:=by
 go_enter Tryz.func181,Tryz.ntmps181
 go_wp2
 go_ret
 exact ⟨rfl,rfl⟩
abbrev asW (b:Nat) (w:World):World:=(w.alloc (.cells #[.pointer (some ⟨b,0,none⟩)] 161)).alloc (.cells #[.pointer (some ⟨6,161,none⟩),.pointer (some ⟨w.heap.size,0,none⟩),.int .u64 150] 204)
theorem JP (b:Nat) (w:World):(asW b w).cell? ⟨w.heap.size,0,none⟩=some (.pointer (some ⟨b,0,none⟩)):=by go_simp
theorem SQ (b:Nat) (w:World):Below w.heap.size w (asW b w):=((Below.refl _ _).alloc (Nat.le_refl _) _).alloc (by simp) _
theorem Cq (a:Addr) (b:Nat) (w:World) (hT:w.cell? ⟨5,0,none⟩=some (rty 97)):Calls Tryz.prog 181 #[XW a,tgt b] w fun e w'=>e= .returned (.bool false)/\Below w.heap.size w w':=by
 have h1:=CA
 have h2:=Dj
 have h3:=Dd
 have h4:=C8
 have h5:=C9
 have h6:=Db
 have h7:=C5
 have h8:=Dc
 have h9:=C7
 have h10:=Cz w.heap.size ⟨b,0,none⟩ (asW b w) (JP b w)
 have hT2:(asW b w).cell? ⟨5,0,none⟩=some (rty 97):=((SQ b w).cell (World.block_lt_of_cell? _ _ hT)).trans hT
 have t1:=tyE
 have t2:=Da
 have t3:=Cr
 have t4:=Cv
 have uE:=Rg
 have vE:=Sw
 go_enter Tryz.func181,Tryz.ntmps181
 go_wp2
 refine wp_loop_rounds 1 ?_
 rw [rounds_succ]
 go_wp2
 go_ret
 exact ⟨rfl,((SQ b w).alloc (by simp;omega) _)⟩
theorem Fz {n:Nat} {b:Nat} (h:Below n w W) (hn:n<=b):Below n w (W.setCell ⟨b,0,none⟩ v):=Below.setCell h hn v
abbrev asX (b:Nat) (w:World):World:=(asW b w).alloc (.cells #[.pointer (some ⟨6,161,none⟩),.pointer (some ⟨w.heap.size,0,none⟩),.int .u64 150] 204)
abbrev asY (b p:Nat) (w:World):World:=(asX b w).alloc (.cells #[.pointer (some ⟨p,0,none⟩)] 159)
theorem DU (b:Nat) (w:World):(asX b w).cell? ⟨w.heap.size,0,none⟩=some (.pointer (some ⟨b,0,none⟩)):=by go_simp
theorem DV (b:Nat) (w:World):(asX b w).heap.size=w.heap.size+1+1+1:=by simp
theorem DW (b p:Nat) (w:World):(asY b p w).cell? ⟨w.heap.size+1+1+1,0,none⟩=some (.pointer (some ⟨p,0,none⟩)):=by go_simp
theorem QX (b p:Nat) (w:World):Below w.heap.size w (asY b p w):=((SQ b w).alloc (by simp;omega) _).alloc (by simp;omega) _
theorem CC (b p:Nat) (w:World) (hT:w.cell? ⟨5,0,none⟩=some (rty 97)) (hb:w.cell? ⟨b,0,none⟩=some (.pointer none)) (hz:w.frozen? ⟨b,0,none⟩=false):Calls Tryz.prog 181 #[R1 p,tgt b] w fun e w'=>e= .returned (.bool true)/\w'.cell? ⟨b,0,none⟩=some (.pointer (some ⟨p,0,none⟩))/\ ∀ n,n<=b->n<=w.heap.size->Below n w w':=by
 have h1:=CA
 have h2:=Dj
 have h3:=Dd
 have h4:=C8
 have h5:=C9
 have h6:=Db
 have h7:=C5
 have h8:=Dc
 have h9:=C7
 have h10:=Cz w.heap.size ⟨b,0,none⟩ (asW b w) (JP b w)
 have hT2:(asW b w).cell? ⟨5,0,none⟩=some (rty 97):=((SQ b w).cell (World.block_lt_of_cell? _ _ hT)).trans hT
 have t1:=tyR
 have t2:=Da
 have t3:=Cs
 have k1:=Cm p (asX b w)
 rw [DV] at k1
 have k2:=Cy w.heap.size b (asX b w) (DU b w)
 have hlt:=World.block_lt_of_cell? _ _ hb
 have hb2:(asY b p w).cell? ⟨b,0,none⟩=some (.pointer none):=((QX b p w).cell hlt).trans hb
 have hz2:(asY b p w).frozen? ⟨b,0,none⟩=false:=((QX b p w).frozen hlt).trans hz
 have k3:=Cn (w.heap.size+1+1+1) b p (asY b p w) (DW b p w) hb2 hz2
 go_enter Tryz.func181,Tryz.ntmps181
 go_wp2
 refine wp_loop_rounds 1 ?_
 rw [rounds_succ]
 go_wp2
 go_ret
 exact ⟨rfl,World.cell?_setCell_same _ _ _ hb2,fun n hn hnw=>Fz ((QX b p w).mono hnw) hn⟩
abbrev Z6:=Int × Int
abbrev Z2:=Int × List Z6
def Z7 (ps:List Z6) (k:Nat):Z6:=ps.getD k (0,0)
def ZW (rs:List Z2) (k:Nat):Z2:=rs.getD k (0,[])
def IsPaces (w:World) (v:Value) (ps:List Z6):Prop:=
 ∃ (a:Option Addr) (cap:Nat),v= .slice a ps.length cap/\ps.length<=cap/\cap<=9223372036854775807/\(ps=[]\/ ∃ b off,a=some ⟨b,off,none⟩/\b<w.heap.size/\
  ∀ k,k<ps.length->w.cell? ⟨b,off+k*2,none⟩=some (.int .i64 (Z7 ps k).1)/\w.cell? ⟨b,off+k*2+1,none⟩=some (.int .i64 (Z7 ps k).2))
def IsRooms (w:World) (v:Value) (rs:List Z2):Prop:=
 ∃ (a:Option Addr) (cap:Nat),v= .slice a rs.length cap/\rs.length<=cap/\cap<=9223372036854775807/\(rs=[]\/ ∃ b off,a=some ⟨b,off,none⟩/\b<w.heap.size/\
  ∀ k,k<rs.length->w.cell? ⟨b,off+k*2,none⟩=some (.int .i64 (ZW rs k).1)/\ ∃ pv,w.cell? ⟨b,off+k*2+1,none⟩=some pv/\IsPaces w pv (ZW rs k).2)
theorem IsPaces.below  {ps:List Z6} (h:IsPaces w v ps) (hb:Below w.heap.size w w'):IsPaces w' v ps:=by
 obtain ⟨a,cap,rfl,hc,hm,hr⟩:=h
 refine ⟨a,cap,rfl,hc,hm,?_⟩
 rcases hr with hr | ⟨b,off,rfl,hlt,hcl⟩
 ·exact .inl hr
 ·refine .inr ⟨b,off,rfl,Nat.lt_of_lt_of_le hlt hb.size,fun k hk=> ?_⟩
  obtain ⟨h1,h2⟩:=hcl k hk
  exact ⟨by rw [hb.cell (p:=⟨b,off+k*2,none⟩) hlt];exact h1,by rw [hb.cell (p:=⟨b,off+k*2+1,none⟩) hlt];exact h2⟩
theorem IsRooms.below  {rs:List Z2} (h:IsRooms w v rs) (hb:Below w.heap.size w w'):IsRooms w' v rs:=by
 obtain ⟨a,cap,rfl,hc,hm,hr⟩:=h
 refine ⟨a,cap,rfl,hc,hm,?_⟩
 rcases hr with hr | ⟨b,off,rfl,hlt,hcl⟩
 ·exact .inl hr
 ·refine .inr ⟨b,off,rfl,Nat.lt_of_lt_of_le hlt hb.size,fun k hk=> ?_⟩
  obtain ⟨h1,pv,h2,h3⟩:=hcl k hk
  exact ⟨by rw [hb.cell (p:=⟨b,off+k*2,none⟩) hlt];exact h1,pv,by rw [hb.cell (p:=⟨b,off+k*2+1,none⟩) hlt];exact h2,h3.below hb⟩
def Vb (p:Z6):Bool:=inB p.1 1 1024 && inB p.2 1 1024
def Sk (p q:Z6):Bool:=decide (q.1<p.1) && decide (q.2<p.2)
def XB (ps:List Z6) (k:Nat):Bool:=Vb (Z7 ps k) && (k ==0 || Sk (Z7 ps k) (Z7 ps (k-1)))
def Um (ps:List Z6):Bool:=(List.range ps.length).all (XB ps)
def Zu (r:Z2):Bool:=inB r.1 1 4 && (inB r.2.length 1 4 && Um r.2)
def ZY (rs:List Z2):Int:=(rs.map (·.1)).sum
def Ze (rs:List Z2):Bool:=inB rs.length 1 3 && (rs.all Zu && decide (ZY rs<=8))
theorem Lh {ps:List Z6} (h:∀ j,j<ps.length->XB ps j=true):Um ps=true:=by
 unfold Um;rw [List.all_eq_true];intro j hj;exact h j (List.mem_range.1 hj)
theorem UL {ps:List Z6} {j:Nat} (hj:j<ps.length) (h:XB ps j=false):Um ps=false:=by
 unfold Um;rw [List.all_eq_false];exact ⟨j,List.mem_range.2 hj,by simp [h]⟩
theorem Nq {ps:List Z6} (h:Um ps=true) {j:Nat} (hj:j<ps.length):XB ps j=true:=by
 unfold Um at h;rw [List.all_eq_true] at h;exact h j (List.mem_range.2 hj)
theorem Po {rs:List Z2} {k:Nat} (h:k<rs.length):ZW rs k ∈ rs:=by
 unfold ZW;simp [List.getD,h]
theorem Om {rs:List Z2} (h:∀ j,j<rs.length->Zu (ZW rs j)=true):rs.all Zu=true:=by
 rw [List.all_eq_true];intro r hr
 obtain ⟨j,hj,rfl⟩:=List.getElem_of_mem hr
 have:=h j hj
 unfold ZW at this;simpa [List.getD,hj] using this
theorem Ol {rs:List Z2} {j:Nat} (hj:j<rs.length) (h:Zu (ZW rs j)=false):rs.all Zu=false:=by
 rw [List.all_eq_false];exact ⟨_,Po hj,by simp [h]⟩
theorem Ql {rs:List Z2} (h:rs.all Zu=true) {j:Nat} (hj:j<rs.length):Zu (ZW rs j)=true:=by
 rw [List.all_eq_true] at h;exact h _ (Po hj)
theorem ML {r:Z2} (h:Zu r=true):1<=r.1/\r.1<=4/\1<=r.2.length/\r.2.length<=4:=by
 unfold Zu at h;simp only [Bool.and_eq_true] at h
 have h1:=ZR h.1;have h2:=ZR h.2.1
 omega
theorem Ye (rs:List Z2) {k:Nat} (h:k<rs.length):ZY (rs.take (k+1))=ZY (rs.take k)+(ZW rs k).1:=by
 unfold ZY ZW
 rw [List.take_succ_eq_append_getElem h,List.map_append,List.sum_append];simp [List.getD,h]
theorem Te {rs:List Z2} (h:rs.all Zu=true):∀ k,k<=rs.length->(k:Int)<=ZY (rs.take k)/\ZY (rs.take k)<=4*k
 | 0,_=>by simp [ZY]
 | k+1,hk=>by
  have ih:=Te h k (by omega)
  have hb:=ML (Ql h (j:=k) (by omega))
  rw [Ye rs (by omega)];omega
theorem TZ (rs:List Z2):ZY (rs.take rs.length)=ZY rs:=by rw [List.take_length]
theorem Zi {rs:List Z2} (h:Ze rs=true):1<=rs.length/\rs.length<=3/\rs.all Zu=true/\ZY rs<=8:=by
 unfold Ze at h;simp only [Bool.and_eq_true,decide_eq_true_eq] at h
 have h1:=ZR h.1
 exact ⟨by omega,by omega,h.2.1,h.2.2⟩
open Go.ChangeShapes Go.WideShapes Go.ChangeAt Go.RowKit Go.Sort
theorem MZ {B:Nat} (hb:Below B W w1):(∀ b o,b<B->w1.cell? ⟨b,o,none⟩=W.cell? ⟨b,o,none⟩)/\(∀ b o,b<B->w1.frozen? ⟨b,o,none⟩=W.frozen? ⟨b,o,none⟩):=
 ⟨fun b o h=>hb.cell (p:=⟨b,o,none⟩) h,fun b o h=>hb.frozen (p:=⟨b,o,none⟩) h⟩
theorem ZD (lo n hi:Int) (w:World):Calls Tryz.prog 234 #[.int .i64 lo,.int .i64 n,.int .i64 hi] w fun e w'=>e= .returned (.bool (inB n lo hi))/\w'=w:=by
 by_cases h1:lo<=n
 ·by_cases h2:n<=hi
  all_goals
   go_enter Tryz.func234,Tryz.ntmps234
   go_wp2
   go_ret
   exact ⟨Z5 (by unfold inB;simp [h1,h2]),rfl⟩
 ·go_enter Tryz.func234,Tryz.ntmps234
  go_wp2
  go_ret
  exact ⟨Z5 (by unfold inB;simp;omega),rfl⟩
theorem Ys {P:Nat->Prop} {k:Nat} (h:∀ j,j<k->P j) (hk:P k):∀ j,j<k+1->P j:=fun j hj=>by
 by_cases e:j<k
 ·exact h j e
 ·obtain rfl:j=k:=by omega
  exact hk
structure But (bc:Nat) (w w':World):Prop where
 os:w'.os=w.os
 tape:w'.tape=w.tape
 output:w'.output=w.output
 size:w.heap.size<=w'.heap.size
 block:∀ k,k<w.heap.size->k ≠ bc->w'.heap[k]?=w.heap[k]?
theorem But.refl (bc:Nat) (w:World):But bc w w:=⟨rfl,rfl,rfl,Nat.le_refl _,fun _ _ _=>rfl⟩
theorem But.trans {bc:Nat} {a b c:World} (h:But bc a b) (k:But bc b c):But bc a c:=
 ⟨k.os.trans h.os,k.tape.trans h.tape,k.output.trans h.output,Nat.le_trans h.size k.size,fun i hi hn=>(k.block i (Nat.lt_of_lt_of_le hi h.size) hn).trans (h.block i hi hn)⟩
theorem But.below {bc B:Nat} {a w:World} (h:But bc a w) (hB:B<=bc) (hs:B<=a.heap.size):Below B a w:=
 ⟨h.os,h.tape,h.output,h.size,fun k hk=>h.block k (Nat.lt_of_lt_of_le hk hs) (by omega)⟩
theorem But.later {bc:Nat} {a b c:World} (h:But bc a b) (k:Below b.heap.size b c):But bc a c:=
 h.trans ⟨k.os,k.tape,k.output,k.size,fun i hi _=>k.block i hi⟩
theorem But.within {bc:Nat} {a b c:World} (h:But bc a b) (k:Below a.heap.size b c):But bc a c:=
 ⟨k.os.trans h.os,k.tape.trans h.tape,k.output.trans h.output,Nat.le_trans h.size k.size,fun i hi hn=>(k.block i hi).trans (h.block i hi hn)⟩
theorem But.setCell {bc:Nat} {a w:World} (h:But bc a w) (o:Nat) (v:Value):But bc a (w.setCell ⟨bc,o,none⟩ v):=
 h.trans ⟨rfl,rfl,rfl,by simp,fun k hk hn=>Below.heap_setCell w ⟨bc,o,none⟩ v k hn⟩
theorem But.cell {bc:Nat} (h:But bc w w') {p:Addr} (hp:p.block<w.heap.size) (hn:p.block ≠ bc):w'.cell? p=w.cell? p:=
 World.cell?_of_block (w:=w) (h.block p.block hp hn)
theorem X8 {B t size n:Nat} {xs:List Value} (h:w.ownsRow B t size v n xs) (hs:∀ k,v.ownBlock=some k->w'.heap[k]?=w.heap[k]?):w'.ownsRow B t size v n xs:=by
 refine ⟨h.1,?_⟩
 rcases h.2 with hz | ⟨g,cap,cur,rfl,hb,hg,r⟩
 ·exact .inl hz
 ·exact .inr ⟨g,cap,cur,rfl,hb,(hs g rfl).trans hg,r⟩
theorem UK {B B' t size n:Nat} {xs:List Value} (h:w.ownsRow B t size v n xs) (hb:B'<=B):w.ownsRow B' t size v n xs:=by
 refine ⟨h.1,?_⟩
 rcases h.2 with hz | ⟨g,cap,cur,rfl,hb',r⟩
 ·exact .inl hz
 ·exact .inr ⟨g,cap,cur,rfl,by omega,r⟩
def Zq (ps:List Z6):List Value:=ps.flatMap fun p=>[.int .i64 p.1,.int .i64 p.2]
def TG (qs:List (Z2 × Value)):List Value:=qs.flatMap fun q=>[.int .i64 q.1.1,q.2]
theorem Nr {α:Type} {f g:α->Value} : ∀ l:List α,(l.flatMap fun p=>[f p,g p]).length=l.length*2
 | []=>rfl
 | p::l=>by rw [List.flatMap_cons,List.length_append,Nr l];simp;omega
theorem VM {α:Type} {f g:α->Value} : ∀ (l:List α) (k:Nat) (h:k<l.length),(l.flatMap fun p=>[f p,g p])[k*2]?=some (f l[k])/\(l.flatMap fun p=>[f p,g p])[k*2+1]?=some (g l[k])
 | p::l,0,_=>by simp
 | p::l,k+1,h=>by
  have ih:=VM (f:=f) (g:=g) l k (by simpa using h)
  rw [List.flatMap_cons,show (k+1)*2=k*2+2 by omega,show k*2+2+1=(k*2+1)+2 by omega]
  simpa using ih
theorem Tn {a b c:World} {row:Option Nat} (h:a.grownBy b row) (k:b.grownBy c row):a.grownBy c row:=
 ⟨k.os.trans h.os,k.tape.trans h.tape,k.output.trans h.output,Nat.le_trans h.size k.size,fun i hi hn=>(k.block i (Nat.lt_of_lt_of_le hi h.size) hn).trans (h.block i hi hn)⟩
theorem K8 {B g n cap t:Nat} {xs:List Value} (h:w.ownsRow B t 2 (.slice (some ⟨g,0,none⟩) n cap) n xs) (j:Nat) (u u':Value) :
  ((w.setCell ⟨g,j,none⟩ u).setCell ⟨g,j+1,none⟩ u').ownsRow B t 2 (.slice (some ⟨g,0,none⟩) n cap) n ((xs.set j u).set (j+1) u')/\w.grownBy ((w.setCell ⟨g,j,none⟩ u).setCell ⟨g,j+1,none⟩ u') (some g):=by
 have h1:=World.ownsRow.stored h j u
 have h2:=World.ownsRow.stored h1.1 (j+1) u'
 exact ⟨h2.1,Tn h1.2 h2.2⟩
theorem CW (f c:Int):∀ (ps:List Z6) (j:Nat),j<ps.length->((Zq ps).set (j*2) (.int .i64 f)).set (j*2+1) (.int .i64 c)=Zq (ps.set j (f,c))
 | p::ps,0,_=>by simp [Zq]
 | p::ps,j+1,h=>by
  have ih:=CW f c ps j (by simpa using h)
  unfold Zq at ih ⊢
  rw [List.flatMap_cons,show (j+1)*2=j*2+2 by omega,show j*2+2+1=(j*2+1)+2 by omega]
  simpa using ih
theorem So (w:World) (r:Option Nat):w.grownBy w r:=⟨rfl,rfl,rfl,Nat.le_refl _,fun _ _ _=>rfl⟩
theorem Uc {b o:Nat} (h:w.heap.size<=b):w.frozen? ⟨b,o,none⟩=false:=by
 unfold World.frozen?
 rw [Array.getElem?_eq_none h]
set_option maxRecDepth 100000
structure Errs (w:World) (q:Int->Addr):Prop where
 c1:w.cell? ⟨4,0,none⟩=some (XW (q 1))
 c2:w.cell? ⟨1,0,none⟩=some (XW (q 2))
 c3:w.cell? ⟨0,0,none⟩=some (XW (q 3))
 c4:w.cell? ⟨3,0,none⟩=some (XW (q 4))
 c5:w.cell? ⟨2,0,none⟩=some (XW (q 5))
 ct:w.cell? ⟨5,0,none⟩=some (rty 97)
 b1:∃ c t,w.heap[(q 1).block]?=some (.cells c t (0,0))
 b2:∃ c t,w.heap[(q 2).block]?=some (.cells c t (0,0))
 b3:∃ c t,w.heap[(q 3).block]?=some (.cells c t (0,0))
 b4:∃ c t,w.heap[(q 4).block]?=some (.cells c t (0,0))
 b5:∃ c t,w.heap[(q 5).block]?=some (.cells c t (0,0))
 n12:q 1 ≠ q 2
 n13:q 1 ≠ q 3
 n14:q 1 ≠ q 4
 n15:q 1 ≠ q 5
 n23:q 2 ≠ q 3
 n24:q 2 ≠ q 4
 n25:q 2 ≠ q 5
 n34:q 3 ≠ q 4
 n35:q 3 ≠ q 5
 n45:q 4 ≠ q 5
theorem Uy {k:Nat} (h:∃ c t,w.heap[k]?=some (.cells c t (0,0))) (hb:Below w.heap.size w w'):∃ c t,w'.heap[k]?=some (.cells c t (0,0)):=by
 obtain ⟨c,t,e⟩:=h
 exact ⟨c,t,(hb.block k (Array.getElem?_eq_some_iff.1 e).1).trans e⟩
theorem Errs.below {q:Int->Addr} (h:Errs w q) (hb:Below w.heap.size w w'):Errs w' q:=
 ⟨(hb.cell (World.block_lt_of_cell? _ _ h.c1)).trans h.c1,(hb.cell (World.block_lt_of_cell? _ _ h.c2)).trans h.c2,(hb.cell (World.block_lt_of_cell? _ _ h.c3)).trans h.c3,(hb.cell (World.block_lt_of_cell? _ _ h.c4)).trans h.c4,(hb.cell (World.block_lt_of_cell? _ _ h.c5)).trans h.c5,(hb.cell (World.block_lt_of_cell? _ _ h.ct)).trans h.ct,Uy h.b1 hb,Uy h.b2 hb,Uy h.b3 hb,Uy h.b4 hb,Uy h.b5 hb,h.n12,h.n13,h.n14,h.n15,h.n23,h.n24,h.n25,h.n34,h.n35,h.n45⟩
theorem Iu (w:World):Calls Tryz.prog 182 #[.nilIface] w fun e w'=>e= .returned (.int .i64 0)/\w'=w:=by
 go_enter Tryz.func182,Tryz.ntmps182
 go_wp2_with fail
 go_ret
 exact ⟨rfl,rfl⟩
theorem Mn (p:Nat) {q:Int->Addr} (h:Errs w q) (hp:w.cell? ⟨p,6,none⟩=some (XW (q 1))):Calls Tryz.prog 182 #[R1 p] w fun e w'=>e= .returned (.int .i64 1)/\w'=w:=by
 have HE:=Z9 h
 have Hp:=Z9 hp
 clear hp
 obtain ⟨x1,x2,x3,x4,x5,_⟩:=h
 go_enter Tryz.func182,Tryz.ntmps182
 go_wp2_with fail
 refine (VQ p (q 1) _ (uh Hp)).mono ?_
 rintro e w' ⟨rfl,h9⟩
 subst w'
 go_wp2_with fail
 go_ret
 exact ⟨rfl,rfl⟩
theorem Mo (p:Nat) {q:Int->Addr} (h:Errs w q) (hp:w.cell? ⟨p,6,none⟩=some (XW (q 2))):Calls Tryz.prog 182 #[R1 p] w fun e w'=>e= .returned (.int .i64 2)/\w'=w:=by
 have HE:=Z9 h
 have Hp:=Z9 hp
 clear hp
 obtain ⟨x1,x2,x3,x4,x5,_⟩:=h
 go_enter Tryz.func182,Tryz.ntmps182
 go_wp2_with fail
 obtain ⟨ca,ta,ha⟩:=(uh HE).b2
 obtain ⟨cb,tb,hb⟩:=(uh HE).b1
 refine (Y1 p _ (uh Hp) ((uh HE).n12.symm) ha hb).mono ?_
 clear ha hb
 rintro e w' ⟨rfl,h9⟩
 subst w'
 go_wp2_with fail
 refine (VQ p (q 2) _ (uh Hp)).mono ?_
 rintro e w' ⟨rfl,h9⟩
 subst w'
 go_wp2_with fail
 go_ret
 exact ⟨rfl,rfl⟩
theorem Mp (p:Nat) {q:Int->Addr} (h:Errs w q) (hp:w.cell? ⟨p,6,none⟩=some (XW (q 3))):Calls Tryz.prog 182 #[R1 p] w fun e w'=>e= .returned (.int .i64 3)/\w'=w:=by
 have HE:=Z9 h
 have Hp:=Z9 hp
 clear hp
 obtain ⟨x1,x2,x3,x4,x5,_⟩:=h
 go_enter Tryz.func182,Tryz.ntmps182
 go_wp2_with fail
 obtain ⟨ca,ta,ha⟩:=(uh HE).b3
 obtain ⟨cb,tb,hb⟩:=(uh HE).b1
 refine (Y1 p _ (uh Hp) ((uh HE).n13.symm) ha hb).mono ?_
 clear ha hb
 rintro e w' ⟨rfl,h9⟩
 subst w'
 go_wp2_with fail
 obtain ⟨ca,ta,ha⟩:=(uh HE).b3
 obtain ⟨cb,tb,hb⟩:=(uh HE).b2
 refine (Y1 p _ (uh Hp) ((uh HE).n23.symm) ha hb).mono ?_
 clear ha hb
 rintro e w' ⟨rfl,h9⟩
 subst w'
 go_wp2_with fail
 obtain ⟨ca,ta,ha⟩:=(uh HE).b3
 obtain ⟨cb,tb,hb⟩:=(uh HE).b4
 refine (Y1 p _ (uh Hp) ((uh HE).n34) ha hb).mono ?_
 clear ha hb
 rintro e w' ⟨rfl,h9⟩
 subst w'
 go_wp2_with fail
 obtain ⟨ca,ta,ha⟩:=(uh HE).b3
 obtain ⟨cb,tb,hb⟩:=(uh HE).b5
 refine (Y1 p _ (uh Hp) ((uh HE).n35) ha hb).mono ?_
 clear ha hb
 rintro e w' ⟨rfl,h9⟩
 subst w'
 go_wp2_with fail
 go_ret
 exact ⟨rfl,rfl⟩
theorem Mq (p:Nat) {q:Int->Addr} (h:Errs w q) (hp:w.cell? ⟨p,6,none⟩=some (XW (q 4))):Calls Tryz.prog 182 #[R1 p] w fun e w'=>e= .returned (.int .i64 4)/\w'=w:=by
 have HE:=Z9 h
 have Hp:=Z9 hp
 clear hp
 obtain ⟨x1,x2,x3,x4,x5,_⟩:=h
 go_enter Tryz.func182,Tryz.ntmps182
 go_wp2_with fail
 obtain ⟨ca,ta,ha⟩:=(uh HE).b4
 obtain ⟨cb,tb,hb⟩:=(uh HE).b1
 refine (Y1 p _ (uh Hp) ((uh HE).n14.symm) ha hb).mono ?_
 clear ha hb
 rintro e w' ⟨rfl,h9⟩
 subst w'
 go_wp2_with fail
 obtain ⟨ca,ta,ha⟩:=(uh HE).b4
 obtain ⟨cb,tb,hb⟩:=(uh HE).b2
 refine (Y1 p _ (uh Hp) ((uh HE).n24.symm) ha hb).mono ?_
 clear ha hb
 rintro e w' ⟨rfl,h9⟩
 subst w'
 go_wp2_with fail
 refine (VQ p (q 4) _ (uh Hp)).mono ?_
 rintro e w' ⟨rfl,h9⟩
 subst w'
 go_wp2_with fail
 go_ret
 exact ⟨rfl,rfl⟩
theorem Mr (p:Nat) {q:Int->Addr} (h:Errs w q) (hp:w.cell? ⟨p,6,none⟩=some (XW (q 5))):Calls Tryz.prog 182 #[R1 p] w fun e w'=>e= .returned (.int .i64 5)/\w'=w:=by
 have HE:=Z9 h
 have Hp:=Z9 hp
 clear hp
 obtain ⟨x1,x2,x3,x4,x5,_⟩:=h
 go_enter Tryz.func182,Tryz.ntmps182
 go_wp2_with fail
 obtain ⟨ca,ta,ha⟩:=(uh HE).b5
 obtain ⟨cb,tb,hb⟩:=(uh HE).b1
 refine (Y1 p _ (uh Hp) ((uh HE).n15.symm) ha hb).mono ?_
 clear ha hb
 rintro e w' ⟨rfl,h9⟩
 subst w'
 go_wp2_with fail
 obtain ⟨ca,ta,ha⟩:=(uh HE).b5
 obtain ⟨cb,tb,hb⟩:=(uh HE).b2
 refine (Y1 p _ (uh Hp) ((uh HE).n25.symm) ha hb).mono ?_
 clear ha hb
 rintro e w' ⟨rfl,h9⟩
 subst w'
 go_wp2_with fail
 obtain ⟨ca,ta,ha⟩:=(uh HE).b5
 obtain ⟨cb,tb,hb⟩:=(uh HE).b4
 refine (Y1 p _ (uh Hp) ((uh HE).n45.symm) ha hb).mono ?_
 clear ha hb
 rintro e w' ⟨rfl,h9⟩
 subst w'
 go_wp2_with fail
 refine (VQ p (q 5) _ (uh Hp)).mono ?_
 rintro e w' ⟨rfl,h9⟩
 subst w'
 go_wp2_with fail
 go_ret
 exact ⟨rfl,rfl⟩
theorem J3 {q:Int->Addr} (h:Errs w q):Calls Tryz.prog 182 #[XW (q 3)] w fun e w'=>e= .returned (.int .i64 3)/\w'=w:=by
 have HE:=Z9 h
 obtain ⟨x1,x2,x3,x4,x5,_⟩:=h
 go_enter Tryz.func182,Tryz.ntmps182
 go_wp2_with fail
 obtain ⟨ca,ta,ha⟩:=(uh HE).b3
 obtain ⟨cb,tb,hb⟩:=(uh HE).b1
 refine (RO _ ((uh HE).n13.symm) ha hb).mono ?_
 clear ha hb
 rintro e w' ⟨rfl,h9⟩
 subst w'
 go_wp2_with fail
 obtain ⟨ca,ta,ha⟩:=(uh HE).b3
 obtain ⟨cb,tb,hb⟩:=(uh HE).b2
 refine (RO _ ((uh HE).n23.symm) ha hb).mono ?_
 clear ha hb
 rintro e w' ⟨rfl,h9⟩
 subst w'
 go_wp2_with fail
 obtain ⟨ca,ta,ha⟩:=(uh HE).b3
 obtain ⟨cb,tb,hb⟩:=(uh HE).b4
 refine (RO _ ((uh HE).n34) ha hb).mono ?_
 clear ha hb
 rintro e w' ⟨rfl,h9⟩
 subst w'
 go_wp2_with fail
 obtain ⟨ca,ta,ha⟩:=(uh HE).b3
 obtain ⟨cb,tb,hb⟩:=(uh HE).b5
 refine (RO _ ((uh HE).n35) ha hb).mono ?_
 clear ha hb
 rintro e w' ⟨rfl,h9⟩
 subst w'
 go_wp2_with fail
 go_ret
 exact ⟨rfl,rfl⟩
theorem J4 {c:Int} (hc:c=1\/c=2\/c=3\/c=4\/c=5) (p:Nat) {q:Int->Addr} (h:Errs w q) (hp:w.cell? ⟨p,6,none⟩=some (XW (q c))):Calls Tryz.prog 182 #[R1 p] w fun e w'=>e= .returned (.int .i64 c)/\w'=w:=by
 rcases hc with rfl | rfl | rfl | rfl | rfl
 ·exact Mn p h hp
 ·exact Mo p h hp
 ·exact Mp p h hp
 ·exact Mq p h hp
 ·exact Mr p h hp
end Go.Proofs.YtjhijildaceadaaGreatDoor
