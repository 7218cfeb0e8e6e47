/- Part 21 of what the proof rests on. No condition but those that a theorem names. -/
import Derived.Test.YtffcgajndmhpkaaGreatDoorXw20
import Derived.LaidEql
import Derived.Stop.Asserts
import Derived.RowKitTokens
import Derived.Shelf.RegionOpen
set_option maxHeartbeats 8000000
set_option maxRecDepth 100000
namespace Go.Proofs.YtffcgajndmhpkaaGreatDoor
open Go.ChangeShapes Go.WideShapes Go.ChangeAt Go.RowKit Go.Sort
set_option linter.unusedVariables false
def Xl (m:Z4) (room pace:Int):Int:=if Yu m room then (if inB pace 0 (((Z0 m.rooms room.toNat).2.length:Int)-1) then 0 else 3) else 1
def Xb (m:Z4) (room pace:Int):Z4:=Xq m room.toNat pace
theorem De (m:Z4) (room pace:Int):Yf m room pace=PQ m (Xb m room pace) (Xl m room pace):=by
 cases h:ZP m
 ·rw [Jk h];unfold Yf;rw [h];rfl
 unfold Yf Xl Xb
 rw [h]
 simp only [if_true]
 cases hr:Yu m room
 ·rw [if_neg (by simp),if_neg (by simp),Lx h _ (by omega)]
 rw [if_pos rfl,if_pos rfl]
 cases hp:inB pace 0 (((Z0 m.rooms room.toNat).2.length:Int)-1)
 ·rw [if_neg (by simp),if_neg (by simp),Lx h _ (by omega)]
 rw [if_pos rfl,if_pos rfl,Jl h]
 obtain ⟨k,rfl,hk⟩:=VG hr
 rw [show ((k:Int)).toNat=k by simp] at hp ⊢
 have:=ZU hp
 rw [MR (Qw (ZY h) hk (by omega) (by omega))]
open Go.ChangeShapes Go.WideShapes Go.ChangeAt Go.RowKit
set_option linter.unusedSimpArgs false
abbrev Xv (a:Addr):Value:= .iface 320 (.pointer (some a))
abbrev QJ (b:Nat):Value:= .iface 122 (.pointer (some ⟨b,0,none⟩))
abbrev rty (t:Nat):Value:= .iface 222 (.agg #[.pointer (some ⟨6,t,none⟩)])
theorem tyE (v:Value) (w:World):(callFunc 199 #[.iface 320 v]).run Tryz.prog w= .ok (.value (rty 320)) w:=by
 rw [@run_callFunc_extern Tryz.prog 199 _ Extern.ReflectliteType.typeOf Tryz.func199 (by kernel_rfl) (by kernel_rfl) (by kernel_rfl) (by kernel_rfl)]
 kernel_rfl
theorem tyR (v:Value) (w:World):(callFunc 199 #[.iface 122 v]).run Tryz.prog w= .ok (.value (rty 122)) w:=by
 rw [@run_callFunc_extern Tryz.prog 199 _ Extern.ReflectliteType.typeOf Tryz.func199 (by kernel_rfl) (by kernel_rfl) (by kernel_rfl) (by kernel_rfl)]
 kernel_rfl
theorem BF (v : Value) (w : World) : (method 464 222 v "Comparable").run Tryz.prog w = .ok (361, v) w := by kernel_rfl
theorem Bu (w:World):(callFunc 361 #[.agg #[.pointer (some ⟨6,320,none⟩)]]).run Tryz.prog w= .ok (.value (.bool true)) w:=by
 rw [@run_callFunc_extern Tryz.prog 361 _ (Extern.ReflectliteType.method fun t => do Extern.Rtype.noPackHeld "Comparable" t; pure (.bool (← typeInfo t).comparable)) Tryz.func361 (by kernel_rfl) (by kernel_rfl) (by kernel_rfl) (by kernel_rfl)]
 kernel_rfl
theorem GO:(Tryz.prog.info? 320).map (·.comparable)=some true:=by kernel_rfl
theorem GP:(Tryz.prog.info? 351).map (·.size)=some 1:=by kernel_rfl
theorem Cf (v:Value) (xT:TypeId) (w:World):(Instr.typeAssert (.iface 320 v) xT 265 true).run Tryz.prog w= .ok (.tuple #[.nilIface,.bool false]) w:=run_typeAssert_lacksB Tryz.underlying265 (by kernel_rfl) (by kernel_rfl) v xT w
theorem QB (v:Value) (xT:TypeId) (w:World):(Instr.typeAssert (.iface 320 v) xT 230 true).run Tryz.prog w= .ok (.tuple #[.nilIface,.bool false]) w:=run_typeAssert_lacksB Tryz.underlying230 (by kernel_rfl) (by kernel_rfl) v xT w
theorem RU (v:Value) (xT:TypeId) (w:World):(Instr.typeAssert (.iface 320 v) xT 232 true).run Tryz.prog w= .ok (.tuple #[.nilIface,.bool false]) w:=run_typeAssert_lacksB Tryz.underlying232 (by kernel_rfl) (by kernel_rfl) v xT w
theorem Cg (v:Value) (xT:TypeId) (w:World):(Instr.typeAssert (.iface 122 v) xT 265 true).run Tryz.prog w= .ok (.tuple #[.nilIface,.bool false]) w:=run_typeAssert_lacksB Tryz.underlying265 (by kernel_rfl) (by kernel_rfl) v xT w
theorem N8 (v:Value) (xT:TypeId) (w:World):(Instr.typeAssert (.iface 122 v) xT 230 true).run Tryz.prog w= .ok (.tuple #[.iface 122 v,.bool true]) w:=run_typeAssert_hasB Tryz.underlying230 (by kernel_rfl) v xT w
theorem F7 (v : Value) (w : World) : (method 464 122 v "Unwrap").run Tryz.prog w = .ok (343, v) w := by kernel_rfl
theorem Rg {a b:Addr} {ca cb:Array Value} {ta tb:TypeId} (w:World) (hne:a ≠ b) (ha:w.heap[a.block]?=some (.cells ca ta (0,0))) (hb:w.heap[b.block]?=some (.cells cb tb (0,0))):Calls Tryz.prog 146 #[Xv a,Xv b] w fun e w'=>e= .returned (.bool false)/\w'=w:=by
 obtain ⟨i,hi,hcmp⟩:=Option.map_eq_some_iff.1 GO
 obtain ⟨j,hj,hjs⟩:=Option.map_eq_some_iff.1 GP
 have tT:=tyE
 have cT:=Bu
 have mR:=BF
 have nE:=Cf
 have uE:=QB
 have vE:=RU
 have heq:=run_eql_iface_ptr_other (P:=Tryz.prog) w Tryz.underlying74 Tryz.underlying320 hi hcmp hj (by rw [hjs];decide) hne ha hb
 go_enter Tryz.func146,Tryz.ntmps146
 go_wp2
 refine wp_loop_rounds 1 ?_
 rw [rounds_succ]
 go_wp2
 go_ret
 exact ⟨rfl,rfl⟩
theorem VB (pb:Nat) (b:Addr) (w:World) (h1:w.cell? ⟨pb,6,none⟩=some (Xv b)):Calls Tryz.prog 146 #[QJ pb,Xv b] w fun e w'=>e= .returned (.bool true)/\w'=w:=by
 obtain ⟨i,hi,hcmp⟩:=Option.map_eq_some_iff.1 GO
 obtain ⟨j,hj,hjs⟩:=Option.map_eq_some_iff.1 GP
 have tT:=tyE
 have cT:=Bu
 have mR:=BF
 have nW:=Cg
 have uW:=N8
 have mU:=F7
 have heq:=run_eql_iface_ptr_same (P:=Tryz.prog) w b Tryz.underlying74 Tryz.underlying320 hi hcmp hj
 have hty:=run_eql_iface_types (P:=Tryz.prog) 122 320 (.pointer (some ⟨pb,0,none⟩)) (.pointer (some b)) Tryz.underlying74 (by decide) w
 go_enter Tryz.func146,Tryz.ntmps146
 go_wp2
 refine wp_loop_rounds 2 ?_
 rw [rounds_succ]
 go_wp2
 rw [rounds_succ]
 go_wp2
 go_ret
 exact ⟨rfl,rfl⟩
theorem YZ (pb:Nat) {a b:Addr} {ca cb:Array Value} {ta tb:TypeId} (w:World) (h1:w.cell? ⟨pb,6,none⟩=some (Xv a)) (hne:a ≠ b) (ha:w.heap[a.block]?=some (.cells ca ta (0,0))) (hb:w.heap[b.block]?=some (.cells cb tb (0,0))):Calls Tryz.prog 146 #[QJ pb,Xv b] w fun e w'=>e= .returned (.bool false)/\w'=w:=by
 obtain ⟨i,hi,hcmp⟩:=Option.map_eq_some_iff.1 GO
 obtain ⟨j,hj,hjs⟩:=Option.map_eq_some_iff.1 GP
 have tT:=tyE
 have cT:=Bu
 have mR:=BF
 have nE:=Cf
 have uE:=QB
 have vE:=RU
 have nW:=Cg
 have uW:=N8
 have mU:=F7
 have heq:=run_eql_iface_ptr_other (P:=Tryz.prog) w Tryz.underlying74 Tryz.underlying320 hi hcmp hj (by rw [hjs];decide) hne ha hb
 have hty:=run_eql_iface_types (P:=Tryz.prog) 122 320 (.pointer (some ⟨pb,0,none⟩)) (.pointer (some b)) Tryz.underlying74 (by decide) w
 go_enter Tryz.func146,Tryz.ntmps146
 go_wp2
 refine wp_loop_rounds 2 ?_
 rw [rounds_succ]
 go_wp2
 rw [rounds_succ]
 go_wp2
 go_ret
 exact ⟨rfl,rfl⟩
abbrev tgt (b:Nat):Value:= .iface 124 (.pointer (some ⟨b,0,none⟩))
abbrev KS (b:Nat):Value:= .agg #[.pointer (some ⟨6,124,none⟩),.pointer (some ⟨b,0,none⟩),.int .u64 150]
abbrev FA (b:Nat):Value:= .agg #[.pointer (some ⟨6,122,none⟩),.pointer (some ⟨b,0,none⟩),.int .u64 406]
abbrev El (b:Nat):Value:= .agg #[.pointer (some ⟨6,122,none⟩),.pointer (some ⟨b,0,none⟩),.int .u64 150]
open Extern.ReflectliteValue in
theorem Bq (b:Nat) (w:World):(callFunc 142 #[tgt b]).run Tryz.prog w= .ok (.value (KS w.heap.size)) (w.alloc (.cells #[.pointer (some ⟨b,0,none⟩)] 124)):=by
 rw [@run_callFunc_extern Tryz.prog 142 _ (fun args=>unpack (args.getD 0 (.tuple #[]))) Tryz.func142 (by kernel_rfl) (by kernel_rfl) (by kernel_rfl) (by kernel_rfl)]
 kernel_rfl
open Extern.ReflectliteValue in
theorem Bd (b:Nat) (w:World):(callFunc 142 #[QJ b]).run Tryz.prog w= .ok (.value (El w.heap.size)) (w.alloc (.cells #[.pointer (some ⟨b,0,none⟩)] 122)):=by
 rw [@run_callFunc_extern Tryz.prog 142 _ (fun args=>unpack (args.getD 0 (.tuple #[]))) Tryz.func142 (by kernel_rfl) (by kernel_rfl) (by kernel_rfl) (by kernel_rfl)]
 kernel_rfl
open Extern.ReflectliteValue in
theorem Cj (b:Nat) (w:World):(callFunc 143 #[KS b]).run Tryz.prog w= .ok (.value (rty 124)) w:=by
 rw [@run_callFunc_extern Tryz.prog 143 _ (methodAny (valueError "reflectlite.Value.Type" 0) fun t _ _ _ => Extern.ReflectliteType.toType t) Tryz.func143 (by kernel_rfl) (by kernel_rfl) (by kernel_rfl) (by kernel_rfl)]
 kernel_rfl
theorem Cd (p : Value) (w : World) : (method 464 222 (.agg #[p]) "Kind").run Tryz.prog w = .ok (338, p) w := by kernel_rfl
theorem Cb (v : Value) (w : World) : (method 464 222 v "Elem").run Tryz.prog w = .ok (362, v) w := by kernel_rfl
theorem Cc (v : Value) (w : World) : (method 464 222 v "Implements").run Tryz.prog w = .ok (363, v) w := by kernel_rfl
theorem Ca (v : Value) (w : World) : (method 464 222 v "AssignableTo").run Tryz.prog w = .ok (360, v) w := by kernel_rfl
theorem B7 (w:World):(callFunc 338 #[.pointer (some ⟨6,124,none⟩)]).run Tryz.prog w= .ok (.value (.int .u8 22)) w:=by
 rw [@run_callFunc_extern Tryz.prog 338 _ (Extern.ReflectliteType.abiMethod fun t=>do pure (.int .u8 (<-Extern.Rtype.kind t))) Tryz.func338 (by kernel_rfl) (by kernel_rfl) (by kernel_rfl) (by kernel_rfl)]
 kernel_rfl
theorem B8 (w:World):(callFunc 338 #[.pointer (some ⟨6,122,none⟩)]).run Tryz.prog w= .ok (.value (.int .u8 22)) w:=by
 rw [@run_callFunc_extern Tryz.prog 338 _ (Extern.ReflectliteType.abiMethod fun t=>do pure (.int .u8 (<-Extern.Rtype.kind t))) Tryz.func338 (by kernel_rfl) (by kernel_rfl) (by kernel_rfl) (by kernel_rfl)]
 kernel_rfl
theorem BX (w:World):(callFunc 362 #[.agg #[.pointer (some ⟨6,124,none⟩)]]).run Tryz.prog w= .ok (.value (rty 122)) w:=by
 rw [@run_callFunc_extern Tryz.prog 362 _ (Extern.ReflectliteType.method Extern.ReflectliteType.elem) Tryz.func362 (by kernel_rfl) (by kernel_rfl) (by kernel_rfl) (by kernel_rfl)]
 kernel_rfl
theorem BZ (w:World):(callFunc 363 #[.agg #[.pointer (some ⟨6,122,none⟩)],rty 74]).run Tryz.prog w= .ok (.value (.bool true)) w:=by
 rw [@run_callFunc_extern Tryz.prog 363 _ (Extern.ReflectliteType.relation "Implements" Extern.ReflectliteType.implements_) Tryz.func363 (by kernel_rfl) (by kernel_rfl) (by kernel_rfl) (by kernel_rfl)]
 kernel_rfl
theorem Bg (w:World):(callFunc 360 #[.agg #[.pointer (some ⟨6,320,none⟩)],rty 122]).run Tryz.prog w= .ok (.value (.bool false)) w:=by
 rw [@run_callFunc_extern Tryz.prog 360 _ (Extern.ReflectliteType.relation "AssignableTo" Extern.ReflectliteType.assignableTo) Tryz.func360 (by kernel_rfl) (by kernel_rfl) (by kernel_rfl) (by kernel_rfl)]
 kernel_rfl
theorem Bh (w:World):(callFunc 360 #[.agg #[.pointer (some ⟨6,122,none⟩)],rty 122]).run Tryz.prog w= .ok (.value (.bool true)) w:=by
 rw [@run_callFunc_extern Tryz.prog 360 _ (Extern.ReflectliteType.relation "AssignableTo" Extern.ReflectliteType.assignableTo) Tryz.func360 (by kernel_rfl) (by kernel_rfl) (by kernel_rfl) (by kernel_rfl)]
 kernel_rfl
theorem Bk (v:Value) (xT:TypeId) (w:World):(Instr.typeAssert (.iface 320 v) xT 227 true).run Tryz.prog w= .ok (.tuple #[.nilIface,.bool false]) w:=run_typeAssert_lacksB Tryz.underlying227 (by kernel_rfl) (by kernel_rfl) v xT w
open Extern.ReflectliteValue in
theorem Bp (b:Nat) (x:Addr) (w:World) (hc:w.cell? ⟨b,0,none⟩=some (.pointer (some x))):(callFunc 144 #[KS b]).run Tryz.prog w= .ok (.value (.bool false)) w:=by
 rw [@run_callFunc_extern Tryz.prog 144 _ (Extern.ReflectliteValue.method (valueError "reflectlite.Value.IsNil" 0) isNil) Tryz.func144 (by kernel_rfl) (by kernel_rfl) (by kernel_rfl) (by kernel_rfl)]
 have hp:(parts (KS b)).run Tryz.prog w= .ok (some (124,⟨b,0,none⟩,150)) w:=by kernel_rfl
 have ha:(isAgg 124).run Tryz.prog w= .ok false w:=by kernel_rfl
 have hl:(loadVar 124 ⟨b,0,none⟩).run Tryz.prog w= .ok (.pointer (some x)) w:=by simp [loadVar,ha,run_load,hc]
 show ((do match ← parts (KS b) with | none => valueError "reflectlite.Value.IsNil" 0 | some (t, a, fl) => isNil t a fl (fl % 32) : Sem Value).run Tryz.prog w).andThen _ = _
 simp [hp,isNil,hl]
open Extern.ReflectliteValue in
theorem Bo (b r:Nat) (w:World) (hc:w.cell? ⟨b,0,none⟩=some (.pointer (some ⟨r,0,none⟩))):(callFunc 200 #[KS b]).run Tryz.prog w= .ok (.value (FA r)) w:=by
 rw [@run_callFunc_extern Tryz.prog 200 _ (Extern.ReflectliteValue.method (valueError "reflectlite.Value.Elem" 0) elem) Tryz.func200 (by kernel_rfl) (by kernel_rfl) (by kernel_rfl) (by kernel_rfl)]
 have hp:(parts (KS b)).run Tryz.prog w= .ok (some (124,⟨b,0,none⟩,150)) w:=by kernel_rfl
 have ha:(isAgg 124).run Tryz.prog w= .ok false w:=by kernel_rfl
 have hl:(loadVar 124 ⟨b,0,none⟩).run Tryz.prog w= .ok (.pointer (some ⟨r,0,none⟩)) w:=by simp [loadVar,ha,run_load,hc]
 have he:(Extern.Rtype.elem? 124).run Tryz.prog w= .ok (some 122) w:=by kernel_rfl
 have hm:(mk 122 ⟨r,0,none⟩ flagAddr).run Tryz.prog w= .ok (FA r) w:=by kernel_rfl
 show ((do match ← parts (KS b) with | none => valueError "reflectlite.Value.Elem" 0 | some (t, a, fl) => elem t a fl (fl % 32) : Sem Value).run Tryz.prog w).andThen _ = _
 simp [hp,elem,hl,he,hm]
open Extern.ReflectliteValue in
theorem Be (b r p:Nat) (w:World) (hc:w.cell? ⟨b,0,none⟩=some (.pointer (some ⟨p,0,none⟩))) (hr:w.cell? ⟨r,0,none⟩=some (.pointer none)) (hzr:w.frozen? ⟨r,0,none⟩=false):(callFunc 201 #[FA r,El b]).run Tryz.prog w= .ok (.value (.tuple #[])) (w.setCell ⟨r,0,none⟩ (.pointer (some ⟨p,0,none⟩))):=by
 rw [@run_callFunc_extern Tryz.prog 201 _ Extern.ReflectliteValue.set Tryz.func201 (by kernel_rfl) (by kernel_rfl) (by kernel_rfl) (by kernel_rfl)]
 have hp:(parts (FA r)).run Tryz.prog w= .ok (some (122,⟨r,0,none⟩,406)) w:=by kernel_rfl
 have hq:(parts (El b)).run Tryz.prog w= .ok (some (122,⟨b,0,none⟩,150)) w:=by kernel_rfl
 have ha:(isAgg 122).run Tryz.prog w= .ok false w:=by kernel_rfl
 have hl:(loadVar 122 ⟨b,0,none⟩).run Tryz.prog w= .ok (.pointer (some ⟨p,0,none⟩)) w:=by simp [loadVar,ha,run_load,hc]
 have hd:(Extern.Rtype.directlyAssignable 122 122).run Tryz.prog w= .ok true w:=by kernel_rfl
 have hs:(storeVar 122 ⟨r,0,none⟩ (.pointer (some ⟨p,0,none⟩))).run Tryz.prog w= .ok () (w.setCell ⟨r,0,none⟩ (.pointer (some ⟨p,0,none⟩))):=by
  have hz:(sizeOf 122).run Tryz.prog w= .ok 1 w:=by kernel_rfl
  simp [storeVar,hz,storeCells,Value.cells]
  show (store ⟨r,0,none⟩ (.pointer (some ⟨p,0,none⟩))).run Tryz.prog w=_
  rw [run_store _ _ _ _ _ rfl,hr]
  simp [hzr]
 have h0:(Extern.ReflectliteValue.set #[FA r,El b]).run Tryz.prog w= .ok (.tuple #[]) (w.setCell ⟨r,0,none⟩ (.pointer (some ⟨p,0,none⟩))):=by
  unfold Extern.ReflectliteValue.set
  show Sem.run Tryz.prog (parts (FA r) >>=_) w=_
  rw [Sem.run_bind,hp]
  simp only [Result.andThen_ok]
  show Sem.run Tryz.prog (parts (El b) >>=_) w=_
  rw [Sem.run_bind,hq]
  simp only [Result.andThen_ok]
  simp [hl,hd,hs,flagAddr]
 rw [h0];rfl
theorem Br (v:Value) (w:World):Calls Tryz.prog 93 #[.nilIface,v] w fun e w'=>e= .returned (.bool false)/\w'=w:=by
 go_enter Tryz.func93,Tryz.ntmps93
 go_wp2
 go_ret
 exact ⟨rfl,rfl⟩
abbrev asW (b:Nat) (w:World):World:=(w.alloc (.cells #[.pointer (some ⟨b,0,none⟩)] 124)).alloc (.cells #[.pointer (some ⟨6,124,none⟩),.pointer (some ⟨w.heap.size,0,none⟩),.int .u64 150] 175)
theorem I1 (b:Nat) (w:World):(asW b w).cell? ⟨w.heap.size,0,none⟩=some (.pointer (some ⟨b,0,none⟩)):=by go_simp
theorem Si (b:Nat) (w:World):Below w.heap.size w (asW b w):=((ba _ _)).alloc (by simp) _
theorem Bf (a:Addr) (b:Nat) (w:World) (hT:w.cell? ⟨2,0,none⟩=some (rty 74)):Calls Tryz.prog 93 #[Xv a,tgt b] w fun e w'=>e= .returned (.bool false)/\Below w.heap.size w w':=by
 have h1:=Bq
 have h2:=Cj
 have h3:=Cd
 have h4:=B7
 have h5:=B8
 have h6:=Cb
 have h7:=BX
 have h8:=Cc
 have h9:=BZ
 have h10:=Bp w.heap.size ⟨b,0,none⟩ (asW b w) (I1 b w)
 have hT2:(asW b w).cell? ⟨2,0,none⟩=some (rty 74):=((Si b w).cell (World.block_lt_of_cell? _ _ hT)).trans hT
 have t1:=tyE
 have t2:=Ca
 have t3:=Bg
 have t4:=Bk
 have uE:=QB
 have vE:=RU
 go_enter Tryz.func93,Tryz.ntmps93
 go_wp2
 refine wp_loop_rounds 1 ?_
 rw [rounds_succ]
 go_wp2
 go_ret
 exact ⟨rfl,((Si b w).alloc (by simp;omega) _)⟩
theorem Es {n:Nat} {w W:World} {b:Nat} {v:Value} (h:Below n w W) (hn:n<=b):Below n w (W.setCell ⟨b,0,none⟩ v):=Below.setCell h hn v
abbrev asX (b:Nat) (w:World):World:=(asW b w).alloc (.cells #[.pointer (some ⟨6,124,none⟩),.pointer (some ⟨w.heap.size,0,none⟩),.int .u64 150] 175)
abbrev asY (b p:Nat) (w:World):World:=(asX b w).alloc (.cells #[.pointer (some ⟨p,0,none⟩)] 122)
theorem CQ (b:Nat) (w:World):(asX b w).cell? ⟨w.heap.size,0,none⟩=some (.pointer (some ⟨b,0,none⟩)):=by go_simp
theorem CR (b:Nat) (w:World):(asX b w).heap.size=w.heap.size+1+1+1:=by simp
theorem CS (b p:Nat) (w:World):(asY b p w).cell? ⟨w.heap.size+1+1+1,0,none⟩=some (.pointer (some ⟨p,0,none⟩)):=by go_simp
theorem Qi (b p:Nat) (w:World):Below w.heap.size w (asY b p w):=((Si b w).alloc (by simp;omega) _).alloc (by simp;omega) _
theorem Bs (b p:Nat) (w:World) (hT:w.cell? ⟨2,0,none⟩=some (rty 74)) (hb:w.cell? ⟨b,0,none⟩=some (.pointer none)) (hz:w.frozen? ⟨b,0,none⟩=false):Calls Tryz.prog 93 #[QJ p,tgt b] w fun e w'=>e= .returned (.bool true)/\w'.cell? ⟨b,0,none⟩=some (.pointer (some ⟨p,0,none⟩))/\ ∀ n,n<=b->n<=w.heap.size->Below n w w':=by
 have h1:=Bq
 have h2:=Cj
 have h3:=Cd
 have h4:=B7
 have h5:=B8
 have h6:=Cb
 have h7:=BX
 have h8:=Cc
 have h9:=BZ
 have h10:=Bp w.heap.size ⟨b,0,none⟩ (asW b w) (I1 b w)
 have hT2:(asW b w).cell? ⟨2,0,none⟩=some (rty 74):=((Si b w).cell (World.block_lt_of_cell? _ _ hT)).trans hT
 have t1:=tyR
 have t2:=Ca
 have t3:=Bh
 have k1:=Bd p (asX b w)
 rw [CR] at k1
 have k2:=Bo w.heap.size b (asX b w) (CQ b w)
 have hlt:=World.block_lt_of_cell? _ _ hb
 have hb2:(asY b p w).cell? ⟨b,0,none⟩=some (.pointer none):=((Qi b p w).cell hlt).trans hb
 have hz2:(asY b p w).frozen? ⟨b,0,none⟩=false:=((Qi b p w).frozen hlt).trans hz
 have k3:=Be (w.heap.size+1+1+1) b p (asY b p w) (CS b p w) hb2 hz2
 go_enter Tryz.func93,Tryz.ntmps93
 go_wp2
 refine wp_loop_rounds 1 ?_
 rw [rounds_succ]
 go_wp2
 go_ret
 exact ⟨rfl,World.cell?_setCell_same _ _ _ hb2,fun n hn hnw=>Es ((Qi b p w).mono hnw) hn⟩
set_option maxRecDepth 100000
structure Errs (w:World) (q:Int->Addr):Prop where
 c1:w.cell? ⟨1,0,none⟩=some (Xv (q 1))
 c2:w.cell? ⟨3,0,none⟩=some (Xv (q 2))
 c3:w.cell? ⟨0,0,none⟩=some (Xv (q 3))
 c4:w.cell? ⟨4,0,none⟩=some (Xv (q 4))
 c5:w.cell? ⟨5,0,none⟩=some (Xv (q 5))
 ct:w.cell? ⟨2,0,none⟩=some (rty 74)
 b1:∃ c t,w.heap[(q 1).block]?=some (.cells c t (0,0))
 b2:∃ c t,w.heap[(q 2).block]?=some (.cells c t (0,0))
 b3:∃ c t,w.heap[(q 3).block]?=some (.cells c t (0,0))
 b4:∃ c t,w.heap[(q 4).block]?=some (.cells c t (0,0))
 b5:∃ c t,w.heap[(q 5).block]?=some (.cells c t (0,0))
 n12:q 1 ≠ q 2
 n13:q 1 ≠ q 3
 n14:q 1 ≠ q 4
 n15:q 1 ≠ q 5
 n23:q 2 ≠ q 3
 n24:q 2 ≠ q 4
 n25:q 2 ≠ q 5
 n34:q 3 ≠ q 4
 n35:q 3 ≠ q 5
 n45:q 4 ≠ q 5
theorem Uf {w w':World} {k:Nat} (h:∃ c t,w.heap[k]?=some (.cells c t (0,0))) (hb:Below w.heap.size w w'):∃ c t,w'.heap[k]?=some (.cells c t (0,0)):=by
 obtain ⟨c,t,e⟩:=h
 exact ⟨c,t,(hb.block k (Array.getElem?_eq_some_iff.1 e).1).trans e⟩
theorem Errs.below {w w':World} {q:Int->Addr} (h:Errs w q) (hb:Below w.heap.size w w'):Errs w' q:=
 ⟨(hb.cell (World.block_lt_of_cell? _ _ h.c1)).trans h.c1,(hb.cell (World.block_lt_of_cell? _ _ h.c2)).trans h.c2,(hb.cell (World.block_lt_of_cell? _ _ h.c3)).trans h.c3,(hb.cell (World.block_lt_of_cell? _ _ h.c4)).trans h.c4,(hb.cell (World.block_lt_of_cell? _ _ h.c5)).trans h.c5,(hb.cell (World.block_lt_of_cell? _ _ h.ct)).trans h.ct,Uf h.b1 hb,Uf h.b2 hb,Uf h.b3 hb,Uf h.b4 hb,Uf h.b5 hb,h.n12,h.n13,h.n14,h.n15,h.n23,h.n24,h.n25,h.n34,h.n35,h.n45⟩
theorem Gw (w:World):Calls Tryz.prog 94 #[.nilIface] w fun e w'=>e= .returned (.int .i64 0)/\w'=w:=by
 go_enter Tryz.func94,Tryz.ntmps94
 go_wp2_with fail
 go_ret
 exact ⟨rfl,rfl⟩
theorem Ls (p:Nat) {w:World} {q:Int->Addr} (h:Errs w q) (hp:w.cell? ⟨p,6,none⟩=some (Xv (q 1))):Calls Tryz.prog 94 #[QJ p] w fun e w'=>e= .returned (.int .i64 1)/\w'=w:=by
 have HE:=Z9 h
 have Hp:=Z9 hp
 clear hp
 obtain ⟨x1,x2,x3,x4,x5,_⟩:=h
 go_enter Tryz.func94,Tryz.ntmps94
 go_wp2_with fail
 refine (VB p (q 1) _ (uh Hp)).mono ?_
 rintro e w' ⟨rfl,h9⟩
 subst w'
 go_wp2_with fail
 go_ret
 exact ⟨rfl,rfl⟩
theorem Lt (p:Nat) {w:World} {q:Int->Addr} (h:Errs w q) (hp:w.cell? ⟨p,6,none⟩=some (Xv (q 2))):Calls Tryz.prog 94 #[QJ p] w fun e w'=>e= .returned (.int .i64 2)/\w'=w:=by
 have HE:=Z9 h
 have Hp:=Z9 hp
 clear hp
 obtain ⟨x1,x2,x3,x4,x5,_⟩:=h
 go_enter Tryz.func94,Tryz.ntmps94
 go_wp2_with fail
 obtain ⟨ca,ta,ha⟩:=(uh HE).b2
 obtain ⟨cb,tb,hb⟩:=(uh HE).b1
 refine (YZ p _ (uh Hp) ((uh HE).n12.symm) ha hb).mono ?_
 clear ha hb
 rintro e w' ⟨rfl,h9⟩
 subst w'
 go_wp2_with fail
 refine (VB p (q 2) _ (uh Hp)).mono ?_
 rintro e w' ⟨rfl,h9⟩
 subst w'
 go_wp2_with fail
 go_ret
 exact ⟨rfl,rfl⟩
theorem Lu (p:Nat) {w:World} {q:Int->Addr} (h:Errs w q) (hp:w.cell? ⟨p,6,none⟩=some (Xv (q 3))):Calls Tryz.prog 94 #[QJ p] w fun e w'=>e= .returned (.int .i64 3)/\w'=w:=by
 have HE:=Z9 h
 have Hp:=Z9 hp
 clear hp
 obtain ⟨x1,x2,x3,x4,x5,_⟩:=h
 go_enter Tryz.func94,Tryz.ntmps94
 go_wp2_with fail
 obtain ⟨ca,ta,ha⟩:=(uh HE).b3
 obtain ⟨cb,tb,hb⟩:=(uh HE).b1
 refine (YZ p _ (uh Hp) ((uh HE).n13.symm) ha hb).mono ?_
 clear ha hb
 rintro e w' ⟨rfl,h9⟩
 subst w'
 go_wp2_with fail
 obtain ⟨ca,ta,ha⟩:=(uh HE).b3
 obtain ⟨cb,tb,hb⟩:=(uh HE).b2
 refine (YZ p _ (uh Hp) ((uh HE).n23.symm) ha hb).mono ?_
 clear ha hb
 rintro e w' ⟨rfl,h9⟩
 subst w'
 go_wp2_with fail
 obtain ⟨ca,ta,ha⟩:=(uh HE).b3
 obtain ⟨cb,tb,hb⟩:=(uh HE).b4
 refine (YZ p _ (uh Hp) ((uh HE).n34) ha hb).mono ?_
 clear ha hb
 rintro e w' ⟨rfl,h9⟩
 subst w'
 go_wp2_with fail
 obtain ⟨ca,ta,ha⟩:=(uh HE).b3
 obtain ⟨cb,tb,hb⟩:=(uh HE).b5
 refine (YZ p _ (uh Hp) ((uh HE).n35) ha hb).mono ?_
 clear ha hb
 rintro e w' ⟨rfl,h9⟩
 subst w'
 go_wp2_with fail
 go_ret
 exact ⟨rfl,rfl⟩
theorem Lv (p:Nat) {w:World} {q:Int->Addr} (h:Errs w q) (hp:w.cell? ⟨p,6,none⟩=some (Xv (q 4))):Calls Tryz.prog 94 #[QJ p] w fun e w'=>e= .returned (.int .i64 4)/\w'=w:=by
 have HE:=Z9 h
 have Hp:=Z9 hp
 clear hp
 obtain ⟨x1,x2,x3,x4,x5,_⟩:=h
 go_enter Tryz.func94,Tryz.ntmps94
 go_wp2_with fail
 obtain ⟨ca,ta,ha⟩:=(uh HE).b4
 obtain ⟨cb,tb,hb⟩:=(uh HE).b1
 refine (YZ p _ (uh Hp) ((uh HE).n14.symm) ha hb).mono ?_
 clear ha hb
 rintro e w' ⟨rfl,h9⟩
 subst w'
 go_wp2_with fail
 obtain ⟨ca,ta,ha⟩:=(uh HE).b4
 obtain ⟨cb,tb,hb⟩:=(uh HE).b2
 refine (YZ p _ (uh Hp) ((uh HE).n24.symm) ha hb).mono ?_
 clear ha hb
 rintro e w' ⟨rfl,h9⟩
 subst w'
 go_wp2_with fail
 refine (VB p (q 4) _ (uh Hp)).mono ?_
 rintro e w' ⟨rfl,h9⟩
 subst w'
 go_wp2_with fail
 go_ret
 exact ⟨rfl,rfl⟩
theorem Lw (p:Nat) {w:World} {q:Int->Addr} (h:Errs w q) (hp:w.cell? ⟨p,6,none⟩=some (Xv (q 5))):Calls Tryz.prog 94 #[QJ p] w fun e w'=>e= .returned (.int .i64 5)/\w'=w:=by
 have HE:=Z9 h
 have Hp:=Z9 hp
 clear hp
 obtain ⟨x1,x2,x3,x4,x5,_⟩:=h
 go_enter Tryz.func94,Tryz.ntmps94
 go_wp2_with fail
 obtain ⟨ca,ta,ha⟩:=(uh HE).b5
 obtain ⟨cb,tb,hb⟩:=(uh HE).b1
 refine (YZ p _ (uh Hp) ((uh HE).n15.symm) ha hb).mono ?_
 clear ha hb
 rintro e w' ⟨rfl,h9⟩
 subst w'
 go_wp2_with fail
 obtain ⟨ca,ta,ha⟩:=(uh HE).b5
 obtain ⟨cb,tb,hb⟩:=(uh HE).b2
 refine (YZ p _ (uh Hp) ((uh HE).n25.symm) ha hb).mono ?_
 clear ha hb
 rintro e w' ⟨rfl,h9⟩
 subst w'
 go_wp2_with fail
 obtain ⟨ca,ta,ha⟩:=(uh HE).b5
 obtain ⟨cb,tb,hb⟩:=(uh HE).b4
 refine (YZ p _ (uh Hp) ((uh HE).n45.symm) ha hb).mono ?_
 clear ha hb
 rintro e w' ⟨rfl,h9⟩
 subst w'
 go_wp2_with fail
 refine (VB p (q 5) _ (uh Hp)).mono ?_
 rintro e w' ⟨rfl,h9⟩
 subst w'
 go_wp2_with fail
 go_ret
 exact ⟨rfl,rfl⟩
theorem Jg {w:World} {q:Int->Addr} (h:Errs w q):Calls Tryz.prog 94 #[Xv (q 3)] w fun e w'=>e= .returned (.int .i64 3)/\w'=w:=by
 have HE:=Z9 h
 obtain ⟨x1,x2,x3,x4,x5,_⟩:=h
 go_enter Tryz.func94,Tryz.ntmps94
 go_wp2_with fail
 obtain ⟨ca,ta,ha⟩:=(uh HE).b3
 obtain ⟨cb,tb,hb⟩:=(uh HE).b1
 refine (Rg _ ((uh HE).n13.symm) ha hb).mono ?_
 clear ha hb
 rintro e w' ⟨rfl,h9⟩
 subst w'
 go_wp2_with fail
 obtain ⟨ca,ta,ha⟩:=(uh HE).b3
 obtain ⟨cb,tb,hb⟩:=(uh HE).b2
 refine (Rg _ ((uh HE).n23.symm) ha hb).mono ?_
 clear ha hb
 rintro e w' ⟨rfl,h9⟩
 subst w'
 go_wp2_with fail
 obtain ⟨ca,ta,ha⟩:=(uh HE).b3
 obtain ⟨cb,tb,hb⟩:=(uh HE).b4
 refine (Rg _ ((uh HE).n34) ha hb).mono ?_
 clear ha hb
 rintro e w' ⟨rfl,h9⟩
 subst w'
 go_wp2_with fail
 obtain ⟨ca,ta,ha⟩:=(uh HE).b3
 obtain ⟨cb,tb,hb⟩:=(uh HE).b5
 refine (Rg _ ((uh HE).n35) ha hb).mono ?_
 clear ha hb
 rintro e w' ⟨rfl,h9⟩
 subst w'
 go_wp2_with fail
 go_ret
 exact ⟨rfl,rfl⟩
theorem Jh {c:Int} (hc:c=1\/c=2\/c=3\/c=4\/c=5) (p:Nat) {w:World} {q:Int->Addr} (h:Errs w q) (hp:w.cell? ⟨p,6,none⟩=some (Xv (q c))):Calls Tryz.prog 94 #[QJ p] w fun e w'=>e= .returned (.int .i64 c)/\w'=w:=by
 rcases hc with rfl | rfl | rfl | rfl | rfl
 ·exact Ls p h hp
 ·exact Lt p h hp
 ·exact Lu p h hp
 ·exact Lv p h hp
 ·exact Lw p h hp
open Go.ChangeShapes Go.WideShapes Go.ChangeAt Go.RowKit Go.Sort Go.Shelf
set_option maxRecDepth 100000
structure Nx (w W:World) (R:Nat) (v0 v1 v2 v3 v4:Value) (m:Z4) (qs:List (Z2 × Value)):Prop where
 full:FullSmy w.heap.size W v0 v1 v2 v3 v4 m qs
 blk:Blk W R 32 #[v0,v1,v2,v3,v4,.int .i64 m.now]
 own:∀ k,WW v0 v1 v2 v3 v4 qs k->k ≠ R
 bb:Below w.heap.size w W
 hR:w.heap.size<=R
section
variable {w W X : World} {R : Nat} {v0 v1 v2 v3 v4 : Value} {m : Z4} {qs : List (Z2 × Value)}
theorem Nx.next (h:Nx w W R v0 v1 v2 v3 v4 m qs) (hb:Below W.heap.size W X):Nx w X R v0 v1 v2 v3 v4 m qs:=⟨h.full.below hb,h.blk.below hb h.blk.lt,h.own,h.bb.trans (hb.mono h.bb.size),h.hR⟩
theorem Nx.cells (h:Nx w W R v0 v1 v2 v3 v4 m qs):W.cell? ⟨R,0,none⟩=some v0/\W.cell? ⟨R,1,none⟩=some v1/\W.cell? ⟨R,2,none⟩=some v2/\W.cell? ⟨R,3,none⟩=some v3/\W.cell? ⟨R,4,none⟩=some v4/\W.cell? ⟨R,5,none⟩=some (.int .i64 m.now):=h.blk.c6
end
def Chg (w:World) (R:Nat) (q:Int->Addr) (X:Z4) (c:Int) (e:Ending) (W':World):Prop:=
 Below w.heap.size w W'/\((c=0/\e= .returned .nilIface/\ ∃ u0 u1 u2 u3 u4 rs,Nx w W' R u0 u1 u2 u3 u4 X rs)\/((c=1\/c=2\/c=3\/c=4\/c=5)/\e= .returned (Xv (q c))))
theorem Chg.no {w W':World} {R:Nat} {q:Int->Addr} {X:Z4} {c d:Int} (h:Below w.heap.size w W') (e:c=d) (hd:d=1\/d=2\/d=3\/d=4\/d=5):Chg w R q X c (.returned (Xv (q d))) W':=by
 subst e
 exact ⟨h,.inr ⟨hd,rfl⟩⟩
theorem Chg.yes {w W':World} {R:Nat} {q:Int->Addr} {X Y:Z4} {c:Int} {u0 u1 u2 u3 u4:Value} {rs:List (Z2 × Value)} (h:Nx w W' R u0 u1 u2 u3 u4 Y rs) (e:c=0) (hX:X=Y):Chg w R q X c (.returned .nilIface) W':=by
 subst e hX
 exact ⟨h.bb,.inl ⟨rfl,rfl,_,_,_,_,_,_,h⟩⟩
section
variable {F : Nat → TypeId → Array Value → Prop} {w W X : World} {R : Nat} {v0 v1 v2 v3 v4 : Value} {m : Z4} {qs : List (Z2 × Value)}
end
end Go.Proofs.YtffcgajndmhpkaaGreatDoor
namespace Go.Proofs.YtffcgajndmhpkaaGreatDoor
open Go.ChangeShapes Go.WideShapes Go.ChangeAt Go.RowKit Go.Sort
set_option linter.unusedVariables false
structure Bx (w W:World) (R:Nat) (a0:Option Addr) (p0:Nat) (a1:Option Addr) (p1:Nat) (a2:Option Addr) (p2:Nat) (a3:Option Addr) (p3:Nat) (a4:Option Addr) (p4:Nat) (m:Z4):Prop where
 smy:Smy W (.slice a0 m.rooms.length p0) (.slice a1 m.guilds.length p1) (.slice a2 m.smiths.length p2) (.slice a3 m.desks.length p3) (.slice a4 m.paces.length p4) m
 blk:Blk W R 32 (S6 a0 p0 a1 p1 a2 p2 a3 p3 a4 p4 m)
 bb:Below w.heap.size w W
section
variable {w W X : World} {R : Nat} {a0 a1 a2 a3 a4 : Option Addr} {p0 p1 p2 p3 p4 : Nat} {m : Z4}
theorem Bx.next (h:Bx w W R a0 p0 a1 p1 a2 p2 a3 p3 a4 p4 m) (hb:Below W.heap.size W X):Bx w X R a0 p0 a1 p1 a2 p2 a3 p3 a4 p4 m:=⟨h.smy.below hb,h.blk.below hb h.blk.lt,h.bb.trans (hb.mono h.bb.size)⟩
theorem Bx.alloc (h:Bx w W R a0 p0 a1 p1 a2 p2 a3 p3 a4 p4 m) (o:Obj):Bx w (W.alloc o) R a0 p0 a1 p1 a2 p2 a3 p3 a4 p4 m:=h.next ((ba _ _))
theorem Bx.cells (h:Bx w W R a0 p0 a1 p1 a2 p2 a3 p3 a4 p4 m):W.cell? ⟨R,0,none⟩=some (.slice a0 m.rooms.length p0)/\W.cell? ⟨R,1,none⟩=some (.slice a1 m.guilds.length p1)/\W.cell? ⟨R,2,none⟩=some (.slice a2 m.smiths.length p2)/\W.cell? ⟨R,3,none⟩=some (.slice a3 m.desks.length p3)/\W.cell? ⟨R,4,none⟩=some (.slice a4 m.paces.length p4)/\W.cell? ⟨R,5,none⟩=some (.int .i64 m.now):=h.blk.c6
end
theorem Bx.new {w:World} {v0 v1 v2 v3 v4:Value} {m:Z4} (h:Smy w v0 v1 v2 v3 v4 m):∃ a0 p0 a1 p1 a2 p2 a3 p3 a4 p4,v0= .slice a0 m.rooms.length p0/\v1= .slice a1 m.guilds.length p1/\v2= .slice a2 m.smiths.length p2/\v3= .slice a3 m.desks.length p3/\v4= .slice a4 m.paces.length p4/\Bx w (w.alloc (.cells (S6 a0 p0 a1 p1 a2 p2 a3 p3 a4 p4 m) 32)) w.heap.size a0 p0 a1 p1 a2 p2 a3 p3 a4 p4 m:=by
 obtain ⟨a0,p0,a1,p1,a2,p2,a3,p3,a4,p4,rfl,rfl,rfl,rfl,rfl,_⟩:=h.five
 exact ⟨a0,p0,a1,p1,a2,p2,a3,p3,a4,p4,rfl,rfl,rfl,rfl,rfl,h.alloc _,Blk.new _ _ _,(ba _ _)⟩
theorem Bx.put {w W:World} {v0 v1 v2 v3 v4:Value} {m:Z4} (h:Smy W v0 v1 v2 v3 v4 m) (hb:Below w.heap.size w W):∃ a0 p0 a1 p1 a2 p2 a3 p3 a4 p4,v0= .slice a0 m.rooms.length p0/\v1= .slice a1 m.guilds.length p1/\v2= .slice a2 m.smiths.length p2/\v3= .slice a3 m.desks.length p3/\v4= .slice a4 m.paces.length p4/\Bx w (W.alloc (.cells (S6 a0 p0 a1 p1 a2 p2 a3 p3 a4 p4 m) 32)) W.heap.size a0 p0 a1 p1 a2 p2 a3 p3 a4 p4 m:=by
 obtain ⟨a0,p0,a1,p1,a2,p2,a3,p3,a4,p4,rfl,rfl,rfl,rfl,rfl,_⟩:=h.five
 exact ⟨a0,p0,a1,p1,a2,p2,a3,p3,a4,p4,rfl,rfl,rfl,rfl,rfl,h.alloc _,Blk.new _ _ _,hb.trans (((ba _ _)).mono hb.size)⟩
end Go.Proofs.YtffcgajndmhpkaaGreatDoor
