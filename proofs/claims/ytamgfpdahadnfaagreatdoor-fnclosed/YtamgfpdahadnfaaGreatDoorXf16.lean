/- Part 16 of what the proof rests on. No condition but those that a theorem names. -/
import Derived.Test.YtamgfpdahadnfaaGreatDoorXf04
set_option maxHeartbeats 8000000
set_option maxRecDepth 100000
namespace Go.Proofs.YtamgfpdahadnfaaGreatDoor
open Go.ChangeShapes Go.WideShapes Go.ChangeAt Go.RowKit
set_option linter.unusedVariables false
set_option linter.unusedSimpArgs false
abbrev tgt (b:Nat):Value:= .iface 98 (.pointer (some ⟨b,0,none⟩))
abbrev IC (b:Nat):Value:= .agg #[.pointer (some ⟨6,98,none⟩),.pointer (some ⟨b,0,none⟩),.int .u64 150]
abbrev CT (b:Nat):Value:= .agg #[.pointer (some ⟨6,96,none⟩),.pointer (some ⟨b,0,none⟩),.int .u64 406]
abbrev Bm (b:Nat):Value:= .agg #[.pointer (some ⟨6,96,none⟩),.pointer (some ⟨b,0,none⟩),.int .u64 150]
open Extern.ReflectliteValue in
theorem xI (b:Nat) (w:World):(callFunc 152 #[tgt b]).run Tryz.prog w= .ok (.value (IC w.heap.size)) (w.alloc (.cells #[.pointer (some ⟨b,0,none⟩)] 98)):=by
 rw [@run_callFunc_extern Tryz.prog 152 _ (fun args=>unpack (args.getD 0 (.tuple #[]))) Tryz.func152 (by kernel_rfl) (by kernel_rfl) (by kernel_rfl) (by kernel_rfl)]
 kernel_rfl
open Extern.ReflectliteValue in
theorem xw (b:Nat) (w:World):(callFunc 152 #[OY b]).run Tryz.prog w= .ok (.value (Bm w.heap.size)) (w.alloc (.cells #[.pointer (some ⟨b,0,none⟩)] 96)):=by
 rw [@run_callFunc_extern Tryz.prog 152 _ (fun args=>unpack (args.getD 0 (.tuple #[]))) Tryz.func152 (by kernel_rfl) (by kernel_rfl) (by kernel_rfl) (by kernel_rfl)]
 kernel_rfl
open Extern.ReflectliteValue in
theorem yK (b:Nat) (w:World):(callFunc 153 #[IC b]).run Tryz.prog w= .ok (.value (rty 98)) w:=by
 rw [@run_callFunc_extern Tryz.prog 153 _ (methodAny (valueError "reflectlite.Value.Type" 0) fun t _ _ _ => Extern.ReflectliteType.toType t) Tryz.func153 (by kernel_rfl) (by kernel_rfl) (by kernel_rfl) (by kernel_rfl)]
 kernel_rfl
theorem yE (p : Value) (w : World) : (method 428 193 (.agg #[p]) "Kind").run Tryz.prog w = .ok (330, p) w := by kernel_rfl
theorem yC (v : Value) (w : World) : (method 428 193 v "Elem").run Tryz.prog w = .ok (348, v) w := by kernel_rfl
theorem yD (v : Value) (w : World) : (method 428 193 v "Implements").run Tryz.prog w = .ok (349, v) w := by kernel_rfl
theorem yB (v : Value) (w : World) : (method 428 193 v "AssignableTo").run Tryz.prog w = .ok (346, v) w := by kernel_rfl
theorem yz (w:World):(callFunc 330 #[.pointer (some ⟨6,98,none⟩)]).run Tryz.prog w= .ok (.value (.int .u8 22)) w:=by
 rw [@run_callFunc_extern Tryz.prog 330 _ (Extern.ReflectliteType.abiMethod fun t=>do pure (.int .u8 (<-Extern.Rtype.kind t))) Tryz.func330 (by kernel_rfl) (by kernel_rfl) (by kernel_rfl) (by kernel_rfl)]
 kernel_rfl
theorem yA (w:World):(callFunc 330 #[.pointer (some ⟨6,96,none⟩)]).run Tryz.prog w= .ok (.value (.int .u8 22)) w:=by
 rw [@run_callFunc_extern Tryz.prog 330 _ (Extern.ReflectliteType.abiMethod fun t=>do pure (.int .u8 (<-Extern.Rtype.kind t))) Tryz.func330 (by kernel_rfl) (by kernel_rfl) (by kernel_rfl) (by kernel_rfl)]
 kernel_rfl
theorem yu (w:World):(callFunc 348 #[.agg #[.pointer (some ⟨6,98,none⟩)]]).run Tryz.prog w= .ok (.value (rty 96)) w:=by
 rw [@run_callFunc_extern Tryz.prog 348 _ (Extern.ReflectliteType.method Extern.ReflectliteType.elem) Tryz.func348 (by kernel_rfl) (by kernel_rfl) (by kernel_rfl) (by kernel_rfl)]
 kernel_rfl
theorem yx (w:World):(callFunc 349 #[.agg #[.pointer (some ⟨6,96,none⟩)],rty 62]).run Tryz.prog w= .ok (.value (.bool true)) w:=by
 rw [@run_callFunc_extern Tryz.prog 349 _ (Extern.ReflectliteType.relation "Implements" Extern.ReflectliteType.implements_) Tryz.func349 (by kernel_rfl) (by kernel_rfl) (by kernel_rfl) (by kernel_rfl)]
 kernel_rfl
theorem xz (w:World):(callFunc 346 #[.agg #[.pointer (some ⟨6,288,none⟩)],rty 96]).run Tryz.prog w= .ok (.value (.bool false)) w:=by
 rw [@run_callFunc_extern Tryz.prog 346 _ (Extern.ReflectliteType.relation "AssignableTo" Extern.ReflectliteType.assignableTo) Tryz.func346 (by kernel_rfl) (by kernel_rfl) (by kernel_rfl) (by kernel_rfl)]
 kernel_rfl
theorem xA (w:World):(callFunc 346 #[.agg #[.pointer (some ⟨6,96,none⟩)],rty 96]).run Tryz.prog w= .ok (.value (.bool true)) w:=by
 rw [@run_callFunc_extern Tryz.prog 346 _ (Extern.ReflectliteType.relation "AssignableTo" Extern.ReflectliteType.assignableTo) Tryz.func346 (by kernel_rfl) (by kernel_rfl) (by kernel_rfl) (by kernel_rfl)]
 kernel_rfl
theorem xD (v:Value) (xT:TypeId) (w:World):(Instr.typeAssert (.iface 288 v) xT 198 true).run Tryz.prog w= .ok (.tuple #[.nilIface,.bool false]) w:=run_typeAssert_lacksB Tryz.underlying198 (by kernel_rfl) (by kernel_rfl) v xT w
open Extern.ReflectliteValue in
theorem xH (b:Nat) (x:Addr) (w:World) (hc:w.cell? ⟨b,0,none⟩=some (.pointer (some x))):(callFunc 154 #[IC b]).run Tryz.prog w= .ok (.value (.bool false)) w:=by
 rw [@run_callFunc_extern Tryz.prog 154 _ (Extern.ReflectliteValue.method (valueError "reflectlite.Value.IsNil" 0) isNil) Tryz.func154 (by kernel_rfl) (by kernel_rfl) (by kernel_rfl) (by kernel_rfl)];have hp:(parts (IC b)).run Tryz.prog w= .ok (some (98,⟨b,0,none⟩,150)) w:=by kernel_rfl
 have ha:(isAgg 98).run Tryz.prog w= .ok false w:=by kernel_rfl
 have hl:(loadVar 98 ⟨b,0,none⟩).run Tryz.prog w= .ok (.pointer (some x)) w:=by simp [loadVar,ha,run_load,hc]
 show ((do match ← parts (IC b) with | none => valueError "reflectlite.Value.IsNil" 0 | some (t, a, fl) => isNil t a fl (fl % 32) : Sem Value).run Tryz.prog w).andThen _ = _;simp [hp,isNil,hl]
open Extern.ReflectliteValue in
theorem xG (b r:Nat) (w:World) (hc:w.cell? ⟨b,0,none⟩=some (.pointer (some ⟨r,0,none⟩))):(callFunc 210 #[IC b]).run Tryz.prog w= .ok (.value (CT r)) w:=by
 rw [@run_callFunc_extern Tryz.prog 210 _ (Extern.ReflectliteValue.method (valueError "reflectlite.Value.Elem" 0) elem) Tryz.func210 (by kernel_rfl) (by kernel_rfl) (by kernel_rfl) (by kernel_rfl)];have hp:(parts (IC b)).run Tryz.prog w= .ok (some (98,⟨b,0,none⟩,150)) w:=by kernel_rfl
 have ha:(isAgg 98).run Tryz.prog w= .ok false w:=by kernel_rfl
 have hl:(loadVar 98 ⟨b,0,none⟩).run Tryz.prog w= .ok (.pointer (some ⟨r,0,none⟩)) w:=by simp [loadVar,ha,run_load,hc]
 have he:(Extern.Rtype.elem? 98).run Tryz.prog w= .ok (some 96) w:=by kernel_rfl
 have hm:(mk 96 ⟨r,0,none⟩ flagAddr).run Tryz.prog w= .ok (CT r) w:=by kernel_rfl
 show ((do match ← parts (IC b) with | none => valueError "reflectlite.Value.Elem" 0 | some (t, a, fl) => elem t a fl (fl % 32) : Sem Value).run Tryz.prog w).andThen _ = _;simp [hp,elem,hl,he,hm]
open Extern.ReflectliteValue in
theorem xx (b r p:Nat) (w:World) (hc:w.cell? ⟨b,0,none⟩=some (.pointer (some ⟨p,0,none⟩))) (hr:w.cell? ⟨r,0,none⟩=some (.pointer none)) (hzr:w.frozen? ⟨r,0,none⟩=false):(callFunc 211 #[CT r,Bm b]).run Tryz.prog w= .ok (.value (.tuple #[])) (w.setCell ⟨r,0,none⟩ (.pointer (some ⟨p,0,none⟩))):=by
 rw [@run_callFunc_extern Tryz.prog 211 _ Extern.ReflectliteValue.set Tryz.func211 (by kernel_rfl) (by kernel_rfl) (by kernel_rfl) (by kernel_rfl)];have hp:(parts (CT r)).run Tryz.prog w= .ok (some (96,⟨r,0,none⟩,406)) w:=by kernel_rfl
 have hq:(parts (Bm b)).run Tryz.prog w= .ok (some (96,⟨b,0,none⟩,150)) w:=by kernel_rfl
 have ha:(isAgg 96).run Tryz.prog w= .ok false w:=by kernel_rfl
 have hl:(loadVar 96 ⟨b,0,none⟩).run Tryz.prog w= .ok (.pointer (some ⟨p,0,none⟩)) w:=by simp [loadVar,ha,run_load,hc]
 have hd:(Extern.Rtype.directlyAssignable 96 96).run Tryz.prog w= .ok true w:=by kernel_rfl
 have hs:(storeVar 96 ⟨r,0,none⟩ (.pointer (some ⟨p,0,none⟩))).run Tryz.prog w= .ok () (w.setCell ⟨r,0,none⟩ (.pointer (some ⟨p,0,none⟩))):=by
  have hz:(sizeOf 96).run Tryz.prog w= .ok 1 w:=by kernel_rfl
  simp [storeVar,hz,storeCells,Value.cells];show (store ⟨r,0,none⟩ (.pointer (some ⟨p,0,none⟩))).run Tryz.prog w=_;rw [run_store _ _ _ _ _ rfl,hr];simp [hzr]
 have h0:(Extern.ReflectliteValue.set #[CT r,Bm b]).run Tryz.prog w= .ok (.tuple #[]) (w.setCell ⟨r,0,none⟩ (.pointer (some ⟨p,0,none⟩))):=by
  unfold Extern.ReflectliteValue.set;show Sem.run Tryz.prog (parts (CT r) >>=_) w=_;rw [Sem.run_bind,hp];simp only [Result.andThen_ok];show Sem.run Tryz.prog (parts (Bm b) >>=_) w=_;rw [Sem.run_bind,hq];simp only [Result.andThen_ok];simp [hl,hd,hs,flagAddr]
 rw [h0];rfl
theorem xK (v:Value) (w:World):Calls Tryz.prog 92 #[.nilIface,v] w fun e w'=>e= .returned (.bool false)/\w'=w:=by
 go_enter Tryz.func92,Tryz.ntmps92
 go_wp2
 go_ret;exact ⟨rfl,rfl⟩
abbrev asW (b:Nat) (w:World):World:=(w.alloc (.cells #[.pointer (some ⟨b,0,none⟩)] 98)).alloc (.cells #[.pointer (some ⟨6,98,none⟩),.pointer (some ⟨w.heap.size,0,none⟩),.int .u64 150] 144)
theorem FE (b:Nat) (w:World):(asW b w).cell? ⟨w.heap.size,0,none⟩=some (.pointer (some ⟨b,0,none⟩)):=by go_simp
theorem QJ (b:Nat) (w:World):Below w.heap.size w (asW b w):=((ba _ _)).alloc (by simp) _
theorem xy (a:Addr) (b:Nat) (w:World) (hT:w.cell? ⟨5,0,none⟩=some (rty 62)):Calls Tryz.prog 92 #[YA a,tgt b] w fun e w'=>e= .returned (.bool false)/\Below w.heap.size w w':=by
 have h1:=xI;have h2:=yK;have h3:=yE;have h4:=yz;have h5:=yA;have h6:=yC;have h7:=yu;have h8:=yD;have h9:=yx;have h10:=xH w.heap.size ⟨b,0,none⟩ (asW b w) (FE b w);have hT2:(asW b w).cell? ⟨5,0,none⟩=some (rty 62):=((QJ b w).cell (World.block_lt_of_cell? _ _ hT)).trans hT;have t1:=tyE;have t2:=yB;have t3:=xz;have t4:=xD;have uE:=OR;have vE:=Qd;go_enter Tryz.func92,Tryz.ntmps92
 go_wp2
 refine wp_loop_rounds 1 ?_;rw [rounds_succ]
 go_wp2
 go_ret;exact ⟨rfl,((QJ b w).alloc (by simp;omega) _)⟩
theorem BA {n:Nat} {w W:World} {b:Nat} {v:Value} (h:Below n w W) (hn:n<=b):Below n w (W.setCell ⟨b,0,none⟩ v):=YF h hn v
abbrev asX (b:Nat) (w:World):World:=(asW b w).alloc (.cells #[.pointer (some ⟨6,98,none⟩),.pointer (some ⟨w.heap.size,0,none⟩),.int .u64 150] 144)
abbrev asY (b p:Nat) (w:World):World:=(asX b w).alloc (.cells #[.pointer (some ⟨p,0,none⟩)] 96)
theorem zz (b:Nat) (w:World):(asX b w).cell? ⟨w.heap.size,0,none⟩=some (.pointer (some ⟨b,0,none⟩)):=by go_simp
theorem zA (b:Nat) (w:World):(asX b w).heap.size=w.heap.size+1+1+1:=by simp
theorem zB (b p:Nat) (w:World):(asY b p w).cell? ⟨w.heap.size+1+1+1,0,none⟩=some (.pointer (some ⟨p,0,none⟩)):=by go_simp
theorem Oz (b p:Nat) (w:World):Below w.heap.size w (asY b p w):=((QJ b w).alloc (by simp;omega) _).alloc (by simp;omega) _
theorem xL (b p:Nat) (w:World) (hT:w.cell? ⟨5,0,none⟩=some (rty 62)) (hb:w.cell? ⟨b,0,none⟩=some (.pointer none)) (hz:w.frozen? ⟨b,0,none⟩=false):Calls Tryz.prog 92 #[OY p,tgt b] w fun e w'=>e= .returned (.bool true)/\w'.cell? ⟨b,0,none⟩=some (.pointer (some ⟨p,0,none⟩))/\ ∀ n,n<=b->n<=w.heap.size->Below n w w':=by
 have h1:=xI;have h2:=yK;have h3:=yE;have h4:=yz;have h5:=yA;have h6:=yC;have h7:=yu;have h8:=yD;have h9:=yx;have h10:=xH w.heap.size ⟨b,0,none⟩ (asW b w) (FE b w);have hT2:(asW b w).cell? ⟨5,0,none⟩=some (rty 62):=((QJ b w).cell (World.block_lt_of_cell? _ _ hT)).trans hT;have t1:=tyR;have t2:=yB;have t3:=xA;have k1:=xw p (asX b w);rw [zA] at k1;have k2:=xG w.heap.size b (asX b w) (zz b w);have hlt:=World.block_lt_of_cell? _ _ hb;have hb2:(asY b p w).cell? ⟨b,0,none⟩=some (.pointer none):=((Oz b p w).cell hlt).trans hb;have hz2:(asY b p w).frozen? ⟨b,0,none⟩=false:=((Oz b p w).frozen hlt).trans hz;have k3:=xx (w.heap.size+1+1+1) b p (asY b p w) (zB b p w) hb2 hz2;go_enter Tryz.func92,Tryz.ntmps92
 go_wp2
 refine wp_loop_rounds 1 ?_;rw [rounds_succ]
 go_wp2
 go_ret;exact ⟨rfl,World.cell?_setCell_same _ _ _ hb2,fun n hn hnw=>BA ((Oz b p w).mono hnw) hn⟩
end Go.Proofs.YtamgfpdahadnfaaGreatDoor
