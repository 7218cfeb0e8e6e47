/- Part 19 of what the proof rests on. No condition but those that a theorem names. -/
import Derived.Test.YtgdpaigcmoifbaaGreatDoorXr04
set_option maxHeartbeats 8000000
set_option maxRecDepth 100000
namespace Go.Proofs.YtgdpaigcmoifbaaGreatDoor
open Go.ChangeShapes Go.WideShapes Go.ChangeAt Go.RowKit Go.Proofs.Tryz
set_option linter.unusedVariables false
set_option linter.unusedSimpArgs false
abbrev tgt (b:Nat):Value:= .iface 106 (.pointer (some ⟨b,0,none⟩))
abbrev Lk (b:Nat):Value:= .agg #[.pointer (some ⟨6,106,none⟩),.pointer (some ⟨b,0,none⟩),.int .u64 150]
abbrev Ge (b:Nat):Value:= .agg #[.pointer (some ⟨6,104,none⟩),.pointer (some ⟨b,0,none⟩),.int .u64 406]
abbrev E8 (b:Nat):Value:= .agg #[.pointer (some ⟨6,104,none⟩),.pointer (some ⟨b,0,none⟩),.int .u64 150]
open Extern.ReflectliteValue in
theorem Cn (b:Nat) (w:World):(callFunc 118 #[tgt b]).run prog w= .ok (.value (Lk w.heap.size)) (w.alloc (.cells #[.pointer (some ⟨b,0,none⟩)] 106)):=by
 rw [@run_callFunc_extern prog 118 _ (fun args=>unpack (args.getD 0 (.tuple #[]))) func118 (by kernel_rfl) (by kernel_rfl) (by kernel_rfl) (by kernel_rfl)]
 kernel_rfl
open Extern.ReflectliteValue in
theorem B7 (b:Nat) (w:World):(callFunc 118 #[QW b]).run prog w= .ok (.value (E8 w.heap.size)) (w.alloc (.cells #[.pointer (some ⟨b,0,none⟩)] 104)):=by
 rw [@run_callFunc_extern prog 118 _ (fun args=>unpack (args.getD 0 (.tuple #[]))) func118 (by kernel_rfl) (by kernel_rfl) (by kernel_rfl) (by kernel_rfl)]
 kernel_rfl
open Extern.ReflectliteValue in
theorem De (b:Nat) (w:World):(callFunc 119 #[Lk b]).run prog w= .ok (.value (rty 106)) w:=by
 rw [@run_callFunc_extern prog 119 _ (methodAny (valueError "reflectlite.Value.Type" 0) fun t _ _ _ => Extern.ReflectliteType.toType t) func119 (by kernel_rfl) (by kernel_rfl) (by kernel_rfl) (by kernel_rfl)]
 kernel_rfl
theorem C7 (p : Value) (w : World) : (method 430 184 (.agg #[p]) "Kind").run prog w = .ok (296, p) w := by kernel_rfl
theorem C5 (v : Value) (w : World) : (method 430 184 v "Elem").run prog w = .ok (314, v) w := by kernel_rfl
theorem C6 (v : Value) (w : World) : (method 430 184 v "Implements").run prog w = .ok (315, v) w := by kernel_rfl
theorem C4 (v : Value) (w : World) : (method 430 184 v "AssignableTo").run prog w = .ok (312, v) w := by kernel_rfl
theorem CZ (w:World):(callFunc 296 #[.pointer (some ⟨6,106,none⟩)]).run prog w= .ok (.value (.int .u8 22)) w:=by
 rw [@run_callFunc_extern prog 296 _ (Extern.ReflectliteType.abiMethod fun t=>do pure (.int .u8 (<-Extern.Rtype.kind t))) func296 (by kernel_rfl) (by kernel_rfl) (by kernel_rfl) (by kernel_rfl)]
 kernel_rfl
theorem C0 (w:World):(callFunc 296 #[.pointer (some ⟨6,104,none⟩)]).run prog w= .ok (.value (.int .u8 22)) w:=by
 rw [@run_callFunc_extern prog 296 _ (Extern.ReflectliteType.abiMethod fun t=>do pure (.int .u8 (<-Extern.Rtype.kind t))) func296 (by kernel_rfl) (by kernel_rfl) (by kernel_rfl) (by kernel_rfl)]
 kernel_rfl
theorem CU (w:World):(callFunc 314 #[.agg #[.pointer (some ⟨6,106,none⟩)]]).run prog w= .ok (.value (rty 104)) w:=by
 rw [@run_callFunc_extern prog 314 _ (Extern.ReflectliteType.method Extern.ReflectliteType.elem) func314 (by kernel_rfl) (by kernel_rfl) (by kernel_rfl) (by kernel_rfl)]
 kernel_rfl
theorem CY (w:World):(callFunc 315 #[.agg #[.pointer (some ⟨6,104,none⟩)],rty 69]).run prog w= .ok (.value (.bool true)) w:=by
 rw [@run_callFunc_extern prog 315 _ (Extern.ReflectliteType.relation "Implements" Extern.ReflectliteType.implements_) func315 (by kernel_rfl) (by kernel_rfl) (by kernel_rfl) (by kernel_rfl)]
 kernel_rfl
theorem Cb (w:World):(callFunc 312 #[.agg #[.pointer (some ⟨6,290,none⟩)],rty 104]).run prog w= .ok (.value (.bool false)) w:=by
 rw [@run_callFunc_extern prog 312 _ (Extern.ReflectliteType.relation "AssignableTo" Extern.ReflectliteType.assignableTo) func312 (by kernel_rfl) (by kernel_rfl) (by kernel_rfl) (by kernel_rfl)]
 kernel_rfl
theorem Cc (w:World):(callFunc 312 #[.agg #[.pointer (some ⟨6,104,none⟩)],rty 104]).run prog w= .ok (.value (.bool true)) w:=by
 rw [@run_callFunc_extern prog 312 _ (Extern.ReflectliteType.relation "AssignableTo" Extern.ReflectliteType.assignableTo) func312 (by kernel_rfl) (by kernel_rfl) (by kernel_rfl) (by kernel_rfl)]
 kernel_rfl
theorem Ch (v:Value) (xT:TypeId) (w:World):(Instr.typeAssert (.iface 290 v) xT 189 true).run prog w= .ok (.tuple #[.nilIface,.bool false]) w:=run_typeAssert_lacksB underlying189 (by kernel_rfl) (by kernel_rfl) v xT w
open Extern.ReflectliteValue in
theorem Cm (b:Nat) (x:Addr) (w:World) (hc:w.cell? ⟨b,0,none⟩=some (.pointer (some x))):(callFunc 120 #[Lk b]).run prog w= .ok (.value (.bool false)) w:=by
 rw [@run_callFunc_extern prog 120 _ (Extern.ReflectliteValue.method (valueError "reflectlite.Value.IsNil" 0) isNil) func120 (by kernel_rfl) (by kernel_rfl) (by kernel_rfl) (by kernel_rfl)];have hp:(parts (Lk b)).run prog w= .ok (some (106,⟨b,0,none⟩,150)) w:=by kernel_rfl
 have ha:(isAgg 106).run prog w= .ok false w:=by kernel_rfl
 have hl:(loadVar 106 ⟨b,0,none⟩).run prog w= .ok (.pointer (some x)) w:=by simp [loadVar,ha,run_load,hc]
 show ((do match ← parts (Lk b) with | none => valueError "reflectlite.Value.IsNil" 0 | some (t, a, fl) => isNil t a fl (fl % 32) : Sem Value).run prog w).andThen _ = _;simp [hp,isNil,hl]
open Extern.ReflectliteValue in
theorem Cl (b r:Nat) (w:World) (hc:w.cell? ⟨b,0,none⟩=some (.pointer (some ⟨r,0,none⟩))):(callFunc 158 #[Lk b]).run prog w= .ok (.value (Ge r)) w:=by
 rw [@run_callFunc_extern prog 158 _ (Extern.ReflectliteValue.method (valueError "reflectlite.Value.Elem" 0) elem) func158 (by kernel_rfl) (by kernel_rfl) (by kernel_rfl) (by kernel_rfl)];have hp:(parts (Lk b)).run prog w= .ok (some (106,⟨b,0,none⟩,150)) w:=by kernel_rfl
 have ha:(isAgg 106).run prog w= .ok false w:=by kernel_rfl
 have hl:(loadVar 106 ⟨b,0,none⟩).run prog w= .ok (.pointer (some ⟨r,0,none⟩)) w:=by simp [loadVar,ha,run_load,hc]
 have he:(Extern.Rtype.elem? 106).run prog w= .ok (some 104) w:=by kernel_rfl
 have hm:(mk 104 ⟨r,0,none⟩ flagAddr).run prog w= .ok (Ge r) w:=by kernel_rfl
 show ((do match ← parts (Lk b) with | none => valueError "reflectlite.Value.Elem" 0 | some (t, a, fl) => elem t a fl (fl % 32) : Sem Value).run prog w).andThen _ = _;simp [hp,elem,hl,he,hm]
open Extern.ReflectliteValue in
theorem B8 (b r p:Nat) (w:World) (hc:w.cell? ⟨b,0,none⟩=some (.pointer (some ⟨p,0,none⟩))) (hr:w.cell? ⟨r,0,none⟩=some (.pointer none)) (hzr:w.frozen? ⟨r,0,none⟩=false):(callFunc 159 #[Ge r,E8 b]).run prog w= .ok (.value (.tuple #[])) (w.setCell ⟨r,0,none⟩ (.pointer (some ⟨p,0,none⟩))):=by
 rw [@run_callFunc_extern prog 159 _ Extern.ReflectliteValue.set func159 (by kernel_rfl) (by kernel_rfl) (by kernel_rfl) (by kernel_rfl)];have hp:(parts (Ge r)).run prog w= .ok (some (104,⟨r,0,none⟩,406)) w:=by kernel_rfl
 have hq:(parts (E8 b)).run prog w= .ok (some (104,⟨b,0,none⟩,150)) w:=by kernel_rfl
 have ha:(isAgg 104).run prog w= .ok false w:=by kernel_rfl
 have hl:(loadVar 104 ⟨b,0,none⟩).run prog w= .ok (.pointer (some ⟨p,0,none⟩)) w:=by simp [loadVar,ha,run_load,hc]
 have hd:(Extern.Rtype.directlyAssignable 104 104).run prog w= .ok true w:=by kernel_rfl
 have hs:(storeVar 104 ⟨r,0,none⟩ (.pointer (some ⟨p,0,none⟩))).run prog w= .ok () (w.setCell ⟨r,0,none⟩ (.pointer (some ⟨p,0,none⟩))):=by
  have hz:(sizeOf 104).run prog w= .ok 1 w:=by kernel_rfl
  simp [storeVar,hz,storeCells,Value.cells];show (store ⟨r,0,none⟩ (.pointer (some ⟨p,0,none⟩))).run prog w=_;rw [run_store _ _ _ _ _ rfl,hr];simp [hzr]
 have h0:(Extern.ReflectliteValue.set #[Ge r,E8 b]).run prog w= .ok (.tuple #[]) (w.setCell ⟨r,0,none⟩ (.pointer (some ⟨p,0,none⟩))):=by
  unfold Extern.ReflectliteValue.set;show Sem.run prog (parts (Ge r) >>=_) w=_;rw [Sem.run_bind,hp];simp only [Result.andThen_ok];show Sem.run prog (parts (E8 b) >>=_) w=_;rw [Sem.run_bind,hq];simp only [Result.andThen_ok];simp [hl,hd,hs,flagAddr]
 rw [h0];rfl
theorem Cq (v:Value) (w:World):cE 76 #[.nilIface,v] w (.bool false):=by
 go_enter func76,ntmps76
 go_wp2
 go_ret;exact ⟨rfl,rfl⟩
abbrev asW (b:Nat) (w:World):World:=(w.alloc (.cells #[.pointer (some ⟨b,0,none⟩)] 106)).alloc (.cells #[.pointer (some ⟨6,106,none⟩),.pointer (some ⟨w.heap.size,0,none⟩),.int .u64 150] 143)
theorem Jn (b:Nat) (w:World):(asW b w).cell? ⟨w.heap.size,0,none⟩=some (.pointer (some ⟨b,0,none⟩)):=by go_simp
theorem Ss (b:Nat) (w:World):Below w.heap.size w (asW b w):=((ba _ _)).alloc (by simp) _
theorem Ca (a:Addr) (b:Nat) (w:World) (hT:w.cell? ⟨4,0,none⟩=some (rty 69)):cB 76 #[Xx a,tgt b] w (.bool false):=by
 have h1:=Cn;have h2:=De;have h3:=C7;have h4:=CZ;have h5:=C0;have h6:=C5;have h7:=CU;have h8:=C6;have h9:=CY;have h10:=Cm w.heap.size ⟨b,0,none⟩ (asW b w) (Jn b w);have hT2:(asW b w).cell? ⟨4,0,none⟩=some (rty 69):=((Ss b w).cell (World.block_lt_of_cell? _ _ hT)).trans hT;have t1:=tyE;have t2:=C4;have t3:=Cb;have t4:=Ch;have uE:=QR;have vE:=RW;go_enter func76,ntmps76
 go_wp2
 refine wp_loop_rounds 1 ?_;rw [rounds_succ]
 go_wp2
 go_ret;exact ⟨rfl,((Ss b w).alloc (by simp;omega) _)⟩
theorem Fi {n:Nat} {w W:World} {b:Nat} {v:Value} (h:Below n w W) (hn:n<=b):Below n w (W.setCell ⟨b,0,none⟩ v):=VZ h hn v
abbrev asX (b:Nat) (w:World):World:=(asW b w).alloc (.cells #[.pointer (some ⟨6,106,none⟩),.pointer (some ⟨w.heap.size,0,none⟩),.int .u64 150] 143)
abbrev asY (b p:Nat) (w:World):World:=(asX b w).alloc (.cells #[.pointer (some ⟨p,0,none⟩)] 104)
theorem DO (b:Nat) (w:World):(asX b w).cell? ⟨w.heap.size,0,none⟩=some (.pointer (some ⟨b,0,none⟩)):=by go_simp
theorem DP (b:Nat) (w:World):(asX b w).heap.size=w.heap.size+1+1+1:=by simp
theorem DQ (b p:Nat) (w:World):(asY b p w).cell? ⟨w.heap.size+1+1+1,0,none⟩=some (.pointer (some ⟨p,0,none⟩)):=by go_simp
theorem Qy (b p:Nat) (w:World):Below w.heap.size w (asY b p w):=((Ss b w).alloc (by simp;omega) _).alloc (by simp;omega) _
theorem Cr (b p:Nat) (w:World) (hT:w.cell? ⟨4,0,none⟩=some (rty 69)) (hb:w.cell? ⟨b,0,none⟩=some (.pointer none)) (hz:w.frozen? ⟨b,0,none⟩=false):Calls prog 76 #[QW p,tgt b] w fun e w'=>e= .returned (.bool true)/\w'.cell? ⟨b,0,none⟩=some (.pointer (some ⟨p,0,none⟩))/\ ∀ n,n<=b->n<=w.heap.size->Below n w w':=by
 have h1:=Cn;have h2:=De;have h3:=C7;have h4:=CZ;have h5:=C0;have h6:=C5;have h7:=CU;have h8:=C6;have h9:=CY;have h10:=Cm w.heap.size ⟨b,0,none⟩ (asW b w) (Jn b w);have hT2:(asW b w).cell? ⟨4,0,none⟩=some (rty 69):=((Ss b w).cell (World.block_lt_of_cell? _ _ hT)).trans hT;have t1:=tyR;have t2:=C4;have t3:=Cc;have k1:=B7 p (asX b w);rw [DP] at k1;have k2:=Cl w.heap.size b (asX b w) (DO b w);have hlt:=World.block_lt_of_cell? _ _ hb;have hb2:(asY b p w).cell? ⟨b,0,none⟩=some (.pointer none):=((Qy b p w).cell hlt).trans hb;have hz2:(asY b p w).frozen? ⟨b,0,none⟩=false:=((Qy b p w).frozen hlt).trans hz;have k3:=B8 (w.heap.size+1+1+1) b p (asY b p w) (DQ b p w) hb2 hz2;go_enter func76,ntmps76
 go_wp2
 refine wp_loop_rounds 1 ?_;rw [rounds_succ]
 go_wp2
 go_ret;exact ⟨rfl,World.cell?_setCell_same _ _ _ hb2,fun n hn hnw=>Fi ((Qy b p w).mono hnw) hn⟩
end Go.Proofs.YtgdpaigcmoifbaaGreatDoor
