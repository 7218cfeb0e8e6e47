/- Part 4 of what the proof rests on. No condition but those that a theorem names. -/
import Derived.Test.YtgdpaigcmoifbaaGreatDoorXr01
import Derived.LaidEql
import Derived.Stop.Asserts
import Derived.RowKitTokens
import Derived.Below
namespace Go.Proofs.YtgdpaigcmoifbaaGreatDoor
open Go.ChangeShapes Go.WideShapes Go.ChangeAt Go.RowKit Go.Proofs.Tryz
set_option linter.unusedVariables false
theorem US (s:Int) (w:World):cE 223 #[.int .i64 s] w (.bool (inB s 0 255)):=by
 by_cases h1:0<=s
 ·by_cases h2:s<=255
  all_goals
   go_enter func223,ntmps223
   go_wp2
   go_ret;exact ⟨Z5 (by first | exact (Zf h1 h2).symm | exact (Xt (by omega)).symm),rfl⟩
 ·go_enter func223,ntmps223
  go_wp2
  go_ret;exact ⟨Z5 (Xt (by omega)).symm,rfl⟩
theorem V2 (i:Int) (w:World):cE 209 #[.int .i64 i] w (.bool (inB i 0 7)):=by
 by_cases h1:0<=i
 ·by_cases h2:i<8
  all_goals
   go_enter func209,ntmps209
   go_wp2
   go_ret;exact ⟨Z5 (by first | exact (Zf h1 (by omega)).symm | exact (Xt (by omega)).symm),rfl⟩
 ·go_enter func209,ntmps209
  go_wp2
  go_ret;exact ⟨Z5 (Xt (by omega)).symm,rfl⟩
def UQ (s i:Int):Bool:=decide (s / 2 ^ i.toNat%2=1)
def VW (s i:Int):Bool:=inB s 0 255 && inB i 0 7 && UQ s i
theorem Eb (n:Int):bits .and .i64 n 1=n%2:=by
 have h1:(BitVec.ofInt 64 1).toNat=2 ^ 1-1:=by decide
 have key:(BitVec.ofInt 64 n &&& BitVec.ofInt 64 1).toNat=(n%((2 ^ 64:Nat):Int)).toNat%2 ^ 1:=by
  rw [BitVec.toNat_and,BitVec.toNat_ofInt,h1,Nat.and_two_pow_sub_one_eq_mod]
 show IntKind.i64.wrap ((BitVec.ofInt 64 n &&& BitVec.ofInt 64 1).toNat:Nat)=n%2;rw [key,IntKind.wrap_i64];omega
theorem DS (s i:Int):(bits .and .i64 (s / 2 ^ i.toNat) 1 ==1)=UQ s i:=by rw [Eb];unfold UQ;rfl
theorem Ix {s i:Int} (h:inB s 0 255=false\/inB i 0 7=false):VW s i=false:=by unfold VW;rcases h with h | h<;>simp [h]
theorem Eo {s i:Int} (hs:inB s 0 255=true) (hi:inB i 0 7=true):VW s i=UQ s i:=by unfold VW;simp [hs,hi]
theorem MV (s i:Int) (w:World) (hs:0<=s) (hs2:s<=255) (hi:0<=i) (hi2:i<=7):cE 101 #[.int .i64 s,.int .i64 i] w (.bool (UQ s i)):=by
 go_enter func101,ntmps101
 go_wp2
 go_ret;exact ⟨Z5 (DS s i),rfl⟩
theorem Wf (s i:Int) (w:World):cE 195 #[.int .i64 s,.int .i64 i] w (.bool (VW s i)):=by
 by_cases hb:inB s 0 255=true
 ·obtain ⟨hs,hs2⟩:=ZO hb
  by_cases hc:inB i 0 7=true
  ·obtain ⟨hi,hi2⟩:=ZO hc
   go_enter func195,ntmps195;go_wp2_with (first | (go_at_call 223;refine (US _ _).mono ?_;rintro e w' ⟨rfl,rfl⟩) | (go_at_call 209;refine (V2 _ _).mono ?_;rintro e w' ⟨rfl,rfl⟩))
   go_ret;exact ⟨Z5 ((DS s i).trans (Eo hb hc).symm),rfl⟩
  ·have hc':inB i 0 7=false:=by simpa using hc
   go_enter func195,ntmps195;go_wp2_with (first | (go_at_call 223;refine (US _ _).mono ?_;rintro e w' ⟨rfl,rfl⟩) | (go_at_call 209;refine (V2 _ _).mono ?_;rintro e w' ⟨rfl,rfl⟩))
   go_ret;exact ⟨Z5 (Ix (.inr hc')).symm,rfl⟩
 ·have hb':inB s 0 255=false:=by simpa using hb
  go_enter func195,ntmps195;go_wp2_with (first | (go_at_call 223;refine (US _ _).mono ?_;rintro e w' ⟨rfl,rfl⟩) | (go_at_call 209;refine (V2 _ _).mono ?_;rintro e w' ⟨rfl,rfl⟩))
  go_ret;exact ⟨Z5 (Ix (.inl hb')).symm,rfl⟩
set_option linter.unusedSimpArgs false
abbrev Xx (a:Addr):Value:= .iface 290 (.pointer (some a))
abbrev QW (b:Nat):Value:= .iface 104 (.pointer (some ⟨b,0,none⟩))
abbrev rty (t:Nat):Value:= .iface 184 (.agg #[.pointer (some ⟨6,t,none⟩)])
theorem tyE (v:Value) (w:World):(callFunc 157 #[.iface 290 v]).run prog w= .ok (.value (rty 290)) w:=by
 rw [@run_callFunc_extern prog 157 _ Extern.ReflectliteType.typeOf func157 (by kernel_rfl) (by kernel_rfl) (by kernel_rfl) (by kernel_rfl)]
 kernel_rfl
theorem tyR (v:Value) (w:World):(callFunc 157 #[.iface 104 v]).run prog w= .ok (.value (rty 104)) w:=by
 rw [@run_callFunc_extern prog 157 _ Extern.ReflectliteType.typeOf func157 (by kernel_rfl) (by kernel_rfl) (by kernel_rfl) (by kernel_rfl)]
 kernel_rfl
theorem CD (v : Value) (w : World) : (method 430 184 v "Comparable").run prog w = .ok (313, v) w := by kernel_rfl
theorem Cv (w:World):(callFunc 313 #[.agg #[.pointer (some ⟨6,290,none⟩)]]).run prog w= .ok (.value (.bool true)) w:=by
 rw [@run_callFunc_extern prog 313 _ (Extern.ReflectliteType.method fun t => do Extern.Rtype.noPackHeld "Comparable" t; pure (.bool (← typeInfo t).comparable)) func313 (by kernel_rfl) (by kernel_rfl) (by kernel_rfl) (by kernel_rfl)]
 kernel_rfl
theorem Ii:(prog.info? 290).map (·.comparable)=some true:=by kernel_rfl
theorem Ij:(prog.info? 317).map (·.size)=some 1:=by kernel_rfl
theorem C9 (v:Value) (xT:TypeId) (w:World):(Instr.typeAssert (.iface 290 v) xT 220 true).run prog w= .ok (.tuple #[.nilIface,.bool false]) w:=run_typeAssert_lacksB underlying220 (by kernel_rfl) (by kernel_rfl) v xT w
theorem QR (v:Value) (xT:TypeId) (w:World):(Instr.typeAssert (.iface 290 v) xT 192 true).run prog w= .ok (.tuple #[.nilIface,.bool false]) w:=run_typeAssert_lacksB underlying192 (by kernel_rfl) (by kernel_rfl) v xT w
theorem RW (v:Value) (xT:TypeId) (w:World):(Instr.typeAssert (.iface 290 v) xT 194 true).run prog w= .ok (.tuple #[.nilIface,.bool false]) w:=run_typeAssert_lacksB underlying194 (by kernel_rfl) (by kernel_rfl) v xT w
theorem Da (v:Value) (xT:TypeId) (w:World):(Instr.typeAssert (.iface 104 v) xT 220 true).run prog w= .ok (.tuple #[.nilIface,.bool false]) w:=run_typeAssert_lacksB underlying220 (by kernel_rfl) (by kernel_rfl) v xT w
theorem Ot (v:Value) (xT:TypeId) (w:World):(Instr.typeAssert (.iface 104 v) xT 192 true).run prog w= .ok (.tuple #[.iface 104 v,.bool true]) w:=run_typeAssert_hasB underlying192 (by kernel_rfl) v xT w
theorem GA (v : Value) (w : World) : (method 430 104 v "Unwrap").run prog w = .ok (301, v) w := by kernel_rfl
theorem Rm {a b:Addr} {ca cb:Array Value} {ta tb:TypeId} (w:World) (hne:a ≠ b) (ha:w.heap[a.block]?=some (.cells ca ta (0,0))) (hb:w.heap[b.block]?=some (.cells cb tb (0,0))):cE 122 #[Xx a,Xx b] w (.bool false):=by
 obtain ⟨i,hi,hcmp⟩:=Option.map_eq_some_iff.1 Ii;obtain ⟨j,hj,hjs⟩:=Option.map_eq_some_iff.1 Ij;have tT:=tyE;have cT:=Cv;have mR:=CD;have nE:=C9;have uE:=QR;have vE:=RW;have heq:=run_eql_iface_ptr_other (P:=prog) w underlying69 underlying290 hi hcmp hj (by rw [hjs];decide) hne ha hb;go_enter func122,ntmps122
 go_wp2
 refine wp_loop_rounds 1 ?_;rw [rounds_succ]
 go_wp2
 go_ret;exact ⟨rfl,rfl⟩
theorem VB (pb:Nat) (b:Addr) (w:World) (h1:w.cell? ⟨pb,6,none⟩=some (Xx b)):cE 122 #[QW pb,Xx b] w (.bool true):=by
 obtain ⟨i,hi,hcmp⟩:=Option.map_eq_some_iff.1 Ii;obtain ⟨j,hj,hjs⟩:=Option.map_eq_some_iff.1 Ij;have tT:=tyE;have cT:=Cv;have mR:=CD;have nW:=Da;have uW:=Ot;have mU:=GA;have heq:=run_eql_iface_ptr_same (P:=prog) w b underlying69 underlying290 hi hcmp hj;have hty:=run_eql_iface_types (P:=prog) 104 290 (.pointer (some ⟨pb,0,none⟩)) (.pointer (some b)) underlying69 (by decide) w;go_enter func122,ntmps122
 go_wp2
 refine wp_loop_rounds 2 ?_;rw [rounds_succ]
 go_wp2
 rw [rounds_succ]
 go_wp2
 go_ret;exact ⟨rfl,rfl⟩
theorem Y6 (pb:Nat) {a b:Addr} {ca cb:Array Value} {ta tb:TypeId} (w:World) (h1:w.cell? ⟨pb,6,none⟩=some (Xx a)) (hne:a ≠ b) (ha:w.heap[a.block]?=some (.cells ca ta (0,0))) (hb:w.heap[b.block]?=some (.cells cb tb (0,0))):cE 122 #[QW pb,Xx b] w (.bool false):=by
 obtain ⟨i,hi,hcmp⟩:=Option.map_eq_some_iff.1 Ii;obtain ⟨j,hj,hjs⟩:=Option.map_eq_some_iff.1 Ij;have tT:=tyE;have cT:=Cv;have mR:=CD;have nE:=C9;have uE:=QR;have vE:=RW;have nW:=Da;have uW:=Ot;have mU:=GA;have heq:=run_eql_iface_ptr_other (P:=prog) w underlying69 underlying290 hi hcmp hj (by rw [hjs];decide) hne ha hb;have hty:=run_eql_iface_types (P:=prog) 104 290 (.pointer (some ⟨pb,0,none⟩)) (.pointer (some b)) underlying69 (by decide) w;go_enter func122,ntmps122
 go_wp2
 refine wp_loop_rounds 2 ?_;rw [rounds_succ]
 go_wp2
 rw [rounds_succ]
 go_wp2
 go_ret;exact ⟨rfl,rfl⟩
end Go.Proofs.YtgdpaigcmoifbaaGreatDoor
