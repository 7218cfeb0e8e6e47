/- Part 1 of what the proof rests on. No condition but those that a theorem names. -/
import Derived.Test.YtamgfpdahadnfaaGreatDoorRows
import Derived.Test.YtamgfpdahadnfaaGreatDoorTie
import Derived.KernelRfl
import Derived.SevenTiedAt
import Derived.Test.YtamgfpdahadnfaaGreatDoorChecked
import GoSem.Claim
import GoSem.ClaimJoined
import GoSem.ClaimMapViews
import Derived.JoinedTies
import Derived.RowKit
import Derived.WalkKit
import Derived.ProofKit
import Derived.OpenShut
import Derived.Outline
import Derived.Lib.QuietBelow
import Derived.LaidEql
import Derived.Stop.Asserts
import Derived.RowKitTokens
import Derived.Below
import Derived.Deep.QuietTactic
import Derived.BigQuiet
import Derived.Laws.OwnMore
import Derived.OwnWalk
import Derived.Maps.AppendAt
import Derived.Lib.SmallJoins
set_option maxHeartbeats 8000000
set_option maxRecDepth 100000
namespace Go.Proofs.YtamgfpdahadnfaaGreatDoor
open Go
theorem xZ : Tryz.pinned.checked.prog.mainIs = some (true, "2497011163f39bcfcc7d2aec09398a703f526d3afba5bc583a669a9c70e20489".toList) := by kernel_rfl
theorem ze:true=Tryz.pinned.checked.prog.looks []:=by kernel_rfl
theorem AB:(Tryz.prog.funcs.toList.any Func.goes)=false:=by kernel_rfl
theorem zc (f:FuncId):Tryz.prog.goes f=false:=by
 have h:∀ fn ∈ Tryz.prog.funcs.toList,Func.goes fn=false:=fun fn hf=>by
  have:=List.any_eq_false.1 AB fn hf;simpa using this
 have hg:∀ g:FuncId,(Tryz.prog.funcs[g]?).any Func.goes=false:=fun g=>by
  cases hx:Tryz.prog.funcs[g]? with
  | none=>rfl
  | some fn=>exact h fn (by simpa using Array.mem_of_getElem? hx)
 unfold Program.goes;simp [hg];intro _ i hi;exact h _ (by simp)
theorem xY (c:OpenClaim) (hc:c.start= .entering):false=c.goesBy Tryz.pinned.checked.prog:=by
 show false=c.goesBy Tryz.prog;unfold OpenClaim.goesBy Program.goesAt Program.goesFrom;rw [hc];cases Tryz.prog.funcNamed c.func with
 | none=>rfl
 | some f=>simp [zc]
open Go.ChangeShapes Go.WideShapes Go.ChangeAt Go.RowKit
set_option linter.unusedVariables false
theorem ba (w:World) (o:Obj):Below w.heap.size w (w.alloc o):=(Below.refl _ _).alloc (Nat.le_refl _) _
theorem ms {G:Prop} (h:G:=by (simp [intOf];omega)):G:=h
theorem wq {P:Program} {id:Nat} {Q:Exit->Act->World->Prop} {a:Act} {w:World} {l:List Oper} (h:wpQuiet P l.toArray (fun w'=> ∃ p:Regrown,w'=Go.Sort.grow (redrawn w p.d) p.os) (fun a'=> ∀ w',(∃ p:Regrown,w'=Go.Sort.grow (redrawn w p.d) p.os)->Q .normal a' w') l a) (hm:P.follows .mixedOrders=true:=by kernel_rfl) (hB:Region.lexB .any l.toArray=true:=by kernel_rfl):(Code.region id l.toArray true).wp P Q a w:=wp_region_quiet_below hm hB h
theorem wqn {P:Program} {ops:Array Oper} {C:World->Prop} {Q:Exit->Act->World->Prop} {a:Act} {w:World} (h:∀ w',Below w.heap.size w w'->Q .normal a w'):wpQuiet P ops C (fun a'=> ∀ w',(∃ p:Regrown,w'=Go.Sort.grow (redrawn w p.d) p.os)->Q .normal a' w') [] a:=wpQuiet_nil (fun w' hp=>by obtain ⟨p,rfl⟩:=hp;exact h _ (below_regrown w p.d p.os))
theorem ck {P:Program} {f:FuncId} {args:Array Value} {w:World} {v:Value} {R:World->Prop} {Q:Ending->World->Prop} (h:Calls P f args w fun e w'=>e= .returned v/\R w') (hk:∀ w',R w'->Q (.returned v) w'):Calls P f args w Q:=h.mono (by rintro e w' ⟨rfl,hr⟩;exact hk w' hr)
theorem ZC {k:IntKind} {a b:Int} (h:a=b):Ending.returned (.int k a)= .returned (.int k b):=by rw [h]
theorem Z5 {a b:Bool} (h:a=b):Ending.returned (.bool a)= .returned (.bool b):=by rw [h]
def inB (x lo hi:Int):Bool:=decide (lo<=x/\x<=hi)
theorem Zn {x lo hi:Int} (h1:lo<=x) (h2:x<=hi):inB x lo hi=true:=by unfold inB;exact decide_eq_true ⟨h1,h2⟩
theorem Wv {x lo hi:Int} (h:x<lo\/hi<x):inB x lo hi=false:=by unfold inB;exact decide_eq_false (by omega)
theorem ZO {x lo hi:Int} (h:inB x lo hi=true):lo<=x/\x<=hi:=by unfold inB at h;exact of_decide_eq_true h
theorem Z9 {p:Prop} (h:p):Hid p:=h
theorem uh {p:Prop} (h:Hid p):p:=h
theorem JY (a b:Int) (w:World):Calls Tryz.prog 222 #[.int .i64 a,.int .i64 b] w fun e w'=>e= .returned (.int .i64 (min a b))/\w'=w:=by
 by_cases h:a<b
 all_goals
  go_enter Tryz.func222,Tryz.ntmps222
  go_wp2
  go_ret;exact ⟨ZC (by omega),rfl⟩
theorem Th (a b:Int) (w:World):Calls Tryz.prog 124 #[.int .i64 a,.int .i64 b] w fun e w'=>e= .returned (.int .i64 (max a b))/\w'=w:=by
 by_cases h:b<a
 all_goals
  go_enter Tryz.func124,Tryz.ntmps124
  go_wp2
  go_ret;exact ⟨ZC (by omega),rfl⟩
theorem Sc (x l h:Int) (w:World):Calls Tryz.prog 220 #[.int .i64 x,.int .i64 l,.int .i64 h] w fun e w'=>e= .returned (.int .i64 (min (max x l) h))/\w'=w:=by
 go_enter Tryz.func220,Tryz.ntmps220;go_wp2_with (first | (go_at_call 222;refine (JY _ _ _).mono ?_;rintro e w' ⟨rfl,rfl⟩) | (go_at_call 124;refine (Th _ _ _).mono ?_;rintro e w' ⟨rfl,rfl⟩))
 go_ret;exact ⟨rfl,rfl⟩
theorem U1 (x l h:Int) (w:World):Calls Tryz.prog 259 #[.int .i64 x,.int .i64 l,.int .i64 h] w fun e w'=>e= .returned (.int .i64 (min (max x l) h))/\w'=w:=by
 by_cases c1:x<l
 ·by_cases c2:h<l
  all_goals
   go_enter Tryz.func259,Tryz.ntmps259
   go_wp2
   all_goals (go_ret;exact ⟨ZC (by omega),rfl⟩)
 ·by_cases c2:h<x
  all_goals
   go_enter Tryz.func259,Tryz.ntmps259
   go_wp2
   all_goals (go_ret;exact ⟨ZC (by omega),rfl⟩)
theorem ZT (x lo hi:Int) (w:World):Calls Tryz.prog 59 #[.int .i64 x,.int .i64 lo,.int .i64 hi] w fun e w'=>e= .returned (.bool (inB x lo hi))/\w'=w:=by
 by_cases h1:lo<=x
 ·by_cases h2:x<=hi
  all_goals
   go_enter Tryz.func59,Tryz.ntmps59
   go_wp2
   go_ret;exact ⟨Z5 (by first | exact (Zn h1 h2).symm | exact (Wv (by omega)).symm),rfl⟩
 ·go_enter Tryz.func59,Tryz.ntmps59
  go_wp2
  go_ret;exact ⟨Z5 (Wv (by omega)).symm,rfl⟩
theorem Tg (x:Int) (w:World):Calls Tryz.prog 309 #[.int .i64 x] w fun e w'=>e= .returned (.bool (inB x 0 1000000000))/\w'=w:=by
 go_enter Tryz.func309,Tryz.ntmps309;go_wp2_with (go_at_call 59;refine (ZT _ _ _ _).mono ?_;rintro e w' ⟨rfl,rfl⟩)
 go_ret;exact ⟨rfl,rfl⟩
theorem Jf (x:Int) (w:World):Calls Tryz.prog 313 #[.int .i64 x] w fun e w'=>e= .returned (.bool (inB x 0 1000000000))/\w'=w:=by
 by_cases h1:0<=x
 ·by_cases h2:x<=1000000000
  all_goals
   go_enter Tryz.func313,Tryz.ntmps313
   go_wp2
   go_ret;exact ⟨Z5 (by first | exact (Zn h1 h2).symm | exact (Wv (by omega)).symm),rfl⟩
 ·go_enter Tryz.func313,Tryz.ntmps313
  go_wp2
  go_ret;exact ⟨Z5 (Wv (by omega)).symm,rfl⟩
theorem KH (x:Int) (w:World):Calls Tryz.prog 314 #[.int .i64 x] w fun e w'=>e= .returned (.bool (inB x 1 1000000000))/\w'=w:=by
 by_cases h1:1<=x
 ·by_cases h2:x<=1000000000
  all_goals
   go_enter Tryz.func314,Tryz.ntmps314
   go_wp2
   go_ret;exact ⟨Z5 (by first | exact (Zn h1 h2).symm | exact (Wv (by omega)).symm),rfl⟩
 ·go_enter Tryz.func314,Tryz.ntmps314
  go_wp2
  go_ret;exact ⟨Z5 (Wv (by omega)).symm,rfl⟩
theorem L8 (x:Int) (w:World):Calls Tryz.prog 262 #[.int .i64 x] w fun e w'=>e= .returned (.bool (inB x 0 1024))/\w'=w:=by
 by_cases h1:0<=x
 ·by_cases h2:x<=1024
  all_goals
   go_enter Tryz.func262,Tryz.ntmps262
   go_wp2
   go_ret;exact ⟨Z5 (by first | exact (Zn h1 h2).symm | exact (Wv (by omega)).symm),rfl⟩
 ·go_enter Tryz.func262,Tryz.ntmps262
  go_wp2
  go_ret;exact ⟨Z5 (Wv (by omega)).symm,rfl⟩
theorem Pe {p:Int->Bool} {zs:List Int} {k:Nat} {z:Int} (hlt:k<zs.length) (hz:zs.getD k 0=z) (ha:(zs.take k).all p=true) (hp:p z=true):(zs.take (k+1)).all p=true:=by
 rw [List.take_succ_eq_append_getElem hlt,List.all_append,ha];have:zs[k]=z:=by rw [<-hz];simp [List.getD,hlt]
 simp [this,hp]
theorem Sh {p:Int->Bool} {zs:List Int} {k:Nat} {z:Int} (hlt:k<zs.length) (hz:zs.getD k 0=z) (hp:p z=false):zs.all p=false:=by
 have:zs[k]=z:=by rw [<-hz];simp [List.getD,hlt]
 rw [List.all_eq_false];exact ⟨zs[k],List.getElem_mem hlt,by rw [this,hp];simp⟩
theorem Nf (b cap:Nat) (zs:List Int) (w:World) (hl:zs.length<=1000) (hc:∀ k,k<zs.length->w.cell? ⟨b,k,none⟩=some (.int .i64 (zs.getD k 0))) :
  Calls Tryz.prog 312 #[.func (Fn.func 313) #[] #[],.slice (some ⟨b,0,none⟩) zs.length cap] w fun e w'=>e= .returned (.bool (zs.all fun z=>inB z 0 1000000000))/\w'=w:=by
 go_enter Tryz.func312,Tryz.ntmps312;go_wp2_with fail
 go_loop [9] (fun i=> ∃ k:Nat,k<=zs.length/\i= .int .i64 k/\((zs.take k).all fun z=>inB z 0 1000000000)=true) (fun i=>zs.length-(intOf i).toNat)
 case atStart=>exact ⟨0,Nat.zero_le _,rfl,by simp⟩
 case round=>
  obtain ⟨k,hk,rfl,hall⟩:=hrel;by_cases hlt:k<zs.length
  ·have hcell:=hc k hlt
   have Ha:=Z9 hall;clear hall hc;generalize hz:zs.getD k 0=z at *;have Hz:=Z9 hz;clear hz;go_wp2_with fail;refine (Jf _ _).mono ?_;rintro e w' ⟨rfl,rfl⟩;cases hp:inB z 0 1000000000
   ·go_wp2_with fail
    go_ret;exact ⟨Z5 (Sh hlt (uh Hz) hp).symm,rfl⟩
   ·go_wp2_with fail
    go_round
    case rel=>exact ⟨k+1,by omega,by go_num,Pe hlt (uh Hz) (uh Ha) hp⟩
    case measure=>simp [intOf];omega
  ·go_wp2_with fail
   go_ret;exact ⟨Z5 (by rw [<-hall,List.take_of_length_le (by omega)]),rfl⟩
theorem Oq (b cap:Nat) (zs:List Int) (w:World) (hl:zs.length<=1000) (hc:∀ k,k<zs.length->w.cell? ⟨b,k,none⟩=some (.int .i64 (zs.getD k 0))) :
  Calls Tryz.prog 312 #[.func (Fn.func 314) #[] #[],.slice (some ⟨b,0,none⟩) zs.length cap] w fun e w'=>e= .returned (.bool (zs.all fun z=>inB z 1 1000000000))/\w'=w:=by
 go_enter Tryz.func312,Tryz.ntmps312;go_wp2_with fail
 go_loop [9] (fun i=> ∃ k:Nat,k<=zs.length/\i= .int .i64 k/\((zs.take k).all fun z=>inB z 1 1000000000)=true) (fun i=>zs.length-(intOf i).toNat)
 case atStart=>exact ⟨0,Nat.zero_le _,rfl,by simp⟩
 case round=>
  obtain ⟨k,hk,rfl,hall⟩:=hrel;by_cases hlt:k<zs.length
  ·have hcell:=hc k hlt
   have Ha:=Z9 hall;clear hall hc;generalize hz:zs.getD k 0=z at *;have Hz:=Z9 hz;clear hz;go_wp2_with fail;refine (KH _ _).mono ?_;rintro e w' ⟨rfl,rfl⟩;cases hp:inB z 1 1000000000
   ·go_wp2_with fail
    go_ret;exact ⟨Z5 (Sh hlt (uh Hz) hp).symm,rfl⟩
   ·go_wp2_with fail
    go_round
    case rel=>exact ⟨k+1,by omega,by go_num,Pe hlt (uh Hz) (uh Ha) hp⟩
    case measure=>simp [intOf];omega
  ·go_wp2_with fail
   go_ret;exact ⟨Z5 (by rw [<-hall,List.take_of_length_le (by omega)]),rfl⟩
theorem sA {α:Type} (l:List α) (i:Nat) (a:α):l.toArray.setIfInBounds i a=(l.set i a).toArray:=by simp
theorem sZ {α:Type} (x:α) (l:List α) (a:α):(x::l).set 0 a=a::l:=rfl
theorem sS {α:Type} (x:α) (l:List α) (n:Nat) (a:α):(x::l).set (n+1) a=x::l.set n a:=rfl
abbrev ZY:= @Calls.regrown_of
abbrev Z0:= @below_regrown
abbrev ZW:= @cell_regrown
abbrev Z2:= @Nat.le_refl
abbrev Z1:= @Below.refl
abbrev ZS:= @bodyPost_ret
abbrev Zf:= @Nat.lt_of_lt_of_le
abbrev Xr:= @decide_eq_false
abbrev Vx:= @decide_eq_true
abbrev ZA:= @Nat.zero_le
abbrev Yg:= @Calls.quiet_of_same
abbrev Xs:= @List.cons_ne_nil
abbrev YS:= @Below.setCell
abbrev XH:= @Nat.le_trans
abbrev U5:= @Nat.ne_of_lt
theorem ZM (a b:Bool):((a && b)=true)=(a=true/\b=true):=Bool.and_eq_true a b
theorem YW {p:Prop} [Decidable p]:(decide p=true)=p:=decide_eq_true_eq
theorem Zz (n:Nat):((n:Int)).toNat=n:=rfl
theorem ZB (w:World) (o:Obj):(w.alloc o).heap.size=w.heap.size+1:=World.size_alloc w o
theorem YT {α:Type} {a:α} {l:List α} : (a::l).length=l.length+1:=rfl
theorem Xu {α:Type} {a:α} : [a].dropLast=[]:=rfl
theorem Xt {α:Type} {x y:α} {l:List α} : (x::y::l).dropLast=x::(y::l).dropLast:=rfl
theorem YM {α:Type} : ([]:List α).length=0:=rfl
theorem V7 {α:Type} {l:List α} {i:Nat} {a:α} : (l.set i a).length=l.length:=List.length_set
set_option linter.unusedSimpArgs false
abbrev YJ (a:Addr):Value:= .iface 288 (.pointer (some a))
abbrev OT (b:Nat):Value:= .iface 96 (.pointer (some ⟨b,0,none⟩))
abbrev rty (t:Nat):Value:= .iface 193 (.agg #[.pointer (some ⟨6,t,none⟩)])
theorem tyE (v:Value) (w:World):(callFunc 209 #[.iface 288 v]).run Tryz.prog w= .ok (.value (rty 288)) w:=by
 rw [@run_callFunc_extern Tryz.prog 209 _ Extern.ReflectliteType.typeOf Tryz.func209 (by kernel_rfl) (by kernel_rfl) (by kernel_rfl) (by kernel_rfl)]
 kernel_rfl
theorem tyR (v:Value) (w:World):(callFunc 209 #[.iface 96 v]).run Tryz.prog w= .ok (.value (rty 96)) w:=by
 rw [@run_callFunc_extern Tryz.prog 209 _ Extern.ReflectliteType.typeOf Tryz.func209 (by kernel_rfl) (by kernel_rfl) (by kernel_rfl) (by kernel_rfl)]
 kernel_rfl
theorem yf (v : Value) (w : World) : (method 428 193 v "Comparable").run Tryz.prog w = .ok (347, v) w := by kernel_rfl
theorem xU (w:World):(callFunc 347 #[.agg #[.pointer (some ⟨6,288,none⟩)]]).run Tryz.prog w= .ok (.value (.bool true)) w:=by
 rw [@run_callFunc_extern Tryz.prog 347 _ (Extern.ReflectliteType.method fun t => do Extern.Rtype.noPackHeld "Comparable" t; pure (.bool (← typeInfo t).comparable)) Tryz.func347 (by kernel_rfl) (by kernel_rfl) (by kernel_rfl) (by kernel_rfl)]
 kernel_rfl
theorem Eg:(Tryz.prog.info? 288).map (·.comparable)=some true:=by kernel_rfl
theorem Eh:(Tryz.prog.info? 315).map (·.size)=some 1:=by kernel_rfl
theorem yM (v:Value) (xT:TypeId) (w:World):(Instr.typeAssert (.iface 288 v) xT 240 true).run Tryz.prog w= .ok (.tuple #[.nilIface,.bool false]) w:=run_typeAssert_lacksB Tryz.underlying240 (by kernel_rfl) (by kernel_rfl) v xT w
theorem ON (v:Value) (xT:TypeId) (w:World):(Instr.typeAssert (.iface 288 v) xT 201 true).run Tryz.prog w= .ok (.tuple #[.nilIface,.bool false]) w:=run_typeAssert_lacksB Tryz.underlying201 (by kernel_rfl) (by kernel_rfl) v xT w
theorem Qe (v:Value) (xT:TypeId) (w:World):(Instr.typeAssert (.iface 288 v) xT 203 true).run Tryz.prog w= .ok (.tuple #[.nilIface,.bool false]) w:=run_typeAssert_lacksB Tryz.underlying203 (by kernel_rfl) (by kernel_rfl) v xT w
theorem yN (v:Value) (xT:TypeId) (w:World):(Instr.typeAssert (.iface 96 v) xT 240 true).run Tryz.prog w= .ok (.tuple #[.nilIface,.bool false]) w:=run_typeAssert_lacksB Tryz.underlying240 (by kernel_rfl) (by kernel_rfl) v xT w
theorem LL (v:Value) (xT:TypeId) (w:World):(Instr.typeAssert (.iface 96 v) xT 201 true).run Tryz.prog w= .ok (.tuple #[.iface 96 v,.bool true]) w:=run_typeAssert_hasB Tryz.underlying201 (by kernel_rfl) v xT w
theorem Dp (v : Value) (w : World) : (method 428 96 v "Unwrap").run Tryz.prog w = .ok (335, v) w := by kernel_rfl
theorem Pu {a b:Addr} {ca cb:Array Value} {ta tb:TypeId} (w:World) (hne:a ≠ b) (ha:w.heap[a.block]?=some (.cells ca ta (0,0))) (hb:w.heap[b.block]?=some (.cells cb tb (0,0))):Calls Tryz.prog 156 #[YJ a,YJ b] w fun e w'=>e= .returned (.bool false)/\w'=w:=by
 obtain ⟨i,hi,hcmp⟩:=Option.map_eq_some_iff.1 Eg;obtain ⟨j,hj,hjs⟩:=Option.map_eq_some_iff.1 Eh;have tT:=tyE;have cT:=xU;have mR:=yf;have nE:=yM;have uE:=ON;have vE:=Qe;have heq:=run_eql_iface_ptr_other (P:=Tryz.prog) w Tryz.underlying62 Tryz.underlying288 hi hcmp hj (by rw [hjs];decide) hne ha hb;go_enter Tryz.func156,Tryz.ntmps156
 go_wp2
 refine wp_loop_rounds 1 ?_;rw [rounds_succ]
 go_wp2
 go_ret;exact ⟨rfl,rfl⟩
theorem UL (pb:Nat) (b:Addr) (w:World) (h1:w.cell? ⟨pb,6,none⟩=some (YJ b)):Calls Tryz.prog 156 #[OT pb,YJ b] w fun e w'=>e= .returned (.bool true)/\w'=w:=by
 obtain ⟨i,hi,hcmp⟩:=Option.map_eq_some_iff.1 Eg;obtain ⟨j,hj,hjs⟩:=Option.map_eq_some_iff.1 Eh;have tT:=tyE;have cT:=xU;have mR:=yf;have nW:=yN;have uW:=LL;have mU:=Dp;have heq:=run_eql_iface_ptr_same (P:=Tryz.prog) w b Tryz.underlying62 Tryz.underlying288 hi hcmp hj;have hty:=run_eql_iface_types (P:=Tryz.prog) 96 288 (.pointer (some ⟨pb,0,none⟩)) (.pointer (some b)) Tryz.underlying62 (by decide) w;go_enter Tryz.func156,Tryz.ntmps156
 go_wp2
 refine wp_loop_rounds 2 ?_;rw [rounds_succ]
 go_wp2
 rw [rounds_succ]
 go_wp2
 go_ret;exact ⟨rfl,rfl⟩
theorem YC (pb:Nat) {a b:Addr} {ca cb:Array Value} {ta tb:TypeId} (w:World) (h1:w.cell? ⟨pb,6,none⟩=some (YJ a)) (hne:a ≠ b) (ha:w.heap[a.block]?=some (.cells ca ta (0,0))) (hb:w.heap[b.block]?=some (.cells cb tb (0,0))):Calls Tryz.prog 156 #[OT pb,YJ b] w fun e w'=>e= .returned (.bool false)/\w'=w:=by
 obtain ⟨i,hi,hcmp⟩:=Option.map_eq_some_iff.1 Eg;obtain ⟨j,hj,hjs⟩:=Option.map_eq_some_iff.1 Eh;have tT:=tyE;have cT:=xU;have mR:=yf;have nE:=yM;have uE:=ON;have vE:=Qe;have nW:=yN;have uW:=LL;have mU:=Dp;have heq:=run_eql_iface_ptr_other (P:=Tryz.prog) w Tryz.underlying62 Tryz.underlying288 hi hcmp hj (by rw [hjs];decide) hne ha hb;have hty:=run_eql_iface_types (P:=Tryz.prog) 96 288 (.pointer (some ⟨pb,0,none⟩)) (.pointer (some b)) Tryz.underlying62 (by decide) w;go_enter Tryz.func156,Tryz.ntmps156
 go_wp2
 refine wp_loop_rounds 2 ?_;rw [rounds_succ]
 go_wp2
 rw [rounds_succ]
 go_wp2
 go_ret;exact ⟨rfl,rfl⟩
abbrev tgt (b:Nat):Value:= .iface 98 (.pointer (some ⟨b,0,none⟩))
abbrev ID (b:Nat):Value:= .agg #[.pointer (some ⟨6,98,none⟩),.pointer (some ⟨b,0,none⟩),.int .u64 150]
abbrev CP (b:Nat):Value:= .agg #[.pointer (some ⟨6,96,none⟩),.pointer (some ⟨b,0,none⟩),.int .u64 406]
abbrev Bl (b:Nat):Value:= .agg #[.pointer (some ⟨6,96,none⟩),.pointer (some ⟨b,0,none⟩),.int .u64 150]
open Extern.ReflectliteValue in
theorem xM (b:Nat) (w:World):(callFunc 152 #[tgt b]).run Tryz.prog w= .ok (.value (ID w.heap.size)) (w.alloc (.cells #[.pointer (some ⟨b,0,none⟩)] 98)):=by
 rw [@run_callFunc_extern Tryz.prog 152 _ (fun args=>unpack (args.getD 0 (.tuple #[]))) Tryz.func152 (by kernel_rfl) (by kernel_rfl) (by kernel_rfl) (by kernel_rfl)]
 kernel_rfl
open Extern.ReflectliteValue in
theorem xA (b:Nat) (w:World):(callFunc 152 #[OT b]).run Tryz.prog w= .ok (.value (Bl w.heap.size)) (w.alloc (.cells #[.pointer (some ⟨b,0,none⟩)] 96)):=by
 rw [@run_callFunc_extern Tryz.prog 152 _ (fun args=>unpack (args.getD 0 (.tuple #[]))) Tryz.func152 (by kernel_rfl) (by kernel_rfl) (by kernel_rfl) (by kernel_rfl)]
 kernel_rfl
open Extern.ReflectliteValue in
theorem yQ (b:Nat) (w:World):(callFunc 153 #[ID b]).run Tryz.prog w= .ok (.value (rty 98)) w:=by
 rw [@run_callFunc_extern Tryz.prog 153 _ (methodAny (valueError "reflectlite.Value.Type" 0) fun t _ _ _ => Extern.ReflectliteType.toType t) Tryz.func153 (by kernel_rfl) (by kernel_rfl) (by kernel_rfl) (by kernel_rfl)]
 kernel_rfl
theorem yK (p : Value) (w : World) : (method 428 193 (.agg #[p]) "Kind").run Tryz.prog w = .ok (330, p) w := by kernel_rfl
theorem yI (v : Value) (w : World) : (method 428 193 v "Elem").run Tryz.prog w = .ok (348, v) w := by kernel_rfl
theorem yJ (v : Value) (w : World) : (method 428 193 v "Implements").run Tryz.prog w = .ok (349, v) w := by kernel_rfl
theorem yH (v : Value) (w : World) : (method 428 193 v "AssignableTo").run Tryz.prog w = .ok (346, v) w := by kernel_rfl
theorem yF (w:World):(callFunc 330 #[.pointer (some ⟨6,98,none⟩)]).run Tryz.prog w= .ok (.value (.int .u8 22)) w:=by
 rw [@run_callFunc_extern Tryz.prog 330 _ (Extern.ReflectliteType.abiMethod fun t=>do pure (.int .u8 (<-Extern.Rtype.kind t))) Tryz.func330 (by kernel_rfl) (by kernel_rfl) (by kernel_rfl) (by kernel_rfl)]
 kernel_rfl
theorem yG (w:World):(callFunc 330 #[.pointer (some ⟨6,96,none⟩)]).run Tryz.prog w= .ok (.value (.int .u8 22)) w:=by
 rw [@run_callFunc_extern Tryz.prog 330 _ (Extern.ReflectliteType.abiMethod fun t=>do pure (.int .u8 (<-Extern.Rtype.kind t))) Tryz.func330 (by kernel_rfl) (by kernel_rfl) (by kernel_rfl) (by kernel_rfl)]
 kernel_rfl
theorem yB (w:World):(callFunc 348 #[.agg #[.pointer (some ⟨6,98,none⟩)]]).run Tryz.prog w= .ok (.value (rty 96)) w:=by
 rw [@run_callFunc_extern Tryz.prog 348 _ (Extern.ReflectliteType.method Extern.ReflectliteType.elem) Tryz.func348 (by kernel_rfl) (by kernel_rfl) (by kernel_rfl) (by kernel_rfl)]
 kernel_rfl
theorem yE (w:World):(callFunc 349 #[.agg #[.pointer (some ⟨6,96,none⟩)],rty 62]).run Tryz.prog w= .ok (.value (.bool true)) w:=by
 rw [@run_callFunc_extern Tryz.prog 349 _ (Extern.ReflectliteType.relation "Implements" Extern.ReflectliteType.implements_) Tryz.func349 (by kernel_rfl) (by kernel_rfl) (by kernel_rfl) (by kernel_rfl)]
 kernel_rfl
theorem xD (w:World):(callFunc 346 #[.agg #[.pointer (some ⟨6,288,none⟩)],rty 96]).run Tryz.prog w= .ok (.value (.bool false)) w:=by
 rw [@run_callFunc_extern Tryz.prog 346 _ (Extern.ReflectliteType.relation "AssignableTo" Extern.ReflectliteType.assignableTo) Tryz.func346 (by kernel_rfl) (by kernel_rfl) (by kernel_rfl) (by kernel_rfl)]
 kernel_rfl
theorem xE (w:World):(callFunc 346 #[.agg #[.pointer (some ⟨6,96,none⟩)],rty 96]).run Tryz.prog w= .ok (.value (.bool true)) w:=by
 rw [@run_callFunc_extern Tryz.prog 346 _ (Extern.ReflectliteType.relation "AssignableTo" Extern.ReflectliteType.assignableTo) Tryz.func346 (by kernel_rfl) (by kernel_rfl) (by kernel_rfl) (by kernel_rfl)]
 kernel_rfl
theorem xH (v:Value) (xT:TypeId) (w:World):(Instr.typeAssert (.iface 288 v) xT 198 true).run Tryz.prog w= .ok (.tuple #[.nilIface,.bool false]) w:=run_typeAssert_lacksB Tryz.underlying198 (by kernel_rfl) (by kernel_rfl) v xT w
open Extern.ReflectliteValue in
theorem xL (b:Nat) (x:Addr) (w:World) (hc:w.cell? ⟨b,0,none⟩=some (.pointer (some x))):(callFunc 154 #[ID b]).run Tryz.prog w= .ok (.value (.bool false)) w:=by
 rw [@run_callFunc_extern Tryz.prog 154 _ (Extern.ReflectliteValue.method (valueError "reflectlite.Value.IsNil" 0) isNil) Tryz.func154 (by kernel_rfl) (by kernel_rfl) (by kernel_rfl) (by kernel_rfl)];have hp:(parts (ID b)).run Tryz.prog w= .ok (some (98,⟨b,0,none⟩,150)) w:=by kernel_rfl
 have ha:(isAgg 98).run Tryz.prog w= .ok false w:=by kernel_rfl
 have hl:(loadVar 98 ⟨b,0,none⟩).run Tryz.prog w= .ok (.pointer (some x)) w:=by simp [loadVar,ha,run_load,hc]
 show ((do match ← parts (ID b) with | none => valueError "reflectlite.Value.IsNil" 0 | some (t, a, fl) => isNil t a fl (fl % 32) : Sem Value).run Tryz.prog w).andThen _ = _;simp [hp,isNil,hl]
open Extern.ReflectliteValue in
theorem xK (b r:Nat) (w:World) (hc:w.cell? ⟨b,0,none⟩=some (.pointer (some ⟨r,0,none⟩))):(callFunc 210 #[ID b]).run Tryz.prog w= .ok (.value (CP r)) w:=by
 rw [@run_callFunc_extern Tryz.prog 210 _ (Extern.ReflectliteValue.method (valueError "reflectlite.Value.Elem" 0) elem) Tryz.func210 (by kernel_rfl) (by kernel_rfl) (by kernel_rfl) (by kernel_rfl)];have hp:(parts (ID b)).run Tryz.prog w= .ok (some (98,⟨b,0,none⟩,150)) w:=by kernel_rfl
 have ha:(isAgg 98).run Tryz.prog w= .ok false w:=by kernel_rfl
 have hl:(loadVar 98 ⟨b,0,none⟩).run Tryz.prog w= .ok (.pointer (some ⟨r,0,none⟩)) w:=by simp [loadVar,ha,run_load,hc]
 have he:(Extern.Rtype.elem? 98).run Tryz.prog w= .ok (some 96) w:=by kernel_rfl
 have hm:(mk 96 ⟨r,0,none⟩ flagAddr).run Tryz.prog w= .ok (CP r) w:=by kernel_rfl
 show ((do match ← parts (ID b) with | none => valueError "reflectlite.Value.Elem" 0 | some (t, a, fl) => elem t a fl (fl % 32) : Sem Value).run Tryz.prog w).andThen _ = _;simp [hp,elem,hl,he,hm]
open Extern.ReflectliteValue in
theorem xB (b r p:Nat) (w:World) (hc:w.cell? ⟨b,0,none⟩=some (.pointer (some ⟨p,0,none⟩))) (hr:w.cell? ⟨r,0,none⟩=some (.pointer none)) (hzr:w.frozen? ⟨r,0,none⟩=false):(callFunc 211 #[CP r,Bl b]).run Tryz.prog w= .ok (.value (.tuple #[])) (w.setCell ⟨r,0,none⟩ (.pointer (some ⟨p,0,none⟩))):=by
 rw [@run_callFunc_extern Tryz.prog 211 _ Extern.ReflectliteValue.set Tryz.func211 (by kernel_rfl) (by kernel_rfl) (by kernel_rfl) (by kernel_rfl)];have hp:(parts (CP r)).run Tryz.prog w= .ok (some (96,⟨r,0,none⟩,406)) w:=by kernel_rfl
 have hq:(parts (Bl b)).run Tryz.prog w= .ok (some (96,⟨b,0,none⟩,150)) w:=by kernel_rfl
 have ha:(isAgg 96).run Tryz.prog w= .ok false w:=by kernel_rfl
 have hl:(loadVar 96 ⟨b,0,none⟩).run Tryz.prog w= .ok (.pointer (some ⟨p,0,none⟩)) w:=by simp [loadVar,ha,run_load,hc]
 have hd:(Extern.Rtype.directlyAssignable 96 96).run Tryz.prog w= .ok true w:=by kernel_rfl
 have hs:(storeVar 96 ⟨r,0,none⟩ (.pointer (some ⟨p,0,none⟩))).run Tryz.prog w= .ok () (w.setCell ⟨r,0,none⟩ (.pointer (some ⟨p,0,none⟩))):=by
  have hz:(sizeOf 96).run Tryz.prog w= .ok 1 w:=by kernel_rfl
  simp [storeVar,hz,storeCells,Value.cells];show (store ⟨r,0,none⟩ (.pointer (some ⟨p,0,none⟩))).run Tryz.prog w=_;rw [run_store _ _ _ _ _ rfl,hr];simp [hzr]
 have h0:(Extern.ReflectliteValue.set #[CP r,Bl b]).run Tryz.prog w= .ok (.tuple #[]) (w.setCell ⟨r,0,none⟩ (.pointer (some ⟨p,0,none⟩))):=by
  unfold Extern.ReflectliteValue.set;show Sem.run Tryz.prog (parts (CP r) >>=_) w=_;rw [Sem.run_bind,hp];simp only [Result.andThen_ok];show Sem.run Tryz.prog (parts (Bl b) >>=_) w=_;rw [Sem.run_bind,hq];simp only [Result.andThen_ok];simp [hl,hd,hs,flagAddr]
 rw [h0];rfl
theorem xO (v:Value) (w:World):Calls Tryz.prog 92 #[.nilIface,v] w fun e w'=>e= .returned (.bool false)/\w'=w:=by
 go_enter Tryz.func92,Tryz.ntmps92
 go_wp2
 go_ret;exact ⟨rfl,rfl⟩
abbrev asW (b:Nat) (w:World):World:=(w.alloc (.cells #[.pointer (some ⟨b,0,none⟩)] 98)).alloc (.cells #[.pointer (some ⟨6,98,none⟩),.pointer (some ⟨w.heap.size,0,none⟩),.int .u64 150] 144)
theorem FA (b:Nat) (w:World):(asW b w).cell? ⟨w.heap.size,0,none⟩=some (.pointer (some ⟨b,0,none⟩)):=by go_simp
theorem QM (b:Nat) (w:World):Below w.heap.size w (asW b w):=((ba _ _)).alloc (by simp) _
theorem xC (a:Addr) (b:Nat) (w:World) (hT:w.cell? ⟨5,0,none⟩=some (rty 62)):Calls Tryz.prog 92 #[YJ a,tgt b] w fun e w'=>e= .returned (.bool false)/\Below w.heap.size w w':=by
 have h1:=xM;have h2:=yQ;have h3:=yK;have h4:=yF;have h5:=yG;have h6:=yI;have h7:=yB;have h8:=yJ;have h9:=yE;have h10:=xL w.heap.size ⟨b,0,none⟩ (asW b w) (FA b w);have hT2:(asW b w).cell? ⟨5,0,none⟩=some (rty 62):=((QM b w).cell (World.block_lt_of_cell? _ _ hT)).trans hT;have t1:=tyE;have t2:=yH;have t3:=xD;have t4:=xH;have uE:=ON;have vE:=Qe;go_enter Tryz.func92,Tryz.ntmps92
 go_wp2
 refine wp_loop_rounds 1 ?_;rw [rounds_succ]
 go_wp2
 go_ret;exact ⟨rfl,((QM b w).alloc (by simp;omega) _)⟩
theorem Bz {n:Nat} {w W:World} {b:Nat} {v:Value} (h:Below n w W) (hn:n<=b):Below n w (W.setCell ⟨b,0,none⟩ v):=YS h hn v
abbrev asX (b:Nat) (w:World):World:=(asW b w).alloc (.cells #[.pointer (some ⟨6,98,none⟩),.pointer (some ⟨w.heap.size,0,none⟩),.int .u64 150] 144)
abbrev asY (b p:Nat) (w:World):World:=(asX b w).alloc (.cells #[.pointer (some ⟨p,0,none⟩)] 96)
theorem zF (b:Nat) (w:World):(asX b w).cell? ⟨w.heap.size,0,none⟩=some (.pointer (some ⟨b,0,none⟩)):=by go_simp
theorem zG (b:Nat) (w:World):(asX b w).heap.size=w.heap.size+1+1+1:=by simp
theorem zH (b p:Nat) (w:World):(asY b p w).cell? ⟨w.heap.size+1+1+1,0,none⟩=some (.pointer (some ⟨p,0,none⟩)):=by go_simp
theorem Ou (b p:Nat) (w:World):Below w.heap.size w (asY b p w):=((QM b w).alloc (by simp;omega) _).alloc (by simp;omega) _
theorem xP (b p:Nat) (w:World) (hT:w.cell? ⟨5,0,none⟩=some (rty 62)) (hb:w.cell? ⟨b,0,none⟩=some (.pointer none)) (hz:w.frozen? ⟨b,0,none⟩=false):Calls Tryz.prog 92 #[OT p,tgt b] w fun e w'=>e= .returned (.bool true)/\w'.cell? ⟨b,0,none⟩=some (.pointer (some ⟨p,0,none⟩))/\ ∀ n,n<=b->n<=w.heap.size->Below n w w':=by
 have h1:=xM;have h2:=yQ;have h3:=yK;have h4:=yF;have h5:=yG;have h6:=yI;have h7:=yB;have h8:=yJ;have h9:=yE;have h10:=xL w.heap.size ⟨b,0,none⟩ (asW b w) (FA b w);have hT2:(asW b w).cell? ⟨5,0,none⟩=some (rty 62):=((QM b w).cell (World.block_lt_of_cell? _ _ hT)).trans hT;have t1:=tyR;have t2:=yH;have t3:=xE;have k1:=xA p (asX b w);rw [zG] at k1;have k2:=xK w.heap.size b (asX b w) (zF b w);have hlt:=World.block_lt_of_cell? _ _ hb;have hb2:(asY b p w).cell? ⟨b,0,none⟩=some (.pointer none):=((Ou b p w).cell hlt).trans hb;have hz2:(asY b p w).frozen? ⟨b,0,none⟩=false:=((Ou b p w).frozen hlt).trans hz;have k3:=xB (w.heap.size+1+1+1) b p (asY b p w) (zH b p w) hb2 hz2;go_enter Tryz.func92,Tryz.ntmps92
 go_wp2
 refine wp_loop_rounds 1 ?_;rw [rounds_succ]
 go_wp2
 go_ret;exact ⟨rfl,World.cell?_setCell_same _ _ _ hb2,fun n hn hnw=>Bz ((Ou b p w).mono hnw) hn⟩
abbrev Z4:=Int × Int
abbrev ZZ:=Int × List Z4
def Z7 (ps:List Z4) (k:Nat):Z4:=ps.getD k (0,0)
def ZR (rs:List ZZ) (k:Nat):ZZ:=rs.getD k (0,[])
def IsPaces (w:World) (v:Value) (ps:List Z4):Prop:=
 ∃ (a:Option Addr) (cap:Nat),v= .slice a ps.length cap/\ps.length<=cap/\cap<=9223372036854775807/\(ps=[]\/ ∃ b off,a=some ⟨b,off,none⟩/\b<w.heap.size/\
  ∀ k,k<ps.length->w.cell? ⟨b,off+k*2,none⟩=some (.int .i64 (Z7 ps k).1)/\w.cell? ⟨b,off+k*2+1,none⟩=some (.int .i64 (Z7 ps k).2))
def IsRooms (w:World) (v:Value) (rs:List ZZ):Prop:=
 ∃ (a:Option Addr) (cap:Nat),v= .slice a rs.length cap/\rs.length<=cap/\cap<=9223372036854775807/\(rs=[]\/ ∃ b off,a=some ⟨b,off,none⟩/\b<w.heap.size/\
  ∀ k,k<rs.length->w.cell? ⟨b,off+k*2,none⟩=some (.int .i64 (ZR rs k).1)/\ ∃ pv,w.cell? ⟨b,off+k*2+1,none⟩=some pv/\IsPaces w pv (ZR rs k).2)
theorem IsPaces.below {w w':World} {v:Value} {ps:List Z4} (h:IsPaces w v ps) (hb:Below w.heap.size w w'):IsPaces w' v ps:=by
 obtain ⟨a,cap,rfl,hc,hm,hr⟩:=h;refine ⟨a,cap,rfl,hc,hm,?_⟩
 rcases hr with hr | ⟨b,off,rfl,hlt,hcl⟩
 ·exact .inl hr
 ·refine .inr ⟨b,off,rfl,Zf hlt hb.size,fun k hk=> ?_⟩
  obtain ⟨h1,h2⟩:=hcl k hk;exact ⟨by rw [hb.cell (p:=⟨b,off+k*2,none⟩) hlt];exact h1,by rw [hb.cell (p:=⟨b,off+k*2+1,none⟩) hlt];exact h2⟩
theorem IsRooms.below {w w':World} {v:Value} {rs:List ZZ} (h:IsRooms w v rs) (hb:Below w.heap.size w w'):IsRooms w' v rs:=by
 obtain ⟨a,cap,rfl,hc,hm,hr⟩:=h;refine ⟨a,cap,rfl,hc,hm,?_⟩
 rcases hr with hr | ⟨b,off,rfl,hlt,hcl⟩
 ·exact .inl hr
 ·refine .inr ⟨b,off,rfl,Zf hlt hb.size,fun k hk=> ?_⟩
  obtain ⟨h1,pv,h2,h3⟩:=hcl k hk;exact ⟨by rw [hb.cell (p:=⟨b,off+k*2,none⟩) hlt];exact h1,pv,by rw [hb.cell (p:=⟨b,off+k*2+1,none⟩) hlt];exact h2,h3.below hb⟩
theorem Ib {rs:List ZZ} {n k:Nat} (h:k<n):ZR (rs.take n) k=ZR rs k:=by
 unfold ZR;simp [List.getD,h]
theorem IsRooms.taken {w:World} {a:Option Addr} {len cap:Nat} {rs:List ZZ} (h:IsRooms w (.slice a len cap) rs) {n:Nat} (hn:n<=len):IsRooms w (.slice a n cap) (rs.take n):=by
 obtain ⟨a',cap',he,hc,hm,hr⟩:=h;cases he;have hl:(rs.take n).length=n:=by simp;omega
 refine ⟨a,cap,by rw [hl],by omega,hm,?_⟩
 rcases hr with hr | ⟨b,off,rfl,hlt,hcl⟩
 ·exact .inl (by rw [hr];simp)
 ·refine .inr ⟨b,off,rfl,hlt,fun k hk=> ?_⟩
  rw [Ib (by omega)];exact hcl k (by omega)
def TQ (p:Z4):Bool:=inB p.1 1 1024 && inB p.2 1 1024
def P1 (p q:Z4):Bool:=decide (q.1<p.1) && decide (q.2<p.2)
def Wz (ps:List Z4) (k:Nat):Bool:=TQ (Z7 ps k) && (k ==0 || P1 (Z7 ps k) (Z7 ps (k-1)))
def SJ (ps:List Z4):Bool:=(List.range ps.length).all (Wz ps)
def Ze (r:ZZ):Bool:=inB r.1 1 4 && (inB r.2.length 1 4 && SJ r.2)
def ZV (rs:List ZZ):Int:=(rs.map (·.1)).sum
def Y2 (rs:List ZZ):Bool:=inB rs.length 1 3 && (rs.all Ze && decide (ZV rs<=8))
theorem GY {ps:List Z4} (h:∀ j,j<ps.length->Wz ps j=true):SJ ps=true:=by
 unfold SJ;rw [List.all_eq_true];intro j hj;exact h j (List.mem_range.1 hj)
theorem Tm {ps:List Z4} {j:Nat} (hj:j<ps.length) (h:Wz ps j=false):SJ ps=false:=by
 unfold SJ;rw [List.all_eq_false];exact ⟨j,List.mem_range.2 hj,by simp [h]⟩
theorem J6 {ps:List Z4} (h:SJ ps=true) {j:Nat} (hj:j<ps.length):Wz ps j=true:=by
 unfold SJ at h;rw [List.all_eq_true] at h;exact h j (List.mem_range.2 hj)
theorem Mx {rs:List ZZ} {k:Nat} (h:k<rs.length):ZR rs k ∈ rs:=by
 unfold ZR;simp [List.getD,h]
theorem Lk {rs:List ZZ} (h:∀ j,j<rs.length->Ze (ZR rs j)=true):rs.all Ze=true:=by
 rw [List.all_eq_true];intro r hr;obtain ⟨j,hj,rfl⟩:=List.getElem_of_mem hr;have:=h j hj;unfold ZR at this;simpa [List.getD,hj] using this
theorem Lj {rs:List ZZ} {j:Nat} (hj:j<rs.length) (h:Ze (ZR rs j)=false):rs.all Ze=false:=by
 rw [List.all_eq_false];exact ⟨_,Mx hj,by simp [h]⟩
theorem Rc {rs:List ZZ} (h:rs.all Ze=true) {j:Nat} (hj:j<rs.length):Ze (ZR rs j)=true:=by
 rw [List.all_eq_true] at h;exact h _ (Mx hj)
theorem PK {r:ZZ} (h:Ze r=true):1<=r.1/\r.1<=4/\1<=r.2.length/\r.2.length<=4:=by
 unfold Ze at h;simp only [ZM] at h;have h1:=ZO h.1;have h2:=ZO h.2.1;omega
theorem XS (rs:List ZZ) {k:Nat} (h:k<rs.length):ZV (rs.take (k+1))=ZV (rs.take k)+(ZR rs k).1:=by
 unfold ZV ZR;rw [List.take_succ_eq_append_getElem h,List.map_append,List.sum_append];simp [List.getD,h]
theorem Rd {rs:List ZZ} (h:rs.all Ze=true):∀ k,k<=rs.length->(k:Int)<=ZV (rs.take k)/\ZV (rs.take k)<=4*k
 | 0,_=>by simp [ZV]
 | k+1,hk=>by
  have ih:=Rd h k (by omega);have hb:=PK (Rc h (j:=k) (by omega));rw [XS rs (by omega)];omega
theorem Sj (rs:List ZZ):ZV (rs.take rs.length)=ZV rs:=by rw [List.take_length]
theorem Zo {rs:List ZZ} (h:Y2 rs=true):1<=rs.length/\rs.length<=3/\rs.all Ze=true/\ZV rs<=8:=by
 unfold Y2 at h;simp only [ZM,YW] at h;have h1:=ZO h.1;exact ⟨by omega,by omega,h.2.1,h.2.2⟩
open Go.ChangeShapes Go.WideShapes Go.ChangeAt Go.RowKit Go.Sort
theorem Ln {W w1:World} {B:Nat} (hb:Below B W w1):(∀ b o,b<B->w1.cell? ⟨b,o,none⟩=W.cell? ⟨b,o,none⟩)/\(∀ b o,b<B->w1.frozen? ⟨b,o,none⟩=W.frozen? ⟨b,o,none⟩):=
 ⟨fun b o h=>hb.cell (p:=⟨b,o,none⟩) h,fun b o h=>hb.frozen (p:=⟨b,o,none⟩) h⟩
theorem Zy (lo n hi:Int) (w:World):Calls Tryz.prog 181 #[.int .i64 lo,.int .i64 n,.int .i64 hi] w fun e w'=>e= .returned (.bool (inB n lo hi))/\w'=w:=by
 by_cases h1:lo<=n
 ·by_cases h2:n<=hi
  all_goals
   go_enter Tryz.func181,Tryz.ntmps181
   go_wp2
   go_ret;exact ⟨Z5 (by unfold inB;simp [h1,h2]),rfl⟩
 ·go_enter Tryz.func181,Tryz.ntmps181
  go_wp2
  go_ret;exact ⟨Z5 (by unfold inB;simp;omega),rfl⟩
theorem Yh {P:Nat->Prop} {k:Nat} (h:∀ j,j<k->P j) (hk:P k):∀ j,j<k+1->P j:=fun j hj=>by
 by_cases e:j<k
 ·exact h j e
 ·obtain rfl:j=k:=by omega
  exact hk
structure But (bc:Nat) (w w':World):Prop where
 os:w'.os=w.os
 tape:w'.tape=w.tape
 output:w'.output=w.output
 size:w.heap.size<=w'.heap.size
 block:∀ k,k<w.heap.size->k ≠ bc->w'.heap[k]?=w.heap[k]?
theorem But.refl (bc:Nat) (w:World):But bc w w:=⟨rfl,rfl,rfl,Z2 _,fun _ _ _=>rfl⟩
theorem But.trans {bc:Nat} {a b c:World} (h:But bc a b) (k:But bc b c):But bc a c:=
 ⟨k.os.trans h.os,k.tape.trans h.tape,k.output.trans h.output,XH h.size k.size,fun i hi hn=>(k.block i (Zf hi h.size) hn).trans (h.block i hi hn)⟩
theorem But.below {bc B:Nat} {a w:World} (h:But bc a w) (hB:B<=bc) (hs:B<=a.heap.size):Below B a w:=
 ⟨h.os,h.tape,h.output,h.size,fun k hk=>h.block k (Zf hk hs) (by omega)⟩
theorem But.later {bc:Nat} {a b c:World} (h:But bc a b) (k:Below b.heap.size b c):But bc a c:=
 h.trans ⟨k.os,k.tape,k.output,k.size,fun i hi _=>k.block i hi⟩
theorem But.within {bc:Nat} {a b c:World} (h:But bc a b) (k:Below a.heap.size b c):But bc a c:=
 ⟨k.os.trans h.os,k.tape.trans h.tape,k.output.trans h.output,XH h.size k.size,fun i hi hn=>(k.block i hi).trans (h.block i hi hn)⟩
theorem But.setCell {bc:Nat} {a w:World} (h:But bc a w) (o:Nat) (v:Value):But bc a (w.setCell ⟨bc,o,none⟩ v):=
 h.trans ⟨rfl,rfl,rfl,by simp,fun k hk hn=>Below.heap_setCell w ⟨bc,o,none⟩ v k hn⟩
theorem But.cell {bc:Nat} {w w':World} (h:But bc w w') {p:Addr} (hp:p.block<w.heap.size) (hn:p.block ≠ bc):w'.cell? p=w.cell? p:=
 World.cell?_of_block (w:=w) (h.block p.block hp hn)
theorem Xm {w w':World} {B t size n:Nat} {v:Value} {xs:List Value} (h:w.ownsRow B t size v n xs) (hs:∀ k,v.ownBlock=some k->w'.heap[k]?=w.heap[k]?):w'.ownsRow B t size v n xs:=by
 refine ⟨h.1,?_⟩
 rcases h.2 with hz | ⟨g,cap,cur,rfl,hb,hg,r⟩
 ·exact .inl hz
 ·exact .inr ⟨g,cap,cur,rfl,hb,(hs g rfl).trans hg,r⟩
theorem Tl {w:World} {B B' t size n:Nat} {v:Value} {xs:List Value} (h:w.ownsRow B t size v n xs) (hb:B'<=B):w.ownsRow B' t size v n xs:=by
 refine ⟨h.1,?_⟩
 rcases h.2 with hz | ⟨g,cap,cur,rfl,hb',r⟩
 ·exact .inl hz
 ·exact .inr ⟨g,cap,cur,rfl,by omega,r⟩
def YY (ps:List Z4):List Value:=ps.flatMap fun p=>[.int .i64 p.1,.int .i64 p.2]
def RK (qs:List (ZZ × Value)):List Value:=qs.flatMap fun q=>[.int .i64 q.1.1,q.2]
theorem J7 {α:Type} {f g:α->Value} : ∀ l:List α,(l.flatMap fun p=>[f p,g p]).length=l.length*2
 | []=>rfl
 | p::l=>by rw [List.flatMap_cons,List.length_append,J7 l];simp;omega
theorem UB {α:Type} {f g:α->Value} : ∀ (l:List α) (k:Nat) (h:k<l.length),(l.flatMap fun p=>[f p,g p])[k*2]?=some (f l[k])/\(l.flatMap fun p=>[f p,g p])[k*2+1]?=some (g l[k])
 | p::l,0,_=>by simp
 | p::l,k+1,h=>by
  have ih:=UB (f:=f) (g:=g) l k (by simpa using h);rw [List.flatMap_cons,show (k+1)*2=k*2+2 by omega,show k*2+2+1=(k*2+1)+2 by omega];simpa using ih
theorem Ro {a b c:World} {row:Option Nat} (h:a.grownBy b row) (k:b.grownBy c row):a.grownBy c row:=
 ⟨k.os.trans h.os,k.tape.trans h.tape,k.output.trans h.output,XH h.size k.size,fun i hi hn=>(k.block i (Zf hi h.size) hn).trans (h.block i hi hn)⟩
theorem GR {w:World} {B g n cap t:Nat} {xs:List Value} (h:w.ownsRow B t 2 (.slice (some ⟨g,0,none⟩) n cap) n xs) (j:Nat) (u u':Value) :
  ((w.setCell ⟨g,j,none⟩ u).setCell ⟨g,j+1,none⟩ u').ownsRow B t 2 (.slice (some ⟨g,0,none⟩) n cap) n ((xs.set j u).set (j+1) u')/\w.grownBy ((w.setCell ⟨g,j,none⟩ u).setCell ⟨g,j+1,none⟩ u') (some g):=by
 have h1:=World.ownsRow.stored h j u;have h2:=World.ownsRow.stored h1.1 (j+1) u';exact ⟨h2.1,Ro h1.2 h2.2⟩
theorem yq (f c:Int):∀ (ps:List Z4) (j:Nat),j<ps.length->((YY ps).set (j*2) (.int .i64 f)).set (j*2+1) (.int .i64 c)=YY (ps.set j (f,c))
 | p::ps,0,_=>by simp [YY]
 | p::ps,j+1,h=>by
  have ih:=yq f c ps j (by simpa using h);unfold YY at ih ⊢;rw [List.flatMap_cons,show (j+1)*2=j*2+2 by omega,show j*2+2+1=(j*2+1)+2 by omega];simpa using ih
theorem Ss (w:World) (r:Option Nat):w.grownBy w r:=⟨rfl,rfl,rfl,Z2 _,fun _ _ _=>rfl⟩
theorem Sr {w:World} {b o:Nat} (h:w.heap.size<=b):w.frozen? ⟨b,o,none⟩=false:=by
 unfold World.frozen?;rw [Array.getElem?_eq_none h]
set_option maxRecDepth 100000
structure Errs (w:World) (q:Int->Addr):Prop where
 c1:w.cell? ⟨3,0,none⟩=some (YJ (q 1))
 c2:w.cell? ⟨2,0,none⟩=some (YJ (q 2))
 c3:w.cell? ⟨0,0,none⟩=some (YJ (q 3))
 c4:w.cell? ⟨1,0,none⟩=some (YJ (q 4))
 c5:w.cell? ⟨4,0,none⟩=some (YJ (q 5))
 ct:w.cell? ⟨5,0,none⟩=some (rty 62)
 b1:∃ c t,w.heap[(q 1).block]?=some (.cells c t (0,0))
 b2:∃ c t,w.heap[(q 2).block]?=some (.cells c t (0,0))
 b3:∃ c t,w.heap[(q 3).block]?=some (.cells c t (0,0))
 b4:∃ c t,w.heap[(q 4).block]?=some (.cells c t (0,0))
 b5:∃ c t,w.heap[(q 5).block]?=some (.cells c t (0,0))
 n12:q 1 ≠ q 2
 n13:q 1 ≠ q 3
 n14:q 1 ≠ q 4
 n15:q 1 ≠ q 5
 n23:q 2 ≠ q 3
 n24:q 2 ≠ q 4
 n25:q 2 ≠ q 5
 n34:q 3 ≠ q 4
 n35:q 3 ≠ q 5
 n45:q 4 ≠ q 5
theorem S5 {w w':World} {k:Nat} (h:∃ c t,w.heap[k]?=some (.cells c t (0,0))) (hb:Below w.heap.size w w'):∃ c t,w'.heap[k]?=some (.cells c t (0,0)):=by
 obtain ⟨c,t,e⟩:=h;exact ⟨c,t,(hb.block k (Array.getElem?_eq_some_iff.1 e).1).trans e⟩
theorem Errs.below {w w':World} {q:Int->Addr} (h:Errs w q) (hb:Below w.heap.size w w'):Errs w' q:=
 ⟨(hb.cell (World.block_lt_of_cell? _ _ h.c1)).trans h.c1,(hb.cell (World.block_lt_of_cell? _ _ h.c2)).trans h.c2,(hb.cell (World.block_lt_of_cell? _ _ h.c3)).trans h.c3,(hb.cell (World.block_lt_of_cell? _ _ h.c4)).trans h.c4,(hb.cell (World.block_lt_of_cell? _ _ h.c5)).trans h.c5,(hb.cell (World.block_lt_of_cell? _ _ h.ct)).trans h.ct,S5 h.b1 hb,S5 h.b2 hb,S5 h.b3 hb,S5 h.b4 hb,S5 h.b5 hb,h.n12,h.n13,h.n14,h.n15,h.n23,h.n24,h.n25,h.n34,h.n35,h.n45⟩
theorem DY (w:World):Calls Tryz.prog 93 #[.nilIface] w fun e w'=>e= .returned (.int .i64 0)/\w'=w:=by
 go_enter Tryz.func93,Tryz.ntmps93;go_wp2_with fail;go_ret;exact ⟨rfl,rfl⟩
theorem I4 (p:Nat) {w:World} {q:Int->Addr} (h:Errs w q) (hp:w.cell? ⟨p,6,none⟩=some (YJ (q 1))):Calls Tryz.prog 93 #[OT p] w fun e w'=>e= .returned (.int .i64 1)/\w'=w:=by
 have HE:=Z9 h;have Hp:=Z9 hp;clear hp;obtain ⟨x1,x2,x3,x4,x5,_⟩:=h;go_enter Tryz.func93,Tryz.ntmps93;go_wp2_with fail;refine (UL p (q 1) _ (uh Hp)).mono ?_;rintro e w' ⟨rfl,h9⟩;subst w';go_wp2_with fail;go_ret;exact ⟨rfl,rfl⟩
theorem I5 (p:Nat) {w:World} {q:Int->Addr} (h:Errs w q) (hp:w.cell? ⟨p,6,none⟩=some (YJ (q 2))):Calls Tryz.prog 93 #[OT p] w fun e w'=>e= .returned (.int .i64 2)/\w'=w:=by
 have HE:=Z9 h;have Hp:=Z9 hp;clear hp;obtain ⟨x1,x2,x3,x4,x5,_⟩:=h;go_enter Tryz.func93,Tryz.ntmps93;go_wp2_with fail;obtain ⟨ca,ta,ha⟩:=(uh HE).b2;obtain ⟨cb,tb,hb⟩:=(uh HE).b1;refine (YC p _ (uh Hp) ((uh HE).n12.symm) ha hb).mono ?_;clear ha hb;rintro e w' ⟨rfl,h9⟩;subst w';go_wp2_with fail;refine (UL p (q 2) _ (uh Hp)).mono ?_;rintro e w' ⟨rfl,h9⟩;subst w';go_wp2_with fail;go_ret;exact ⟨rfl,rfl⟩
theorem I6 (p:Nat) {w:World} {q:Int->Addr} (h:Errs w q) (hp:w.cell? ⟨p,6,none⟩=some (YJ (q 3))):Calls Tryz.prog 93 #[OT p] w fun e w'=>e= .returned (.int .i64 3)/\w'=w:=by
 have HE:=Z9 h;have Hp:=Z9 hp;clear hp;obtain ⟨x1,x2,x3,x4,x5,_⟩:=h;go_enter Tryz.func93,Tryz.ntmps93;go_wp2_with fail;obtain ⟨ca,ta,ha⟩:=(uh HE).b3;obtain ⟨cb,tb,hb⟩:=(uh HE).b1;refine (YC p _ (uh Hp) ((uh HE).n13.symm) ha hb).mono ?_;clear ha hb;rintro e w' ⟨rfl,h9⟩;subst w';go_wp2_with fail;obtain ⟨ca,ta,ha⟩:=(uh HE).b3;obtain ⟨cb,tb,hb⟩:=(uh HE).b2;refine (YC p _ (uh Hp) ((uh HE).n23.symm) ha hb).mono ?_;clear ha hb;rintro e w' ⟨rfl,h9⟩;subst w';go_wp2_with fail;obtain ⟨ca,ta,ha⟩:=(uh HE).b3;obtain ⟨cb,tb,hb⟩:=(uh HE).b4;refine (YC p _ (uh Hp) ((uh HE).n34) ha hb).mono ?_;clear ha hb;rintro e w' ⟨rfl,h9⟩;subst w';go_wp2_with fail;obtain ⟨ca,ta,ha⟩:=(uh HE).b3;obtain ⟨cb,tb,hb⟩:=(uh HE).b5;refine (YC p _ (uh Hp) ((uh HE).n35) ha hb).mono ?_;clear ha hb;rintro e w' ⟨rfl,h9⟩;subst w';go_wp2_with fail;go_ret;exact ⟨rfl,rfl⟩
theorem I7 (p:Nat) {w:World} {q:Int->Addr} (h:Errs w q) (hp:w.cell? ⟨p,6,none⟩=some (YJ (q 4))):Calls Tryz.prog 93 #[OT p] w fun e w'=>e= .returned (.int .i64 4)/\w'=w:=by
 have HE:=Z9 h;have Hp:=Z9 hp;clear hp;obtain ⟨x1,x2,x3,x4,x5,_⟩:=h;go_enter Tryz.func93,Tryz.ntmps93;go_wp2_with fail;obtain ⟨ca,ta,ha⟩:=(uh HE).b4;obtain ⟨cb,tb,hb⟩:=(uh HE).b1;refine (YC p _ (uh Hp) ((uh HE).n14.symm) ha hb).mono ?_;clear ha hb;rintro e w' ⟨rfl,h9⟩;subst w';go_wp2_with fail;obtain ⟨ca,ta,ha⟩:=(uh HE).b4;obtain ⟨cb,tb,hb⟩:=(uh HE).b2;refine (YC p _ (uh Hp) ((uh HE).n24.symm) ha hb).mono ?_;clear ha hb;rintro e w' ⟨rfl,h9⟩;subst w';go_wp2_with fail;refine (UL p (q 4) _ (uh Hp)).mono ?_;rintro e w' ⟨rfl,h9⟩;subst w';go_wp2_with fail;go_ret;exact ⟨rfl,rfl⟩
theorem I8 (p:Nat) {w:World} {q:Int->Addr} (h:Errs w q) (hp:w.cell? ⟨p,6,none⟩=some (YJ (q 5))):Calls Tryz.prog 93 #[OT p] w fun e w'=>e= .returned (.int .i64 5)/\w'=w:=by
 have HE:=Z9 h;have Hp:=Z9 hp;clear hp;obtain ⟨x1,x2,x3,x4,x5,_⟩:=h;go_enter Tryz.func93,Tryz.ntmps93;go_wp2_with fail;obtain ⟨ca,ta,ha⟩:=(uh HE).b5;obtain ⟨cb,tb,hb⟩:=(uh HE).b1;refine (YC p _ (uh Hp) ((uh HE).n15.symm) ha hb).mono ?_;clear ha hb;rintro e w' ⟨rfl,h9⟩;subst w';go_wp2_with fail;obtain ⟨ca,ta,ha⟩:=(uh HE).b5;obtain ⟨cb,tb,hb⟩:=(uh HE).b2;refine (YC p _ (uh Hp) ((uh HE).n25.symm) ha hb).mono ?_;clear ha hb;rintro e w' ⟨rfl,h9⟩;subst w';go_wp2_with fail;obtain ⟨ca,ta,ha⟩:=(uh HE).b5;obtain ⟨cb,tb,hb⟩:=(uh HE).b4;refine (YC p _ (uh Hp) ((uh HE).n45.symm) ha hb).mono ?_;clear ha hb;rintro e w' ⟨rfl,h9⟩;subst w';go_wp2_with fail;refine (UL p (q 5) _ (uh Hp)).mono ?_;rintro e w' ⟨rfl,h9⟩;subst w';go_wp2_with fail;go_ret;exact ⟨rfl,rfl⟩
theorem FT {w:World} {q:Int->Addr} (h:Errs w q):Calls Tryz.prog 93 #[YJ (q 3)] w fun e w'=>e= .returned (.int .i64 3)/\w'=w:=by
 have HE:=Z9 h;obtain ⟨x1,x2,x3,x4,x5,_⟩:=h;go_enter Tryz.func93,Tryz.ntmps93;go_wp2_with fail;obtain ⟨ca,ta,ha⟩:=(uh HE).b3;obtain ⟨cb,tb,hb⟩:=(uh HE).b1;refine (Pu _ ((uh HE).n13.symm) ha hb).mono ?_;clear ha hb;rintro e w' ⟨rfl,h9⟩;subst w';go_wp2_with fail;obtain ⟨ca,ta,ha⟩:=(uh HE).b3;obtain ⟨cb,tb,hb⟩:=(uh HE).b2;refine (Pu _ ((uh HE).n23.symm) ha hb).mono ?_;clear ha hb;rintro e w' ⟨rfl,h9⟩;subst w';go_wp2_with fail;obtain ⟨ca,ta,ha⟩:=(uh HE).b3;obtain ⟨cb,tb,hb⟩:=(uh HE).b4;refine (Pu _ ((uh HE).n34) ha hb).mono ?_;clear ha hb;rintro e w' ⟨rfl,h9⟩;subst w';go_wp2_with fail;obtain ⟨ca,ta,ha⟩:=(uh HE).b3;obtain ⟨cb,tb,hb⟩:=(uh HE).b5;refine (Pu _ ((uh HE).n35) ha hb).mono ?_;clear ha hb;rintro e w' ⟨rfl,h9⟩;subst w';go_wp2_with fail;go_ret;exact ⟨rfl,rfl⟩
theorem FU {c:Int} (hc:c=1\/c=2\/c=3\/c=4\/c=5) (p:Nat) {w:World} {q:Int->Addr} (h:Errs w q) (hp:w.cell? ⟨p,6,none⟩=some (YJ (q c))):Calls Tryz.prog 93 #[OT p] w fun e w'=>e= .returned (.int .i64 c)/\w'=w:=by
 rcases hc with rfl | rfl | rfl | rfl | rfl
 ·exact I4 p h hp
 ·exact I5 p h hp
 ·exact I6 p h hp
 ·exact I7 p h hp
 ·exact I8 p h hp
theorem Qa (f c:Int) (w:World):Calls Tryz.prog 303 #[.agg #[.int .i64 f,.int .i64 c]] w fun e w'=>e= .returned (.bool (TQ (f,c)))/\Below w.heap.size w w':=by
 cases h1:inB f 1 1024
 ·go_enter Tryz.func303,Tryz.ntmps303
  go_wp2_with fail;refine (Zy _ _ _ _).mono ?_;rintro e w' ⟨rfl,rfl⟩;go_wp2_with fail;go_ret;exact ⟨Z5 (by unfold TQ;simp [h1]),(ba _ _)⟩
 ·go_enter Tryz.func303,Tryz.ntmps303
  go_wp2_with fail;refine (Zy _ _ _ _).mono ?_;rintro e w' ⟨rfl,rfl⟩;go_wp2_with fail;refine (Zy _ _ _ _).mono ?_;rintro e w' ⟨rfl,rfl⟩;go_wp2_with fail;go_ret;exact ⟨Z5 (by unfold TQ;simp [h1]),(ba _ _)⟩
theorem Rt (f c f' c':Int) (w:World):Calls Tryz.prog 304 #[.agg #[.int .i64 f,.int .i64 c],.agg #[.int .i64 f',.int .i64 c']] w fun e w'=>e= .returned (.bool (P1 (f,c) (f',c')))/\Below w.heap.size w w':=by
 by_cases h1:f'<f
 ·go_enter Tryz.func304,Tryz.ntmps304
  go_wp2_with fail
  all_goals
   go_ret;exact ⟨Z5 (by unfold P1;simp [h1]),((ba _ _)).alloc (by simp) _⟩
 ·go_enter Tryz.func304,Tryz.ntmps304
  go_wp2_with fail
  all_goals
   go_ret;exact ⟨Z5 (by unfold P1;simp;omega),((ba _ _)).alloc (by simp) _⟩
theorem zu {ps:List Z4} {k:Nat} {p:Z4} (hp:Z7 ps k=p) (h:TQ p=false):Wz ps k=false:=by unfold Wz;rw [hp];simp [h]
theorem zr {ps:List Z4} {p:Z4} (hp:Z7 ps 0=p) (h:TQ p=true):Wz ps 0=true:=by unfold Wz;rw [hp];simp [h]
theorem DC {ps:List Z4} {k:Nat} {p q:Z4} (hp:Z7 ps (k+1)=p) (hq:Z7 ps k=q) (h:TQ p=true):Wz ps (k+1)=P1 p q:=by unfold Wz;simp [hp,hq,h]
theorem GZ {w:World} {v:Value} {ps:List Z4} (h:IsPaces w v ps) :
  Calls Tryz.prog 288 #[v] w fun e w'=>e= .returned (.bool (SJ ps))/\Below w.heap.size w w':=by
 obtain ⟨a,cap,rfl,hc,hm,hr⟩:=h;have Hr:=Z9 hr;clear hr;go_enter Tryz.func288,Tryz.ntmps288;go_wp2_with fail
 go_loopw [7] (fun i wr=> ∃ k:Nat,k<=ps.length/\i= .int .i64 k/\(∀ j,j<k->Wz ps j=true)/\Below w.heap.size w wr) (fun i _=>ps.length-(intOf i).toNat)
 case atStart=>exact ⟨0,ZA _,rfl,fun j hj=>by omega,Z1 _ _⟩
 case round=>
  obtain ⟨k,hk,rfl,hst,hb⟩:=hrel;have Hst:=Z9 hst;have Hb:=Z9 hb;clear hst;by_cases hlt:k<ps.length
  ·rcases uh Hr with h0 | ⟨b,off,rfl,hbw,hcl⟩
   ·rw [h0] at hlt;simp at hlt
   have hbr:b<wr.heap.size:=Zf hbw hb.size;have hne:b ≠ wr.heap.size:=U5 hbr;obtain ⟨c0,c1⟩:=hcl k hlt;rw [<-hb.cell (p:=⟨b,off+k*2,none⟩) hbw] at c0;rw [<-hb.cell (p:=⟨b,off+k*2+1,none⟩) hbw] at c1;generalize hp:Z7 ps k=p at c0 c1;have Hp:=Z9 hp;clear hp;obtain ⟨f,c⟩:=p;simp only at c0 c1;have d0:(wr.alloc (.cells #[.int .i64 f,.int .i64 c] 114)).cell? ⟨wr.heap.size,0,none⟩=some (.int .i64 f):=by simp
   have d1:(wr.alloc (.cells #[.int .i64 f,.int .i64 c] 114)).cell? ⟨wr.heap.size,1,none⟩=some (.int .i64 c):=by simp
   have k0:=ZW d0;have k1:=ZW d1;clear d0 d1;cases hpb:TQ (f,c)
   ·clear hcl
    go_wp2_with fail;refine wq ?_
    repeat (go_big_quiet_step (first | exact ZY (Qa _ _ _) | exact ZY (Rt _ _ _ _ _)))
    refine wpQuiet_nil ?_;intro _ hw';obtain ⟨⟨dq,osq⟩,hw''⟩:=hw';subst hw'';go_wp2_with fail;go_ret;exact ⟨Z5 (Tm hlt (zu (uh Hp) hpb)).symm,(uh Hb).trans (((Z1 _ _).alloc (uh Hb).size _).trans ((Z0 _ _ _).mono (by simp;have:=(uh Hb).size;omega)))⟩
   ·by_cases hz:0<k
    ·have hd:decide (0<k)=true:=Vx hz
     obtain ⟨e0,e1⟩:=hcl (k-1) (by omega);rw [<-hb.cell (p:=⟨b,off+(k-1)*2,none⟩) hbw] at e0;rw [<-hb.cell (p:=⟨b,off+(k-1)*2+1,none⟩) hbw] at e1;generalize hq:Z7 ps (k-1)=q at e0 e1;have Hq:=Z9 hq;clear hq;obtain ⟨f',c'⟩:=q;simp only at e0 e1;have m0:=ZW (w:=wr.alloc (.cells #[.int .i64 f,.int .i64 c] 114)) (a:=⟨b,off+(k-1)*2,none⟩) (v:= .int .i64 f') (by rw [World.cell?_alloc_old _ _ _ hne];exact e0);have m1:=ZW (w:=wr.alloc (.cells #[.int .i64 f,.int .i64 c] 114)) (a:=⟨b,off+(k-1)*2+1,none⟩) (v:= .int .i64 c') (by rw [World.cell?_alloc_old _ _ _ hne];exact e1);clear hcl e0 e1;cases hab:P1 (f,c) (f',c')
     all_goals
      go_wp2_with fail;refine wq ?_
      repeat (go_big_quiet_step (first | exact ZY (Qa _ _ _) | exact ZY (Rt _ _ _ _ _)))
      refine wpQuiet_nil ?_;intro _ hw';obtain ⟨⟨dq,osq⟩,hw''⟩:=hw';subst hw'';go_wp2_with fail
     ·go_ret
      exact ⟨Z5 (Tm hlt (by obtain ⟨m,rfl⟩:∃ m,k=m+1:=⟨k-1,by omega⟩;rw [DC (uh Hp) (uh Hq) hpb];exact hab)).symm,(uh Hb).trans (((Z1 _ _).alloc (uh Hb).size _).trans ((Z0 _ _ _).mono (by simp;have:=(uh Hb).size;omega)))⟩
     ·have hs:Wz ps k=true:=by obtain ⟨m,rfl⟩:∃ m,k=m+1:=⟨k-1,by omega⟩;rw [DC (uh Hp) (uh Hq) hpb];exact hab
      go_roundw
      case rel=>exact ⟨k+1,by omega,by go_num,Yh (uh Hst) hs,(uh Hb).trans (((Z1 _ _).alloc (uh Hb).size _).trans ((Z0 _ _ _).mono (by simp;have:=(uh Hb).size;omega)))⟩
      case measure=>exact ms
    ·obtain rfl:k=0:=by omega
     simp only [Nat.zero_mul,Nat.add_zero] at c0 c1;clear hcl hz;go_wp2_with fail;refine wq ?_
     repeat (go_big_quiet_step (first | exact ZY (Qa _ _ _) | exact ZY (Rt _ _ _ _ _)))
     refine wpQuiet_nil ?_;intro _ hw';obtain ⟨⟨dq,osq⟩,hw''⟩:=hw';subst hw'';go_wp2_with fail;go_roundw
     case rel=>exact ⟨1,by omega,by go_num,Yh (uh Hst) (zr (uh Hp) hpb),(uh Hb).trans (((Z1 _ _).alloc (uh Hb).size _).trans ((Z0 _ _ _).mono (by simp;have:=(uh Hb).size;omega)))⟩
     case measure=>exact ms
  ·obtain rfl:k=ps.length:=by omega
   go_wp2_with fail;go_ret;exact ⟨Z5 (GY (uh Hst)).symm,hb⟩
theorem Dt {b:Int} {ps:List Z4} (h:inB b 1 4=false):Ze (b,ps)=false:=by unfold Ze;simp [h]
theorem Du {b:Int} {ps:List Z4} (h:inB ps.length 1 4=false):Ze (b,ps)=false:=by unfold Ze;simp [h]
theorem Dv {b:Int} {ps:List Z4} (h:inB b 1 4=true) (h2:inB ps.length 1 4=true):Ze (b,ps)=SJ ps:=by unfold Ze;simp [h,h2]
theorem YO {w:World} {v:Value} {ps:List Z4} (b:Int) (h:IsPaces w v ps) :
  Calls Tryz.prog 266 #[.agg #[.int .i64 b,v]] w fun e w'=>e= .returned (.bool (Ze (b,ps)))/\Below w.heap.size w w':=by
 have Hv:=Z9 h;obtain ⟨a,cap,rfl,hc,hm,hr⟩:=h;clear hr;have hl:(ps.length:Int)<=9223372036854775807:=by omega
 cases h1:inB b 1 4
 ·go_enter Tryz.func266,Tryz.ntmps266
  go_wp2_with fail;refine (Zy _ _ _ _).mono ?_;rintro e w' ⟨rfl,rfl⟩;go_wp2_with fail;go_ret;exact ⟨Z5 (Dt h1).symm,(ba _ _)⟩
 cases h2:inB ps.length 1 4
 ·go_enter Tryz.func266,Tryz.ntmps266
  go_wp2_with fail;refine (Zy _ _ _ _).mono ?_;rintro e w' ⟨rfl,rfl⟩;go_wp2_with fail;refine (Zy _ _ _ _).mono ?_;rintro e w' ⟨rfl,rfl⟩;go_wp2_with fail;go_ret;exact ⟨Z5 (Du h2).symm,(ba _ _)⟩
 ·have H3:=Z9 (Dv h1 h2)
  go_enter Tryz.func266,Tryz.ntmps266;go_wp2_with fail;refine (Zy _ _ _ _).mono ?_;rintro e w' ⟨rfl,rfl⟩;go_wp2_with fail;refine (Zy _ _ _ _).mono ?_;rintro e w' ⟨rfl,rfl⟩;go_wp2_with fail;refine ck (GZ ((uh Hv).below ((ba _ _)))) fun w1 hb=> ?_;go_wp2_with fail;go_ret;exact ⟨Z5 (uh H3).symm,((ba _ _)).trans (hb.mono (by simp))⟩
theorem Xc {B:Nat} {w w':World} (h:Below B w w') (n:Nat):Below B w (w'.drewN n):=⟨h.os,h.tape,h.output,h.size,h.block⟩
theorem A8 {ps:List Z4} {k:Nat} {f c:Int} (hp:Z7 ps k=(f,c)) (h:inB f 1 1024=false):Wz ps k=false:=by unfold Wz TQ;rw [hp];simp [h]
theorem A9 {ps:List Z4} {k:Nat} {f c:Int} (hp:Z7 ps k=(f,c)) (h:inB c 1 1024=false):Wz ps k=false:=by unfold Wz TQ;rw [hp];simp [h]
theorem zt {ps:List Z4} {k:Nat} {f c f' c':Int} (hp:Z7 ps k=(f,c)) (hz:0<k) (hq:Z7 ps (k-1)=(f',c')) (h1:inB f 1 1024=true) (h2:inB c 1 1024=true):Wz ps k=(decide (f'<f) && decide (c'<c)):=by
 unfold Wz TQ P1;rw [hp,hq];simp [h1,h2];omega
theorem Bb {ps:List Z4} {f c:Int} (hp:Z7 ps 0=(f,c)) (h1:inB f 1 1024=true) (h2:inB c 1 1024=true):Wz ps 0=true:=by unfold Wz TQ;rw [hp];simp [h1,h2]
theorem YA {w:World} {v:Value} {ps:List Z4} (rb:Int) (h:IsPaces w v ps) :
  Calls Tryz.prog 174 #[.agg #[.int .i64 rb,v]] w fun e w'=>e= .returned (.bool (Ze (rb,ps)))/\Below w.heap.size w w':=by
 obtain ⟨a,cap,rfl,hc,hm,hr⟩:=h;have Hr:=Z9 hr;clear hr;have hl:(ps.length:Int)<=9223372036854775807:=by omega
 cases h1:inB rb 1 4
 ·go_enter Tryz.func174,Tryz.ntmps174
  go_wp2_with fail;refine (ZT _ _ _ _).mono ?_;rintro e w' ⟨rfl,rfl⟩;go_wp2_with fail;go_ret;exact ⟨Z5 (Dt h1).symm,(ba _ _)⟩
 cases h2:inB ps.length 1 4
 ·go_enter Tryz.func174,Tryz.ntmps174
  go_wp2_with fail;refine (ZT _ _ _ _).mono ?_;rintro e w' ⟨rfl,rfl⟩;go_wp2_with fail;refine (ZT _ _ _ _).mono ?_;rintro e w' ⟨rfl,rfl⟩;go_wp2_with fail;go_ret;exact ⟨Z5 (Du h2).symm,(ba _ _)⟩
 have H3:=Z9 (Dv h1 h2);go_enter Tryz.func174,Tryz.ntmps174;go_wp2_with fail;refine (ZT _ _ _ _).mono ?_;rintro e w' ⟨rfl,rfl⟩;go_wp2_with fail;refine (ZT _ _ _ _).mono ?_;rintro e w' ⟨rfl,rfl⟩;go_wp2_with fail;clear h1 h2
 go_loopw [3] (fun i wr=> ∃ k:Nat,k<=ps.length/\i= .int .i64 k/\(∀ j,j<k->Wz ps j=true)/\Below (w.heap.size+1) (w.alloc (.cells #[.int .i64 rb,.slice a ps.length cap] 112)) wr) (fun i _=>ps.length-(intOf i).toNat)
 case atStart=>exact ⟨0,ZA _,rfl,fun j hj=>by omega,Z1 _ _⟩
 case round=>
  obtain ⟨k,hk,rfl,hst,hb⟩:=hrel;have Hst:=Z9 hst;have Hb:=Z9 hb;clear hst;have hsz:w.heap.size+1<=wr.heap.size:=by have:=hb.size;simpa using this
  have hbox:wr.cell? ⟨w.heap.size,1,none⟩=some (.slice a ps.length cap):=by rw [hb.cell (p:=⟨w.heap.size,1,none⟩) (by simp)];simp
  have hne0:w.heap.size ≠ wr.heap.size:=by omega
  by_cases hlt:k<ps.length
  ·rcases uh Hr with h0 | ⟨b,off,rfl,hbw,hcl⟩
   ·rw [h0] at hlt;simp at hlt
   have hbB:Below w.heap.size w wr:=((ba _ _)).trans (hb.mono (by omega));have hne:b ≠ wr.heap.size:=by omega
   have hne':b ≠ w.heap.size:=by omega
   obtain ⟨c0,c1⟩:=hcl k hlt;rw [<-hbB.cell (p:=⟨b,off+k*2,none⟩) hbw] at c0;rw [<-hbB.cell (p:=⟨b,off+k*2+1,none⟩) hbw] at c1;generalize hp:Z7 ps k=p at c0 c1;have Hp:=Z9 hp;obtain ⟨f,c⟩:=p;simp only at c0 c1;clear hp hb;cases h1:inB f 1 1024
   ·clear hcl
    go_wp2_with fail;go_quiet (exact Yg (ZT _ _ _ _));go_wp2_with fail;go_ret;exact ⟨Z5 (by rw [uh H3];exact (Tm hlt (A8 (uh Hp) h1)).symm),((ba _ _)).trans ((Xc ((uh Hb).alloc hsz _) _).mono (by omega))⟩
   cases h2:inB c 1 1024
   ·clear hcl
    go_wp2_with fail;go_quiet (exact Yg (ZT _ _ _ _));go_wp2_with fail;go_ret;exact ⟨Z5 (by rw [uh H3];exact (Tm hlt (A9 (uh Hp) h2)).symm),((ba _ _)).trans ((Xc ((uh Hb).alloc hsz _) _).mono (by omega))⟩
   by_cases hz:0<k
   ·have hd:decide (0<k)=true:=Vx hz
    obtain ⟨e0,e1⟩:=hcl (k-1) (by omega);rw [<-hbB.cell (p:=⟨b,off+(k-1)*2,none⟩) hbw] at e0;rw [<-hbB.cell (p:=⟨b,off+(k-1)*2+1,none⟩) hbw] at e1;generalize hq:Z7 ps (k-1)=q at e0 e1;have Hq:=Z9 hq;obtain ⟨f',c'⟩:=q;simp only at e0 e1;have q0:(wr.alloc (.cells #[.int .i64 f,.int .i64 c] 114)).cell? ⟨w.heap.size,1,none⟩=some (.slice (some ⟨b,off,none⟩) ps.length cap):=by rw [World.cell?_alloc_old _ _ _ hne0];exact hbox
    have q1:(wr.alloc (.cells #[.int .i64 f,.int .i64 c] 114)).cell? ⟨b,off+(k-1)*2,none⟩=some (.int .i64 f'):=by rw [World.cell?_alloc_old _ _ _ hne];exact e0
    have q2:(wr.alloc (.cells #[.int .i64 f,.int .i64 c] 114)).cell? ⟨b,off+(k-1)*2+1,none⟩=some (.int .i64 c'):=by rw [World.cell?_alloc_old _ _ _ hne];exact e1
    clear hcl hq e0 e1;have Hs:=Z9 (zt (uh Hp) hz (uh Hq) h1 h2);by_cases g1:f<=f'
    ·have g1':decide (f<=f')=true:=Vx g1
     go_wp2_with fail;go_quiet (exact Yg (ZT _ _ _ _));go_wp2_with fail;go_ret;exact ⟨Z5 (by rw [uh H3];exact (Tm hlt (by rw [uh Hs];simp;omega)).symm),((ba _ _)).trans ((Xc ((uh Hb).alloc hsz _) _).mono (by omega))⟩
    have g1':decide (f<=f')=false:=Xr g1;by_cases g2:c<=c'
    ·have g2':decide (c<=c')=true:=Vx g2
     go_wp2_with fail;go_quiet (exact Yg (ZT _ _ _ _));go_wp2_with fail;go_ret;exact ⟨Z5 (by rw [uh H3];exact (Tm hlt (by rw [uh Hs];simp;omega)).symm),((ba _ _)).trans ((Xc ((uh Hb).alloc hsz _) _).mono (by omega))⟩
    ·have g2':decide (c<=c')=false:=Xr g2
     go_wp2_with fail;go_quiet (exact Yg (ZT _ _ _ _));go_wp2_with fail;go_roundw
     case rel=>exact ⟨k+1,by omega,by go_num,Yh (uh Hst) (by rw [uh Hs];simp;omega),Xc ((uh Hb).alloc hsz _) _⟩
     case measure=>exact ms
   ·obtain rfl:k=0:=by omega
    simp only [Nat.zero_mul,Nat.add_zero] at c0 c1;clear hcl hz;go_wp2_with fail;go_quiet (exact Yg (ZT _ _ _ _));go_wp2_with fail;go_roundw
    case rel=>exact ⟨1,by omega,by go_num,Yh (uh Hst) (Bb (uh Hp) h1 h2),Xc ((uh Hb).alloc hsz _) _⟩
    case measure=>exact ms
  ·obtain rfl:k=ps.length:=by omega
   clear hb;go_wp2_with fail;go_ret;exact ⟨Z5 (by rw [uh H3];exact (GY (uh Hst)).symm),((ba _ _)).trans ((uh Hb).mono (by omega))⟩
def Adds (rs:List ZZ):Prop:= ∀ k,k<=rs.length->0<=ZV (rs.take k)/\ZV (rs.take k)<=1000000
theorem IP {rs:List ZZ} (h:rs.all Ze=true) (hl:rs.length<=3):Adds rs:=fun k hk=>by have:=Rd h k hk;omega
theorem Adds.taken {rs:List ZZ} (h:Adds rs) (n:Nat):Adds (rs.take n):=fun k hk=>by
 have hk':k<=n/\k<=rs.length:=by simp at hk;omega
 rw [List.take_take,Nat.min_eq_left hk'.1];exact h k hk'.2
theorem Of {w:World} {v:Value} {rs:List ZZ} (h:IsRooms w v rs) :
  Calls Tryz.prog 223 #[v] w fun e w'=>e= .returned (.bool (rs.all Ze))/\Below w.heap.size w w':=by
 obtain ⟨a,cap,rfl,hc,hm,hr⟩:=h;have Hr:=Z9 hr;clear hr;go_enter Tryz.func223,Tryz.ntmps223;go_wp2_with fail
 go_loopw [7] (fun i wr=> ∃ k:Nat,k<=rs.length/\i= .int .i64 k/\(∀ j,j<k->Ze (ZR rs j)=true)/\Below w.heap.size w wr) (fun i _=>rs.length-(intOf i).toNat)
 case atStart=>exact ⟨0,ZA _,rfl,fun j hj=>by omega,Z1 _ _⟩
 case round=>
  obtain ⟨k,hk,rfl,hst,hb⟩:=hrel;have Hst:=Z9 hst;have Hb:=Z9 hb;have hsz:=hb.size;clear hst;by_cases hlt:k<rs.length
  ·rcases uh Hr with h0 | ⟨b,off,rfl,hbw,hcl⟩
   ·rw [h0] at hlt;simp at hlt
   obtain ⟨c0,pv,c1,hip⟩:=hcl k hlt;rw [<-hb.cell (p:=⟨b,off+k*2,none⟩) hbw] at c0;rw [<-hb.cell (p:=⟨b,off+k*2+1,none⟩) hbw] at c1;have Hip:=Z9 (hip.below hb);obtain ⟨pa,pcap,rfl,_⟩:=hip;generalize hp:ZR rs k=p at *;obtain ⟨rb,ps⟩:=p;simp only at c0 c1;have Hp:=Z9 hp;clear hp hcl hb;cases hrb:Ze (rb,ps)
   ·go_wp2_with fail
    refine ck (YO rb ((uh Hip).below ((ba _ _)))) fun w1 hb1=> ?_;go_wp2_with fail;go_ret;exact ⟨Z5 (Lj hlt (by rw [uh Hp];exact hrb)).symm,((uh Hb).alloc hsz _).trans (hb1.mono (by simp;omega))⟩
   ·go_wp2_with fail
    refine ck (YO rb ((uh Hip).below ((ba _ _)))) fun w1 hb1=> ?_;have Hb1:=Z9 hb1;clear hb1;go_wp2_with fail;go_roundw
    case rel=>exact ⟨k+1,by omega,by go_num,Yh (uh Hst) (by rw [uh Hp];exact hrb),((uh Hb).alloc hsz _).trans ((uh Hb1).mono (by simp;omega))⟩
    case measure=>exact ms
  ·obtain rfl:k=rs.length:=by omega
   go_wp2_with fail;go_ret;exact ⟨Z5 (Lk (uh Hst)).symm,hb⟩
theorem V8 {w:World} {v:Value} {rs:List ZZ} (h:IsRooms w v rs) (ha:Adds rs) :
  Calls Tryz.prog 224 #[v] w fun e w'=>e= .returned (.int .i64 (ZV rs))/\Below w.heap.size w w':=by
 obtain ⟨a,cap,rfl,hc,hm,hr⟩:=h;have Hr:=Z9 hr;have Ha:=Z9 ha;clear hr ha;go_enter Tryz.func224,Tryz.ntmps224;go_wp2_with fail
 go_loopw [3,8] (fun s i wr=> ∃ k:Nat,k<=rs.length/\i= .int .i64 k/\s= .int .i64 (ZV (rs.take k))/\Below w.heap.size w wr) (fun _ i _=>rs.length-(intOf i).toNat)
 case atStart=>exact ⟨0,ZA _,rfl,rfl,Z1 _ _⟩
 case round=>
  obtain ⟨k,hk,rfl,rfl,hb⟩:=hrel;have Hb:=Z9 hb;have hsz:=hb.size;by_cases hlt:k<rs.length
  ·rcases uh Hr with h0 | ⟨b,off,rfl,hbw,hcl⟩
   ·rw [h0] at hlt;simp at hlt
   obtain ⟨c0,pv,c1,hip⟩:=hcl k hlt;rw [<-hb.cell (p:=⟨b,off+k*2,none⟩) hbw] at c0;rw [<-hb.cell (p:=⟨b,off+k*2+1,none⟩) hbw] at c1;obtain ⟨pa,pcap,rfl,_⟩:=hip;have hs0:=uh Ha k hk;have hs1:=uh Ha (k+1) hlt;have Hs:=Z9 (XS rs hlt);rw [XS rs hlt] at hs1;generalize ZV (rs.take k)=s at *;generalize (ZR rs k).1=rb at *;obtain ⟨s0,s1⟩:=hs0;obtain ⟨s2,s3⟩:=hs1;clear hcl hb;go_wp2_with fail;go_roundw
   case rel=>exact ⟨k+1,by omega,by go_num,by rw [uh Hs],(uh Hb).alloc hsz _⟩
   case measure=>exact ms
  ·obtain rfl:k=rs.length:=by omega
   go_wp2_with fail;go_ret;exact ⟨ZC (by rw [Sj]),hb⟩
theorem Da {rs:List ZZ} (h:inB rs.length 1 3=false):Y2 rs=false:=by unfold Y2;simp [h]
theorem Db {rs:List ZZ} (h:rs.all Ze=false):Y2 rs=false:=by unfold Y2;rw [h];simp
theorem Dc {rs:List ZZ} (h:inB rs.length 1 3=true) (h2:rs.all Ze=true):Y2 rs=decide (ZV rs<=8):=by unfold Y2;rw [h,h2];simp
theorem IsRooms.alloc {w:World} {v:Value} {rs:List ZZ} (h:IsRooms w v rs) (o:Obj):IsRooms (w.alloc o) v rs:=h.below ((ba _ _))
theorem XI {w:World} {v:Value} {rs:List ZZ} (h:IsRooms w v rs) :
  Calls Tryz.prog 175 #[.agg #[v]] w fun e w'=>e= .returned (.bool (Y2 rs))/\Below w.heap.size w w':=by
 have Hv:=Z9 h;obtain ⟨a,cap,rfl,hc,hm,hr⟩:=h;clear hr;have hl:(rs.length:Int)<=9223372036854775807:=by omega
 cases h1:inB rs.length 1 3
 ·go_enter Tryz.func175,Tryz.ntmps175
  go_wp2_with fail;refine (Zy _ _ _ _).mono ?_;rintro e w' ⟨rfl,rfl⟩;go_wp2_with fail;go_ret;exact ⟨Z5 (Da h1).symm,(ba _ _)⟩
 cases h2:rs.all Ze
 ·have H2:=Z9 (Db h2)
  generalize hx:rs.all Ze=x at *;have Hx:=Z9 hx;clear hx;subst h2;go_enter Tryz.func175,Tryz.ntmps175;go_wp2_with fail;refine (Zy _ _ _ _).mono ?_;rintro e w' ⟨rfl,rfl⟩;go_wp2_with fail;refine (Of ((uh Hv).alloc _)).mono ?_;rw [uh Hx];rintro e w1 ⟨rfl,hb⟩;go_wp2_with fail;go_ret;exact ⟨Z5 (uh H2).symm,((ba _ _)).trans (hb.mono (by simp))⟩
 ·have H3:=Z9 (Dc h1 h2)
  have Ha:=Z9 (IP h2 (by have:=ZO h1;omega));generalize hx:rs.all Ze=x at *;have Hx:=Z9 hx;clear hx;subst h2;go_enter Tryz.func175,Tryz.ntmps175;go_wp2_with fail;refine (Zy _ _ _ _).mono ?_;rintro e w' ⟨rfl,rfl⟩;go_wp2_with fail;refine (Of ((uh Hv).alloc _)).mono ?_;rw [uh Hx];rintro e w1 ⟨rfl,hb⟩;have hz:w.heap.size+1<=w1.heap.size:=by have:=hb.size;simpa using this
  have hbox:w1.cell? ⟨w.heap.size,0,none⟩=some (.slice a rs.length cap):=by rw [hb.cell (p:=⟨w.heap.size,0,none⟩) (by simp)];simp
  have hw1:=Z9 (((uh Hv).alloc _).below hb);have Hb:=Z9 hb;clear hb;go_wp2_with fail;refine ck (V8 (uh hw1) (uh Ha)) fun w2 hb2=> ?_;have Hb2:=Z9 hb2;clear hb2;go_wp2_with fail;go_ret;exact ⟨Z5 (by rw [uh H3]),((ba _ _)).trans (((uh Hb).trans ((uh Hb2).mono (uh Hb).size)).mono (by simp))⟩
def Wo (rs:List ZZ):Int:=if Y2 rs=true then ZV rs else -1
theorem T0 {rs:List ZZ} (h:Y2 rs=true):Wo rs=ZV rs:=by unfold Wo;rw [if_pos h]
theorem P6 {rs:List ZZ} (h:Y2 rs=false):Wo rs= -1:=by unfold Wo;rw [h];rfl
theorem SZ {rs:List ZZ} (h:Y2 rs=true):Adds rs:=IP (Zo h).2.2.1 (Zo h).2.1
theorem VH {w:World} {v:Value} {rs:List ZZ} (h:IsRooms w v rs) :
  Calls Tryz.prog 179 #[.agg #[v]] w fun e w'=>e= .returned (.int .i64 (Wo rs))/\Below w.heap.size w w':=by
 have Hv:=Z9 h;obtain ⟨a,cap,rfl,hc,hm,hr⟩:=h;clear hr;cases h1:Y2 rs
 ·have H1:=Z9 h1
  clear h1;go_enter Tryz.func179,Tryz.ntmps179;go_wp2_with fail;refine (XI ((uh Hv).alloc _)).mono ?_;rw [uh H1];rintro e w1 ⟨rfl,hb⟩;go_wp2_with fail;go_ret;exact ⟨ZC (P6 (uh H1)).symm,((ba _ _)).trans (hb.mono (by simp))⟩
 ·have H1:=Z9 h1
  clear h1;go_enter Tryz.func179,Tryz.ntmps179;go_wp2_with fail;refine (XI ((uh Hv).alloc _)).mono ?_;rw [uh H1];rintro e w1 ⟨rfl,hb⟩;have hz:w.heap.size+1<=w1.heap.size:=by have:=hb.size;simpa using this
  have hbox:w1.cell? ⟨w.heap.size,0,none⟩=some (.slice a rs.length cap):=by rw [hb.cell (p:=⟨w.heap.size,0,none⟩) (by simp)];simp
  have hw1:=Z9 (((uh Hv).alloc _).below hb);have Hb:=Z9 hb;clear hb;go_wp2_with fail;refine ck (V8 (uh hw1) (SZ (uh H1))) fun w2 hb2=> ?_;have Hb2:=Z9 hb2;clear hb2;go_wp2_with fail;go_ret;exact ⟨ZC (T0 (uh H1)).symm,((ba _ _)).trans (((uh Hb).trans ((uh Hb2).mono (uh Hb).size)).mono (by simp))⟩
theorem RA {w:World} {v:Value} {rs:List ZZ} (h:IsRooms w v rs) (ha:Adds rs) :
  Calls Tryz.prog 116 #[.agg #[v]] w fun e w'=>e= .returned (.int .i64 (ZV rs))/\Below w.heap.size w w':=by
 obtain ⟨a,cap,rfl,hc,hm,hr⟩:=h;have Hr:=Z9 hr;have Ha:=Z9 ha;clear hr ha;go_enter Tryz.func116,Tryz.ntmps116;go_wp2_with fail
 go_loop [3,4] (fun s i=> ∃ k:Nat,k<=rs.length/\i= .int .i64 k/\s= .int .i64 (ZV (rs.take k))) (fun _ i=>rs.length-(intOf i).toNat)
 case atStart=>exact ⟨0,ZA _,rfl,rfl⟩
 case round=>
  obtain ⟨k,hk,rfl,rfl⟩:=hrel;by_cases hlt:k<rs.length
  ·rcases uh Hr with h0 | ⟨b,off,rfl,hbw,hcl⟩
   ·rw [h0] at hlt;simp at hlt
   obtain ⟨c0,pv,c1,hip⟩:=hcl k hlt;have hne:b ≠ w.heap.size:=U5 hbw;have hs0:=uh Ha k hk;have hs1:=uh Ha (k+1) hlt;have Hs:=Z9 (XS rs hlt);rw [XS rs hlt] at hs1;generalize ZV (rs.take k)=s at *;generalize (ZR rs k).1=rb at *;obtain ⟨s0,s1⟩:=hs0;obtain ⟨s2,s3⟩:=hs1;clear hcl hip;go_wp2_with fail
   go_round
   case rel=>exact ⟨k+1,by omega,by go_num,by rw [uh Hs]⟩
   case measure=>exact ms
  ·obtain rfl:k=rs.length:=by omega
   go_wp2_with fail;go_ret;exact ⟨ZC (by first | rfl | rw [Sj]),(ba _ _)⟩
theorem Uw {w:World} {v:Value} {rs:List ZZ} (h:IsRooms w v rs) :
  Calls Tryz.prog 114 #[.agg #[v]] w fun e w'=>e= .returned (.bool (Y2 rs))/\Below w.heap.size w w':=by
 have Hv:=Z9 h;obtain ⟨a,cap,rfl,hc,hm,hr⟩:=h;have Hr:=Z9 hr;clear hr;have hl:(rs.length:Int)<=9223372036854775807:=by omega
 go_enter Tryz.func114,Tryz.ntmps114;go_wp2_with fail
 go_loopw [3] (fun i wr=> ∃ k:Nat,k<=rs.length/\i= .int .i64 k/\(∀ j,j<k->Ze (ZR rs j)=true)/\Below (w.heap.size+1) (w.alloc (.cells #[.slice a rs.length cap] 26)) wr) (fun i _=>rs.length-(intOf i).toNat)
 case atStart=>exact ⟨0,ZA _,rfl,fun j hj=>by omega,Z1 _ _⟩
 case round=>
  obtain ⟨k,hk,rfl,hst,hb⟩:=hrel;have Hst:=Z9 hst;have Hb:=Z9 hb;have hsz:w.heap.size+1<=wr.heap.size:=by have:=hb.size;simpa using this
  have hbox:wr.cell? ⟨w.heap.size,0,none⟩=some (.slice a rs.length cap):=by rw [hb.cell (p:=⟨w.heap.size,0,none⟩) (by simp)];simp
  have hbB:Below w.heap.size w wr:=((ba _ _)).trans (hb.mono (by omega));clear hst;by_cases hlt:k<rs.length
  ·rcases uh Hr with h0 | ⟨b,off,rfl,hbw,hcl⟩
   ·rw [h0] at hlt;simp at hlt
   obtain ⟨c0,pv,c1,hip⟩:=hcl k hlt;rw [<-hbB.cell (p:=⟨b,off+k*2,none⟩) hbw] at c0;rw [<-hbB.cell (p:=⟨b,off+k*2+1,none⟩) hbw] at c1;have Hip:=Z9 (hip.below hbB);obtain ⟨pa,pcap,rfl,_⟩:=hip;generalize hp:ZR rs k=p at *;obtain ⟨rb,ps⟩:=p;simp only at c0 c1;have Hp:=Z9 hp;have HbB:=Z9 hbB;clear hp hcl hb hbB;cases hrb:Ze (rb,ps)
   ·go_wp2_with fail
    refine ck (YA rb (uh Hip)) fun w1 hb1=> ?_;have Hb1:=Z9 hb1;clear hb1;go_wp2_with fail;go_ret;exact ⟨Z5 (Db (Lj hlt (by rw [uh Hp];exact hrb))).symm,(uh HbB).trans ((uh Hb1).mono (uh HbB).size)⟩
   ·go_wp2_with fail
    refine ck (YA rb (uh Hip)) fun w1 hb1=> ?_;have Hb1:=Z9 hb1;clear hb1;go_wp2_with fail;go_roundw
    case rel=>exact ⟨k+1,by omega,by go_num,Yh (uh Hst) (by rw [uh Hp];exact hrb),(uh Hb).trans ((uh Hb1).mono hsz)⟩
    case measure=>exact ms
  ·obtain rfl:k=rs.length:=by omega
   have h2:=Lk (uh Hst);have HbB:=Z9 hbB;have hw1:=Z9 ((uh Hv).below hbB);clear hb hbB;cases h1:inB rs.length 1 3
   ·have H2:=Z9 (Da h1)
    clear h2;go_wp2_with fail;refine (ZT _ _ _ _).mono ?_;rintro e w' ⟨rfl,rfl⟩;go_wp2_with fail;go_ret;exact ⟨Z5 (uh H2).symm,uh HbB⟩
   ·have H3:=Z9 (Dc h1 h2)
    have Ha:=Z9 (IP h2 (by have:=ZO h1;omega));clear h2;go_wp2_with fail;refine (ZT _ _ _ _).mono ?_;rintro e w' ⟨rfl,rfl⟩;go_wp2_with fail;refine ck (RA (uh hw1) (uh Ha)) fun w2 hb2=> ?_;have Hb2:=Z9 hb2;clear hb2;go_wp2_with fail;go_ret;exact ⟨Z5 (by rw [uh H3]),(uh HbB).trans ((uh Hb2).mono (uh HbB).size)⟩
theorem IsRooms.shape {w:World} {v:Value} {rs:List ZZ} (h:IsRooms w v rs):∃ a cap,v= .slice a rs.length cap/\rs.length<=cap/\cap<=9223372036854775807:=by
 obtain ⟨a,cap,rfl,hc,hm,_⟩:=h;exact ⟨a,cap,rfl,hc,hm⟩
section
variable {α : Type} {t k : Nat} {enc : α → List Value}
def UK (enc:α->List Value) (xs:List α):List Value:=xs.flatMap enc
theorem V9 (hk:∀ x,(enc x).length=k):∀ xs:List α,(UK enc xs).length=xs.length*k
 | []=>by simp [UK]
 | x::xs=>by
  have ih:=V9 hk xs;unfold UK at ih ⊢;rw [List.flatMap_cons,List.length_append,ih,hk,YT,Nat.add_mul];omega
theorem NT (xs ys:List α):UK enc (xs++ys)=UK enc xs++UK enc ys:=by unfold UK;rw [List.flatMap_append]
def Ig (L:List Value) (o:Nat):List Value->List Value
 | []=>L
 | u::us=>Ig (L.set o u) (o+1) us
def QG (w:World) (g o:Nat):List Value->World
 | []=>w
 | u::us=>QG (w.setCell ⟨g,o,none⟩ u) g (o+1) us
theorem Ij:∀ (us L:List Value) (o:Nat),(Ig L o us).length=L.length
 | [],L,o=>rfl
 | u::us,L,o=>by unfold Ig;rw [Ij us];simp
theorem Ii:∀ (us L:List Value) (o m:Nat),o+us.length<=L.length->(Ig L o us)[m]?=if o<=m/\m<o+us.length then us[m-o]? else L[m]?
 | [],L,o,m,h=>by unfold Ig;rw [if_neg (by simp)]
 | u::us,L,o,m,h=>by
  unfold Ig;have ih:=Ii us (L.set o u) (o+1) m (by simp at h ⊢;omega);rw [ih];simp only [YT] at h ⊢;by_cases h1:o+1<=m/\m<o+1+us.length
  ·rw [if_pos h1,if_pos (by omega),show m-o=(m-(o+1))+1 by omega];rfl
  ·rw [if_neg h1]
   by_cases h2:m=o
   ·subst h2;rw [if_pos (by omega),List.getElem?_set_self (by omega)];simp
   ·rw [if_neg (by omega),List.getElem?_set_ne (by omega)]
theorem GS {B t n cap g sz:Nat} : ∀ (us:List Value) {w:World} {xs:List Value} (o:Nat),w.ownsRow B t sz (.slice (some ⟨g,0,none⟩) n cap) n xs->
  (QG w g o us).ownsRow B t sz (.slice (some ⟨g,0,none⟩) n cap) n (Ig xs o us)/\w.grownBy (QG w g o us) (some g)
 | [],w,xs,o,h=>⟨h,Ss _ _⟩
 | u::us,w,xs,o,h=>by
  obtain ⟨h1,h2⟩:=World.ownsRow.stored h o u;obtain ⟨h3,h4⟩:=GS us (o+1) h1;exact ⟨h3,Ro h2 h4⟩
def RecAt (t k:Nat) (enc:α->List Value) (n₀:Nat) (w:World) (v:Value) (xs:List α):Prop:=w.ownsRow n₀ t k v xs.length (UK enc xs)
theorem RecAt.lt {n₀:Nat} {w:World} {v:Value} {xs:List α} (h:RecAt t k enc n₀ w v xs) {i:Nat} (hi:v.ownBlock=some i):n₀<=i/\i<w.heap.size:=World.ownsRow.lt h i hi
theorem RecAt.mono {n₀ n₁:Nat} {w:World} {v:Value} {xs:List α} (h:RecAt t k enc n₀ w v xs) (hn:n₁<=n₀):RecAt t k enc n₁ w v xs:=Tl h hn
theorem RecAt.same {n₀:Nat} {w w':World} {v:Value} {xs:List α} (h:RecAt t k enc n₀ w v xs) (hs:∀ i,v.ownBlock=some i->w'.heap[i]?=w.heap[i]?):RecAt t k enc n₀ w' v xs:=Xm h hs
theorem RecAt.later {n₀:Nat} {w w':World} {v:Value} {xs:List α} (h:RecAt t k enc n₀ w v xs) (hb:Below w.heap.size w w'):RecAt t k enc n₀ w' v xs:=h.same fun i hi=>hb.block i (h.lt hi).2
theorem RecAt.grown {n₀:Nat} {w w':World} {v:Value} {xs:List α} {r:Option Nat} (h:RecAt t k enc n₀ w v xs) (hg:w.grownBy w' r) (hr:∀ i,v.ownBlock=some i->r ≠ some i):RecAt t k enc n₀ w' v xs:=h.same fun i hi=>hg.block i (h.lt hi).2 (fun e=>hr i hi e.symm)
theorem RecAt.shape {n₀:Nat} {w:World} {v:Value} {xs:List α} (h:RecAt t k enc n₀ w v xs):∃ a cap,v= .slice a xs.length cap:=by
 rcases h.2 with ⟨rfl,hz⟩ | ⟨g,cap,cur,rfl,_⟩
 ·exact ⟨none,0,by rw [hz]⟩
 ·exact ⟨_,cap,rfl⟩
end
section
variable {α : Type} [Inhabited α] {t k : Nat} {enc : α → List Value}
def Z8 (xs:List α) (j:Nat):α:=xs.getD j default
theorem Q6 {xs:List α} {j:Nat} (h:j<xs.length):Z8 xs j=xs[j]:=by unfold Z8;simp [List.getD,h]
theorem Vu {xs:List α} {j:Nat} (h:j<xs.length):Z8 xs j ∈ xs:=by rw [Q6 h];exact List.getElem_mem h
theorem ZJ {xs:List α} {i:Nat} {x:α} (h:i<xs.length) (j:Nat):Z8 (xs.set i x) j=if j=i then x else Z8 xs j:=by
 unfold Z8;by_cases e:j=i
 ·subst e;simp [List.getD,h]
 ·rw [if_neg e];simp [List.getD,Ne.symm e]
theorem VF (hk:∀ x,(enc x).length=k):∀ (xs:List α) (j:Nat),j<xs.length-> ∀ i,i<k->(UK enc xs)[j*k+i]?=(enc (Z8 xs j))[i]?
 | x::xs,0,_,i,hi=>by
  unfold UK Z8;rw [List.flatMap_cons,Nat.zero_mul,Nat.zero_add,List.getElem?_append_left (by rw [hk];exact hi)];rfl
 | x::xs,j+1,h,i,hi=>by
  have ih:=VF hk xs j (by simpa using h) i hi;unfold UK Z8 at ih ⊢;rw [List.flatMap_cons,List.getElem?_append_right (by rw [hk,Nat.add_mul];omega),hk,show (j+1)*k+i-k=j*k+i by rw [Nat.add_mul];omega,ih];rfl
theorem Ac (hk:∀ x,(enc x).length=k) (h0:0<k) (xs:List α) (j:Nat) (hj:j<xs.length) (x:α):Ig (UK enc xs) (j*k) (enc x)=UK enc (xs.set j x):=by
 have hl:=V9 hk xs;have hjk:j*k+k<=xs.length*k:=by rw [<-Nat.succ_mul];exact Nat.mul_le_mul_right k hj
 apply List.ext_getElem?;intro m;by_cases hm:m<xs.length*k
 ·have hd:m / k<xs.length:=(Nat.div_lt_iff_lt_mul h0).2 hm
  have hr:m%k<k:=Nat.mod_lt _ h0;have he:m=m / k*k+m%k:=by rw [Nat.mul_comm];exact (Nat.div_add_mod m k).symm
  have hg:=VF hk (xs.set j x) (m / k) (by simpa using hd) (m%k) hr;have hg0:=VF hk xs (m / k) hd (m%k) hr;rw [<-he] at hg hg0;rw [Ii _ _ _ _ (by rw [hl,hk];exact hjk),hg,hk,ZJ hj,hg0];by_cases e:m / k=j
  ·rw [if_pos e,if_pos (by rw [<-e];omega),show m-j*k=m%k by rw [<-e];omega]
  ·rw [if_neg e,if_neg]
   intro ⟨h1,h2⟩;apply e;exact Nat.div_eq_of_lt_le h1 (by rw [Nat.succ_mul];exact h2)
 ·rw [List.getElem?_eq_none (by rw [Ij,hl];omega),List.getElem?_eq_none (by rw [V9 hk];simp;omega)]
def IsRec (k:Nat) (enc:α->List Value) (w:World) (v:Value) (xs:List α):Prop:=
 ∃ (a:Option Addr) (cap:Nat),v= .slice a xs.length cap/\xs.length<=cap/\cap<=9223372036854775807/\(xs=[]\/ ∃ b off,a=some ⟨b,off,none⟩/\b<w.heap.size/\
  ∀ j,j<xs.length-> ∀ i u,(enc (Z8 xs j))[i]?=some u->w.cell? ⟨b,off+j*k+i,none⟩=some u)
theorem IsRec.below {w w':World} {v:Value} {xs:List α} (h:IsRec k enc w v xs) (hb:Below w.heap.size w w'):IsRec k enc w' v xs:=by
 obtain ⟨a,cap,rfl,hc,hm,hr⟩:=h;refine ⟨a,cap,rfl,hc,hm,?_⟩
 rcases hr with hr | ⟨b,off,rfl,hlt,hcl⟩
 ·exact .inl hr
 ·exact .inr ⟨b,off,rfl,Zf hlt hb.size,fun j hj i u hu=>(hb.cell (p:=⟨b,off+j*k+i,none⟩) hlt).trans (hcl j hj i u hu)⟩
theorem IsRec.shape {w:World} {v:Value} {xs:List α} (h:IsRec k enc w v xs):∃ a cap,v= .slice a xs.length cap/\xs.length<=cap/\cap<=9223372036854775807:=by
 obtain ⟨a,cap,rfl,hc,hm,_⟩:=h;exact ⟨a,cap,rfl,hc,hm⟩
theorem RecAt.recs (hk:∀ x,(enc x).length=k) (h0:0<k) {n₀:Nat} {w:World} {v:Value} {xs:List α} (h:RecAt t k enc n₀ w v xs):IsRec k enc w v xs:=by
 have h':=h
 rcases h.2 with ⟨rfl,hz⟩ | ⟨g,cap,cur,rfl,hb,hg,hnc,hcm,r⟩
 ·exact ⟨none,0,by rw [hz],by omega,by omega,.inl (List.eq_nil_of_length_eq_zero hz)⟩
 ·refine ⟨_,cap,rfl,hnc,by unfold maxLen at hcm;omega,.inr ⟨g,0,rfl,(Array.getElem?_eq_some_iff.1 hg).1,fun j hj i u hu=> ?_⟩⟩
  have hi:i<k:=by
   rcases Nat.lt_or_ge i k with h | h
   ·exact h
   ·rw [List.getElem?_eq_none (by rw [hk];exact h)] at hu;cases hu
  have hjk:j*k+k<=xs.length*k:=by rw [<-Nat.succ_mul];exact Nat.mul_le_mul_right k hj
  rw [Nat.zero_add,World.ownsRow.cellAt h' (j*k+i) (by omega),VF hk xs j hj i hi];exact hu
theorem RecAt.view (hk:∀ x,(enc x).length=k) (h0:0<k) {n₀ n cap:Nat} {w:World} {a:Option Addr} {xs:List α} (h:RecAt t k enc n₀ w (.slice a n cap) xs) (hn:n=xs.length) (hl:0<xs.length):∃ g,a=some ⟨g,0,none⟩/\n₀<=g/\g<w.heap.size/\
  (∀ j,j<xs.length-> ∀ i u,(enc (Z8 xs j))[i]?=some u->w.cell? ⟨g,j*k+i,none⟩=some u)/\(∀ o,w.frozen? ⟨g,o,none⟩=false):=by
 subst hn;have h':=h
 rcases h.2 with ⟨hv,hz⟩ | ⟨g,cap',cur,hv,hb,hg,hnc,hcm,r⟩
 ·omega
 ·cases hv
  refine ⟨g,rfl,hb,(Array.getElem?_eq_some_iff.1 hg).1,fun j hj i u hu=> ?_,fun o=>World.ownsRow.frozenAt h' o⟩
  have hi:i<k:=by
   rcases Nat.lt_or_ge i k with h | h
   ·exact h
   ·rw [List.getElem?_eq_none (by rw [hk];exact h)] at hu;cases hu
  have hjk:j*k+k<=xs.length*k:=by rw [<-Nat.succ_mul];exact Nat.mul_le_mul_right k hj
  rw [World.ownsRow.cellAt h' (j*k+i) (by omega),VF hk xs j hj i hi];exact hu
theorem RecAt.put (hk:∀ x,(enc x).length=k) (h0:0<k) {n₀ n cap g:Nat} {w:World} {xs:List α} (h:RecAt t k enc n₀ w (.slice (some ⟨g,0,none⟩) n cap) xs) (hn:n=xs.length) {j:Nat} (hj:j<xs.length) (x:α) :
  RecAt t k enc n₀ (QG w g (j*k) (enc x)) (.slice (some ⟨g,0,none⟩) n cap) (xs.set j x)/\w.grownBy (QG w g (j*k) (enc x)) (some g):=by
 subst hn;obtain ⟨h1,h2⟩:=GS (enc x) (j*k) h;rw [Ac hk h0 xs j hj x] at h1;refine ⟨?_,h2⟩;unfold RecAt;rw [V7];exact h1
end
end Go.Proofs.YtamgfpdahadnfaaGreatDoor
namespace Go.Proofs.YtamgfpdahadnfaaGreatDoor
open Go.ChangeShapes Go.WideShapes Go.ChangeAt Go.RowKit Go.Sort
set_option linter.unusedVariables false
section
variable {α : Type} {t k : Nat} {enc : α → List Value}
theorem BZ [Inhabited α] (hk:∀ x,(enc x).length=k) (h0:0<k) (z:α) (zs:Array Value) (hz:zs.toList=enc z) (n:Nat):(madeCells zs (n*k)).toList=UK enc (List.replicate n z):=by
 have hs:zs.size=k:=by rw [<-Array.length_toList,hz,hk]
 apply List.ext_getElem?;intro m;by_cases hm:m<n*k
 ·have hd:m / k<n:=(Nat.div_lt_iff_lt_mul h0).2 hm
  have hr:m%k<k:=Nat.mod_lt _ h0;have he:m=m / k*k+m%k:=by rw [Nat.mul_comm];exact (Nat.div_add_mod m k).symm
  have hg:=VF hk (List.replicate n z) (m / k) (by simpa using hd) (m%k) hr;rw [<-he] at hg;have hrec:Z8 (List.replicate n z) (m / k)=z:=by unfold Z8;simp [List.getD,hd]
  rw [hg,hrec,<-hz];simp [madeCells,hm,hs,hr]
 ·rw [List.getElem?_eq_none (by simp [madeCells];omega),List.getElem?_eq_none (by rw [V9 hk];simp;omega)]
end
end Go.Proofs.YtamgfpdahadnfaaGreatDoor
