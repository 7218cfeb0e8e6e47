/- Part 1 of what the proof rests on. No condition but those that a theorem names. -/
import Derived.Test.YtgdpaigcmoifbaaGreatDoorChecked
import GoSem.Claim
import GoSem.ClaimJoined
import GoSem.ClaimMapViews
import Derived.JoinedTies
import Derived.KernelRfl
import Derived.RowKit
import Derived.WalkKit
import Derived.ProofKit
import Derived.OpenShut
import Derived.Outline
import Derived.Lib.QuietBelow
set_option maxHeartbeats 8000000
set_option maxRecDepth 100000
namespace Go.Proofs.YtgdpaigcmoifbaaGreatDoor
open Go.ChangeShapes Go.WideShapes Go.ChangeAt Go.RowKit
set_option linter.unusedVariables false
variable {w w' w0 w1 w2 w3 w₀ wr W W' X A B C : World} {v v0 v1 v2 v3 v4 u u0 u1 u2 u3 u4 : Value}
theorem ba (w:World) (o:Obj):Below w.heap.size w (w.alloc o):=(Below.refl _ _).alloc (Nat.le_refl _) _
theorem ms {G:Prop} (h:G:=by (simp [intOf];omega)):G:=h
theorem wq {P:Program} {id:Nat} {Q:Exit->Act->World->Prop} {a:Act} {l:List Oper} (h:wpQuiet P l.toArray (fun w'=> ∃ p:Regrown,w'=Go.Sort.grow (redrawn w p.d) p.os) (fun a'=> ∀ w',(∃ p:Regrown,w'=Go.Sort.grow (redrawn w p.d) p.os)->Q .normal a' w') l a) (hm:P.follows .mixedOrders=true:=by kernel_rfl) (hB:Region.lexB .any l.toArray=true:=by kernel_rfl):(Code.region id l.toArray true).wp P Q a w:=wp_region_quiet_below hm hB h
theorem wqn {P:Program} {ops:Array Oper} {C:World->Prop} {Q:Exit->Act->World->Prop} {a:Act} (h:∀ w',Below w.heap.size w w'->Q .normal a w'):wpQuiet P ops C (fun a'=> ∀ w',(∃ p:Regrown,w'=Go.Sort.grow (redrawn w p.d) p.os)->Q .normal a' w') [] a:=wpQuiet_nil (fun w' hp=>by obtain ⟨p,rfl⟩:=hp;exact h _ (below_regrown w p.d p.os))
theorem ck {P:Program} {f:FuncId} {args:Array Value}  {R:World->Prop} {Q:Ending->World->Prop} (h:Calls P f args w fun e w'=>e= .returned v/\R w') (hk:∀ w',R w'->Q (.returned v) w'):Calls P f args w Q:=h.mono (by rintro e w' ⟨rfl,hr⟩;exact hk w' hr)
theorem ZQ {k:IntKind} {a b:Int} (h:a=b):Ending.returned (.int k a)= .returned (.int k b):=by rw [h]
theorem Z5 {a b:Bool} (h:a=b):Ending.returned (.bool a)= .returned (.bool b):=by rw [h]
def inB (x lo hi:Int):Bool:=decide (lo<=x/\x<=hi)
theorem Zf {x lo hi:Int} (h1:lo<=x) (h2:x<=hi):inB x lo hi=true:=by unfold inB;exact decide_eq_true ⟨h1,h2⟩
theorem Xt {x lo hi:Int} (h:x<lo\/hi<x):inB x lo hi=false:=by unfold inB;exact decide_eq_false (by omega)
theorem ZO {x lo hi:Int} (h:inB x lo hi=true):lo<=x/\x<=hi:=by unfold inB at h;exact of_decide_eq_true h
theorem Z9 {p:Prop} (h:p):Hid p:=h
theorem uh {p:Prop} (h:Hid p):p:=h
theorem MU (a b:Int) (w:World):Calls Tryz.prog 155 #[.int .i64 a,.int .i64 b] w fun e w'=>e= .returned (.int .i64 (min a b))/\w'=w:=by
 by_cases h:a<b
 all_goals
  go_enter Tryz.func155,Tryz.ntmps155
  go_wp2
  go_ret;exact ⟨ZQ (by omega),rfl⟩
theorem SC (a b:Int) (w:World):Calls Tryz.prog 97 #[.int .i64 a,.int .i64 b] w fun e w'=>e= .returned (.int .i64 (max a b))/\w'=w:=by
 by_cases h:b<a
 all_goals
  go_enter Tryz.func97,Tryz.ntmps97
  go_wp2
  go_ret;exact ⟨ZQ (by omega),rfl⟩
theorem TN (x l h:Int) (w:World):Calls Tryz.prog 173 #[.int .i64 x,.int .i64 l,.int .i64 h] w fun e w'=>e= .returned (.int .i64 (min (max x l) h))/\w'=w:=by
 go_enter Tryz.func173,Tryz.ntmps173;go_wp2_with (first | (go_at_call 155;refine (MU _ _ _).mono ?_;rintro e w' ⟨rfl,rfl⟩) | (go_at_call 97;refine (SC _ _ _).mono ?_;rintro e w' ⟨rfl,rfl⟩))
 go_ret;exact ⟨rfl,rfl⟩
theorem VV (x l h:Int) (w:World):Calls Tryz.prog 200 #[.int .i64 x,.int .i64 l,.int .i64 h] w fun e w'=>e= .returned (.int .i64 (min (max x l) h))/\w'=w:=by
 by_cases c1:x<l
 ·by_cases c2:h<l
  all_goals
   go_enter Tryz.func200,Tryz.ntmps200
   go_wp2
   all_goals (go_ret;exact ⟨ZQ (by omega),rfl⟩)
 ·by_cases c2:h<x
  all_goals
   go_enter Tryz.func200,Tryz.ntmps200
   go_wp2
   all_goals (go_ret;exact ⟨ZQ (by omega),rfl⟩)
theorem ZT (x lo hi:Int) (w:World):Calls Tryz.prog 70 #[.int .i64 x,.int .i64 lo,.int .i64 hi] w fun e w'=>e= .returned (.bool (inB x lo hi))/\w'=w:=by
 by_cases h1:lo<=x
 ·by_cases h2:x<=hi
  all_goals
   go_enter Tryz.func70,Tryz.ntmps70
   go_wp2
   go_ret;exact ⟨Z5 (by first | exact (Zf h1 h2).symm | exact (Xt (by omega)).symm),rfl⟩
 ·go_enter Tryz.func70,Tryz.ntmps70
  go_wp2
  go_ret;exact ⟨Z5 (Xt (by omega)).symm,rfl⟩
theorem SA (x:Int) (w:World):Calls Tryz.prog 267 #[.int .i64 x] w fun e w'=>e= .returned (.bool (inB x 0 1000000000))/\w'=w:=by
 go_enter Tryz.func267,Tryz.ntmps267;go_wp2_with (go_at_call 70;refine (ZT _ _ _ _).mono ?_;rintro e w' ⟨rfl,rfl⟩)
 go_ret;exact ⟨rfl,rfl⟩
theorem L5 (x:Int) (w:World):Calls Tryz.prog 279 #[.int .i64 x] w fun e w'=>e= .returned (.bool (inB x 0 1000000000))/\w'=w:=by
 by_cases h1:0<=x
 ·by_cases h2:x<=1000000000
  all_goals
   go_enter Tryz.func279,Tryz.ntmps279
   go_wp2
   go_ret;exact ⟨Z5 (by first | exact (Zf h1 h2).symm | exact (Xt (by omega)).symm),rfl⟩
 ·go_enter Tryz.func279,Tryz.ntmps279
  go_wp2
  go_ret;exact ⟨Z5 (Xt (by omega)).symm,rfl⟩
theorem NK (x:Int) (w:World):Calls Tryz.prog 280 #[.int .i64 x] w fun e w'=>e= .returned (.bool (inB x 1 1000000000))/\w'=w:=by
 by_cases h1:1<=x
 ·by_cases h2:x<=1000000000
  all_goals
   go_enter Tryz.func280,Tryz.ntmps280
   go_wp2
   go_ret;exact ⟨Z5 (by first | exact (Zf h1 h2).symm | exact (Xt (by omega)).symm),rfl⟩
 ·go_enter Tryz.func280,Tryz.ntmps280
  go_wp2
  go_ret;exact ⟨Z5 (Xt (by omega)).symm,rfl⟩
theorem OH (x:Int) (w:World):Calls Tryz.prog 214 #[.int .i64 x] w fun e w'=>e= .returned (.bool (inB x 0 1024))/\w'=w:=by
 by_cases h1:0<=x
 ·by_cases h2:x<=1024
  all_goals
   go_enter Tryz.func214,Tryz.ntmps214
   go_wp2
   go_ret;exact ⟨Z5 (by first | exact (Zf h1 h2).symm | exact (Xt (by omega)).symm),rfl⟩
 ·go_enter Tryz.func214,Tryz.ntmps214
  go_wp2
  go_ret;exact ⟨Z5 (Xt (by omega)).symm,rfl⟩
theorem Q9 {p:Int->Bool} {zs:List Int} {k:Nat} {z:Int} (hlt:k<zs.length) (hz:zs.getD k 0=z) (ha:(zs.take k).all p=true) (hp:p z=true):(zs.take (k+1)).all p=true:=by
 rw [List.take_succ_eq_append_getElem hlt,List.all_append,ha];have:zs[k]=z:=by rw [<-hz];simp [List.getD,hlt]
 simp [this,hp]
theorem TS {p:Int->Bool} {zs:List Int} {k:Nat} {z:Int} (hlt:k<zs.length) (hz:zs.getD k 0=z) (hp:p z=false):zs.all p=false:=by
 have:zs[k]=z:=by rw [<-hz];simp [List.getD,hlt]
 rw [List.all_eq_false];exact ⟨zs[k],List.getElem_mem hlt,by rw [this,hp];simp⟩
theorem PJ (b cap:Nat) (zs:List Int) (w:World) (hl:zs.length<=1000) (hc:∀ k,k<zs.length->w.cell? ⟨b,k,none⟩=some (.int .i64 (zs.getD k 0))) :
  Calls Tryz.prog 278 #[.func (Fn.func 279) #[] #[],.slice (some ⟨b,0,none⟩) zs.length cap] w fun e w'=>e= .returned (.bool (zs.all fun z=>inB z 0 1000000000))/\w'=w:=by
 go_enter Tryz.func278,Tryz.ntmps278;go_wp2_with fail
 go_loop [9] (fun i=> ∃ k:Nat,k<=zs.length/\i= .int .i64 k/\((zs.take k).all fun z=>inB z 0 1000000000)=true) (fun i=>zs.length-(intOf i).toNat)
 case atStart=>exact ⟨0,Nat.zero_le _,rfl,by simp⟩
 case round=>
  obtain ⟨k,hk,rfl,hall⟩:=hrel;by_cases hlt:k<zs.length
  ·have hcell:=hc k hlt
   have Ha:=Z9 hall;clear hall hc;generalize hz:zs.getD k 0=z at *;have Hz:=Z9 hz;clear hz;go_wp2_with fail;refine (L5 _ _).mono ?_;rintro e w' ⟨rfl,rfl⟩;cases hp:inB z 0 1000000000
   ·go_wp2_with fail
    go_ret;exact ⟨Z5 (TS hlt (uh Hz) hp).symm,rfl⟩
   ·go_wp2_with fail
    go_round
    case rel=>exact ⟨k+1,by omega,by go_num,Q9 hlt (uh Hz) (uh Ha) hp⟩
    case measure=>simp [intOf];omega
  ·go_wp2_with fail
   go_ret;exact ⟨Z5 (by rw [<-hall,List.take_of_length_le (by omega)]),rfl⟩
theorem Qw (b cap:Nat) (zs:List Int) (w:World) (hl:zs.length<=1000) (hc:∀ k,k<zs.length->w.cell? ⟨b,k,none⟩=some (.int .i64 (zs.getD k 0))) :
  Calls Tryz.prog 278 #[.func (Fn.func 280) #[] #[],.slice (some ⟨b,0,none⟩) zs.length cap] w fun e w'=>e= .returned (.bool (zs.all fun z=>inB z 1 1000000000))/\w'=w:=by
 go_enter Tryz.func278,Tryz.ntmps278;go_wp2_with fail
 go_loop [9] (fun i=> ∃ k:Nat,k<=zs.length/\i= .int .i64 k/\((zs.take k).all fun z=>inB z 1 1000000000)=true) (fun i=>zs.length-(intOf i).toNat)
 case atStart=>exact ⟨0,Nat.zero_le _,rfl,by simp⟩
 case round=>
  obtain ⟨k,hk,rfl,hall⟩:=hrel;by_cases hlt:k<zs.length
  ·have hcell:=hc k hlt
   have Ha:=Z9 hall;clear hall hc;generalize hz:zs.getD k 0=z at *;have Hz:=Z9 hz;clear hz;go_wp2_with fail;refine (NK _ _).mono ?_;rintro e w' ⟨rfl,rfl⟩;cases hp:inB z 1 1000000000
   ·go_wp2_with fail
    go_ret;exact ⟨Z5 (TS hlt (uh Hz) hp).symm,rfl⟩
   ·go_wp2_with fail
    go_round
    case rel=>exact ⟨k+1,by omega,by go_num,Q9 hlt (uh Hz) (uh Ha) hp⟩
    case measure=>simp [intOf];omega
  ·go_wp2_with fail
   go_ret;exact ⟨Z5 (by rw [<-hall,List.take_of_length_le (by omega)]),rfl⟩
theorem sA {α:Type} (l:List α) (i:Nat) (a:α):l.toArray.setIfInBounds i a=(l.set i a).toArray:=by simp
theorem sZ {α:Type} (x:α) (l:List α) (a:α):(x::l).set 0 a=a::l:=rfl
theorem sS {α:Type} (x:α) (l:List α) (n:Nat) (a:α):(x::l).set (n+1) a=x::l.set n a:=rfl
theorem WH {α:Type} (x:α):∃ q,Hid (x=q):=⟨_,rfl⟩
theorem ZI {α:Type} (x:α):∃ q,x=q:=⟨_,rfl⟩
abbrev cB (f:FuncId) (a:Array Value) (w:World) (v:Value):Prop:=Calls Tryz.prog f a w fun e w'=>e= .returned v/\Below w.heap.size w w'
abbrev cE (f:FuncId) (a:Array Value) (w:World) (v:Value):Prop:=Calls Tryz.prog f a w fun e w'=>e= .returned v/\w'=w
abbrev ZX:= @Calls.regrown_of
abbrev Z2:= @below_regrown
abbrev Z1:= @cell_regrown
abbrev ZY:= @Nat.le_refl
abbrev Z0:= @Below.refl
abbrev Y7:= @bodyPost_ret
abbrev ZD:= @Nat.lt_of_lt_of_le
abbrev TG:= @decide_eq_false
abbrev Sf:= @decide_eq_true
abbrev ZR:= @Nat.zero_le
abbrev YD:= @Calls.quiet_of_same
abbrev Va:= @List.cons_ne_nil
abbrev VZ:= @Below.setCell
abbrev YV:= @Nat.le_trans
abbrev Vd:= @Nat.ne_of_lt
theorem ZJ (a b:Bool):((a && b)=true)=(a=true/\b=true):=Bool.and_eq_true a b
theorem Yg {p:Prop} [Decidable p]:(decide p=true)=p:=decide_eq_true_eq
theorem Zm (n:Nat):((n:Int)).toNat=n:=rfl
theorem YW (w:World) (o:Obj):(w.alloc o).heap.size=w.heap.size+1:=World.size_alloc w o
theorem XY {α:Type} {a:α} {l:List α} : (a::l).length=l.length+1:=rfl
theorem Vc {α:Type} {a:α} : [a].dropLast=[]:=rfl
theorem Vb {α:Type} {x y:α} {l:List α} : (x::y::l).dropLast=x::(y::l).dropLast:=rfl
theorem Xo {α:Type} : ([]:List α).length=0:=rfl
theorem UX {α:Type} {l:List α} {i:Nat} {a:α} : (l.set i a).length=l.length:=List.length_set
end Go.Proofs.YtgdpaigcmoifbaaGreatDoor
