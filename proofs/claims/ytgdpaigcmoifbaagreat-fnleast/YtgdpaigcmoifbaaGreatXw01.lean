/- Part 1 of what the proof rests on. No condition but those that a theorem names. -/
import Derived.Test.YtgdpaigcmoifbaaGreatChecked
import GoSem.Claim
import GoSem.ClaimJoined
import GoSem.ClaimMapViews
import Derived.JoinedTies
import Derived.KernelRfl
import Derived.RowKit
import Derived.WalkKit
import Derived.ProofKit
import Derived.OpenShut
import Derived.Outline
import Derived.Lib.QuietBelow
set_option maxHeartbeats 8000000
set_option maxRecDepth 100000
namespace Go.Proofs.YtgdpaigcmoifbaaGreat
open Go.ChangeShapes Go.WideShapes Go.ChangeAt Go.RowKit
set_option linter.unusedVariables false
variable {w w' w0 w1 w2 w3 w₀ wr W W' X A B C : World} {v v0 v1 v2 v3 v4 u u0 u1 u2 u3 u4 : Value}
theorem ba (w:World) (o:Obj):Below w.heap.size w (w.alloc o):=(Below.refl _ _).alloc (Nat.le_refl _) _
theorem ms {G:Prop} (h:G:=by (simp [intOf];omega)):G:=h
theorem wq {P:Program} {id:Nat} {Q:Exit->Act->World->Prop} {a:Act} {l:List Oper} (h:wpQuiet P l.toArray (fun w'=> ∃ p:Regrown,w'=Go.Sort.grow (redrawn w p.d) p.os) (fun a'=> ∀ w',(∃ p:Regrown,w'=Go.Sort.grow (redrawn w p.d) p.os)->Q .normal a' w') l a) (hm:P.follows .mixedOrders=true:=by kernel_rfl) (hB:Region.lexB .any l.toArray=true:=by kernel_rfl):(Code.region id l.toArray true).wp P Q a w:=wp_region_quiet_below hm hB h
theorem wqn {P:Program} {ops:Array Oper} {C:World->Prop} {Q:Exit->Act->World->Prop} {a:Act} (h:∀ w',Below w.heap.size w w'->Q .normal a w'):wpQuiet P ops C (fun a'=> ∀ w',(∃ p:Regrown,w'=Go.Sort.grow (redrawn w p.d) p.os)->Q .normal a' w') [] a:=wpQuiet_nil (fun w' hp=>by obtain ⟨p,rfl⟩:=hp;exact h _ (below_regrown w p.d p.os))
theorem ck {P:Program} {f:FuncId} {args:Array Value}  {R:World->Prop} {Q:Ending->World->Prop} (h:Calls P f args w fun e w'=>e= .returned v/\R w') (hk:∀ w',R w'->Q (.returned v) w'):Calls P f args w Q:=h.mono (by rintro e w' ⟨rfl,hr⟩;exact hk w' hr)
theorem ZB {k:IntKind} {a b:Int} (h:a=b):Ending.returned (.int k a)= .returned (.int k b):=by rw [h]
theorem Z5 {a b:Bool} (h:a=b):Ending.returned (.bool a)= .returned (.bool b):=by rw [h]
def inB (x lo hi:Int):Bool:=decide (lo<=x/\x<=hi)
theorem Zn {x lo hi:Int} (h1:lo<=x) (h2:x<=hi):inB x lo hi=true:=by unfold inB;exact decide_eq_true ⟨h1,h2⟩
theorem Wk {x lo hi:Int} (h:x<lo\/hi<x):inB x lo hi=false:=by unfold inB;exact decide_eq_false (by omega)
theorem ZN {x lo hi:Int} (h:inB x lo hi=true):lo<=x/\x<=hi:=by unfold inB at h;exact of_decide_eq_true h
theorem Z9 {p:Prop} (h:p):Hid p:=h
theorem uh {p:Prop} (h:Hid p):p:=h
theorem J1 (a b:Int) (w:World):Calls Tryz.prog 198 #[.int .i64 a,.int .i64 b] w fun e w'=>e= .returned (.int .i64 (min a b))/\w'=w:=by
 by_cases h:a<b
 all_goals
  go_enter Tryz.func198,Tryz.ntmps198
  go_wp2
  go_ret;exact ⟨ZB (by omega),rfl⟩
theorem Un (a b:Int) (w:World):Calls Tryz.prog 120 #[.int .i64 a,.int .i64 b] w fun e w'=>e= .returned (.int .i64 (max a b))/\w'=w:=by
 by_cases h:b<a
 all_goals
  go_enter Tryz.func120,Tryz.ntmps120
  go_wp2
  go_ret;exact ⟨ZB (by omega),rfl⟩
theorem RS (x l h:Int) (w:World):Calls Tryz.prog 144 #[.int .i64 x,.int .i64 l,.int .i64 h] w fun e w'=>e= .returned (.int .i64 (min (max x l) h))/\w'=w:=by
 go_enter Tryz.func144,Tryz.ntmps144;go_wp2_with (first | (go_at_call 198;refine (J1 _ _ _).mono ?_;rintro e w' ⟨rfl,rfl⟩) | (go_at_call 120;refine (Un _ _ _).mono ?_;rintro e w' ⟨rfl,rfl⟩))
 go_ret;exact ⟨rfl,rfl⟩
theorem UJ (x l h:Int) (w:World):Calls Tryz.prog 185 #[.int .i64 x,.int .i64 l,.int .i64 h] w fun e w'=>e= .returned (.int .i64 (min (max x l) h))/\w'=w:=by
 by_cases c1:x<l
 ·by_cases c2:h<l
  all_goals
   go_enter Tryz.func185,Tryz.ntmps185
   go_wp2
   all_goals (go_ret;exact ⟨ZB (by omega),rfl⟩)
 ·by_cases c2:h<x
  all_goals
   go_enter Tryz.func185,Tryz.ntmps185
   go_wp2
   all_goals (go_ret;exact ⟨ZB (by omega),rfl⟩)
theorem ZV (x lo hi:Int) (w:World):Calls Tryz.prog 129 #[.int .i64 x,.int .i64 lo,.int .i64 hi] w fun e w'=>e= .returned (.bool (inB x lo hi))/\w'=w:=by
 by_cases h1:lo<=x
 ·by_cases h2:x<=hi
  all_goals
   go_enter Tryz.func129,Tryz.ntmps129
   go_wp2
   go_ret;exact ⟨Z5 (by first | exact (Zn h1 h2).symm | exact (Wk (by omega)).symm),rfl⟩
 ·go_enter Tryz.func129,Tryz.ntmps129
  go_wp2
  go_ret;exact ⟨Z5 (Wk (by omega)).symm,rfl⟩
theorem SW (x:Int) (w:World):Calls Tryz.prog 321 #[.int .i64 x] w fun e w'=>e= .returned (.bool (inB x 0 1000000000))/\w'=w:=by
 go_enter Tryz.func321,Tryz.ntmps321;go_wp2_with (go_at_call 129;refine (ZV _ _ _ _).mono ?_;rintro e w' ⟨rfl,rfl⟩)
 go_ret;exact ⟨rfl,rfl⟩
theorem Jf (x:Int) (w:World):Calls Tryz.prog 318 #[.int .i64 x] w fun e w'=>e= .returned (.bool (inB x 0 1000000000))/\w'=w:=by
 by_cases h1:0<=x
 ·by_cases h2:x<=1000000000
  all_goals
   go_enter Tryz.func318,Tryz.ntmps318
   go_wp2
   go_ret;exact ⟨Z5 (by first | exact (Zn h1 h2).symm | exact (Wk (by omega)).symm),rfl⟩
 ·go_enter Tryz.func318,Tryz.ntmps318
  go_wp2
  go_ret;exact ⟨Z5 (Wk (by omega)).symm,rfl⟩
theorem KO (x:Int) (w:World):Calls Tryz.prog 319 #[.int .i64 x] w fun e w'=>e= .returned (.bool (inB x 1 1000000000))/\w'=w:=by
 by_cases h1:1<=x
 ·by_cases h2:x<=1000000000
  all_goals
   go_enter Tryz.func319,Tryz.ntmps319
   go_wp2
   go_ret;exact ⟨Z5 (by first | exact (Zn h1 h2).symm | exact (Wk (by omega)).symm),rfl⟩
 ·go_enter Tryz.func319,Tryz.ntmps319
  go_wp2
  go_ret;exact ⟨Z5 (Wk (by omega)).symm,rfl⟩
theorem Mk (x:Int) (w:World):Calls Tryz.prog 329 #[.int .i64 x] w fun e w'=>e= .returned (.bool (inB x 0 1024))/\w'=w:=by
 by_cases h1:0<=x
 ·by_cases h2:x<=1024
  all_goals
   go_enter Tryz.func329,Tryz.ntmps329
   go_wp2
   go_ret;exact ⟨Z5 (by first | exact (Zn h1 h2).symm | exact (Wk (by omega)).symm),rfl⟩
 ·go_enter Tryz.func329,Tryz.ntmps329
  go_wp2
  go_ret;exact ⟨Z5 (Wk (by omega)).symm,rfl⟩
theorem Pl {p:Int->Bool} {zs:List Int} {k:Nat} {z:Int} (hlt:k<zs.length) (hz:zs.getD k 0=z) (ha:(zs.take k).all p=true) (hp:p z=true):(zs.take (k+1)).all p=true:=by
 rw [List.take_succ_eq_append_getElem hlt,List.all_append,ha];have:zs[k]=z:=by rw [<-hz];simp [List.getD,hlt]
 simp [this,hp]
theorem R6 {p:Int->Bool} {zs:List Int} {k:Nat} {z:Int} (hlt:k<zs.length) (hz:zs.getD k 0=z) (hp:p z=false):zs.all p=false:=by
 have:zs[k]=z:=by rw [<-hz];simp [List.getD,hlt]
 rw [List.all_eq_false];exact ⟨zs[k],List.getElem_mem hlt,by rw [this,hp];simp⟩
theorem NB (b cap:Nat) (zs:List Int) (w:World) (hl:zs.length<=1000) (hc:∀ k,k<zs.length->w.cell? ⟨b,k,none⟩=some (.int .i64 (zs.getD k 0))) :
  Calls Tryz.prog 317 #[.func (Fn.func 318) #[] #[],.slice (some ⟨b,0,none⟩) zs.length cap] w fun e w'=>e= .returned (.bool (zs.all fun z=>inB z 0 1000000000))/\w'=w:=by
 go_enter Tryz.func317,Tryz.ntmps317;go_wp2_with fail
 go_loop [9] (fun i=> ∃ k:Nat,k<=zs.length/\i= .int .i64 k/\((zs.take k).all fun z=>inB z 0 1000000000)=true) (fun i=>zs.length-(intOf i).toNat)
 case atStart=>exact ⟨0,Nat.zero_le _,rfl,by simp⟩
 case round=>
  obtain ⟨k,hk,rfl,hall⟩:=hrel;by_cases hlt:k<zs.length
  ·have hcell:=hc k hlt
   have Ha:=Z9 hall;clear hall hc;generalize hz:zs.getD k 0=z at *;have Hz:=Z9 hz;clear hz;go_wp2_with fail;refine (Jf _ _).mono ?_;rintro e w' ⟨rfl,rfl⟩;cases hp:inB z 0 1000000000
   ·go_wp2_with fail
    go_ret;exact ⟨Z5 (R6 hlt (uh Hz) hp).symm,rfl⟩
   ·go_wp2_with fail
    go_round
    case rel=>exact ⟨k+1,by omega,by go_num,Pl hlt (uh Hz) (uh Ha) hp⟩
    case measure=>simp [intOf];omega
  ·go_wp2_with fail
   go_ret;exact ⟨Z5 (by rw [<-hall,List.take_of_length_le (by omega)]),rfl⟩
theorem OJ (b cap:Nat) (zs:List Int) (w:World) (hl:zs.length<=1000) (hc:∀ k,k<zs.length->w.cell? ⟨b,k,none⟩=some (.int .i64 (zs.getD k 0))) :
  Calls Tryz.prog 317 #[.func (Fn.func 319) #[] #[],.slice (some ⟨b,0,none⟩) zs.length cap] w fun e w'=>e= .returned (.bool (zs.all fun z=>inB z 1 1000000000))/\w'=w:=by
 go_enter Tryz.func317,Tryz.ntmps317;go_wp2_with fail
 go_loop [9] (fun i=> ∃ k:Nat,k<=zs.length/\i= .int .i64 k/\((zs.take k).all fun z=>inB z 1 1000000000)=true) (fun i=>zs.length-(intOf i).toNat)
 case atStart=>exact ⟨0,Nat.zero_le _,rfl,by simp⟩
 case round=>
  obtain ⟨k,hk,rfl,hall⟩:=hrel;by_cases hlt:k<zs.length
  ·have hcell:=hc k hlt
   have Ha:=Z9 hall;clear hall hc;generalize hz:zs.getD k 0=z at *;have Hz:=Z9 hz;clear hz;go_wp2_with fail;refine (KO _ _).mono ?_;rintro e w' ⟨rfl,rfl⟩;cases hp:inB z 1 1000000000
   ·go_wp2_with fail
    go_ret;exact ⟨Z5 (R6 hlt (uh Hz) hp).symm,rfl⟩
   ·go_wp2_with fail
    go_round
    case rel=>exact ⟨k+1,by omega,by go_num,Pl hlt (uh Hz) (uh Ha) hp⟩
    case measure=>simp [intOf];omega
  ·go_wp2_with fail
   go_ret;exact ⟨Z5 (by rw [<-hall,List.take_of_length_le (by omega)]),rfl⟩
theorem sA {α:Type} (l:List α) (i:Nat) (a:α):l.toArray.setIfInBounds i a=(l.set i a).toArray:=by simp
theorem sZ {α:Type} (x:α) (l:List α) (a:α):(x::l).set 0 a=a::l:=rfl
theorem sS {α:Type} (x:α) (l:List α) (n:Nat) (a:α):(x::l).set (n+1) a=x::l.set n a:=rfl
theorem YV {α:Type} (x:α):∃ q,Hid (x=q):=⟨_,rfl⟩
theorem ZJ {α:Type} (x:α):∃ q,x=q:=⟨_,rfl⟩
abbrev cB (f:FuncId) (a:Array Value) (w:World) (v:Value):Prop:=Calls Tryz.prog f a w fun e w'=>e= .returned v/\Below w.heap.size w w'
abbrev cE (f:FuncId) (a:Array Value) (w:World) (v:Value):Prop:=Calls Tryz.prog f a w fun e w'=>e= .returned v/\w'=w
abbrev ZZ:= @Calls.regrown_of
abbrev Z1:= @below_regrown
abbrev ZX:= @cell_regrown
abbrev Z0:= @Nat.le_refl
abbrev Z3:= @Below.refl
abbrev Zz:= @bodyPost_ret
abbrev Y0:= @Nat.lt_of_lt_of_le
abbrev Yb:= @decide_eq_false
abbrev V0:= @decide_eq_true
abbrev ZA:= @Nat.zero_le
abbrev Yi:= @Calls.quiet_of_same
abbrev Wz:= @List.cons_ne_nil
abbrev Yv:= @Below.setCell
abbrev Xv:= @Nat.le_trans
abbrev VH:= @Nat.ne_of_lt
theorem ZO (a b:Bool):((a && b)=true)=(a=true/\b=true):=Bool.and_eq_true a b
theorem YZ {p:Prop} [Decidable p]:(decide p=true)=p:=decide_eq_true_eq
theorem Zp (n:Nat):((n:Int)).toNat=n:=rfl
theorem XG (w:World) (o:Obj):(w.alloc o).heap.size=w.heap.size+1:=World.size_alloc w o
theorem YL {α:Type} {a:α} {l:List α} : (a::l).length=l.length+1:=rfl
theorem WB {α:Type} {a:α} : [a].dropLast=[]:=rfl
theorem WA {α:Type} {x y:α} {l:List α} : (x::y::l).dropLast=x::(y::l).dropLast:=rfl
theorem YF {α:Type} : ([]:List α).length=0:=rfl
theorem V1 {α:Type} {l:List α} {i:Nat} {a:α} : (l.set i a).length=l.length:=List.length_set
end Go.Proofs.YtgdpaigcmoifbaaGreat
