/- Part 1 of what the proof rests on. No condition but those that a theorem names. -/
import Derived.Test.YtmdgokjeobnnaaaGreatDoorChecked
import GoSem.Claim
import GoSem.ClaimJoined
import GoSem.ClaimMapViews
import Derived.JoinedTies
import Derived.KernelRfl
import Derived.RowKit
import Derived.WalkKit
import Derived.ProofKit
import Derived.OpenShut
import Derived.Outline
import Derived.Lib.QuietBelow
namespace Go.Proofs.YtmdgokjeobnnaaaGreatDoor
open Go.ChangeShapes Go.WideShapes Go.ChangeAt Go.RowKit
set_option linter.unusedVariables false
variable {w w' w0 w1 w2 w3 w₀ wr W W' X A B C : World} {v v0 v1 v2 v3 v4 u u0 u1 u2 u3 u4 : Value}
theorem ba (w:World) (o:Obj):Below w.heap.size w (w.alloc o):=(Below.refl _ _).alloc (Nat.le_refl _) _
theorem ms {G:Prop} (h:G:=by (simp [intOf];omega)):G:=h
theorem wq {P:Program} {id:Nat} {Q:Exit->Act->World->Prop} {a:Act} {l:List Oper} (h:wpQuiet P l.toArray (fun w'=> ∃ p:Regrown,w'=Go.Sort.grow (redrawn w p.d) p.os) (fun a'=> ∀ w',(∃ p:Regrown,w'=Go.Sort.grow (redrawn w p.d) p.os)->Q .normal a' w') l a) (hm:P.follows .mixedOrders=true:=by kernel_rfl) (hB:Region.lexB .any l.toArray=true:=by kernel_rfl):(Code.region id l.toArray true).wp P Q a w:=wp_region_quiet_below hm hB h
theorem wqn {P:Program} {ops:Array Oper} {C:World->Prop} {Q:Exit->Act->World->Prop} {a:Act} (h:∀ w',Below w.heap.size w w'->Q .normal a w'):wpQuiet P ops C (fun a'=> ∀ w',(∃ p:Regrown,w'=Go.Sort.grow (redrawn w p.d) p.os)->Q .normal a' w') [] a:=wpQuiet_nil (fun w' hp=>by obtain ⟨p,rfl⟩:=hp;exact h _ (below_regrown w p.d p.os))
theorem ck {P:Program} {f:FuncId} {args:Array Value}  {R:World->Prop} {Q:Ending->World->Prop} (h:Calls P f args w fun e w'=>e= .returned v/\R w') (hk:∀ w',R w'->Q (.returned v) w'):Calls P f args w Q:=h.mono (by rintro e w' ⟨rfl,hr⟩;exact hk w' hr)
theorem Za {k:IntKind} {a b:Int} (h:a=b):Ending.returned (.int k a)= .returned (.int k b):=by rw [h]
theorem ZU {a b:Bool} (h:a=b):Ending.returned (.bool a)= .returned (.bool b):=by rw [h]
def inB (x lo hi:Int):Bool:=decide (lo<=x/\x<=hi)
theorem YJ {x lo hi:Int} (h1:lo<=x) (h2:x<=hi):inB x lo hi=true:=by unfold inB;exact decide_eq_true ⟨h1,h2⟩
theorem GF {x lo hi:Int} (h:x<lo\/hi<x):inB x lo hi=false:=by unfold inB;exact decide_eq_false (by omega)
theorem ZS {x lo hi:Int} (h:inB x lo hi=true):lo<=x/\x<=hi:=by unfold inB at h;exact of_decide_eq_true h
theorem Z9 {p:Prop} (h:p):Hid p:=h
theorem uh {p:Prop} (h:Hid p):p:=h
theorem Pl (a b:Int) (w:World):Calls Tryz.prog 176 #[.int .i64 a,.int .i64 b] w fun e w'=>e= .returned (.int .i64 (min a b))/\w'=w:=by
 by_cases h:a<b
 all_goals
  go_enter Tryz.func176,Tryz.ntmps176
  go_wp2
  go_ret;exact ⟨Za (by omega),rfl⟩
theorem TP (a b:Int) (w:World):Calls Tryz.prog 159 #[.int .i64 a,.int .i64 b] w fun e w'=>e= .returned (.int .i64 (max a b))/\w'=w:=by
 by_cases h:b<a
 all_goals
  go_enter Tryz.func159,Tryz.ntmps159
  go_wp2
  go_ret;exact ⟨Za (by omega),rfl⟩
theorem UA (x l h:Int) (w:World):Calls Tryz.prog 175 #[.int .i64 x,.int .i64 l,.int .i64 h] w fun e w'=>e= .returned (.int .i64 (min (max x l) h))/\w'=w:=by
 go_enter Tryz.func175,Tryz.ntmps175;go_wp2_with (first | (go_at_call 176;refine (Pl _ _ _).mono ?_;rintro e w' ⟨rfl,rfl⟩) | (go_at_call 159;refine (TP _ _ _).mono ?_;rintro e w' ⟨rfl,rfl⟩))
 go_ret;exact ⟨rfl,rfl⟩
theorem Z4 (x lo hi:Int) (w:World):Calls Tryz.prog 27 #[.int .i64 x,.int .i64 lo,.int .i64 hi] w fun e w'=>e= .returned (.bool (inB x lo hi))/\w'=w:=by
 by_cases h1:lo<=x
 ·by_cases h2:x<=hi
  all_goals
   go_enter Tryz.func27,Tryz.ntmps27
   go_wp2
   go_ret;exact ⟨ZU (by first | exact (YJ h1 h2).symm | exact (GF (by omega)).symm),rfl⟩
 ·go_enter Tryz.func27,Tryz.ntmps27
  go_wp2
  go_ret;exact ⟨ZU (GF (by omega)).symm,rfl⟩
set_option maxHeartbeats 400000 in
theorem U7 (x:Int) (w:World):Calls Tryz.prog 173 #[.int .i64 x] w fun e w'=>e= .returned (.bool (inB x 0 1000000000))/\w'=w:=by
 go_enter Tryz.func173,Tryz.ntmps173;go_wp2_with (go_at_call 27;refine (Z4 _ _ _ _).mono ?_;rintro e w' ⟨rfl,rfl⟩)
 go_ret;exact ⟨rfl,rfl⟩
theorem sA {α:Type} (l:List α) (i:Nat) (a:α):l.toArray.setIfInBounds i a=(l.set i a).toArray:=by simp
theorem sZ {α:Type} (x:α) (l:List α) (a:α):(x::l).set 0 a=a::l:=rfl
theorem sS {α:Type} (x:α) (l:List α) (n:Nat) (a:α):(x::l).set (n+1) a=x::l.set n a:=rfl
theorem WG {α:Type} (x:α):∃ q,Hid (x=q):=⟨_,rfl⟩
theorem ZE {α:Type} (x:α):∃ q,x=q:=⟨_,rfl⟩
abbrev cB (f:FuncId) (a:Array Value) (w:World) (v:Value):Prop:=Calls Tryz.prog f a w fun e w'=>e= .returned v/\Below w.heap.size w w'
abbrev cE (f:FuncId) (a:Array Value) (w:World) (v:Value):Prop:=Calls Tryz.prog f a w fun e w'=>e= .returned v/\w'=w
abbrev ZW:= @Calls.regrown_of
abbrev Z0:= @below_regrown
abbrev ZX:= @cell_regrown
abbrev Z3:= @Nat.le_refl
abbrev Z2:= @Below.refl
abbrev Zz:= @bodyPost_ret
abbrev YH:= @Nat.lt_of_lt_of_le
abbrev Ya:= @decide_eq_false
abbrev Wa:= @decide_eq_true
abbrev Zi:= @Nat.zero_le
abbrev YG:= @Calls.quiet_of_same
abbrev WV:= @List.cons_ne_nil
abbrev YU:= @Below.setCell
abbrev XA:= @Nat.le_trans
abbrev KS:= @Nat.ne_of_lt
theorem ZR (a b:Bool):((a && b)=true)=(a=true/\b=true):=Bool.and_eq_true a b
theorem YV {p:Prop} [Decidable p]:(decide p=true)=p:=decide_eq_true_eq
theorem Zl (n:Nat):((n:Int)).toNat=n:=rfl
theorem XX (w:World) (o:Obj):(w.alloc o).heap.size=w.heap.size+1:=World.size_alloc w o
theorem Zn {α:Type} {a:α} {l:List α} : (a::l).length=l.length+1:=rfl
theorem WX {α:Type} {a:α} : [a].dropLast=[]:=rfl
theorem WW {α:Type} {x y:α} {l:List α} : (x::y::l).dropLast=x::(y::l).dropLast:=rfl
theorem Y2 {α:Type} : ([]:List α).length=0:=rfl
theorem VH {α:Type} {l:List α} {i:Nat} {a:α} : (l.set i a).length=l.length:=List.length_set
end Go.Proofs.YtmdgokjeobnnaaaGreatDoor
