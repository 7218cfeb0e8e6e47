/- Part 1 of what the proof rests on. No condition but those that a theorem names. -/
import Derived.Test.YtlcpgkakdieeaaaGreatChecked
import GoSem.Claim
import GoSem.ClaimJoined
import GoSem.ClaimMapViews
import Derived.JoinedTies
import Derived.KernelRfl
import Derived.RowKit
import Derived.WalkKit
import Derived.ProofKit
import Derived.OpenShut
import Derived.Outline
import Derived.Lib.QuietBelow
namespace Go.Proofs.YtlcpgkakdieeaaaGreat
open Go.ChangeShapes Go.WideShapes Go.ChangeAt Go.RowKit
set_option linter.unusedVariables false
variable {w w' w0 w1 w2 w3 w₀ wr W W' X A B C : World} {v v0 v1 v2 v3 v4 u u0 u1 u2 u3 u4 : Value}
theorem ba (w:World) (o:Obj):Below w.heap.size w (w.alloc o):=(Below.refl _ _).alloc (Nat.le_refl _) _
theorem ms {G:Prop} (h:G:=by (simp [intOf];omega)):G:=h
theorem wq {P:Program} {id:Nat} {Q:Exit->Act->World->Prop} {a:Act} {l:List Oper} (h:wpQuiet P l.toArray (fun w'=> ∃ p:Regrown,w'=Go.Sort.grow (redrawn w p.d) p.os) (fun a'=> ∀ w',(∃ p:Regrown,w'=Go.Sort.grow (redrawn w p.d) p.os)->Q .normal a' w') l a) (hm:P.follows .mixedOrders=true:=by kernel_rfl) (hB:Region.lexB .any l.toArray=true:=by kernel_rfl):(Code.region id l.toArray true).wp P Q a w:=wp_region_quiet_below hm hB h
theorem wqn {P:Program} {ops:Array Oper} {C:World->Prop} {Q:Exit->Act->World->Prop} {a:Act} (h:∀ w',Below w.heap.size w w'->Q .normal a w'):wpQuiet P ops C (fun a'=> ∀ w',(∃ p:Regrown,w'=Go.Sort.grow (redrawn w p.d) p.os)->Q .normal a' w') [] a:=wpQuiet_nil (fun w' hp=>by obtain ⟨p,rfl⟩:=hp;exact h _ (below_regrown w p.d p.os))
theorem ck {P:Program} {f:FuncId} {args:Array Value}  {R:World->Prop} {Q:Ending->World->Prop} (h:Calls P f args w fun e w'=>e= .returned v/\R w') (hk:∀ w',R w'->Q (.returned v) w'):Calls P f args w Q:=h.mono (by rintro e w' ⟨rfl,hr⟩;exact hk w' hr)
theorem ZA {k:IntKind} {a b:Int} (h:a=b):Ending.returned (.int k a)= .returned (.int k b):=by rw [h]
theorem Z5 {a b:Bool} (h:a=b):Ending.returned (.bool a)= .returned (.bool b):=by rw [h]
def inB (x lo hi:Int):Bool:=decide (lo<=x/\x<=hi)
theorem Zo {x lo hi:Int} (h1:lo<=x) (h2:x<=hi):inB x lo hi=true:=by unfold inB;exact decide_eq_true ⟨h1,h2⟩
theorem Vd {x lo hi:Int} (h:x<lo\/hi<x):inB x lo hi=false:=by unfold inB;exact decide_eq_false (by omega)
theorem ZN {x lo hi:Int} (h:inB x lo hi=true):lo<=x/\x<=hi:=by unfold inB at h;exact of_decide_eq_true h
theorem Z9 {p:Prop} (h:p):Hid p:=h
theorem uh {p:Prop} (h:Hid p):p:=h
theorem LM (a b:Int) (w:World):Calls Tryz.prog 120 #[.int .i64 a,.int .i64 b] w fun e w'=>e= .returned (.int .i64 (min a b))/\w'=w:=by
 by_cases h:a<b
 all_goals
  go_enter Tryz.func120,Tryz.ntmps120
  go_wp2
  go_ret;exact ⟨ZA (by omega),rfl⟩
theorem RP (a b:Int) (w:World):Calls Tryz.prog 121 #[.int .i64 a,.int .i64 b] w fun e w'=>e= .returned (.int .i64 (max a b))/\w'=w:=by
 by_cases h:b<a
 all_goals
  go_enter Tryz.func121,Tryz.ntmps121
  go_wp2
  go_ret;exact ⟨ZA (by omega),rfl⟩
theorem SX (x l h:Int) (w:World):Calls Tryz.prog 86 #[.int .i64 x,.int .i64 l,.int .i64 h] w fun e w'=>e= .returned (.int .i64 (min (max x l) h))/\w'=w:=by
 go_enter Tryz.func86,Tryz.ntmps86;go_wp2_with (first | (go_at_call 120;refine (LM _ _ _).mono ?_;rintro e w' ⟨rfl,rfl⟩) | (go_at_call 121;refine (RP _ _ _).mono ?_;rintro e w' ⟨rfl,rfl⟩))
 go_ret;exact ⟨rfl,rfl⟩
theorem Vg (x l h:Int) (w:World):Calls Tryz.prog 145 #[.int .i64 x,.int .i64 l,.int .i64 h] w fun e w'=>e= .returned (.int .i64 (min (max x l) h))/\w'=w:=by
 by_cases c1:x<l
 ·by_cases c2:h<l
  all_goals
   go_enter Tryz.func145,Tryz.ntmps145
   go_wp2
   all_goals (go_ret;exact ⟨ZA (by omega),rfl⟩)
 ·by_cases c2:h<x
  all_goals
   go_enter Tryz.func145,Tryz.ntmps145
   go_wp2
   all_goals (go_ret;exact ⟨ZA (by omega),rfl⟩)
theorem ZV (x lo hi:Int) (w:World):Calls Tryz.prog 64 #[.int .i64 x,.int .i64 lo,.int .i64 hi] w fun e w'=>e= .returned (.bool (inB x lo hi))/\w'=w:=by
 by_cases h1:lo<=x
 ·by_cases h2:x<=hi
  all_goals
   go_enter Tryz.func64,Tryz.ntmps64
   go_wp2
   go_ret;exact ⟨Z5 (by first | exact (Zo h1 h2).symm | exact (Vd (by omega)).symm),rfl⟩
 ·go_enter Tryz.func64,Tryz.ntmps64
  go_wp2
  go_ret;exact ⟨Z5 (Vd (by omega)).symm,rfl⟩
set_option maxHeartbeats 400000 in
theorem TL (x:Int) (w:World):Calls Tryz.prog 240 #[.int .i64 x] w fun e w'=>e= .returned (.bool (inB x 0 1000000000))/\w'=w:=by
 go_enter Tryz.func240,Tryz.ntmps240;go_wp2_with (go_at_call 64;refine (ZV _ _ _ _).mono ?_;rintro e w' ⟨rfl,rfl⟩)
 go_ret;exact ⟨rfl,rfl⟩
theorem NP (x:Int) (w:World):Calls Tryz.prog 227 #[.int .i64 x] w fun e w'=>e= .returned (.bool (inB x 0 1024))/\w'=w:=by
 by_cases h1:0<=x
 ·by_cases h2:x<=1024
  all_goals
   go_enter Tryz.func227,Tryz.ntmps227
   go_wp2
   go_ret;exact ⟨Z5 (by first | exact (Zo h1 h2).symm | exact (Vd (by omega)).symm),rfl⟩
 ·go_enter Tryz.func227,Tryz.ntmps227
  go_wp2
  go_ret;exact ⟨Z5 (Vd (by omega)).symm,rfl⟩
theorem Ir {p:Int->Bool} {zs:List Int} {k:Nat} {z:Int} (hlt:k<zs.length) (hz:zs.getD k 0=z) (ha:(zs.take k).all p=true) (hp:p z=true):(zs.take (k+1)).all p=true:=by
 rw [List.take_succ_eq_append_getElem hlt,List.all_append,ha];have:zs[k]=z:=by rw [<-hz];simp [List.getD,hlt]
 simp [this,hp]
theorem Nc {p:Int->Bool} {zs:List Int} {k:Nat} {z:Int} (hlt:k<zs.length) (hz:zs.getD k 0=z) (hp:p z=false):zs.all p=false:=by
 have:zs[k]=z:=by rw [<-hz];simp [List.getD,hlt]
 rw [List.all_eq_false];exact ⟨zs[k],List.getElem_mem hlt,by rw [this,hp];simp⟩
theorem sA {α:Type} (l:List α) (i:Nat) (a:α):l.toArray.setIfInBounds i a=(l.set i a).toArray:=by simp
theorem sZ {α:Type} (x:α) (l:List α) (a:α):(x::l).set 0 a=a::l:=rfl
theorem sS {α:Type} (x:α) (l:List α) (n:Nat) (a:α):(x::l).set (n+1) a=x::l.set n a:=rfl
theorem Yt {α:Type} (x:α):∃ q,Hid (x=q):=⟨_,rfl⟩
theorem ZL {α:Type} (x:α):∃ q,x=q:=⟨_,rfl⟩
abbrev cB (f:FuncId) (a:Array Value) (w:World) (v:Value):Prop:=Calls Tryz.prog f a w fun e w'=>e= .returned v/\Below w.heap.size w w'
abbrev cE (f:FuncId) (a:Array Value) (w:World) (v:Value):Prop:=Calls Tryz.prog f a w fun e w'=>e= .returned v/\w'=w
abbrev ZX:= @Calls.regrown_of
abbrev Z1:= @below_regrown
abbrev ZY:= @cell_regrown
abbrev Z0:= @Nat.le_refl
abbrev ZZ:= @Below.refl
abbrev ZE:= @bodyPost_ret
abbrev Zf:= @Nat.lt_of_lt_of_le
abbrev Xs:= @decide_eq_false
abbrev VJ:= @decide_eq_true
abbrev ZC:= @Nat.zero_le
abbrev Yw:= @Calls.quiet_of_same
abbrev WN:= @List.cons_ne_nil
abbrev XI:= @Below.setCell
abbrev XN:= @Nat.le_trans
abbrev Vj:= @Nat.ne_of_lt
theorem ZP (a b:Bool):((a && b)=true)=(a=true/\b=true):=Bool.and_eq_true a b
theorem Zc {p:Prop} [Decidable p]:(decide p=true)=p:=decide_eq_true_eq
theorem Zr (n:Nat):((n:Int)).toNat=n:=rfl
theorem Yy (w:World) (o:Obj):(w.alloc o).heap.size=w.heap.size+1:=World.size_alloc w o
theorem YN {α:Type} {a:α} {l:List α} : (a::l).length=l.length+1:=rfl
theorem WR {α:Type} {a:α} : [a].dropLast=[]:=rfl
theorem WO {α:Type} {x y:α} {l:List α} : (x::y::l).dropLast=x::(y::l).dropLast:=rfl
theorem Yx {α:Type} : ([]:List α).length=0:=rfl
theorem Wz {α:Type} {l:List α} {i:Nat} {a:α} : (l.set i a).length=l.length:=List.length_set
end Go.Proofs.YtlcpgkakdieeaaaGreat
