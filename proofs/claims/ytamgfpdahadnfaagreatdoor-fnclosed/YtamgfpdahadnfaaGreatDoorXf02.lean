/- Part 2 of what the proof rests on. No condition but those that a theorem names. -/
import Derived.Test.YtamgfpdahadnfaaGreatDoorXf01
set_option maxHeartbeats 8000000
set_option maxRecDepth 100000
namespace Go.Proofs.YtamgfpdahadnfaaGreatDoor
open Go.ChangeShapes Go.WideShapes Go.ChangeAt Go.RowKit
set_option linter.unusedVariables false
def Vr (k:Nat):Int:=[1024,819,655,524,419,335].getD k 0
def US (k:Nat):Int:=[1024,1280,1600,2000,2500,3125].getD k 0
def Zh (r:Int):Int:=if inB r (-5) 5 then (if 0<=r then Vr r.toNat else US (-r).toNat) else 0
theorem Ey:∀ k:Fin 5,Vr (k.val+1)=Vr k.val*4 / 5/\0<=Vr k.val/\Vr k.val<=1024:=by decide
theorem Eg:∀ k:Fin 5,US (k.val+1)=US k.val*5 / 4/\0<=US k.val/\US k.val<=3125:=by decide
theorem Gz {k:Nat} (h:k<5):Vr (k+1)=Vr k*4 / 5/\0<=Vr k/\Vr k<=1024:=Ey ⟨k,h⟩
theorem Gm {k:Nat} (h:k<5):US (k+1)=US k*5 / 4/\0<=US k/\US k<=3125:=Eg ⟨k,h⟩
theorem AK {r:Int} (h:inB r (-5) 5=true):r= -5\/r= -4\/r= -3\/r= -2\/r= -1\/r=0\/r=1\/r=2\/r=3\/r=4\/r=5:=by
 have:=ZJ h;omega
theorem VM {r:Int} (h:inB r (-5) 5=false):Zh r=0:=by unfold Zh;simp [h]
theorem Fx {r:Int} (h:inB r (-5) 5=true) (h0:0<=r):Zh r=Vr r.toNat:=by unfold Zh;simp [h,h0]
theorem JG {r:Int} (h:inB r (-5) 5=true) (h0:¬ 0<=r):Zh r=US (-r).toNat:=by unfold Zh;simp [h,h0]
theorem YM (x:Int) (w:World):Calls Tryz.prog 102 #[.int .i64 x] w fun e w'=>e= .returned (.bool (inB x (-5) 5))/\w'=w:=by
 go_enter Tryz.func102,Tryz.ntmps102;go_wp2_with (go_at_call 59;refine (ZU _ _ _ _).mono ?_;rintro e w' ⟨rfl,rfl⟩)
 go_ret;exact ⟨rfl,rfl⟩
theorem O9 (r:Int) (w:World):Calls Tryz.prog 104 #[.int .i64 r] w fun e w'=>e= .returned (.int .i64 (Zh r))/\w'=w:=by
 cases hb:inB r (-5) 5
 ·rw [VM hb]
  go_enter Tryz.func104,Tryz.ntmps104;go_wp2_with (go_at_call 102;refine (YM _ _).mono ?_;rintro e w' ⟨rfl,rfl⟩)
  go_ret;exact ⟨rfl,rfl⟩
 ·obtain ⟨r0,r1⟩:=ZJ hb
  by_cases h0:0<=r
  ·rw [Fx hb h0]
   obtain ⟨n,rfl⟩:=Int.eq_ofNat_of_zero_le h0;rw [Zy];go_enter Tryz.func104,Tryz.ntmps104;go_wp2_with (go_at_call 102;refine (YM _ _).mono ?_;rintro e w' ⟨rfl,rfl⟩)
   go_loop [0,3] (fun i s=> ∃ k:Nat,k<=n/\i= .int .i64 ((n:Int)-k)/\s= .int .i64 (Vr k)) (fun i _=>(intOf i).toNat)
   case atStart=>exact ⟨0,Zz _,by simp,rfl⟩
   case round=>
    obtain ⟨k,hk,rfl,rfl⟩:=hrel;by_cases hlt:k<n
    ·obtain ⟨hs,f1,f2⟩:=Gz (k:=k) (by omega)
     have Hs:=Z9 hs;clear hs;generalize Vr k=z at *;go_wp2_with fail
     go_round
     case rel=>exact ⟨k+1,by omega,by go_num,by rw [uh Hs]⟩
     case measure=>exact ms
    ·obtain rfl:k=n:=by omega
     go_wp2_with fail
     go_loop [0,3] (fun i s=>i= .int .i64 0/\s= .int .i64 (Vr k)) (fun _ _=>0)
     case atStart=>exact ⟨by simp,rfl⟩
     case round=>
      obtain ⟨rfl,rfl⟩:=hrel;go_wp2_with fail;go_ret;exact ⟨rfl,rfl⟩
  ·rw [JG hb h0]
   obtain ⟨n,hn⟩:=Int.eq_ofNat_of_zero_le (show 0<= -r by omega);obtain rfl:r= -(n:Int):=by omega
   rw [show (-(-(n:Int))).toNat=n by omega];clear hn;go_enter Tryz.func104,Tryz.ntmps104;go_wp2_with (go_at_call 102;refine (YM _ _).mono ?_;rintro e w' ⟨rfl,rfl⟩)
   go_loop [0,3] (fun i s=>i= .int .i64 (-(n:Int))/\s= .int .i64 1024) (fun _ _=>0)
   case atStart=>exact ⟨rfl,rfl⟩
   case round=>
    obtain ⟨rfl,rfl⟩:=hrel;go_wp2_with fail
    go_loop [0,3] (fun i s=> ∃ k:Nat,k<=n/\i= .int .i64 ((k:Int)-n)/\s= .int .i64 (US k)) (fun i _=>(-(intOf i)).toNat)
    case atStart=>exact ⟨0,Zz _,by simp,rfl⟩
    case round=>
     obtain ⟨k,hk,rfl,rfl⟩:=hrel;by_cases hlt:k<n
     ·obtain ⟨hs,f1,f2⟩:=Gm (k:=k) (by omega)
      have Hs:=Z9 hs;clear hs;generalize US k=z at *;go_wp2_with fail
      go_round
      case rel=>exact ⟨k+1,by omega,by go_num,by rw [uh Hs]⟩
      case measure=>exact ms
     ·obtain rfl:k=n:=by omega
      go_wp2_with fail;go_ret;exact ⟨rfl,rfl⟩
theorem Gl {x y:Int} (h0:0<=x) (h1:x<=100000) (h:x*5 / 4=y) (w:World):Calls Tryz.prog 236 #[.int .i64 x] w fun e w'=>e= .returned (.int .i64 y)/\w'=w:=by
 subst h;go_enter Tryz.func236,Tryz.ntmps236
 go_wp2
 go_ret;exact ⟨rfl,rfl⟩
theorem GA {x y:Int} (h0:0<=x) (h1:x<=100000) (h:x*4 / 5=y) (w:World):Calls Tryz.prog 237 #[.int .i64 x] w fun e w'=>e= .returned (.int .i64 y)/\w'=w:=by
 subst h;go_enter Tryz.func237,Tryz.ntmps237
 go_wp2
 go_ret;exact ⟨rfl,rfl⟩
theorem OM (r:Int) (w:World):Calls Tryz.prog 190 #[.int .i64 r] w fun e w'=>e= .returned (.int .i64 (Zh r))/\w'=w:=by
 cases hb:inB r (-5) 5
 ·rw [VM hb]
  have hr:r < -5\/5<r:=by
   by_cases h1 : -5<=r
   ·by_cases h2:r<=5
    ·rw [Zp h1 h2] at hb;cases hb
    ·omega
   ·omega
  have e1:¬ r= -5:=by omega
  have e2:¬ r= -4:=by omega
  have e3:¬ r= -3:=by omega
  have e4:¬ r= -2:=by omega
  have e5:¬ r= -1:=by omega
  have e6:¬ r=0:=by omega
  have e7:¬ r=5:=by omega
  have e8:¬ r=4:=by omega
  have e9:¬ r=3:=by omega
  have e10:¬ r=2:=by omega
  have e11:¬ r=1:=by omega
  clear hb hr;go_enter Tryz.func190,Tryz.ntmps190;go_wp2_with fail;go_ret;exact ⟨rfl,rfl⟩
 ·rcases AK hb with rfl | rfl | rfl | rfl | rfl | rfl | rfl | rfl | rfl | rfl | rfl
  all_goals
   clear hb;go_enter Tryz.func190,Tryz.ntmps190
   go_wp2_with (first
    | (go_at_call 236;refine (Gl (by decide) (by decide) rfl _).mono ?_;rintro e w' ⟨rfl,rfl⟩)
    | (go_at_call 237;refine (GA (by decide) (by decide) rfl _).mono ?_;rintro e w' ⟨rfl,rfl⟩))
   go_ret;exact ⟨rfl,rfl⟩
end Go.Proofs.YtamgfpdahadnfaaGreatDoor
