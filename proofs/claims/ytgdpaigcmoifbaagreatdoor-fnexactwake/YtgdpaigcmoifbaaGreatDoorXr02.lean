/- Part 2 of what the proof rests on. No condition but those that a theorem names. -/
import Derived.Test.YtgdpaigcmoifbaaGreatDoorXr01
set_option maxHeartbeats 8000000
set_option maxRecDepth 100000
namespace Go.Proofs.YtgdpaigcmoifbaaGreatDoor
open Go.ChangeShapes Go.WideShapes Go.ChangeAt Go.RowKit Go.Proofs.Tryz
set_option linter.unusedVariables false
def Wn (k:Nat):Int:=[1024,819,655,524,419,335].getD k 0
def VU (k:Nat):Int:=[1024,1280,1600,2000,2500,3125].getD k 0
def YM (r:Int):Int:=if inB r (-5) 5 then (if 0<=r then Wn r.toNat else VU (-r).toNat) else 0
theorem Is:∀ k:Fin 5,Wn (k.val+1)=Wn k.val*4 / 5/\0<=Wn k.val/\Wn k.val<=1024:=by decide
theorem Ie:∀ k:Fin 5,VU (k.val+1)=VU k.val*5 / 4/\0<=VU k.val/\VU k.val<=3125:=by decide
theorem J7 {k:Nat} (h:k<5):Wn (k+1)=Wn k*4 / 5/\0<=Wn k/\Wn k<=1024:=Is ⟨k,h⟩
theorem JT {k:Nat} (h:k<5):VU (k+1)=VU k*5 / 4/\0<=VU k/\VU k<=3125:=Ie ⟨k,h⟩
theorem Db {r:Int} (h:inB r (-5) 5=true):r= -5\/r= -4\/r= -3\/r= -2\/r= -1\/r=0\/r=1\/r=2\/r=3\/r=4\/r=5:=by
 have:=ZO h;omega
theorem VK {r:Int} (h:inB r (-5) 5=false):YM r=0:=by unfold YM;simp [h]
theorem Jh {r:Int} (h:inB r (-5) 5=true) (h0:0<=r):YM r=Wn r.toNat:=by unfold YM;simp [h,h0]
theorem MD {r:Int} (h:inB r (-5) 5=true) (h0:¬ 0<=r):YM r=VU (-r).toNat:=by unfold YM;simp [h,h0]
theorem Y0 (x:Int) (w:World):cE 108 #[.int .i64 x] w (.bool (inB x (-5) 5)):=by
 go_enter func108,ntmps108;go_wp2_with (go_at_call 70;refine (ZT _ _ _ _).mono ?_;rintro e w' ⟨rfl,rfl⟩)
 go_ret;exact ⟨rfl,rfl⟩
theorem Q4 (r:Int) (w:World):cE 110 #[.int .i64 r] w (.int .i64 (YM r)):=by
 cases hb:inB r (-5) 5
 ·rw [VK hb]
  go_enter func110,ntmps110;go_wp2_with (go_at_call 108;refine (Y0 _ _).mono ?_;rintro e w' ⟨rfl,rfl⟩)
  go_ret;exact ⟨rfl,rfl⟩
 ·obtain ⟨r0,r1⟩:=ZO hb
  by_cases h0:0<=r
  ·rw [Jh hb h0]
   obtain ⟨n,rfl⟩:=Int.eq_ofNat_of_zero_le h0;rw [Zm];go_enter func110,ntmps110;go_wp2_with (go_at_call 108;refine (Y0 _ _).mono ?_;rintro e w' ⟨rfl,rfl⟩)
   go_loop [0,3] (fun i s=> ∃ k:Nat,k<=n/\i= .int .i64 ((n:Int)-k)/\s= .int .i64 (Wn k)) (fun i _=>(intOf i).toNat)
   case atStart=>exact ⟨0,ZR _,by simp,rfl⟩
   case round=>
    obtain ⟨k,hk,rfl,rfl⟩:=hrel;by_cases hlt:k<n
    ·obtain ⟨hs,f1,f2⟩:=J7 (k:=k) (by omega)
     have Hs:=Z9 hs;clear hs;generalize Wn k=z at *;go_wp2_with fail
     go_round
     case rel=>exact ⟨k+1,by omega,by go_num,by rw [uh Hs]⟩
     case measure=>exact ms
    ·obtain rfl:k=n:=by omega
     go_wp2_with fail
     go_loop [0,3] (fun i s=>i= .int .i64 0/\s= .int .i64 (Wn k)) (fun _ _=>0)
     case atStart=>exact ⟨by simp,rfl⟩
     case round=>
      obtain ⟨rfl,rfl⟩:=hrel;go_wp2_with fail;go_ret;exact ⟨rfl,rfl⟩
  ·rw [MD hb h0]
   obtain ⟨n,hn⟩:=Int.eq_ofNat_of_zero_le (show 0<= -r by omega);obtain rfl:r= -(n:Int):=by omega
   rw [show (-(-(n:Int))).toNat=n by omega];clear hn;go_enter func110,ntmps110;go_wp2_with (go_at_call 108;refine (Y0 _ _).mono ?_;rintro e w' ⟨rfl,rfl⟩)
   go_loop [0,3] (fun i s=>i= .int .i64 (-(n:Int))/\s= .int .i64 1024) (fun _ _=>0)
   case atStart=>exact ⟨rfl,rfl⟩
   case round=>
    obtain ⟨rfl,rfl⟩:=hrel;go_wp2_with fail
    go_loop [0,3] (fun i s=> ∃ k:Nat,k<=n/\i= .int .i64 ((k:Int)-n)/\s= .int .i64 (VU k)) (fun i _=>(-(intOf i)).toNat)
    case atStart=>exact ⟨0,ZR _,by simp,rfl⟩
    case round=>
     obtain ⟨k,hk,rfl,rfl⟩:=hrel;by_cases hlt:k<n
     ·obtain ⟨hs,f1,f2⟩:=JT (k:=k) (by omega)
      have Hs:=Z9 hs;clear hs;generalize VU k=z at *;go_wp2_with fail
      go_round
      case rel=>exact ⟨k+1,by omega,by go_num,by rw [uh Hs]⟩
      case measure=>exact ms
     ·obtain rfl:k=n:=by omega
      go_wp2_with fail;go_ret;exact ⟨rfl,rfl⟩
theorem JS {x y:Int} (h0:0<=x) (h1:x<=100000) (h:x*5 / 4=y) (w:World):cE 263 #[.int .i64 x] w (.int .i64 y):=by
 subst h;go_enter func263,ntmps263
 go_wp2
 go_ret;exact ⟨rfl,rfl⟩
theorem J8 {x y:Int} (h0:0<=x) (h1:x<=100000) (h:x*4 / 5=y) (w:World):cE 264 #[.int .i64 x] w (.int .i64 y):=by
 subst h;go_enter func264,ntmps264
 go_wp2
 go_ret;exact ⟨rfl,rfl⟩
theorem QM (r:Int) (w:World):cE 245 #[.int .i64 r] w (.int .i64 (YM r)):=by
 cases hb:inB r (-5) 5
 ·rw [VK hb]
  have hr:r < -5\/5<r:=by
   by_cases h1 : -5<=r
   ·by_cases h2:r<=5
    ·rw [Zf h1 h2] at hb;cases hb
    ·omega
   ·omega
  have e1:¬ r= -5:=by omega
  have e2:¬ r= -4:=by omega
  have e3:¬ r= -3:=by omega
  have e4:¬ r= -2:=by omega
  have e5:¬ r= -1:=by omega
  have e6:¬ r=0:=by omega
  have e7:¬ r=5:=by omega
  have e8:¬ r=4:=by omega
  have e9:¬ r=3:=by omega
  have e10:¬ r=2:=by omega
  have e11:¬ r=1:=by omega
  clear hb hr;go_enter func245,ntmps245;go_wp2_with fail;go_ret;exact ⟨rfl,rfl⟩
 ·rcases Db hb with rfl | rfl | rfl | rfl | rfl | rfl | rfl | rfl | rfl | rfl | rfl
  all_goals
   clear hb;go_enter func245,ntmps245
   go_wp2_with (first
    | (go_at_call 263;refine (JS (by decide) (by decide) rfl _).mono ?_;rintro e w' ⟨rfl,rfl⟩)
    | (go_at_call 264;refine (J8 (by decide) (by decide) rfl _).mono ?_;rintro e w' ⟨rfl,rfl⟩))
   go_ret;exact ⟨rfl,rfl⟩
end Go.Proofs.YtgdpaigcmoifbaaGreatDoor
