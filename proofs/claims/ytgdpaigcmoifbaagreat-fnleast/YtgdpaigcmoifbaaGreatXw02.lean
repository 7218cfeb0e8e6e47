/- Part 2 of what the proof rests on. No condition but those that a theorem names. -/
import Derived.Test.YtgdpaigcmoifbaaGreatXw01
set_option maxHeartbeats 8000000
set_option maxRecDepth 100000
namespace Go.Proofs.YtgdpaigcmoifbaaGreat
open Go.ChangeShapes Go.WideShapes Go.ChangeAt Go.RowKit Go.Proofs.Tryz
set_option linter.unusedVariables false
def Vk (k:Nat):Int:=[1024,819,655,524,419,335].getD k 0
def UI (k:Nat):Int:=[1024,1280,1600,2000,2500,3125].getD k 0
def Zb (r:Int):Int:=if inB r (-5) 5 then (if 0<=r then Vk r.toNat else UI (-r).toNat) else 0
theorem Ev:∀ k:Fin 5,Vk (k.val+1)=Vk k.val*4 / 5/\0<=Vk k.val/\Vk k.val<=1024:=by decide
theorem Ed:∀ k:Fin 5,UI (k.val+1)=UI k.val*5 / 4/\0<=UI k.val/\UI k.val<=3125:=by decide
theorem GA {k:Nat} (h:k<5):Vk (k+1)=Vk k*4 / 5/\0<=Vk k/\Vk k<=1024:=Ev ⟨k,h⟩
theorem Gk {k:Nat} (h:k<5):UI (k+1)=UI k*5 / 4/\0<=UI k/\UI k<=3125:=Ed ⟨k,h⟩
theorem AR {r:Int} (h:inB r (-5) 5=true):r= -5\/r= -4\/r= -3\/r= -2\/r= -1\/r=0\/r=1\/r=2\/r=3\/r=4\/r=5:=by
 have:=ZN h;omega
theorem VG {r:Int} (h:inB r (-5) 5=false):Zb r=0:=by unfold Zb;simp [h]
theorem Fq {r:Int} (h:inB r (-5) 5=true) (h0:0<=r):Zb r=Vk r.toNat:=by unfold Zb;simp [h,h0]
theorem JG {r:Int} (h:inB r (-5) 5=true) (h0:¬ 0<=r):Zb r=UI (-r).toNat:=by unfold Zb;simp [h,h0]
theorem YG (x:Int) (w:World):cE 194 #[.int .i64 x] w (.bool (inB x (-5) 5)):=by
 go_enter func194,ntmps194;go_wp2_with (go_at_call 129;refine (ZV _ _ _ _).mono ?_;rintro e w' ⟨rfl,rfl⟩)
 go_ret;exact ⟨rfl,rfl⟩
theorem Ph (r:Int) (w:World):cE 196 #[.int .i64 r] w (.int .i64 (Zb r)):=by
 cases hb:inB r (-5) 5
 ·rw [VG hb]
  go_enter func196,ntmps196;go_wp2_with (go_at_call 194;refine (YG _ _).mono ?_;rintro e w' ⟨rfl,rfl⟩)
  go_ret;exact ⟨rfl,rfl⟩
 ·obtain ⟨r0,r1⟩:=ZN hb
  by_cases h0:0<=r
  ·rw [Fq hb h0]
   obtain ⟨n,rfl⟩:=Int.eq_ofNat_of_zero_le h0;rw [Zp];go_enter func196,ntmps196;go_wp2_with (go_at_call 194;refine (YG _ _).mono ?_;rintro e w' ⟨rfl,rfl⟩)
   go_loop [0,3] (fun i s=> ∃ k:Nat,k<=n/\i= .int .i64 ((n:Int)-k)/\s= .int .i64 (Vk k)) (fun i _=>(intOf i).toNat)
   case atStart=>exact ⟨0,ZA _,by simp,rfl⟩
   case round=>
    obtain ⟨k,hk,rfl,rfl⟩:=hrel;by_cases hlt:k<n
    ·obtain ⟨hs,f1,f2⟩:=GA (k:=k) (by omega)
     have Hs:=Z9 hs;clear hs;generalize Vk k=z at *;go_wp2_with fail
     go_round
     case rel=>exact ⟨k+1,by omega,by go_num,by rw [uh Hs]⟩
     case measure=>exact ms
    ·obtain rfl:k=n:=by omega
     go_wp2_with fail
     go_loop [0,3] (fun i s=>i= .int .i64 0/\s= .int .i64 (Vk k)) (fun _ _=>0)
     case atStart=>exact ⟨by simp,rfl⟩
     case round=>
      obtain ⟨rfl,rfl⟩:=hrel;go_wp2_with fail;go_ret;exact ⟨rfl,rfl⟩
  ·rw [JG hb h0]
   obtain ⟨n,hn⟩:=Int.eq_ofNat_of_zero_le (show 0<= -r by omega);obtain rfl:r= -(n:Int):=by omega
   rw [show (-(-(n:Int))).toNat=n by omega];clear hn;go_enter func196,ntmps196;go_wp2_with (go_at_call 194;refine (YG _ _).mono ?_;rintro e w' ⟨rfl,rfl⟩)
   go_loop [0,3] (fun i s=>i= .int .i64 (-(n:Int))/\s= .int .i64 1024) (fun _ _=>0)
   case atStart=>exact ⟨rfl,rfl⟩
   case round=>
    obtain ⟨rfl,rfl⟩:=hrel;go_wp2_with fail
    go_loop [0,3] (fun i s=> ∃ k:Nat,k<=n/\i= .int .i64 ((k:Int)-n)/\s= .int .i64 (UI k)) (fun i _=>(-(intOf i)).toNat)
    case atStart=>exact ⟨0,ZA _,by simp,rfl⟩
    case round=>
     obtain ⟨k,hk,rfl,rfl⟩:=hrel;by_cases hlt:k<n
     ·obtain ⟨hs,f1,f2⟩:=Gk (k:=k) (by omega)
      have Hs:=Z9 hs;clear hs;generalize UI k=z at *;go_wp2_with fail
      go_round
      case rel=>exact ⟨k+1,by omega,by go_num,by rw [uh Hs]⟩
      case measure=>exact ms
     ·obtain rfl:k=n:=by omega
      go_wp2_with fail;go_ret;exact ⟨rfl,rfl⟩
theorem Gj {x y:Int} (h0:0<=x) (h1:x<=100000) (h:x*5 / 4=y) (w:World):cE 332 #[.int .i64 x] w (.int .i64 y):=by
 subst h;go_enter func332,ntmps332
 go_wp2
 go_ret;exact ⟨rfl,rfl⟩
theorem GB {x y:Int} (h0:0<=x) (h1:x<=100000) (h:x*4 / 5=y) (w:World):cE 333 #[.int .i64 x] w (.int .i64 y):=by
 subst h;go_enter func333,ntmps333
 go_wp2
 go_ret;exact ⟨rfl,rfl⟩
theorem OX (r:Int) (w:World):cE 331 #[.int .i64 r] w (.int .i64 (Zb r)):=by
 cases hb:inB r (-5) 5
 ·rw [VG hb]
  have hr:r < -5\/5<r:=by
   by_cases h1 : -5<=r
   ·by_cases h2:r<=5
    ·rw [Zn h1 h2] at hb;cases hb
    ·omega
   ·omega
  have e1:¬ r= -5:=by omega
  have e2:¬ r= -4:=by omega
  have e3:¬ r= -3:=by omega
  have e4:¬ r= -2:=by omega
  have e5:¬ r= -1:=by omega
  have e6:¬ r=0:=by omega
  have e7:¬ r=5:=by omega
  have e8:¬ r=4:=by omega
  have e9:¬ r=3:=by omega
  have e10:¬ r=2:=by omega
  have e11:¬ r=1:=by omega
  clear hb hr;go_enter func331,ntmps331;go_wp2_with fail;go_ret;exact ⟨rfl,rfl⟩
 ·rcases AR hb with rfl | rfl | rfl | rfl | rfl | rfl | rfl | rfl | rfl | rfl | rfl
  all_goals
   clear hb;go_enter func331,ntmps331
   go_wp2_with (first
    | (go_at_call 332;refine (Gj (by decide) (by decide) rfl _).mono ?_;rintro e w' ⟨rfl,rfl⟩)
    | (go_at_call 333;refine (GB (by decide) (by decide) rfl _).mono ?_;rintro e w' ⟨rfl,rfl⟩))
   go_ret;exact ⟨rfl,rfl⟩
end Go.Proofs.YtgdpaigcmoifbaaGreat
