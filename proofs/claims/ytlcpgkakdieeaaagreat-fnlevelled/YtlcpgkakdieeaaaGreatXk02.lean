/- Part 2 of what the proof rests on. No condition but those that a theorem names. -/
import Derived.Test.YtlcpgkakdieeaaaGreatXk01
set_option maxHeartbeats 8000000
set_option maxRecDepth 100000
namespace Go.Proofs.YtlcpgkakdieeaaaGreat
open Go.ChangeShapes Go.WideShapes Go.ChangeAt Go.RowKit Go.Proofs.Tryz
set_option linter.unusedVariables false
def VD (k:Nat):Int:=[1024,819,655,524,419,335].getD k 0
def Vf (k:Nat):Int:=[1024,1280,1600,2000,2500,3125].getD k 0
def Zm (r:Int):Int:=if inB r (-5) 5 then (if 0<=r then VD r.toNat else Vf (-r).toNat) else 0
theorem Gw:∀ k:Fin 5,VD (k.val+1)=VD k.val*4 / 5/\0<=VD k.val/\VD k.val<=1024:=by decide
theorem Ge:∀ k:Fin 5,Vf (k.val+1)=Vf k.val*5 / 4/\0<=Vf k.val/\Vf k.val<=3125:=by decide
theorem Ji {k:Nat} (h:k<5):VD (k+1)=VD k*4 / 5/\0<=VD k/\VD k<=1024:=Gw ⟨k,h⟩
theorem I3 {k:Nat} (h:k<5):Vf (k+1)=Vf k*5 / 4/\0<=Vf k/\Vf k<=3125:=Ge ⟨k,h⟩
theorem Dd {r:Int} (h:inB r (-5) 5=true):r= -5\/r= -4\/r= -3\/r= -2\/r= -1\/r=0\/r=1\/r=2\/r=3\/r=4\/r=5:=by
 have:=ZN h;omega
theorem Wb {r:Int} (h:inB r (-5) 5=false):Zm r=0:=by unfold Zm;simp [h]
theorem Ik {r:Int} (h:inB r (-5) 5=true) (h0:0<=r):Zm r=VD r.toNat:=by unfold Zm;simp [h,h0]
theorem Lp {r:Int} (h:inB r (-5) 5=true) (h0:¬ 0<=r):Zm r=Vf (-r).toNat:=by unfold Zm;simp [h,h0]
theorem YV (x:Int) (w:World):cE 124 #[.int .i64 x] w (.bool (inB x (-5) 5)):=by
 go_enter func124,ntmps124;go_wp2_with (go_at_call 64;refine (ZV _ _ _ _).mono ?_;rintro e w' ⟨rfl,rfl⟩)
 go_ret;exact ⟨rfl,rfl⟩
theorem Qr (r:Int) (w:World):cE 125 #[.int .i64 r] w (.int .i64 (Zm r)):=by
 cases hb:inB r (-5) 5
 ·rw [Wb hb]
  go_enter func125,ntmps125;go_wp2_with (go_at_call 124;refine (YV _ _).mono ?_;rintro e w' ⟨rfl,rfl⟩)
  go_ret;exact ⟨rfl,rfl⟩
 ·obtain ⟨r0,r1⟩:=ZN hb
  by_cases h0:0<=r
  ·rw [Ik hb h0]
   obtain ⟨n,rfl⟩:=Int.eq_ofNat_of_zero_le h0;rw [Zr];go_enter func125,ntmps125;go_wp2_with (go_at_call 124;refine (YV _ _).mono ?_;rintro e w' ⟨rfl,rfl⟩)
   go_loop [0,3] (fun i s=> ∃ k:Nat,k<=n/\i= .int .i64 ((n:Int)-k)/\s= .int .i64 (VD k)) (fun i _=>(intOf i).toNat)
   case atStart=>exact ⟨0,ZC _,by simp,rfl⟩
   case round=>
    obtain ⟨k,hk,rfl,rfl⟩:=hrel;by_cases hlt:k<n
    ·obtain ⟨hs,f1,f2⟩:=Ji (k:=k) (by omega)
     have Hs:=Z9 hs;clear hs;generalize VD k=z at *;go_wp2_with fail
     go_round
     case rel=>exact ⟨k+1,by omega,by go_num,by rw [uh Hs]⟩
     case measure=>exact ms
    ·obtain rfl:k=n:=by omega
     go_wp2_with fail
     go_loop [0,3] (fun i s=>i= .int .i64 0/\s= .int .i64 (VD k)) (fun _ _=>0)
     case atStart=>exact ⟨by simp,rfl⟩
     case round=>
      obtain ⟨rfl,rfl⟩:=hrel;go_wp2_with fail;go_ret;exact ⟨rfl,rfl⟩
  ·rw [Lp hb h0]
   obtain ⟨n,hn⟩:=Int.eq_ofNat_of_zero_le (show 0<= -r by omega);obtain rfl:r= -(n:Int):=by omega
   rw [show (-(-(n:Int))).toNat=n by omega];clear hn;go_enter func125,ntmps125;go_wp2_with (go_at_call 124;refine (YV _ _).mono ?_;rintro e w' ⟨rfl,rfl⟩)
   go_loop [0,3] (fun i s=>i= .int .i64 (-(n:Int))/\s= .int .i64 1024) (fun _ _=>0)
   case atStart=>exact ⟨rfl,rfl⟩
   case round=>
    obtain ⟨rfl,rfl⟩:=hrel;go_wp2_with fail
    go_loop [0,3] (fun i s=> ∃ k:Nat,k<=n/\i= .int .i64 ((k:Int)-n)/\s= .int .i64 (Vf k)) (fun i _=>(-(intOf i)).toNat)
    case atStart=>exact ⟨0,ZC _,by simp,rfl⟩
    case round=>
     obtain ⟨k,hk,rfl,rfl⟩:=hrel;by_cases hlt:k<n
     ·obtain ⟨hs,f1,f2⟩:=I3 (k:=k) (by omega)
      have Hs:=Z9 hs;clear hs;generalize Vf k=z at *;go_wp2_with fail
      go_round
      case rel=>exact ⟨k+1,by omega,by go_num,by rw [uh Hs]⟩
      case measure=>exact ms
     ·obtain rfl:k=n:=by omega
      go_wp2_with fail;go_ret;exact ⟨rfl,rfl⟩
theorem I2 {x y:Int} (h0:0<=x) (h1:x<=100000) (h:x*5 / 4=y) (w:World):cE 242 #[.int .i64 x] w (.int .i64 y):=by
 subst h;go_enter func242,ntmps242
 go_wp2
 go_ret;exact ⟨rfl,rfl⟩
theorem Jj {x y:Int} (h0:0<=x) (h1:x<=100000) (h:x*4 / 5=y) (w:World):cE 243 #[.int .i64 x] w (.int .i64 y):=by
 subst h;go_enter func243,ntmps243
 go_wp2
 go_ret;exact ⟨rfl,rfl⟩
theorem P8 (r:Int) (w:World):cE 237 #[.int .i64 r] w (.int .i64 (Zm r)):=by
 cases hb:inB r (-5) 5
 ·rw [Wb hb]
  have hr:r < -5\/5<r:=by
   by_cases h1 : -5<=r
   ·by_cases h2:r<=5
    ·rw [Zo h1 h2] at hb;cases hb
    ·omega
   ·omega
  have e1:¬ r= -5:=by omega
  have e2:¬ r= -4:=by omega
  have e3:¬ r= -3:=by omega
  have e4:¬ r= -2:=by omega
  have e5:¬ r= -1:=by omega
  have e6:¬ r=0:=by omega
  have e7:¬ r=5:=by omega
  have e8:¬ r=4:=by omega
  have e9:¬ r=3:=by omega
  have e10:¬ r=2:=by omega
  have e11:¬ r=1:=by omega
  clear hb hr;go_enter func237,ntmps237;go_wp2_with fail;go_ret;exact ⟨rfl,rfl⟩
 ·rcases Dd hb with rfl | rfl | rfl | rfl | rfl | rfl | rfl | rfl | rfl | rfl | rfl
  all_goals
   clear hb;go_enter func237,ntmps237
   go_wp2_with (first
    | (go_at_call 242;refine (I2 (by decide) (by decide) rfl _).mono ?_;rintro e w' ⟨rfl,rfl⟩)
    | (go_at_call 243;refine (Jj (by decide) (by decide) rfl _).mono ?_;rintro e w' ⟨rfl,rfl⟩))
   go_ret;exact ⟨rfl,rfl⟩
end Go.Proofs.YtlcpgkakdieeaaaGreat
