/- Part 4 of what the proof rests on. No condition but those that a theorem names. -/
import Derived.Test.YtmdgokjeobnnaaaGreatDoorXt01
import Derived.Deep.QuietTactic
import Derived.BigQuiet
set_option maxHeartbeats 8000000
set_option maxRecDepth 100000
namespace Go.Proofs.YtmdgokjeobnnaaaGreatDoor
open Go.ChangeShapes Go.WideShapes Go.ChangeAt Go.RowKit
set_option linter.unusedVariables false
def Xx (work weight carry:Int):Bool:=inB work 0 1000000000 && (inB weight 1 100000 && inB carry 0 (weight-1))
def UU (work weight carry:Int):Int:=if Xx work weight carry then (1024*work+carry) / weight else -1
def UT (work weight carry:Int):Int:=if Xx work weight carry then (1024*work+carry)%weight else 0
theorem Kc {a b c:Int} (ha:inB a 0 1000000000=true) (hb:inB b 1 100000=true) (hc:inB c 0 (b-1)=true):Xx a b c=true:=by unfold Xx;simp [ha,hb,hc]
theorem L6 {a b c:Int} (h:Xx a b c=true):0<=a/\a<=1000000000/\1<=b/\b<=100000/\0<=c/\c<b:=by
 unfold Xx at h;simp only [ZR] at h;obtain ⟨h1,h2,h3⟩:=h;have:=ZS h1;have:=ZS h2;have:=ZS h3;omega
theorem L5 {a b c:Int} (a0:0<=a) (a1:a<=1000000000) (b0:1<=b) (b1:b<=100000) (c0:0<=c) (c1:c<b):Xx a b c=true:=Kc (YJ a0 a1) (YJ b0 b1) (YJ c0 (by omega))
theorem PE {a b c:Int} (h:Xx a b c=true):UU a b c=(1024*a+c) / b/\UT a b c=(1024*a+c)%b:=by unfold UU UT;simp [h]
open Go.ChangeShapes Go.WideShapes Go.ChangeAt Go.RowKit Go.Proofs.Tryz
def Xv (a b c:Int):Int:=if inB a 0 1000000000 && inB b 0 1000000000 && inB c 1 1000000000 then a*b / c else -1
def SZ (x:Int):Nat->Int->Int
 | 0,u=>u
 | n+1,u=>SZ x n ((31*u+x) / 32)
def ZQ (u x n:Int):Int:=if inB u 0 1024 && inB x 0 1024 && inB n 0 1000 then SZ x n.toNat u else -1
theorem KW {u x:Int} (h1:0<=u) (h2:u<=1024) (h3:0<=x) (h4:x<=1024):0<=(31*u+x) / 32/\(31*u+x) / 32<=1024:=by omega
theorem Nc (x:Int) (h3:0<=x) (h4:x<=1024):∀ (n:Nat) (u:Int),0<=u->u<=1024->0<=SZ x n u/\SZ x n u<=1024
 | 0,u,h1,h2=>⟨h1,h2⟩
 | n+1,u,h1,h2=>Nc x h3 h4 n _ (KW h1 h2 h3 h4).1 (KW h1 h2 h3 h4).2
theorem Qh (x:Int):∀ (n:Nat) (u:Int),SZ x (n+1) u=(31*SZ x n u+x) / 32
 | 0,u=>rfl
 | n+1,u=>Qh x n _
theorem Gr {a b:Int} (a0:0<=a) (a1:a<=1000000000) (b0:0<=b) (b1:b<=1000000000):0<=a*b/\a*b<=1000000000000000000:=by
 refine ⟨Int.mul_nonneg a0 b0,?_⟩;have h:=Int.mul_le_mul a1 b1 b0 (by omega);omega
theorem GK {P:Prop} (a b c lo hi l1 h1 l2 h2:Int)
  (k1:inB a lo hi=false->P) (k2:inB a lo hi=true->inB b l1 h1=false->P) (k3:inB a lo hi=true->inB b l1 h1=true->inB c l2 h2=false->P)
  (k4:inB a lo hi=true->inB b l1 h1=true->inB c l2 h2=true->P):P:=by
 cases ha:inB a lo hi
 ·exact k1 ha
 ·cases hb:inB b l1 h1
  ·exact k2 ha hb
  ·cases hc:inB c l2 h2
   ·exact k3 ha hb hc
   ·exact k4 ha hb hc
theorem Vt (x:Int) (w:World):cE 84 #[.int .i64 x] w (.bool (inB x 0 1024)):=by
 go_enter func84,ntmps84;go_wp2_with (go_at_call 27;refine (Z4 _ _ _ _).mono ?_;rintro e w' ⟨rfl,rfl⟩)
 go_ret;exact ⟨rfl,rfl⟩
theorem Q6 (a b c:Int) (w:World):cE 181 #[.int .i64 a,.int .i64 b,.int .i64 c] w (.int .i64 (Xv a b c)):=by
 refine GK a b c 0 1000000000 0 1000000000 1 1000000000 ?_ ?_ ?_ ?_
 ·intro ha
  have hv:Xv a b c= -1:=by simp [Xv,ha]
  rw [hv];clear hv;go_enter func181,ntmps181;go_wp2_with (first | (go_at_call 173;refine (U7 _ _).mono ?_;rintro e w' ⟨rfl,rfl⟩) | (go_at_call 27;refine (Z4 _ _ _ _).mono ?_;rintro e w' ⟨rfl,rfl⟩))
  go_ret;exact ⟨rfl,rfl⟩
 ·intro ha hb
  have hv:Xv a b c= -1:=by simp [Xv,hb]
  rw [hv];clear hv;go_enter func181,ntmps181;go_wp2_with (first | (go_at_call 173;refine (U7 _ _).mono ?_;rintro e w' ⟨rfl,rfl⟩) | (go_at_call 27;refine (Z4 _ _ _ _).mono ?_;rintro e w' ⟨rfl,rfl⟩))
  go_ret;exact ⟨rfl,rfl⟩
 ·intro ha hb hc
  have hv:Xv a b c= -1:=by simp [Xv,hc]
  rw [hv];clear hv;go_enter func181,ntmps181;go_wp2_with (first | (go_at_call 173;refine (U7 _ _).mono ?_;rintro e w' ⟨rfl,rfl⟩) | (go_at_call 27;refine (Z4 _ _ _ _).mono ?_;rintro e w' ⟨rfl,rfl⟩))
  go_ret;exact ⟨rfl,rfl⟩
 ·intro ha hb hc
  have hv:Xv a b c=a*b / c:=by simp [Xv,ha,hb,hc]
  rw [hv];clear hv;obtain ⟨a0,a1⟩:=ZS ha;obtain ⟨b0,b1⟩:=ZS hb;obtain ⟨c0,c1⟩:=ZS hc;obtain ⟨m0,m1⟩:=Gr a0 a1 b0 b1;go_enter func181,ntmps181;go_wp2_with (first | (go_at_call 173;refine (U7 _ _).mono ?_;rintro e w' ⟨rfl,rfl⟩) | (go_at_call 27;refine (Z4 _ _ _ _).mono ?_;rintro e w' ⟨rfl,rfl⟩))
  go_ret;exact ⟨rfl,rfl⟩
theorem Vy (u x n:Int) (w:World):cE 142 #[.int .i64 u,.int .i64 x,.int .i64 n] w (.int .i64 (ZQ u x n)):=by
 refine GK u x n 0 1024 0 1024 0 1000 ?_ ?_ ?_ ?_
 ·intro ha
  have hv:ZQ u x n= -1:=by simp [ZQ,ha]
  rw [hv];clear hv;go_enter func142,ntmps142;go_wp2_with (first | (go_at_call 84;refine (Vt _ _).mono ?_;rintro e w' ⟨rfl,rfl⟩) | (go_at_call 27;refine (Z4 _ _ _ _).mono ?_;rintro e w' ⟨rfl,rfl⟩))
  go_ret;exact ⟨rfl,rfl⟩
 ·intro ha hb
  have hv:ZQ u x n= -1:=by simp [ZQ,hb]
  rw [hv];clear hv;go_enter func142,ntmps142;go_wp2_with (first | (go_at_call 84;refine (Vt _ _).mono ?_;rintro e w' ⟨rfl,rfl⟩) | (go_at_call 27;refine (Z4 _ _ _ _).mono ?_;rintro e w' ⟨rfl,rfl⟩))
  go_ret;exact ⟨rfl,rfl⟩
 ·intro ha hb hc
  have hv:ZQ u x n= -1:=by simp [ZQ,hc]
  rw [hv];clear hv;go_enter func142,ntmps142;go_wp2_with (first | (go_at_call 84;refine (Vt _ _).mono ?_;rintro e w' ⟨rfl,rfl⟩) | (go_at_call 27;refine (Z4 _ _ _ _).mono ?_;rintro e w' ⟨rfl,rfl⟩))
  go_ret;exact ⟨rfl,rfl⟩
 ·intro ha hb hc
  have hv:ZQ u x n=SZ x n.toNat u:=by simp [ZQ,ha,hb,hc]
  rw [hv];clear hv;obtain ⟨a0,a1⟩:=ZS ha;obtain ⟨b0,b1⟩:=ZS hb;obtain ⟨c0,c1⟩:=ZS hc;obtain ⟨m,rfl⟩:=Int.eq_ofNat_of_zero_le c0;rw [Zl];go_enter func142,ntmps142;go_wp2_with (first | (go_at_call 84;refine (Vt _ _).mono ?_;rintro e w' ⟨rfl,rfl⟩) | (go_at_call 27;refine (Z4 _ _ _ _).mono ?_;rintro e w' ⟨rfl,rfl⟩))
  go_loop [0,2] (fun s i=> ∃ k:Nat,k<=m/\i= .int .i64 ((m:Int)-k)/\s= .int .i64 (SZ x k u)) (fun _ i=>(intOf i).toNat)
  case atStart=>exact ⟨0,Zi _,by simp,rfl⟩
  case round=>
   obtain ⟨k,hk,rfl,rfl⟩:=hrel;obtain ⟨f1,f2⟩:=Nc x b0 b1 k u a0 a1;have Hs:=Z9 (Qh x k u);generalize hz:SZ x k u=z at *;have Hz:=Z9 hz;clear hz;by_cases hlt:k<m
   ·go_wp2_with fail
    go_round
    case rel=>exact ⟨k+1,by omega,by go_num,by rw [uh Hs]⟩
    case measure=>exact ms
   ·go_wp2_with fail
    go_ret;exact ⟨Za (by rw [<-uh Hz,show k=m from by omega]),rfl⟩
end Go.Proofs.YtmdgokjeobnnaaaGreatDoor
