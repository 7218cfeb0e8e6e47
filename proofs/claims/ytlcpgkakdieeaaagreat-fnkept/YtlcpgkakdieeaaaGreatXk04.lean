/- Part 4 of what the proof rests on. No condition but those that a theorem names. -/
import Derived.Test.YtlcpgkakdieeaaaGreatXk01
import Derived.Deep.QuietTactic
import Derived.BigQuiet
set_option maxHeartbeats 8000000
set_option maxRecDepth 100000
namespace Go.Proofs.YtlcpgkakdieeaaaGreat
open Go.ChangeShapes Go.WideShapes Go.ChangeAt Go.RowKit
set_option linter.unusedVariables false
def WK (work weight carry:Int):Bool:=inB work 0 1000000000 && (inB weight 1 100000 && inB carry 0 (weight-1))
def Tv (work weight carry:Int):Int:=if WK work weight carry then (1024*work+carry) / weight else -1
def Tu (work weight carry:Int):Int:=if WK work weight carry then (1024*work+carry)%weight else 0
theorem Ey {a b c:Int} (ha:inB a 0 1000000000=true) (hb:inB b 1 100000=true) (hc:inB c 0 (b-1)=true):WK a b c=true:=by unfold WK;simp [ha,hb,hc]
theorem GD {a b c:Int} (h:WK a b c=true):0<=a/\a<=1000000000/\1<=b/\b<=100000/\0<=c/\c<b:=by
 unfold WK at h;simp only [ZP] at h;obtain ⟨h1,h2,h3⟩:=h;have:=ZN h1;have:=ZN h2;have:=ZN h3;omega
theorem GC {a b c:Int} (a0:0<=a) (a1:a<=1000000000) (b0:1<=b) (b1:b<=100000) (c0:0<=c) (c1:c<b):WK a b c=true:=Ey (Zo a0 a1) (Zo b0 b1) (Zo c0 (by omega))
theorem Mh {a b c:Int} (h:WK a b c=true):Tv a b c=(1024*a+c) / b/\Tu a b c=(1024*a+c)%b:=by unfold Tv Tu;simp [h]
open Go.ChangeShapes Go.WideShapes Go.ChangeAt Go.RowKit Go.Proofs.Tryz
def WJ (a b c:Int):Int:=if inB a 0 1000000000 && inB b 0 1000000000 && inB c 1 1000000000 then a*b / c else -1
def QG (x:Int):Nat->Int->Int
 | 0,u=>u
 | n+1,u=>QG x n ((31*u+x) / 32)
def ZG (u x n:Int):Int:=if inB u 0 1024 && inB x 0 1024 && inB n 0 1000 then QG x n.toNat u else -1
theorem Ff {u x:Int} (h1:0<=u) (h2:u<=1024) (h3:0<=x) (h4:x<=1024):0<=(31*u+x) / 32/\(31*u+x) / 32<=1024:=by omega
theorem IK (x:Int) (h3:0<=x) (h4:x<=1024):∀ (n:Nat) (u:Int),0<=u->u<=1024->0<=QG x n u/\QG x n u<=1024
 | 0,u,h1,h2=>⟨h1,h2⟩
 | n+1,u,h1,h2=>IK x h3 h4 n _ (Ff h1 h2 h3 h4).1 (Ff h1 h2 h3 h4).2
theorem Nv (x:Int):∀ (n:Nat) (u:Int),QG x (n+1) u=(31*QG x n u+x) / 32
 | 0,u=>rfl
 | n+1,u=>Nv x n _
theorem Bd {a b:Int} (a0:0<=a) (a1:a<=1000000000) (b0:0<=b) (b1:b<=1000000000):0<=a*b/\a*b<=1000000000000000000:=by
 refine ⟨Int.mul_nonneg a0 b0,?_⟩;have h:=Int.mul_le_mul a1 b1 b0 (by omega);omega
theorem Bv {P:Prop} (a b c lo hi l1 h1 l2 h2:Int)
  (k1:inB a lo hi=false->P) (k2:inB a lo hi=true->inB b l1 h1=false->P) (k3:inB a lo hi=true->inB b l1 h1=true->inB c l2 h2=false->P)
  (k4:inB a lo hi=true->inB b l1 h1=true->inB c l2 h2=true->P):P:=by
 cases ha:inB a lo hi
 ·exact k1 ha
 ·cases hb:inB b l1 h1
  ·exact k2 ha hb
  ·cases hc:inB c l2 h2
   ·exact k3 ha hb hc
   ·exact k4 ha hb hc
theorem Un (x:Int) (w:World):cE 126 #[.int .i64 x] w (.bool (inB x 0 1024)):=by
 go_enter func126,ntmps126;go_wp2_with (go_at_call 64;refine (ZV _ _ _ _).mono ?_;rintro e w' ⟨rfl,rfl⟩)
 go_ret;exact ⟨rfl,rfl⟩
theorem OC (a b c:Int) (w:World):cE 248 #[.int .i64 a,.int .i64 b,.int .i64 c] w (.int .i64 (WJ a b c)):=by
 refine Bv a b c 0 1000000000 0 1000000000 1 1000000000 ?_ ?_ ?_ ?_
 ·intro ha
  have hv:WJ a b c= -1:=by simp [WJ,ha]
  rw [hv];clear hv;go_enter func248,ntmps248;go_wp2_with (first | (go_at_call 240;refine (TL _ _).mono ?_;rintro e w' ⟨rfl,rfl⟩) | (go_at_call 64;refine (ZV _ _ _ _).mono ?_;rintro e w' ⟨rfl,rfl⟩))
  go_ret;exact ⟨rfl,rfl⟩
 ·intro ha hb
  have hv:WJ a b c= -1:=by simp [WJ,hb]
  rw [hv];clear hv;go_enter func248,ntmps248;go_wp2_with (first | (go_at_call 240;refine (TL _ _).mono ?_;rintro e w' ⟨rfl,rfl⟩) | (go_at_call 64;refine (ZV _ _ _ _).mono ?_;rintro e w' ⟨rfl,rfl⟩))
  go_ret;exact ⟨rfl,rfl⟩
 ·intro ha hb hc
  have hv:WJ a b c= -1:=by simp [WJ,hc]
  rw [hv];clear hv;go_enter func248,ntmps248;go_wp2_with (first | (go_at_call 240;refine (TL _ _).mono ?_;rintro e w' ⟨rfl,rfl⟩) | (go_at_call 64;refine (ZV _ _ _ _).mono ?_;rintro e w' ⟨rfl,rfl⟩))
  go_ret;exact ⟨rfl,rfl⟩
 ·intro ha hb hc
  have hv:WJ a b c=a*b / c:=by simp [WJ,ha,hb,hc]
  rw [hv];clear hv;obtain ⟨a0,a1⟩:=ZN ha;obtain ⟨b0,b1⟩:=ZN hb;obtain ⟨c0,c1⟩:=ZN hc;obtain ⟨m0,m1⟩:=Bd a0 a1 b0 b1;go_enter func248,ntmps248;go_wp2_with (first | (go_at_call 240;refine (TL _ _).mono ?_;rintro e w' ⟨rfl,rfl⟩) | (go_at_call 64;refine (ZV _ _ _ _).mono ?_;rintro e w' ⟨rfl,rfl⟩))
  go_ret;exact ⟨rfl,rfl⟩
theorem Ut (u x n:Int) (w:World):cE 222 #[.int .i64 u,.int .i64 x,.int .i64 n] w (.int .i64 (ZG u x n)):=by
 refine Bv u x n 0 1024 0 1024 0 1000 ?_ ?_ ?_ ?_
 ·intro ha
  have hv:ZG u x n= -1:=by simp [ZG,ha]
  rw [hv];clear hv;go_enter func222,ntmps222;go_wp2_with (first | (go_at_call 126;refine (Un _ _).mono ?_;rintro e w' ⟨rfl,rfl⟩) | (go_at_call 64;refine (ZV _ _ _ _).mono ?_;rintro e w' ⟨rfl,rfl⟩))
  go_ret;exact ⟨rfl,rfl⟩
 ·intro ha hb
  have hv:ZG u x n= -1:=by simp [ZG,hb]
  rw [hv];clear hv;go_enter func222,ntmps222;go_wp2_with (first | (go_at_call 126;refine (Un _ _).mono ?_;rintro e w' ⟨rfl,rfl⟩) | (go_at_call 64;refine (ZV _ _ _ _).mono ?_;rintro e w' ⟨rfl,rfl⟩))
  go_ret;exact ⟨rfl,rfl⟩
 ·intro ha hb hc
  have hv:ZG u x n= -1:=by simp [ZG,hc]
  rw [hv];clear hv;go_enter func222,ntmps222;go_wp2_with (first | (go_at_call 126;refine (Un _ _).mono ?_;rintro e w' ⟨rfl,rfl⟩) | (go_at_call 64;refine (ZV _ _ _ _).mono ?_;rintro e w' ⟨rfl,rfl⟩))
  go_ret;exact ⟨rfl,rfl⟩
 ·intro ha hb hc
  have hv:ZG u x n=QG x n.toNat u:=by simp [ZG,ha,hb,hc]
  rw [hv];clear hv;obtain ⟨a0,a1⟩:=ZN ha;obtain ⟨b0,b1⟩:=ZN hb;obtain ⟨c0,c1⟩:=ZN hc;obtain ⟨m,rfl⟩:=Int.eq_ofNat_of_zero_le c0;rw [Zr];go_enter func222,ntmps222;go_wp2_with (first | (go_at_call 126;refine (Un _ _).mono ?_;rintro e w' ⟨rfl,rfl⟩) | (go_at_call 64;refine (ZV _ _ _ _).mono ?_;rintro e w' ⟨rfl,rfl⟩))
  go_loop [0,2] (fun s i=> ∃ k:Nat,k<=m/\i= .int .i64 ((m:Int)-k)/\s= .int .i64 (QG x k u)) (fun _ i=>(intOf i).toNat)
  case atStart=>exact ⟨0,ZC _,by simp,rfl⟩
  case round=>
   obtain ⟨k,hk,rfl,rfl⟩:=hrel;obtain ⟨f1,f2⟩:=IK x b0 b1 k u a0 a1;have Hs:=Z9 (Nv x k u);generalize hz:QG x k u=z at *;have Hz:=Z9 hz;clear hz;by_cases hlt:k<m
   ·go_wp2_with fail
    go_round
    case rel=>exact ⟨k+1,by omega,by go_num,by rw [uh Hs]⟩
    case measure=>exact ms
   ·go_wp2_with fail
    go_ret;exact ⟨ZA (by rw [<-uh Hz,show k=m from by omega]),rfl⟩
end Go.Proofs.YtlcpgkakdieeaaaGreat
