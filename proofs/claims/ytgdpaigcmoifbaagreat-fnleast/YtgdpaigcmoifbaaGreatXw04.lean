/- Part 4 of what the proof rests on. No condition but those that a theorem names. -/
import Derived.Test.YtgdpaigcmoifbaaGreatXw01
import Derived.Deep.QuietTactic
import Derived.BigQuiet
set_option maxHeartbeats 8000000
set_option maxRecDepth 100000
namespace Go.Proofs.YtgdpaigcmoifbaaGreat
open Go.ChangeShapes Go.WideShapes Go.ChangeAt Go.RowKit
set_option linter.unusedVariables false
def Wb (work weight carry:Int):Bool:=inB work 0 1000000000 && (inB weight 1 100000 && inB carry 0 (weight-1))
def SC (work weight carry:Int):Int:=if Wb work weight carry then (1024*work+carry) / weight else -1
def SA (work weight carry:Int):Int:=if Wb work weight carry then (1024*work+carry)%weight else 0
theorem Ch {a b c:Int} (ha:inB a 0 1000000000=true) (hb:inB b 1 100000=true) (hc:inB c 0 (b-1)=true):Wb a b c=true:=by unfold Wb;simp [ha,hb,hc]
theorem EE {a b c:Int} (h:Wb a b c=true):0<=a/\a<=1000000000/\1<=b/\b<=100000/\0<=c/\c<b:=by
 unfold Wb at h;simp only [ZO] at h;obtain ⟨h1,h2,h3⟩:=h;have:=ZN h1;have:=ZN h2;have:=ZN h3;omega
theorem ED {a b c:Int} (a0:0<=a) (a1:a<=1000000000) (b0:1<=b) (b1:b<=100000) (c0:0<=c) (c1:c<b):Wb a b c=true:=Ch (Zn a0 a1) (Zn b0 b1) (Zn c0 (by omega))
theorem Kn {a b c:Int} (h:Wb a b c=true):SC a b c=(1024*a+c) / b/\SA a b c=(1024*a+c)%b:=by unfold SC SA;simp [h]
open Go.ChangeShapes Go.WideShapes Go.ChangeAt Go.RowKit Go.Proofs.Tryz
def Yl (a b c:Int):Int:=if inB a 0 1000000000 && inB b 0 1000000000 && inB c 1 1000000000 then a*b / c else -1
def Pu (x:Int):Nat->Int->Int
 | 0,u=>u
 | n+1,u=>Pu x n ((31*u+x) / 32)
def ZF (u x n:Int):Int:=if inB u 0 1024 && inB x 0 1024 && inB n 0 1000 then Pu x n.toNat u else -1
theorem C0 {u x:Int} (h1:0<=u) (h2:u<=1024) (h3:0<=x) (h4:x<=1024):0<=(31*u+x) / 32/\(31*u+x) / 32<=1024:=by omega
theorem F0 (x:Int) (h3:0<=x) (h4:x<=1024):∀ (n:Nat) (u:Int),0<=u->u<=1024->0<=Pu x n u/\Pu x n u<=1024
 | 0,u,h1,h2=>⟨h1,h2⟩
 | n+1,u,h1,h2=>F0 x h3 h4 n _ (C0 h1 h2 h3 h4).1 (C0 h1 h2 h3 h4).2
theorem LQ (x:Int):∀ (n:Nat) (u:Int),Pu x (n+1) u=(31*Pu x n u+x) / 32
 | 0,u=>rfl
 | n+1,u=>LQ x n _
theorem AH {a b:Int} (a0:0<=a) (a1:a<=1000000000) (b0:0<=b) (b1:b<=1000000000):0<=a*b/\a*b<=1000000000000000000:=by
 refine ⟨Int.mul_nonneg a0 b0,?_⟩;have h:=Int.mul_le_mul a1 b1 b0 (by omega);omega
theorem Br {P:Prop} (a b c lo hi l1 h1 l2 h2:Int)
  (k1:inB a lo hi=false->P) (k2:inB a lo hi=true->inB b l1 h1=false->P) (k3:inB a lo hi=true->inB b l1 h1=true->inB c l2 h2=false->P)
  (k4:inB a lo hi=true->inB b l1 h1=true->inB c l2 h2=true->P):P:=by
 cases ha:inB a lo hi
 ·exact k1 ha
 ·cases hb:inB b l1 h1
  ·exact k2 ha hb
  ·cases hc:inB c l2 h2
   ·exact k3 ha hb hc
   ·exact k4 ha hb hc
theorem Tz (x:Int) (w:World):cE 197 #[.int .i64 x] w (.bool (inB x 0 1024)):=by
 go_enter func197,ntmps197;go_wp2_with (go_at_call 129;refine (ZV _ _ _ _).mono ?_;rintro e w' ⟨rfl,rfl⟩)
 go_ret;exact ⟨rfl,rfl⟩
theorem MY (a b c:Int) (w:World):cE 289 #[.int .i64 a,.int .i64 b,.int .i64 c] w (.int .i64 (Yl a b c)):=by
 refine Br a b c 0 1000000000 0 1000000000 1 1000000000 ?_ ?_ ?_ ?_
 ·intro ha
  have hv:Yl a b c= -1:=by simp [Yl,ha]
  rw [hv];clear hv;go_enter func289,ntmps289;go_wp2_with (first | (go_at_call 321;refine (SW _ _).mono ?_;rintro e w' ⟨rfl,rfl⟩) | (go_at_call 129;refine (ZV _ _ _ _).mono ?_;rintro e w' ⟨rfl,rfl⟩))
  go_ret;exact ⟨rfl,rfl⟩
 ·intro ha hb
  have hv:Yl a b c= -1:=by simp [Yl,hb]
  rw [hv];clear hv;go_enter func289,ntmps289;go_wp2_with (first | (go_at_call 321;refine (SW _ _).mono ?_;rintro e w' ⟨rfl,rfl⟩) | (go_at_call 129;refine (ZV _ _ _ _).mono ?_;rintro e w' ⟨rfl,rfl⟩))
  go_ret;exact ⟨rfl,rfl⟩
 ·intro ha hb hc
  have hv:Yl a b c= -1:=by simp [Yl,hc]
  rw [hv];clear hv;go_enter func289,ntmps289;go_wp2_with (first | (go_at_call 321;refine (SW _ _).mono ?_;rintro e w' ⟨rfl,rfl⟩) | (go_at_call 129;refine (ZV _ _ _ _).mono ?_;rintro e w' ⟨rfl,rfl⟩))
  go_ret;exact ⟨rfl,rfl⟩
 ·intro ha hb hc
  have hv:Yl a b c=a*b / c:=by simp [Yl,ha,hb,hc]
  rw [hv];clear hv;obtain ⟨a0,a1⟩:=ZN ha;obtain ⟨b0,b1⟩:=ZN hb;obtain ⟨c0,c1⟩:=ZN hc;obtain ⟨m0,m1⟩:=AH a0 a1 b0 b1;go_enter func289,ntmps289;go_wp2_with (first | (go_at_call 321;refine (SW _ _).mono ?_;rintro e w' ⟨rfl,rfl⟩) | (go_at_call 129;refine (ZV _ _ _ _).mono ?_;rintro e w' ⟨rfl,rfl⟩))
  go_ret;exact ⟨rfl,rfl⟩
theorem yl {p:Int->Bool} (a b:Int) : [a,b].all p=(p a && p b):=by simp
theorem yk {p:Int->Bool} (a:Int) : [a].all p=p a:=by simp
theorem yr (W:World) (a b:Int) (bk:Nat) (hb:bk=W.heap.size):∀ k,k < [a,b].length->(W.alloc (.cells #[.int .i64 a,.int .i64 b] 2)).cell? ⟨bk,k,none⟩=some (.int .i64 ([a,b].getD k 0)):=by
 intro k hk;rw [World.cell?_alloc_at _ _ _ _ hb]
 match k,hk with
 | 0,_=>rfl
 | 1,_=>rfl
theorem yq (W:World) (a:Int) (bk:Nat) (hb:bk=W.heap.size):∀ k,k < [a].length->(W.alloc (.cells #[.int .i64 a] 2)).cell? ⟨bk,k,none⟩=some (.int .i64 ([a].getD k 0)):=by
 intro k hk;rw [World.cell?_alloc_at _ _ _ _ hb]
 match k,hk with
 | 0,_=>rfl
theorem UC (a b:Int) (W:World) (bk:Nat) (hb:bk=W.heap.size):Calls prog 317 #[.func (Fn.func 318) #[] #[],.slice (some ⟨bk,0,none⟩) 2 2] (W.alloc (.cells #[.int .i64 a,.int .i64 b] 2))
  fun e w'=>e= .returned (.bool (inB a 0 1000000000 && inB b 0 1000000000))/\w'=W.alloc (.cells #[.int .i64 a,.int .i64 b] 2):=by
 have h:=NB bk 2 [a,b] (W.alloc (.cells #[.int .i64 a,.int .i64 b] 2)) (by simp) (yr W a b bk hb);rw [yl] at h;exact h
theorem Qr (a:Int) (W:World) (bk:Nat) (hb:bk=W.heap.size):Calls prog 317 #[.func (Fn.func 319) #[] #[],.slice (some ⟨bk,0,none⟩) 1 1] (W.alloc (.cells #[.int .i64 a] 2))
  fun e w'=>e= .returned (.bool (inB a 1 1000000000))/\w'=W.alloc (.cells #[.int .i64 a] 2):=by
 have h:=OJ bk 1 [a] (W.alloc (.cells #[.int .i64 a] 2)) (by simp) (yq W a bk hb);rw [yk] at h;exact h
theorem Me (a b c:Int) (w:World):cB 286 #[.int .i64 a,.int .i64 b,.int .i64 c] w (.int .i64 (Yl a b c)):=by
 refine Br a b c 0 1000000000 0 1000000000 1 1000000000 ?_ ?_ ?_ ?_
 ·intro ha
  have hv:Yl a b c= -1:=by simp [Yl,ha]
  rw [hv];clear hv;go_enter func286,ntmps286;go_wp2_with fail;refine (UC a b _ _ rfl).mono ?_;rintro e w' ⟨rfl,rfl⟩;go_wp2_with fail;go_ret;exact ⟨rfl,(ba _ _)⟩
 ·intro ha hb
  have hv:Yl a b c= -1:=by simp [Yl,hb]
  rw [hv];clear hv;go_enter func286,ntmps286;go_wp2_with fail;refine (UC a b _ _ rfl).mono ?_;rintro e w' ⟨rfl,rfl⟩;go_wp2_with fail;go_ret;exact ⟨rfl,(ba _ _)⟩
 ·intro ha hb hc
  have hv:Yl a b c= -1:=by simp [Yl,hc]
  rw [hv];clear hv;go_enter func286,ntmps286;go_wp2_with fail;refine (UC a b _ _ rfl).mono ?_;rintro e w' ⟨rfl,rfl⟩;go_wp2_with fail;refine (Qr c _ _ (by simp)).mono ?_;rintro e w' ⟨rfl,rfl⟩;go_wp2_with fail;go_ret;exact ⟨rfl,((ba _ _)).alloc (by simp) _⟩
 ·intro ha hb hc
  have hv:Yl a b c=a*b / c:=by simp [Yl,ha,hb,hc]
  rw [hv];clear hv;obtain ⟨a0,a1⟩:=ZN ha;obtain ⟨b0,b1⟩:=ZN hb;obtain ⟨c0,c1⟩:=ZN hc;obtain ⟨m0,m1⟩:=AH a0 a1 b0 b1;go_enter func286,ntmps286;go_wp2_with fail;refine (UC a b _ _ rfl).mono ?_;rintro e w' ⟨rfl,rfl⟩;go_wp2_with fail;refine (Qr c _ _ (by simp)).mono ?_;rintro e w' ⟨rfl,rfl⟩;go_wp2_with fail;go_ret;exact ⟨rfl,((ba _ _)).alloc (by simp) _⟩
theorem TE (u x n:Int) (w:World):cE 311 #[.int .i64 u,.int .i64 x,.int .i64 n] w (.int .i64 (ZF u x n)):=by
 refine Br u x n 0 1024 0 1024 0 1000 ?_ ?_ ?_ ?_
 ·intro ha
  have hv:ZF u x n= -1:=by simp [ZF,ha]
  rw [hv];clear hv;go_enter func311,ntmps311;go_wp2_with (first | (go_at_call 197;refine (Tz _ _).mono ?_;rintro e w' ⟨rfl,rfl⟩) | (go_at_call 129;refine (ZV _ _ _ _).mono ?_;rintro e w' ⟨rfl,rfl⟩))
  go_ret;exact ⟨rfl,rfl⟩
 ·intro ha hb
  have hv:ZF u x n= -1:=by simp [ZF,hb]
  rw [hv];clear hv;go_enter func311,ntmps311;go_wp2_with (first | (go_at_call 197;refine (Tz _ _).mono ?_;rintro e w' ⟨rfl,rfl⟩) | (go_at_call 129;refine (ZV _ _ _ _).mono ?_;rintro e w' ⟨rfl,rfl⟩))
  go_ret;exact ⟨rfl,rfl⟩
 ·intro ha hb hc
  have hv:ZF u x n= -1:=by simp [ZF,hc]
  rw [hv];clear hv;go_enter func311,ntmps311;go_wp2_with (first | (go_at_call 197;refine (Tz _ _).mono ?_;rintro e w' ⟨rfl,rfl⟩) | (go_at_call 129;refine (ZV _ _ _ _).mono ?_;rintro e w' ⟨rfl,rfl⟩))
  go_ret;exact ⟨rfl,rfl⟩
 ·intro ha hb hc
  have hv:ZF u x n=Pu x n.toNat u:=by simp [ZF,ha,hb,hc]
  rw [hv];clear hv;obtain ⟨a0,a1⟩:=ZN ha;obtain ⟨b0,b1⟩:=ZN hb;obtain ⟨c0,c1⟩:=ZN hc;obtain ⟨m,rfl⟩:=Int.eq_ofNat_of_zero_le c0;rw [Zp];go_enter func311,ntmps311;go_wp2_with (first | (go_at_call 197;refine (Tz _ _).mono ?_;rintro e w' ⟨rfl,rfl⟩) | (go_at_call 129;refine (ZV _ _ _ _).mono ?_;rintro e w' ⟨rfl,rfl⟩))
  go_loop [0,2] (fun s i=> ∃ k:Nat,k<=m/\i= .int .i64 ((m:Int)-k)/\s= .int .i64 (Pu x k u)) (fun _ i=>(intOf i).toNat)
  case atStart=>exact ⟨0,ZA _,by simp,rfl⟩
  case round=>
   obtain ⟨k,hk,rfl,rfl⟩:=hrel;obtain ⟨f1,f2⟩:=F0 x b0 b1 k u a0 a1;have Hs:=Z9 (LQ x k u);generalize hz:Pu x k u=z at *;have Hz:=Z9 hz;clear hz;by_cases hlt:k<m
   ·go_wp2_with fail
    go_round
    case rel=>exact ⟨k+1,by omega,by go_num,by rw [uh Hs]⟩
    case measure=>exact ms
   ·go_wp2_with fail
    go_ret;exact ⟨ZB (by rw [<-uh Hz,show k=m from by omega]),rfl⟩
end Go.Proofs.YtgdpaigcmoifbaaGreat
