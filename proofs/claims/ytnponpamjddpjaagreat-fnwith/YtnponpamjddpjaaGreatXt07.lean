/- Part 7 of what the proof rests on. No condition but those that a theorem names. -/
import Derived.Test.YtnponpamjddpjaaGreatXt03
import Derived.Test.YtnponpamjddpjaaGreatXt05
set_option maxHeartbeats 8000000
set_option maxRecDepth 100000
namespace Go.Proofs.YtnponpamjddpjaaGreat
open Go.ChangeShapes Go.WideShapes Go.ChangeAt Go.RowKit
set_option linter.unusedVariables false
variable {w w' w0 w1 w2 w3 w₀ wr W W' X A B C : World} {v v0 v1 v2 v3 v4 u u0 u1 u2 u3 u4 : Value} {m : Z3}
def WE (k:Nat):Int:=[1024,819,655,524,419,335].getD k 0
def V0 (k:Nat):Int:=[1024,1280,1600,2000,2500,3125].getD k 0
def Zu (r:Int):Int:=if inB r (-5) 5 then (if 0<=r then WE r.toNat else V0 (-r).toNat) else 0
theorem J6:∀ k:Fin 5,WE (k.val+1)=WE k.val*4 / 5/\0<=WE k.val/\WE k.val<=1024:=by decide
theorem JS:∀ k:Fin 5,V0 (k.val+1)=V0 k.val*5 / 4/\0<=V0 k.val/\V0 k.val<=3125:=by decide
theorem LT {k:Nat} (h:k<5):WE (k+1)=WE k*4 / 5/\0<=WE k/\WE k<=1024:=J6 ⟨k,h⟩
theorem LF {k:Nat} (h:k<5):V0 (k+1)=V0 k*5 / 4/\0<=V0 k/\V0 k<=3125:=JS ⟨k,h⟩
theorem Gl {r:Int} (h:inB r (-5) 5=true):r= -5\/r= -4\/r= -3\/r= -2\/r= -1\/r=0\/r=1\/r=2\/r=3\/r=4\/r=5:=by
 have:=ZS h
 omega
theorem WX {r:Int} (h:inB r (-5) 5=false):Zu r=0:=by unfold Zu;simp [h]
theorem KV {r:Int} (h:inB r (-5) 5=true) (h0:0<=r):Zu r=WE r.toNat:=by unfold Zu;simp [h,h0]
theorem NM {r:Int} (h:inB r (-5) 5=true) (h0:¬ 0<=r):Zu r=V0 (-r).toNat:=by unfold Zu;simp [h,h0]
theorem Za (x:Int) (w:World):Calls Tryz.prog 206 #[.int .i64 x] w fun e w'=>e= .returned (.bool (inB x (-5) 5))/\w'=w:=by
 go_enter Tryz.func206,Tryz.ntmps206
 go_wp2_with (go_at_call 128;refine (ZZ _ _ _ _).mono ?_;rintro e w' ⟨rfl,rfl⟩)
 go_ret
 exact ⟨rfl,rfl⟩
theorem RX (r:Int) (w:World):Calls Tryz.prog 207 #[.int .i64 r] w fun e w'=>e= .returned (.int .i64 (Zu r))/\w'=w:=by
 cases hb:inB r (-5) 5
 ·rw [WX hb]
  go_enter Tryz.func207,Tryz.ntmps207
  go_wp2_with (go_at_call 206;refine (Za _ _).mono ?_;rintro e w' ⟨rfl,rfl⟩)
  go_ret
  exact ⟨rfl,rfl⟩
 ·obtain ⟨r0,r1⟩:=ZS hb
  by_cases h0:0<=r
  ·rw [KV hb h0]
   obtain ⟨n,rfl⟩:=Int.eq_ofNat_of_zero_le h0
   rw [Int.toNat_natCast]
   go_enter Tryz.func207,Tryz.ntmps207
   go_wp2_with (go_at_call 206;refine (Za _ _).mono ?_;rintro e w' ⟨rfl,rfl⟩)
   go_loop [0,3] (fun i s=> ∃ k:Nat,k<=n/\i= .int .i64 ((n:Int)-k)/\s= .int .i64 (WE k)) (fun i _=>(intOf i).toNat)
   case atStart=>exact ⟨0,Nat.zero_le _,by simp,rfl⟩
   case round=>
    obtain ⟨k,hk,rfl,rfl⟩:=hrel
    by_cases hlt:k<n
    ·obtain ⟨hs,f1,f2⟩:=LT (k:=k) (by omega)
     have Hs:=Z9 hs
     clear hs
     generalize WE k=z at *
     go_wp2_with fail
     go_round
     case rel=>exact ⟨k+1,by omega,by go_num,by rw [uh Hs]⟩
     case measure=>simp [intOf];omega
    ·obtain rfl:k=n:=by omega
     go_wp2_with fail
     go_loop [0,3] (fun i s=>i= .int .i64 0/\s= .int .i64 (WE k)) (fun _ _=>0)
     case atStart=>exact ⟨by simp,rfl⟩
     case round=>
      obtain ⟨rfl,rfl⟩:=hrel
      go_wp2_with fail
      go_ret
      exact ⟨rfl,rfl⟩
  ·rw [NM hb h0]
   obtain ⟨n,hn⟩:=Int.eq_ofNat_of_zero_le (show 0<= -r by omega)
   obtain rfl:r= -(n:Int):=by omega
   rw [show (-(-(n:Int))).toNat=n by omega]
   clear hn
   go_enter Tryz.func207,Tryz.ntmps207
   go_wp2_with (go_at_call 206;refine (Za _ _).mono ?_;rintro e w' ⟨rfl,rfl⟩)
   go_loop [0,3] (fun i s=>i= .int .i64 (-(n:Int))/\s= .int .i64 1024) (fun _ _=>0)
   case atStart=>exact ⟨rfl,rfl⟩
   case round=>
    obtain ⟨rfl,rfl⟩:=hrel
    go_wp2_with fail
    go_loop [0,3] (fun i s=> ∃ k:Nat,k<=n/\i= .int .i64 ((k:Int)-n)/\s= .int .i64 (V0 k)) (fun i _=>(-(intOf i)).toNat)
    case atStart=>exact ⟨0,Nat.zero_le _,by simp,rfl⟩
    case round=>
     obtain ⟨k,hk,rfl,rfl⟩:=hrel
     by_cases hlt:k<n
     ·obtain ⟨hs,f1,f2⟩:=LF (k:=k) (by omega)
      have Hs:=Z9 hs
      clear hs
      generalize V0 k=z at *
      go_wp2_with fail
      go_round
      case rel=>exact ⟨k+1,by omega,by go_num,by rw [uh Hs]⟩
      case measure=>simp [intOf];omega
     ·obtain rfl:k=n:=by omega
      go_wp2_with fail
      go_ret
      exact ⟨rfl,rfl⟩
theorem LE {x y:Int} (h0:0<=x) (h1:x<=100000) (h:x*5 / 4=y) (w:World):Calls Tryz.prog 311 #[.int .i64 x] w fun e w'=>e= .returned (.int .i64 y)/\w'=w:=by
 subst h
 go_enter Tryz.func311,Tryz.ntmps311
 go_wp2
 go_ret
 exact ⟨rfl,rfl⟩
theorem LU {x y:Int} (h0:0<=x) (h1:x<=100000) (h:x*4 / 5=y) (w:World):Calls Tryz.prog 312 #[.int .i64 x] w fun e w'=>e= .returned (.int .i64 y)/\w'=w:=by
 subst h
 go_enter Tryz.func312,Tryz.ntmps312
 go_wp2
 go_ret
 exact ⟨rfl,rfl⟩
theorem RI (r:Int) (w:World):Calls Tryz.prog 310 #[.int .i64 r] w fun e w'=>e= .returned (.int .i64 (Zu r))/\w'=w:=by
 cases hb:inB r (-5) 5
 ·rw [WX hb]
  have hr:r < -5\/5<r:=by
   by_cases h1 : -5<=r
   ·by_cases h2:r<=5
    ·rw [Zj h1 h2] at hb;cases hb
    ·omega
   ·omega
  have e1:¬ r= -5:=by omega
  have e2:¬ r= -4:=by omega
  have e3:¬ r= -3:=by omega
  have e4:¬ r= -2:=by omega
  have e5:¬ r= -1:=by omega
  have e6:¬ r=0:=by omega
  have e7:¬ r=5:=by omega
  have e8:¬ r=4:=by omega
  have e9:¬ r=3:=by omega
  have e10:¬ r=2:=by omega
  have e11:¬ r=1:=by omega
  clear hb hr
  go_enter Tryz.func310,Tryz.ntmps310
  go_wp2_with fail
  go_ret
  exact ⟨rfl,rfl⟩
 ·rcases Gl hb with rfl | rfl | rfl | rfl | rfl | rfl | rfl | rfl | rfl | rfl | rfl
  all_goals
   clear hb
   go_enter Tryz.func310,Tryz.ntmps310
   go_wp2_with (first
    | (go_at_call 311;refine (LE (by decide) (by decide) rfl _).mono ?_;rintro e w' ⟨rfl,rfl⟩)
    | (go_at_call 312;refine (LU (by decide) (by decide) rfl _).mono ?_;rintro e w' ⟨rfl,rfl⟩))
   go_ret
   exact ⟨rfl,rfl⟩
def Xn (work weight carry:Int):Bool:=inB work 0 1000000000 && (inB weight 1 100000 && inB carry 0 (weight-1))
def UA (work weight carry:Int):Int:=if Xn work weight carry then (1024*work+carry) / weight else -1
def Uz (work weight carry:Int):Int:=if Xn work weight carry then (1024*work+carry)%weight else 0
theorem Iu {a b c:Int} (ha:inB a 0 1000000000=true) (hb:inB b 1 100000=true) (hc:inB c 0 (b-1)=true):Xn a b c=true:=by unfold Xn;simp [ha,hb,hc]
theorem Kh {a b c:Int} (h:Xn a b c=true):0<=a/\a<=1000000000/\1<=b/\b<=100000/\0<=c/\c<b:=by
 unfold Xn at h
 simp only [Bool.and_eq_true] at h
 obtain ⟨h1,h2,h3⟩:=h
 have:=ZS h1
 have:=ZS h2
 have:=ZS h3
 omega
theorem Kg {a b c:Int} (a0:0<=a) (a1:a<=1000000000) (b0:1<=b) (b1:b<=100000) (c0:0<=c) (c1:c<b):Xn a b c=true:=Iu (Zj a0 a1) (Zj b0 b1) (Zj c0 (by omega))
theorem Oo {a b c:Int} (h:Xn a b c=true):UA a b c=(1024*a+c) / b/\Uz a b c=(1024*a+c)%b:=by unfold UA Uz;simp [h]
open Go.ChangeShapes Go.WideShapes Go.ChangeAt Go.RowKit Go.Sort
def Yl (lo hi:Int):Bool:=inB lo 0 1024 && inB hi 0 1024 && decide (lo<=hi)
theorem Ge {lo hi:Int} (h:Yl lo hi=true):0<=lo/\lo<=1024/\0<=hi/\hi<=1024/\lo<=hi:=by
 unfold Yl at h
 simp only [Bool.and_eq_true,decide_eq_true_eq] at h
 obtain ⟨⟨h1,h2⟩,h3⟩:=h
 exact ⟨(ZS h1).1,(ZS h1).2,(ZS h2).1,(ZS h2).2,h3⟩
def Xt (g:ZA) (n:Int):Bool:=inB g.1 (-1) (n-1) && Yl g.2.1 g.2.2
theorem G0 {g:ZA} {n:Int} (h:Xt g n=true) : -1<=g.1/\g.1<=n-1/\Yl g.2.1 g.2.2=true:=by
 unfold Xt at h
 simp only [Bool.and_eq_true] at h
 exact ⟨(ZS h.1).1,(ZS h.1).2,h.2⟩
def Vn (ps:List ZA) (k:Nat):Bool:=(List.range k).all fun i=>Xt (Z8 ps i) i
theorem SV (ps:List ZA) (k:Nat):Vn ps (k+1)=(Vn ps k && Xt (Z8 ps k) k):=by unfold Vn;rw [List.range_succ,List.all_append];simp
theorem Fx {ps:List ZA} {k n:Nat} (hk:k<n) (h:Xt (Z8 ps k) k=false):Vn ps n=false:=by
 unfold Vn
 rw [List.all_eq_false]
 exact ⟨k,List.mem_range.2 hk,by simp [h]⟩
theorem MK {ps:List ZA} {k n:Nat} (h:Vn ps n=true) (hk:k<n):Xt (Z8 ps k) k=true:=by
 unfold Vn at h
 exact List.all_eq_true.1 h k (List.mem_range.2 hk)
def Zh (ps:List ZA):Bool:=Vn ps ps.length && decide (ps.length<=6)
theorem Wy {ps:List ZA} (h:Zh ps=true):Vn ps ps.length=true/\ps.length<=6:=by
 unfold Zh at h
 simpa using h
theorem RF {ps:List ZA} {k:Nat} (hk:k<ps.length) (h:Xt (Z8 ps k) k=false):Zh ps=false:=by unfold Zh;rw [Fx hk h];rfl
theorem Nh {ps:List ZA} (h:6<ps.length):Zh ps=false:=by unfold Zh;simp;omega
theorem SL {ps:List ZA} (h:Zh ps=true) {g:Int} (h0:0<=g) (h1:g<ps.length) : -1<=(Z8 ps g.toNat).1/\(Z8 ps g.toNat).1<=g-1/\Yl (Z8 ps g.toNat).2.1 (Z8 ps g.toNat).2.2=true:=by
 have:=G0 (MK (Wy h).1 (k:=g.toNat) (by omega))
 rw [show ((g.toNat:Nat):Int)=g by omega] at this
 exact this
def QC (b:Int × Int) (lo hi:Int):Int × Int:=(min (max lo b.1) b.2,min (max hi (min (max lo b.1) b.2)) b.2)
def Rw (ps:List ZA):Nat->Int->Int × Int
 | 0,_=>(0,1024)
 | n+1,g=>if g<0 then (0,1024) else QC (Rw ps n (Z8 ps g.toNat).1) (Z8 ps g.toNat).2.1 (Z8 ps g.toNat).2.2
def bnd (ps:List ZA) (g:Int):Int × Int:=Rw ps (g+1).toNat g
theorem Jl {b:Int × Int} {lo hi:Int} (h0:0<=b.1) (h1:b.1<=b.2) (h2:b.2<=1024):b.1<=(QC b lo hi).1/\(QC b lo hi).1<=(QC b lo hi).2/\(QC b lo hi).2<=b.2:=by
 unfold QC
 refine ⟨?_,?_,?_⟩<;>simp only<;>omega
theorem IX (ps:List ZA):∀ (n:Nat) (g:Int),0<=(Rw ps n g).1/\(Rw ps n g).1<=(Rw ps n g).2/\(Rw ps n g).2<=1024
 | 0,g=>by unfold Rw;simp
 | n+1,g=>by
  unfold Rw
  split
  ·simp
  ·obtain ⟨h0,h1,h2⟩:=IX ps n (Z8 ps g.toNat).1
   obtain ⟨h3,h4,h5⟩:=Jl (lo:=(Z8 ps g.toNat).2.1) (hi:=(Z8 ps g.toNat).2.2) h0 h1 h2
   exact ⟨by omega,h4,by omega⟩
theorem ED (ps:List ZA) (g:Int):0<=(bnd ps g).1/\(bnd ps g).1<=(bnd ps g).2/\(bnd ps g).2<=1024:=IX ps _ g
theorem NS {ps:List ZA} (h:Zh ps=true):∀ (n m:Nat) (g:Int),g<n->g<m->g<ps.length->Rw ps n g=Rw ps m g
 | 0,0,g,_,_,_=>rfl
 | 0,m+1,g,h1,h2,h3=>by unfold Rw;rw [if_pos (by omega)]
 | n+1,0,g,h1,h2,h3=>by unfold Rw;rw [if_pos (by omega)]
 | n+1,m+1,g,h1,h2,h3=>by
  unfold Rw
  by_cases h0:g<0
  ·rw [if_pos h0,if_pos h0]
  ·rw [if_neg h0,if_neg h0]
   obtain ⟨a0,a1,_⟩:=SL h (g:=g) (by omega) h3
   rw [NS h n m (Z8 ps g.toNat).1 (by omega) (by omega) (by omega)]
theorem Ld (ps:List ZA) {g:Int} (h:g<0):bnd ps g=(0,1024):=by
 unfold bnd
 rw [show (g+1).toNat=0 by omega];rfl
theorem FD {ps:List ZA} (h:Zh ps=true) {g:Int} (h0:0<=g) (h1:g<ps.length):bnd ps g=QC (bnd ps (Z8 ps g.toNat).1) (Z8 ps g.toNat).2.1 (Z8 ps g.toNat).2.2:=by
 obtain ⟨a0,a1,_⟩:=SL h h0 h1
 unfold bnd
 rw [show (g+1).toNat=g.toNat+1 by omega]
 show (if g<0 then (0,1024) else _)=_
 rw [if_neg (by omega),NS h g.toNat ((Z8 ps g.toNat).1+1).toNat _ (by omega) (by omega) (by omega)]
theorem Fh {lo hi:Int} (h0:0<=lo) (h1:lo<=hi) (h2:hi<=1024):Yl lo hi=true:=by unfold Yl;rw [Zj h0 (by omega),Zj (by omega) h2];simp;omega
theorem Nw {lo hi:Int} (h:lo<0\/hi<lo\/1024<hi):Yl lo hi=false:=by
 cases e:Yl lo hi
 ·rfl
 ·have:=Ge e;omega
theorem ZG (lo hi:Int) (w:World):Calls Tryz.prog 228 #[.int .i64 lo,.int .i64 hi] w fun e w'=>e= .returned (.bool (Yl lo hi))/\w'=w:=by
 by_cases h1:0<=lo
 ·by_cases h2:lo<=hi
  ·by_cases h3:hi<=1024
   all_goals
    go_enter Tryz.func228,Tryz.ntmps228
    go_wp2
    go_ret
    exact ⟨Z5 (by first | exact (Fh h1 h2 h3).symm | exact (Nw (by omega)).symm),rfl⟩
  ·go_enter Tryz.func228,Tryz.ntmps228
   go_wp2
   go_ret
   exact ⟨Z5 (Nw (by omega)).symm,rfl⟩
 ·go_enter Tryz.func228,Tryz.ntmps228
  go_wp2
  go_ret
  exact ⟨Z5 (Nw (by omega)).symm,rfl⟩
theorem Lt (a lo hi n:Int) (w:World):Calls Tryz.prog 190 #[.agg #[.int .i64 a,.int .i64 lo,.int .i64 hi],.int .i64 n] w fun e w'=>e= .returned (.bool (Xt (a,lo,hi) n))/\Below w.heap.size w w':=by
 by_cases h1 : -1<=a
 ·by_cases h2:a<n
  ·have hg:Xt (a,lo,hi) n=Yl lo hi:=by unfold Xt;rw [Zj h1 (by omega)];rfl
   rw [hg];clear hg
   go_enter Tryz.func190,Tryz.ntmps190
   go_wp2_with (go_at_call 228;refine (ZG _ _ _).mono ?_;rintro e w' ⟨rfl,rfl⟩)
   go_ret
   exact ⟨rfl,(Below.refl _ _).alloc (Nat.le_refl _) _⟩
  ·have hg:Xt (a,lo,hi) n=false:=by unfold Xt;rw [Vd (.inr (by omega))];rfl
   rw [hg];clear hg
   go_enter Tryz.func190,Tryz.ntmps190
   go_wp2_with fail
   go_ret
   exact ⟨rfl,(Below.refl _ _).alloc (Nat.le_refl _) _⟩
 ·have hg:Xt (a,lo,hi) n=false:=by unfold Xt;rw [Vd (.inl (by omega))];rfl
  rw [hg];clear hg
  go_enter Tryz.func190,Tryz.ntmps190
  go_wp2_with fail
  go_ret
  exact ⟨rfl,(Below.refl _ _).alloc (Nat.le_refl _) _⟩
theorem RG  {ps:List ZA} (h:XI w v ps) :
  Calls Tryz.prog 189 #[v] w fun e w'=>e= .returned (.bool (Zh ps))/\Below w.heap.size w w':=by
 obtain ⟨a,cap,rfl,hc,hm,hr⟩:=h
 have Hr:=Z9 hr
 clear hr
 by_cases hbig:6<ps.length
 ·go_enter Tryz.func189,Tryz.ntmps189
  go_wp2_with fail
  go_ret
  exact ⟨Z5 (Nh hbig).symm,Below.refl _ _⟩
 go_enter Tryz.func189,Tryz.ntmps189
 go_wp2_with fail
 go_loopw [10] (fun i wr=> ∃ k:Nat,k<=ps.length/\i= .int .i64 k/\Vn ps k=true/\Below w.heap.size w wr) (fun i _=>ps.length-(intOf i).toNat)
 case atStart=>exact ⟨0,Nat.zero_le _,rfl,rfl,Below.refl _ _⟩
 case round=>
  obtain ⟨k,hk,rfl,hst,hb⟩:=hrel
  have Hst:=Z9 hst
  have Hb:=Z9 hb
  clear hst
  by_cases hlt:k<ps.length
  ·rcases uh Hr with h0 | ⟨b,off,rfl,hbw,hcl⟩
   ·rw [h0] at hlt;simp at hlt
   have hbr:b<wr.heap.size:=Nat.lt_of_lt_of_le hbw hb.size
   obtain ⟨c0,c1,c2⟩:=Wd hcl hlt
   rw [<-hb.cell (p:=⟨b,off+k*3,none⟩) hbw] at c0
   rw [<-hb.cell (p:=⟨b,off+k*3+1,none⟩) hbw] at c1
   rw [<-hb.cell (p:=⟨b,off+k*3+2,none⟩) hbw] at c2
   generalize hp:Z8 ps k=p at c0 c1 c2
   have Hp:=Z9 hp
   clear hp
   obtain ⟨x0,x1,x2⟩:=p
   simp only at c0 c1 c2
   have hsz:=hb.size
   clear hcl hb
   go_wp2_with fail
   refine (Lt _ _ _ _ _).mono ?_
   rintro e w1 ⟨rfl,hb1⟩
   have Hb1:=Z9 ((uh Hb).trans (((Below.refl _ _).alloc hsz _).trans (hb1.mono (by simp;omega))))
   clear hb1
   cases hg:Xt (x0,x1,x2) k
   ·go_wp2_with fail
    go_ret
    exact ⟨Z5 (RF hlt (by rw [uh Hp];exact hg)).symm,uh Hb1⟩
   ·go_wp2_with fail
    go_roundw
    case rel=>exact ⟨k+1,by omega,by go_num,by rw [SV,uh Hst,uh Hp,hg];rfl,uh Hb1⟩
    case measure=>simp [intOf];omega
  ·obtain rfl:k=ps.length:=by omega
   go_wp2_with fail
   go_ret
   exact ⟨Z5 (by unfold Zh;rw [uh Hst];simp;omega),hb⟩
theorem YM {B:Nat} (h:Below B w w') (n:Nat):Below B w (w'.drewN n):=⟨h.os,h.tape,h.output,h.size,h.block⟩
theorem YE (x:Int) (w:World):Calls Tryz.prog 142 #[.int .i64 x] w fun e w'=>e= .returned (.bool (inB x 0 1024))/\w'=w:=by
 go_enter Tryz.func142,Tryz.ntmps142
 go_wp2_with (go_at_call 128;refine (ZZ _ _ _ _).mono ?_;rintro e w' ⟨rfl,rfl⟩)
 go_ret
 exact ⟨rfl,rfl⟩
theorem YW (lo hi:Int) (w:World):Calls Tryz.prog 74 #[.int .i64 lo,.int .i64 hi] w fun e w'=>e= .returned (.bool (Yl lo hi))/\w'=w:=by
 cases h1:inB lo 0 1024
 ·have hp:Yl lo hi=false:=by unfold Yl;rw [h1];rfl
  rw [hp];clear hp
  go_enter Tryz.func74,Tryz.ntmps74
  go_wp2_with (go_at_call 142;refine (YE _ _).mono ?_;rintro e w' ⟨rfl,rfl⟩)
  go_ret
  exact ⟨rfl,rfl⟩
 ·cases h2:inB hi 0 1024
  ·have hp:Yl lo hi=false:=by unfold Yl;rw [h1,h2];rfl
   rw [hp];clear hp
   go_enter Tryz.func74,Tryz.ntmps74
   go_wp2_with (go_at_call 142;refine (YE _ _).mono ?_;rintro e w' ⟨rfl,rfl⟩)
   go_ret
   exact ⟨rfl,rfl⟩
  ·have hp:Yl lo hi=decide (lo<=hi):=by unfold Yl;rw [h1,h2];rfl
   rw [hp];clear hp
   by_cases h3:lo<=hi
   all_goals
    go_enter Tryz.func74,Tryz.ntmps74
    go_wp2_with (go_at_call 142;refine (YE _ _).mono ?_;rintro e w' ⟨rfl,rfl⟩)
    go_ret
    exact ⟨Z5 (by first | (simp;done) | (simp;omega)),rfl⟩
theorem RT  {ps:List ZA} (h:XI w v ps) :
  Calls Tryz.prog 137 #[v] w fun e w'=>e= .returned (.bool (Zh ps))/\Below w.heap.size w w':=by
 obtain ⟨a,cap,rfl,hc,hm,hr⟩:=h
 have Hr:=Z9 hr
 clear hr
 go_enter Tryz.func137,Tryz.ntmps137
 go_wp2_with fail
 go_loopw [3] (fun i wr=> ∃ k:Nat,k<=ps.length/\i= .int .i64 k/\Vn ps k=true/\Below w.heap.size w wr) (fun i _=>ps.length-(intOf i).toNat)
 case atStart=>exact ⟨0,Nat.zero_le _,rfl,rfl,Below.refl _ _⟩
 case round=>
  obtain ⟨k,hk,rfl,hst,hb⟩:=hrel
  have Hst:=Z9 hst
  have Hb:=Z9 hb
  clear hst
  by_cases hlt:k<ps.length
  ·rcases uh Hr with h0 | ⟨b,off,rfl,hbw,hcl⟩
   ·rw [h0] at hlt;simp at hlt
   obtain ⟨c0,c1,c2⟩:=Wd hcl hlt
   rw [<-hb.cell (p:=⟨b,off+k*3,none⟩) hbw] at c0
   rw [<-hb.cell (p:=⟨b,off+k*3+1,none⟩) hbw] at c1
   rw [<-hb.cell (p:=⟨b,off+k*3+2,none⟩) hbw] at c2
   generalize hp:Z8 ps k=p at c0 c1 c2
   have Hp:=Z9 hp
   clear hp
   obtain ⟨x0,x1,x2⟩:=p
   simp only at c0 c1 c2
   clear hcl hb
   have hg:Xt (x0,x1,x2) k=(inB x0 (-1) ((k:Int)-1) && Yl x1 x2):=rfl
   have Hg:=Z9 hg
   clear hg
   cases h1:inB x0 (-1) ((k:Int)-1)
   ·go_wp2_with fail
    go_quiet (first | exact Calls.quiet_of_same (ZZ _ _ _ _) | exact Calls.quiet_of_same (YW _ _ _))
    go_wp2_with fail
    go_ret
    exact ⟨Z5 (RF hlt (by rw [uh Hp,uh Hg,h1];rfl)).symm,YM (uh Hb) _⟩
   cases h2:Yl x1 x2
   ·go_wp2_with fail
    go_quiet (first | exact Calls.quiet_of_same (ZZ _ _ _ _) | exact Calls.quiet_of_same (YW _ _ _))
    go_wp2_with fail
    go_ret
    exact ⟨Z5 (RF hlt (by rw [uh Hp,uh Hg,h1,h2];rfl)).symm,YM (uh Hb) _⟩
   ·go_wp2_with fail
    go_quiet (first | exact Calls.quiet_of_same (ZZ _ _ _ _) | exact Calls.quiet_of_same (YW _ _ _))
    go_wp2_with fail
    go_roundw
    case rel=>exact ⟨k+1,by omega,by go_num,by rw [SV,uh Hst,uh Hp,uh Hg,h1,h2];rfl,YM (uh Hb) _⟩
    case measure=>simp [intOf];omega
  ·obtain rfl:k=ps.length:=by omega
   by_cases hbig:ps.length<=6
   all_goals
    go_wp2_with fail
    go_ret
    exact ⟨Z5 (by unfold Zh;rw [uh Hst];simp;omega),hb⟩
theorem Re {ps:List ZA} (g:Int) (lo hi:Int)  (h:XI w v ps)
  (hB:Calls Tryz.prog 143 #[v,.int .i64 g] w fun e w'=>e= .returned (.tuple #[.int .i64 (bnd ps g).1,.int .i64 (bnd ps g).2])/\Below w.heap.size w w') :
  Calls Tryz.prog 75 #[v,.int .i64 g,.int .i64 lo,.int .i64 hi] w fun e w'=>e= .returned (.tuple #[.int .i64 (QC (bnd ps g) lo hi).1,.int .i64 (QC (bnd ps g) lo hi).2])/\Below w.heap.size w w':=by
 have HB:=Z9 hB
 clear hB
 obtain ⟨a,cap,rfl,_⟩:=h
 unfold QC
 go_enter Tryz.func75,Tryz.ntmps75
 go_wp2_with fail
 refine (uh HB).mono ?_
 rintro e w1 ⟨rfl,hb1⟩
 go_wp2_with (go_at_call 130;refine (Ue _ _ _ _).mono ?_;rintro e w' ⟨rfl,rfl⟩)
 go_ret2
 exact ⟨rfl,hb1⟩
theorem Nm {ps:List ZA} (hg:Zh ps=true):∀ (n:Nat) (g:Int) {w:World} {v:Value},XI w v ps-> -1<=g->g<n->g<ps.length->
  Calls Tryz.prog 143 #[v,.int .i64 g] w fun e w'=>e= .returned (.tuple #[.int .i64 (bnd ps g).1,.int .i64 (bnd ps g).2])/\Below w.heap.size w w':=by
 intro n
 induction n with
 | zero=>
  intro g w v h h0 h1 h2
  obtain rfl:g= -1:=by omega
  rw [Ld ps (by omega)]
  obtain ⟨a,cap,rfl,_⟩:=h
  go_enter Tryz.func143,Tryz.ntmps143
  go_wp2_with fail
  go_ret2
  exact ⟨rfl,Below.refl _ _⟩
 | succ n ih=>
  intro g w v h h0 h1 h2
  by_cases hg0:g<0
  ·obtain rfl:g= -1:=by omega
   rw [Ld ps (by omega)]
   obtain ⟨a,cap,rfl,_⟩:=h
   go_enter Tryz.func143,Tryz.ntmps143
   go_wp2_with fail
   go_ret2
   exact ⟨rfl,Below.refl _ _⟩
  ·obtain ⟨k,rfl⟩:∃ k:Nat,g=k:=⟨g.toNat,by omega⟩
   have hlt:k<ps.length:=by omega
   obtain ⟨a0,a1,_⟩:=SL hg (g:=(k:Int)) (by omega) h2
   have hs:=FD hg (g:=(k:Int)) (by omega) h2
   rw [show ((k:Int)).toNat=k by omega] at a0 a1 hs
   rw [hs]
   clear hs
   have Hi:=Z9 h
   obtain ⟨a,cap,rfl,hc,hm,hr⟩:=h
   rcases hr with hz | ⟨b,off,rfl,hbw,hcl⟩
   ·rw [hz] at hlt;simp at hlt
   obtain ⟨c0,c1,c2⟩:=Wd hcl hlt
   clear hcl
   generalize hp:Z8 ps k=p at *
   obtain ⟨x0,x1,x2⟩:=p
   simp only at c0 c1 c2 a0 a1
   have k0:=cell_regrown c0
   have k1:=cell_regrown c1
   have k2:=cell_regrown c2
   have ih':=fun (w':World) (h:XI w' (.slice (some ⟨b,off,none⟩) ps.length cap) ps)=>Re x0 x1 x2 h (ih x0 h a0 (by omega) (by omega))
   have Ih:=Z9 ih'
   clear ih ih' hp
   go_enter Tryz.func143,Tryz.ntmps143
   go_wp2_with fail
   refine wp_region_quiet_below (by kernel_rfl) (by kernel_rfl) ?_
   repeat (go_big_quiet_step (exact Calls.regrown_of (uh Ih _ ((uh Hi).below (below_regrown _ _ _)))))
   refine wpQuiet_nil ?_
   intro _ hw'
   obtain ⟨⟨dq,osq⟩,hw''⟩:=hw'
   subst hw''
   go_wp2_with fail
   go_ret2
   exact ⟨rfl,below_regrown _ _ _⟩
def Zf (x:Z4):Bool:=
 inB x.1 1 3 && (inB x.2.1 0 7 && (inB x.2.2.1 (-5) 5 && (inB x.2.2.2.1 1 255 && (inB x.2.2.2.2.1 (-1) 5 && (Yl x.2.2.2.2.2.1 x.2.2.2.2.2.2.1 && (inB x.2.2.2.2.2.2.2.1 (-1000000000000) 1000000000000 &&
  (inB x.2.2.2.2.2.2.2.2.1 0 (Zu x.2.2.1-1) && (inB x.2.2.2.2.2.2.2.2.2.1 0 1024 && inB x.2.2.2.2.2.2.2.2.2.2 0 100000000000))))))))
def Wn:Z4:=(0,0,0,0,0,0,0,0,0,0,0)
def UU (x y:Z4):Bool:=x.1 ==y.1 && (x.2.1 ==y.2.1 && (x.2.2.1 ==y.2.2.1 && (x.2.2.2.1 ==y.2.2.2.1 && (x.2.2.2.2.1 ==y.2.2.2.2.1 && (x.2.2.2.2.2.1 ==y.2.2.2.2.2.1 && (x.2.2.2.2.2.2.1 ==y.2.2.2.2.2.2.1 && (x.2.2.2.2.2.2.2.1 ==y.2.2.2.2.2.2.2.1 && (x.2.2.2.2.2.2.2.2.1 ==y.2.2.2.2.2.2.2.2.1 && (x.2.2.2.2.2.2.2.2.2.1 ==y.2.2.2.2.2.2.2.2.2.1 && (x.2.2.2.2.2.2.2.2.2.2 ==y.2.2.2.2.2.2.2.2.2.2))))))))))
theorem ST (x:Z4):UU x x=true:=by unfold UU;simp
theorem Gs {x y:Z4} (h:UU x y=true):x=y:=by
 obtain ⟨x0,x1,x2,x3,x4,x5,x6,x7,x8,x9,x10⟩:=x
 obtain ⟨y0,y1,y2,y3,y4,y5,y6,y7,y8,y9,y10⟩:=y
 unfold UU at h
 simp only [Bool.and_eq_true,beq_iff_eq] at h
 obtain ⟨rfl,rfl,rfl,rfl,rfl,rfl,rfl,rfl,rfl,rfl,rfl⟩:=h
 rfl
def Wb (x:Z4):Bool:=UU x Wn
def ZE (x:Z4):Bool:=Wb x || Zf x
theorem UX (r:Int):0<=Zu r/\Zu r<=3125:=by
 cases h:inB r (-5) 5
 ·rw [WX h];omega
 ·rcases Gl h with rfl | rfl | rfl | rfl | rfl | rfl | rfl | rfl | rfl | rfl | rfl<;>decide
theorem WG {r:Int} (h:inB r (-5) 5=true):335<=Zu r:=by
 rcases Gl h with rfl | rfl | rfl | rfl | rfl | rfl | rfl | rfl | rfl | rfl | rfl<;>decide
theorem MQ (r:Int):(Zu r !=0)=inB r (-5) 5:=by
 cases h:inB r (-5) 5
 ·rw [WX h];rfl
 ·have:=WG h
  simp;omega
theorem Zg {st be rk my gu lo hi hd ca ut wk:Int} (h:Zf (st,be,rk,my,gu,lo,hi,hd,ca,ut,wk)=true):(1<=st/\st<=3)/\(0<=be/\be<=7)/\inB rk (-5) 5=true/\(1<=my/\my<=255)/\(-1<=gu/\gu<=5)/\Yl lo hi=true/\(-1000000000000<=hd/\hd<=1000000000000)/\(0<=ca/\ca<=Zu rk-1)/\(0<=ut/\ut<=1024)/\(0<=wk/\wk<=100000000000):=by
 unfold Zf at h
 simp only [Bool.and_eq_true] at h
 obtain ⟨h0,h1,h2,h3,h4,h5,h6,h7,h8,h9⟩:=h
 exact ⟨ZS h0,ZS h1,h2,ZS h3,ZS h4,h5,ZS h6,ZS h7,ZS h8,ZS h9⟩
theorem Wc {x:Z4} (h:Wb x=true):x=Wn:=Gs h
theorem JJ:Wb Wn=true:=ST _
theorem TD {x:Z4} (h:x.1 ≠ 0):Wb x=false:=by
 cases hg:Wb x
 ·rfl
 ·exact absurd (show x.1=0 by rw [Wc hg];rfl) h
theorem PN {x:Z4} (h:x.1=0):Zf x=false:=by
 unfold Zf
 rw [h]
 rfl
def PO (x:Z4) (work:Int):Z4:=
 (x.1,x.2.1,x.2.2.1,x.2.2.2.1,x.2.2.2.2.1,x.2.2.2.2.2.1,x.2.2.2.2.2.2.1,x.2.2.2.2.2.2.2.1+UA work (Zu x.2.2.1) x.2.2.2.2.2.2.2.2.1,Uz work (Zu x.2.2.1) x.2.2.2.2.2.2.2.2.1,x.2.2.2.2.2.2.2.2.2.1,x.2.2.2.2.2.2.2.2.2.2+work)
def PQ (x:Z4) (rank:Int):Z4:=
 (x.1,x.2.1,rank,x.2.2.2.1,x.2.2.2.2.1,x.2.2.2.2.2.1,x.2.2.2.2.2.2.1,x.2.2.2.2.2.2.2.1,x.2.2.2.2.2.2.2.2.1%Zu rank,x.2.2.2.2.2.2.2.2.2.1,x.2.2.2.2.2.2.2.2.2.2)
def XJ (x:Z4) (work:Int):Z4 × Bool:=
 if Zf x then (if inB work 0 100000 && Zf (PO x work) then (PO x work,true) else (x,false)) else (if Wb x then x else Wn,false)
def Yq (x:Z4) (rank:Int):Z4 × Bool:=
 if Zf x then (if inB rank (-5) 5 then (PQ x rank,true) else (x,false)) else (if Wb x then x else Wn,false)
theorem Sr {x:Z4} {rank:Int} (h:Zf x=true) (hr:inB rank (-5) 5=true):Zf (PQ x rank)=true:=by
 obtain ⟨st,be,rk,my,gu,lo,hi,hd,ca,ut,wk⟩:=x
 have hp:=WG hr
 have hc:inB (ca%Zu rank) 0 (Zu rank-1)=true:=Zj (Int.emod_nonneg _ (by omega)) (by have:=Int.emod_lt_of_pos ca (show 0<Zu rank by omega);omega)
 unfold Zf at h ⊢
 simp only [Bool.and_eq_true] at h
 obtain ⟨h0,h1,h2,h3,h4,h5,h6,h7,h8,h9⟩:=h
 simp only [PQ,h0,h1,h3,h4,h5,h6,h8,h9,hr,hc,Bool.and_self]
theorem Gw {work W ca:Int} (w0:0<=work) (w1:work<=100000) (r0:335<=W) (r1:W<=3125) (c0:0<=ca) (c1:ca<=W-1) :
  Xn work W ca=true/\0<=UA work W ca/\UA work W ca<=400000/\0<=Uz work W ca/\Uz work W ca<=W-1/\UA work W ca*W+Uz work W ca=1024*work+ca:=by
 have hk:Xn work W ca=true:=Kg w0 (by omega) (by omega) (by omega) c0 (by omega)
 obtain ⟨e1,e2⟩:=Oo hk
 rw [e1,e2]
 have hd:=Int.emod_add_mul_ediv (1024*work+ca) W
 have m0:=Int.emod_nonneg (1024*work+ca) (show W ≠ 0 by omega)
 have m1:=Int.emod_lt_of_pos (1024*work+ca) (show 0<W by omega)
 have q0:0<=(1024*work+ca) / W:=Int.ediv_nonneg (by omega) (by omega)
 have q1:(1024*work+ca) / W<=400000:=by
  refine Int.le_of_lt_add_one (Int.ediv_lt_of_lt_mul (by omega) ?_)
  have:(335:Int)*400001<=W*400001:=Int.mul_le_mul_of_nonneg_right r0 (by omega)
  have e:(400000+1)*W=W*400001:=by rw [Int.mul_comm];rfl
  rw [e]
  omega
 refine ⟨hk,q0,q1,m0,by omega,?_⟩
 rw [Int.mul_comm]
 omega
theorem U5 (s:Int) (w:World):Calls Tryz.prog 238 #[.int .i64 s] w fun e w'=>e= .returned (.bool (inB s 0 255))/\w'=w:=by
 by_cases h1:0<=s
 ·by_cases h2:s<=255
  all_goals
   go_enter Tryz.func238,Tryz.ntmps238
   go_wp2
   go_ret
   exact ⟨Z5 (by first | exact (Zj h1 h2).symm | exact (Vd (by omega)).symm),rfl⟩
 ·go_enter Tryz.func238,Tryz.ntmps238
  go_wp2
  go_ret
  exact ⟨Z5 (Vd (by omega)).symm,rfl⟩
theorem ZB (i:Int) (w:World):Calls Tryz.prog 239 #[.int .i64 i] w fun e w'=>e= .returned (.bool (inB i 0 7))/\w'=w:=by
 by_cases h1:0<=i
 ·by_cases h2:i<8
  all_goals
   go_enter Tryz.func239,Tryz.ntmps239
   go_wp2
   go_ret
   exact ⟨Z5 (by first | exact (Zj h1 (by omega)).symm | exact (Vd (by omega)).symm),rfl⟩
 ·go_enter Tryz.func239,Tryz.ntmps239
  go_wp2
  go_ret
  exact ⟨Z5 (Vd (by omega)).symm,rfl⟩
def Wu (s i:Int):Bool:=decide (s / 2 ^ i.toNat%2=1)
def SQ (s i:Int):Bool:=inB s 0 255 && inB i 0 7 && Wu s i
theorem FS (n:Int):bits .and .i64 n 1=n%2:=by
 have h1:(BitVec.ofInt 64 1).toNat=2 ^ 1-1:=by decide
 have key:(BitVec.ofInt 64 n &&& BitVec.ofInt 64 1).toNat=(n%((2 ^ 64:Nat):Int)).toNat%2 ^ 1:=by
  rw [BitVec.toNat_and,BitVec.toNat_ofInt,h1,Nat.and_two_pow_sub_one_eq_mod]
 show IntKind.i64.wrap ((BitVec.ofInt 64 n &&& BitVec.ofInt 64 1).toNat:Nat)=n%2
 rw [key,IntKind.wrap_i64]
 omega
theorem FC (s i:Int):(bits .and .i64 (s / 2 ^ i.toNat) 1 ==1)=Wu s i:=by rw [FS];unfold Wu;rfl
theorem Kd {s i:Int} (h:inB s 0 255=false\/inB i 0 7=false):SQ s i=false:=by unfold SQ;rcases h with h | h<;>simp [h]
theorem F8 {s i:Int} (hs:inB s 0 255=true) (hi:inB i 0 7=true):SQ s i=Wu s i:=by unfold SQ;simp [hs,hi]
theorem N8 (s i:Int) (w:World) (hs:0<=s) (hs2:s<=255) (hi:0<=i) (hi2:i<=7):Calls Tryz.prog 140 #[.int .i64 s,.int .i64 i] w fun e w'=>e= .returned (.bool (Wu s i))/\w'=w:=by
 go_enter Tryz.func140,Tryz.ntmps140
 go_wp2
 go_ret
 exact ⟨Z5 (FC s i),rfl⟩
theorem U0 (s i:Int) (w:World):Calls Tryz.prog 203 #[.int .i64 s,.int .i64 i] w fun e w'=>e= .returned (.bool (SQ s i))/\w'=w:=by
 by_cases hb:inB s 0 255=true
 ·obtain ⟨hs,hs2⟩:=ZS hb
  by_cases hc:inB i 0 7=true
  ·obtain ⟨hi,hi2⟩:=ZS hc
   go_enter Tryz.func203,Tryz.ntmps203
   go_wp2_with (first | (go_at_call 238;refine (U5 _ _).mono ?_;rintro e w' ⟨rfl,rfl⟩) | (go_at_call 239;refine (ZB _ _).mono ?_;rintro e w' ⟨rfl,rfl⟩))
   go_ret
   exact ⟨Z5 ((FC s i).trans (F8 hb hc).symm),rfl⟩
  ·have hc':inB i 0 7=false:=by simpa using hc
   go_enter Tryz.func203,Tryz.ntmps203
   go_wp2_with (first | (go_at_call 238;refine (U5 _ _).mono ?_;rintro e w' ⟨rfl,rfl⟩) | (go_at_call 239;refine (ZB _ _).mono ?_;rintro e w' ⟨rfl,rfl⟩))
   go_ret
   exact ⟨Z5 (Kd (.inr hc')).symm,rfl⟩
 ·have hb':inB s 0 255=false:=by simpa using hb
  go_enter Tryz.func203,Tryz.ntmps203
  go_wp2_with (first | (go_at_call 238;refine (U5 _ _).mono ?_;rintro e w' ⟨rfl,rfl⟩) | (go_at_call 239;refine (ZB _ _).mono ?_;rintro e w' ⟨rfl,rfl⟩))
  go_ret
  exact ⟨Z5 (Kd (.inl hb')).symm,rfl⟩
def ZT (s:Z4):Bool:=s.1 ==2 || s.1 ==3
def Xz (had XO:Int):Bool:=inB had (-1000000000000) 1000000000000 && (inB XO (-1000000000000) 1000000000000 && inB (had-XO) (-20000) 63000)
def WH (d:Ys):Bool:=inB d.2.2 (-900000000000) 900000000000
def Xg (m:Z3) (j:Nat):Bool:=inB (Z8 m.paces j) 0 (((ZV m.rooms j).2.length:Int)-1)
def Yv (m:Z3) (s:Z4):Bool:=ZE s && (s.1 ==0 || (decide (s.2.2.2.2.1<m.guilds.length) && decide (s.2.1<m.desks.length)))
def Yo (m:Z3) (s:Z4):Bool:= !ZT s || ((Z8 m.desks s.2.1.toNat).1 && (Wu s.2.2.2.1 s.2.1 && Xz s.2.2.2.2.2.2.2.1 (Z8 m.desks s.2.1.toNat).2.2))
def YS (m:Z3):Bool:=Y4 m.rooms && (Zh m.guilds && (decide (m.smiths.length<=12) && (decide ((m.desks.length:Int)=ZY m.rooms) && (decide (m.paces.length=m.rooms.length) && inB m.now 0 1000000))))
def Wt (m:Z3) (k:Nat):Bool:=(List.range k).all fun j=>WH (Z8 m.desks j)
def Va (m:Z3) (k:Nat):Bool:=(List.range k).any fun j=>(Z8 m.desks j).1
def WV (m:Z3) (k:Nat):Bool:=(List.range k).all fun j=>Xg m j
def WW (m:Z3) (k:Nat):Bool:=(List.range k).all fun j=>Yv m (Z8 m.smiths j) && Yo m (Z8 m.smiths j)
def YZ (m:Z3):Bool:=YS m && (Wt m m.desks.length && (WV m m.paces.length && (WW m m.smiths.length && Va m m.desks.length)))
theorem UY {p:Nat->Bool} (k:Nat):(List.range (k+1)).all p=((List.range k).all p && p k):=by rw [List.range_succ,List.all_append];simp
theorem Fz {p:Nat->Bool} (k:Nat):(List.range (k+1)).any p=((List.range k).any p || p k):=by rw [List.range_succ,List.any_append];simp
theorem SH {p:Nat->Bool} {k n:Nat} (hk:k<n) (h:p k=false):(List.range n).all p=false:=by
 rw [List.all_eq_false]
 exact ⟨k,List.mem_range.2 hk,by simp [h]⟩
theorem M5 {p:Nat->Bool} {k n:Nat} (h:(List.range n).all p=true) (hk:k<n):p k=true:=List.all_eq_true.1 h k (List.mem_range.2 hk)
theorem Xa (h:YS m=false):YZ m=false:=by unfold YZ;rw [h];rfl
theorem LW {k:Nat} (hk:k<m.desks.length) (h:WH (Z8 m.desks k)=false):YZ m=false:=by
 unfold YZ Wt
 rw [SH hk h];simp
theorem LY {k:Nat} (hk:k<m.paces.length) (h:Xg m k=false):YZ m=false:=by
 unfold YZ WV
 rw [SH (p:=fun j=>Xg m j) hk h];simp
theorem Ns {k:Nat} (hk:k<m.smiths.length) (h:(Yv m (Z8 m.smiths k) && Yo m (Z8 m.smiths k))=false):YZ m=false:=by
 unfold YZ WW
 rw [SH (p:=fun j=>Yv m (Z8 m.smiths j) && Yo m (Z8 m.smiths j)) hk h];simp
theorem J8 (h1:YS m=true) (h2:Wt m m.desks.length=true) (h3:WV m m.paces.length=true) (h4:WW m m.smiths.length=true):YZ m=Va m m.desks.length:=by
 unfold YZ;rw [h1,h2,h3,h4];rfl
theorem LH {s:Z4} (h:Yv m s=true) (hp:ZT s=true):0<=s.2.1/\s.2.1<m.desks.length/\s.2.1<=7/\1<=s.2.2.2.1/\s.2.2.2.1<=255/\s.2.2.2.2.1<m.guilds.length:=by
 obtain ⟨st,be,rk,my,gu,lo,hi,hd,ca,ut,wk⟩:=s
 have hst:st ≠ 0:=by
  intro e
  subst e
  cases hp
 unfold Yv at h
 simp only [Bool.and_eq_true,Bool.or_eq_true,decide_eq_true_eq] at h
 obtain ⟨h1,h2⟩:=h
 rcases h2 with h2 | ⟨h2,h3⟩
 ·exact absurd (by simpa using h2) hst
 ·have hs:ZE (st,be,rk,my,gu,lo,hi,hd,ca,ut,wk)=Zf (st,be,rk,my,gu,lo,hi,hd,ca,ut,wk):=by unfold ZE;rw [TD hst,Bool.false_or]
  rw [hs] at h1
  obtain ⟨_,⟨b0,b1⟩,_,⟨m0,m1⟩,_⟩:=Zg h1
  exact ⟨b0,h3,b1,m0,m1,h2⟩
def Yh (ss:List Z4) (b:Int):Nat->Option (Int × Bool)
 | 0=>some (-1,false)
 | k+1=>match Yh ss b k with
  | none=>none
  | some (wk,wt)=>if (Z8 ss k).2.1=b/\ZT (Z8 ss k)=true then (if (Z8 ss k).1=2 then some (wk,true) else if 0<=wk then none else some ((k:Int),wt)) else some (wk,wt)
def YD (m:Z3) (b:Nat):Bool:=match Yh m.smiths b m.smiths.length with
 | none=>false
 | some (wk,wt)=>(Z8 m.desks b).2.1 ==wk && !(wt && decide (wk<0))
def ZK (m:Z3):Bool:=YZ m && (List.range m.desks.length).all (YD m)
def atV (ss:List Z4) (b:Int):Nat->List Z6
 | 0=>[]
 | k+1=>if (Z8 ss k).2.1=b/\ZT (Z8 ss k)=true then Vq (atV ss b k) ((Z8 ss k).2.2.2.2.2.2.2.1,(k:Int)) else atV ss b k
theorem Uh (ss:List Z4) (b:Int):∀ k,(atV ss b k).length<=k
 | 0=>Nat.le_refl _
 | k+1=>by
  have:=Uh ss b k
  unfold atV
  split
  ·rw [Gh];omega
  ·omega
theorem O5 {ss:List Z4} {b:Int} {k:Nat} (h:¬ ((Z8 ss k).2.1=b/\ZT (Z8 ss k)=true)):atV ss b (k+1)=atV ss b k:=by rw [atV,if_neg h]
theorem Sb {ss:List Z4} {b:Int} {k:Nat} (h1:(Z8 ss k).2.1=b) (h2:ZT (Z8 ss k)=true):atV ss b (k+1)=Vq (atV ss b k) ((Z8 ss k).2.2.2.2.2.2.2.1,(k:Int)):=by rw [atV,if_pos ⟨h1,h2⟩]
def Vu (m:Z3) (b:Int):Bool:=inB b 0 ((m.desks.length:Int)-1)
def XL (s:Z4):Int:=s.2.2.2.2.2.2.2.1
theorem Gi {ps:List Z6} {x e:Z6} : e ∈ Vq ps x ↔ e ∈ ps\/e=x:=by
 rw [(Tp ps x).mem_iff];simp
theorem Yd (ss:List Z4) (b:Int) (e:Z6):∀ k,e ∈ atV ss b k ↔ ∃ i:Nat,i<k/\(Z8 ss i).2.1=b/\ZT (Z8 ss i)=true/\e=(XL (Z8 ss i),(i:Int))
 | 0=>by simp [atV]
 | k+1=>by
  have ih:=Yd ss b e k
  by_cases h:(Z8 ss k).2.1=b/\ZT (Z8 ss k)=true
  ·rw [Sb h.1 h.2,Gi,ih]
   constructor
   ·rintro (⟨i,hi,h1,h2,h3⟩ | h3)
    ·exact ⟨i,by omega,h1,h2,h3⟩
    ·exact ⟨k,by omega,h.1,h.2,h3⟩
   ·rintro ⟨i,hi,h1,h2,h3⟩
    by_cases hik:i=k
    ·subst hik;exact .inr h3
    ·exact .inl ⟨i,by omega,h1,h2,h3⟩
  ·rw [O5 h,ih]
   constructor
   ·rintro ⟨i,hi,h1,h2,h3⟩
    exact ⟨i,by omega,h1,h2,h3⟩
   ·rintro ⟨i,hi,h1,h2,h3⟩
    by_cases hik:i=k
    ·subst hik;exact absurd ⟨h1,h2⟩ h
    ·exact ⟨i,by omega,h1,h2,h3⟩
theorem Qn (ss:List Z4) (b:Int):∀ k,Ris (atV ss b k)
 | 0=>List.Pairwise.nil
 | k+1=>by
  by_cases h:(Z8 ss k).2.1=b/\ZT (Z8 ss k)=true
  ·rw [Sb h.1 h.2];exact Mq (Qn ss b k) _
  ·rw [O5 h];exact Qn ss b k
theorem UG (ss:List Z4) (b:Int):∀ k,(atV ss b k).Pairwise fun x y=>x.2 ≠ y.2
 | 0=>List.Pairwise.nil
 | k+1=>by
  by_cases h:(Z8 ss k).2.1=b/\ZT (Z8 ss k)=true
  ·rw [Sb h.1 h.2]
   refine (Tp (atV ss b k) _).symm.pairwise ?_ (fun h=>Ne.symm h)
   rw [List.pairwise_append]
   refine ⟨UG ss b k,by simp,fun x hx y hy=> ?_⟩
   obtain rfl:y=_:=by simpa using hy
   obtain ⟨i,hi,_,_,rfl⟩:=(Yd ss b x k).1 hx
   show (i:Int) ≠ (k:Int)
   omega
  ·rw [O5 h];exact UG ss b k
def Alike (ss ss':List Z4) (k:Nat):Prop:= ∀ i,i<k->(Z8 ss' i).2.1=(Z8 ss i).2.1/\ZT (Z8 ss' i)=ZT (Z8 ss i)/\XL (Z8 ss' i)=XL (Z8 ss i)
theorem NQ {ss ss':List Z4} (b:Int):∀ k,Alike ss ss' k->atV ss' b k=atV ss b k
 | 0,_=>rfl
 | k+1,h=>by
  have ih:=NQ b k (fun i hi=>h i (by omega))
  obtain ⟨h1,h2,h3⟩:=h k (by omega)
  unfold atV
  rw [h1,h2,ih,show (Z8 ss' k).2.2.2.2.2.2.2.1=(Z8 ss k).2.2.2.2.2.2.2.1 from h3]
def XB (ss:List Z4) (b:Int):Int:=match atV ss b ss.length with
 | []=> -1
 | h::_=>h.2
theorem VP {ss:List Z4} {b:Int} {e:Z6} {t:List Z6} (h:atV ss b ss.length=e::t):XB ss b=e.2/\ ∃ i:Nat,i<ss.length/\(Z8 ss i).2.1=b/\ZT (Z8 ss i)=true/\e=(XL (Z8 ss i),(i:Int)):=by
 refine ⟨by unfold XB;rw [h],?_⟩
 exact (Yd ss b e ss.length).1 (by rw [h];simp)
theorem Q4 {ss:List Z4} {b:Int} {e:Z6} {t:List Z6} (h:atV ss b ss.length=e::t) {i:Nat} (hi:i<ss.length) (h1:(Z8 ss i).2.1=b) (h2:ZT (Z8 ss i)=true):e.1<=XL (Z8 ss i):=by
 have hm:(XL (Z8 ss i),(i:Int)) ∈ atV ss b ss.length:=(Yd ss b _ ss.length).2 ⟨i,hi,h1,h2,rfl⟩
 have hr:=Qn ss b ss.length
 rw [h] at hm hr
 rcases List.mem_cons.1 hm with he | ht
 ·rw [<-he];exact Int.le_refl _
 ·have:=(List.pairwise_cons.1 hr).1 _ ht
  rw [Oa] at this
  simp only at this
  omega
def We (x:Int):Bool:=inB x (-1000000000000) 1000000000000
def Wo (h m:Int):Bool:=(We h && We m) && inB (h-m) (-20000) 63000
def YY (h m:Int):Int:=if We m then max h (m-20000) else h
def Zt (h f t:Int):Int:=if We h && (We f && We t) then h-f+t else h
def ZJ (m f:Int):Int:=if We m && We f then min (max m f) 900000000000 else m
theorem Pq {x:Int} (h:We x=true) : -1000000000000<=x/\x<=1000000000000:=ZS h
theorem I5 (x y:Int):([x,y].all fun z=>inB z (-1000000000000) 1000000000000)=(We x && We y):=by simp [We]
theorem Fb (h m:Int):([h].all fun z=>inB z (m-20000) (m+63000))=inB (h-m) (-20000) 63000:=by
 simp only [List.all_cons,List.all_nil,Bool.and_true]
 unfold inB
 congr 1
 exact propext ⟨fun h=>by omega,fun h=>by omega⟩
theorem Pp {x:Int} (h0 : -1000000000000<=x) (h1:x<=1000000000000):We x=true:=Zj h0 h1
theorem Ga {h f t:Int} (h0 : -1000000000000<=h) (h1:h<=1000000000000) (f0 : -1000000000000<=f) (f1:f<=1000000000000) (t0 : -1000000000000<=t) (t1:t<=1000000000000):Zt h f t=h-f+t:=by
 unfold Zt;rw [Pp h0 h1,Pp f0 f1,Pp t0 t1];rfl
theorem Tm {m f:Int} (m0 : -1000000000000<=m) (m1:m<=1000000000000) (f0 : -1000000000000<=f) (f1:f<=1000000000000):ZJ m f=min (max m f) 900000000000:=by
 unfold ZJ;rw [Pp m0 m1,Pp f0 f1];rfl
end Go.Proofs.YtnponpamjddpjaaGreat
