/- Part 11 of what the proof rests on. No condition but those that a theorem names. -/
import Derived.Test.YtjhijildaceadaaGreatDoorXa03
import Derived.Deep.RegionWith
set_option maxHeartbeats 8000000
set_option maxRecDepth 100000
namespace Go.Proofs.YtjhijildaceadaaGreatDoor
open Go.ChangeShapes Go.WideShapes Go.ChangeAt Go.RowKit
set_option linter.unusedVariables false
variable {w w' w0 w1 w2 w3 w₀ wr W W' X A B C : World} {v v0 v1 v2 v3 v4 u u0 u1 u2 u3 u4 : Value}
def VX (k:Nat):Int:=[1024,819,655,524,419,335].getD k 0
def Vs (k:Nat):Int:=[1024,1280,1600,2000,2500,3125].getD k 0
def Zr (r:Int):Int:=if inB r (-5) 5 then (if 0<=r then VX r.toNat else Vs (-r).toNat) else 0
theorem Gs:∀ k:Fin 5,VX (k.val+1)=VX k.val*4 / 5/\0<=VX k.val/\VX k.val<=1024:=by decide
theorem Gi:∀ k:Fin 5,Vs (k.val+1)=Vs k.val*5 / 4/\0<=Vs k.val/\Vs k.val<=3125:=by decide
theorem Jj {k:Nat} (h:k<5):VX (k+1)=VX k*4 / 5/\0<=VX k/\VX k<=1024:=Gs ⟨k,h⟩
theorem I4 {k:Nat} (h:k<5):Vs (k+1)=Vs k*5 / 4/\0<=Vs k/\Vs k<=3125:=Gi ⟨k,h⟩
theorem Dt {r:Int} (h:inB r (-5) 5=true):r= -5\/r= -4\/r= -3\/r= -2\/r= -1\/r=0\/r=1\/r=2\/r=3\/r=4\/r=5:=by
 have:=ZP h
 omega
theorem Wq {r:Int} (h:inB r (-5) 5=false):Zr r=0:=by unfold Zr;simp [h]
theorem Il {r:Int} (h:inB r (-5) 5=true) (h0:0<=r):Zr r=VX r.toNat:=by unfold Zr;simp [h,h0]
theorem LJ {r:Int} (h:inB r (-5) 5=true) (h0:¬ 0<=r):Zr r=Vs (-r).toNat:=by unfold Zr;simp [h,h0]
theorem Zb (x:Int) (w:World):Calls Tryz.prog 153 #[.int .i64 x] w fun e w'=>e= .returned (.bool (inB x (-5) 5))/\w'=w:=by
 go_enter Tryz.func153,Tryz.ntmps153
 go_wp2_with (go_at_call 76;refine (ZX _ _ _ _).mono ?_;rintro e w' ⟨rfl,rfl⟩)
 go_ret
 exact ⟨rfl,rfl⟩
theorem Qx (r:Int) (w:World):Calls Tryz.prog 154 #[.int .i64 r] w fun e w'=>e= .returned (.int .i64 (Zr r))/\w'=w:=by
 cases hb:inB r (-5) 5
 ·rw [Wq hb]
  go_enter Tryz.func154,Tryz.ntmps154
  go_wp2_with (go_at_call 153;refine (Zb _ _).mono ?_;rintro e w' ⟨rfl,rfl⟩)
  go_ret
  exact ⟨rfl,rfl⟩
 ·obtain ⟨r0,r1⟩:=ZP hb
  by_cases h0:0<=r
  ·rw [Il hb h0]
   obtain ⟨n,rfl⟩:=Int.eq_ofNat_of_zero_le h0
   rw [Int.toNat_natCast]
   go_enter Tryz.func154,Tryz.ntmps154
   go_wp2_with (go_at_call 153;refine (Zb _ _).mono ?_;rintro e w' ⟨rfl,rfl⟩)
   go_loop [0,3] (fun i s=> ∃ k:Nat,k<=n/\i= .int .i64 ((n:Int)-k)/\s= .int .i64 (VX k)) (fun i _=>(intOf i).toNat)
   case atStart=>exact ⟨0,Nat.zero_le _,by simp,rfl⟩
   case round=>
    obtain ⟨k,hk,rfl,rfl⟩:=hrel
    by_cases hlt:k<n
    ·obtain ⟨hs,f1,f2⟩:=Jj (k:=k) (by omega)
     have Hs:=Z9 hs
     clear hs
     generalize VX k=z at *
     go_wp2_with fail
     go_round
     case rel=>exact ⟨k+1,by omega,by go_num,by rw [uh Hs]⟩
     case measure=>simp [intOf];omega
    ·obtain rfl:k=n:=by omega
     go_wp2_with fail
     go_loop [0,3] (fun i s=>i= .int .i64 0/\s= .int .i64 (VX k)) (fun _ _=>0)
     case atStart=>exact ⟨by simp,rfl⟩
     case round=>
      obtain ⟨rfl,rfl⟩:=hrel
      go_wp2_with fail
      go_ret
      exact ⟨rfl,rfl⟩
  ·rw [LJ hb h0]
   obtain ⟨n,hn⟩:=Int.eq_ofNat_of_zero_le (show 0<= -r by omega)
   obtain rfl:r= -(n:Int):=by omega
   rw [show (-(-(n:Int))).toNat=n by omega]
   clear hn
   go_enter Tryz.func154,Tryz.ntmps154
   go_wp2_with (go_at_call 153;refine (Zb _ _).mono ?_;rintro e w' ⟨rfl,rfl⟩)
   go_loop [0,3] (fun i s=>i= .int .i64 (-(n:Int))/\s= .int .i64 1024) (fun _ _=>0)
   case atStart=>exact ⟨rfl,rfl⟩
   case round=>
    obtain ⟨rfl,rfl⟩:=hrel
    go_wp2_with fail
    go_loop [0,3] (fun i s=> ∃ k:Nat,k<=n/\i= .int .i64 ((k:Int)-n)/\s= .int .i64 (Vs k)) (fun i _=>(-(intOf i)).toNat)
    case atStart=>exact ⟨0,Nat.zero_le _,by simp,rfl⟩
    case round=>
     obtain ⟨k,hk,rfl,rfl⟩:=hrel
     by_cases hlt:k<n
     ·obtain ⟨hs,f1,f2⟩:=I4 (k:=k) (by omega)
      have Hs:=Z9 hs
      clear hs
      generalize Vs k=z at *
      go_wp2_with fail
      go_round
      case rel=>exact ⟨k+1,by omega,by go_num,by rw [uh Hs]⟩
      case measure=>simp [intOf];omega
     ·obtain rfl:k=n:=by omega
      go_wp2_with fail
      go_ret
      exact ⟨rfl,rfl⟩
theorem I3 {x y:Int} (h0:0<=x) (h1:x<=100000) (h:x*5 / 4=y) (w:World):Calls Tryz.prog 272 #[.int .i64 x] w fun e w'=>e= .returned (.int .i64 y)/\w'=w:=by
 subst h
 go_enter Tryz.func272,Tryz.ntmps272
 go_wp2
 go_ret
 exact ⟨rfl,rfl⟩
theorem Jk {x y:Int} (h0:0<=x) (h1:x<=100000) (h:x*4 / 5=y) (w:World):Calls Tryz.prog 273 #[.int .i64 x] w fun e w'=>e= .returned (.int .i64 y)/\w'=w:=by
 subst h
 go_enter Tryz.func273,Tryz.ntmps273
 go_wp2
 go_ret
 exact ⟨rfl,rfl⟩
theorem P9 (r:Int) (w:World):Calls Tryz.prog 210 #[.int .i64 r] w fun e w'=>e= .returned (.int .i64 (Zr r))/\w'=w:=by
 cases hb:inB r (-5) 5
 ·rw [Wq hb]
  have hr:r < -5\/5<r:=by
   by_cases h1 : -5<=r
   ·by_cases h2:r<=5
    ·rw [Zj h1 h2] at hb;cases hb
    ·omega
   ·omega
  have e1:¬ r= -5:=by omega
  have e2:¬ r= -4:=by omega
  have e3:¬ r= -3:=by omega
  have e4:¬ r= -2:=by omega
  have e5:¬ r= -1:=by omega
  have e6:¬ r=0:=by omega
  have e7:¬ r=5:=by omega
  have e8:¬ r=4:=by omega
  have e9:¬ r=3:=by omega
  have e10:¬ r=2:=by omega
  have e11:¬ r=1:=by omega
  clear hb hr
  go_enter Tryz.func210,Tryz.ntmps210
  go_wp2_with fail
  go_ret
  exact ⟨rfl,rfl⟩
 ·rcases Dt hb with rfl | rfl | rfl | rfl | rfl | rfl | rfl | rfl | rfl | rfl | rfl
  all_goals
   clear hb
   go_enter Tryz.func210,Tryz.ntmps210
   go_wp2_with (first
    | (go_at_call 272;refine (I3 (by decide) (by decide) rfl _).mono ?_;rintro e w' ⟨rfl,rfl⟩)
    | (go_at_call 273;refine (Jk (by decide) (by decide) rfl _).mono ?_;rintro e w' ⟨rfl,rfl⟩))
   go_ret
   exact ⟨rfl,rfl⟩
open Go.ChangeShapes Go.WideShapes Go.ChangeAt Go.RowKit Go.Sort
def YU (lo hi:Int):Bool:=inB lo 0 1024 && inB hi 0 1024 && decide (lo<=hi)
theorem Dn {lo hi:Int} (h:YU lo hi=true):0<=lo/\lo<=1024/\0<=hi/\hi<=1024/\lo<=hi:=by
 unfold YU at h
 simp only [Bool.and_eq_true,decide_eq_true_eq] at h
 obtain ⟨⟨h1,h2⟩,h3⟩:=h
 exact ⟨(ZP h1).1,(ZP h1).2,(ZP h2).1,(ZP h2).2,h3⟩
def XB (g:ZH) (n:Int):Bool:=inB g.1 (-1) (n-1) && YU g.2.1 g.2.2
theorem LQ {g:ZH} {n:Int} (h:XB g n=true) : -1<=g.1/\g.1<=n-1/\YU g.2.1 g.2.2=true:=by
 unfold XB at h
 simp only [Bool.and_eq_true] at h
 exact ⟨(ZP h.1).1,(ZP h.1).2,h.2⟩
def Th (ps:List ZH) (k:Nat):Bool:=(List.range k).all fun i=>XB (Z8 ps i) i
theorem OR (ps:List ZH) (k:Nat):Th ps (k+1)=(Th ps k && XB (Z8 ps k) k):=by unfold Th;rw [List.range_succ,List.all_append];simp
theorem Ct {ps:List ZH} {k n:Nat} (hk:k<n) (h:XB (Z8 ps k) k=false):Th ps n=false:=by
 unfold Th
 rw [List.all_eq_false]
 exact ⟨k,List.mem_range.2 hk,by simp [h]⟩
theorem DV {ps:List ZH} {k n:Nat} (h:Th ps n=true) (hk:k<n):XB (Z8 ps k) k=true:=by
 unfold Th at h
 exact List.all_eq_true.1 h k (List.mem_range.2 hk)
def Zd (ps:List ZH):Bool:=Th ps ps.length && decide (ps.length<=6)
theorem RC {ps:List ZH} (h:Zd ps=true):Th ps ps.length=true/\ps.length<=6:=by
 unfold Zd at h
 simpa using h
theorem P7 {ps:List ZH} {k:Nat} (hk:k<ps.length) (h:XB (Z8 ps k) k=false):Zd ps=false:=by unfold Zd;rw [Ct hk h];rfl
theorem K6 {ps:List ZH} (h:6<ps.length):Zd ps=false:=by unfold Zd;simp;omega
theorem TL {ps:List ZH} (h:Zd ps=true) {g:Int} (h0:0<=g) (h1:g<ps.length) : -1<=(Z8 ps g.toNat).1/\(Z8 ps g.toNat).1<=g-1/\YU (Z8 ps g.toNat).2.1 (Z8 ps g.toNat).2.2=true:=by
 have:=LQ (DV (RC h).1 (k:=g.toNat) (by omega))
 rw [show ((g.toNat:Nat):Int)=g by omega] at this
 exact this
def Vj (b:Int × Int) (lo hi:Int):Int × Int:=(min (max lo b.1) b.2,min (max hi (min (max lo b.1) b.2)) b.2)
def PX (ps:List ZH):Nat->Int->Int × Int
 | 0,_=>(0,1024)
 | n+1,g=>if g<0 then (0,1024) else Vj (PX ps n (Z8 ps g.toNat).1) (Z8 ps g.toNat).2.1 (Z8 ps g.toNat).2.2
def bnd (ps:List ZH) (g:Int):Int × Int:=PX ps (g+1).toNat g
theorem Ft {b:Int × Int} {lo hi:Int} (h0:0<=b.1) (h1:b.1<=b.2) (h2:b.2<=1024):b.1<=(Vj b lo hi).1/\(Vj b lo hi).1<=(Vj b lo hi).2/\(Vj b lo hi).2<=b.2:=by
 unfold Vj
 refine ⟨?_,?_,?_⟩<;>simp only<;>omega
theorem Fg (ps:List ZH):∀ (n:Nat) (g:Int),0<=(PX ps n g).1/\(PX ps n g).1<=(PX ps n g).2/\(PX ps n g).2<=1024
 | 0,g=>by unfold PX;simp
 | n+1,g=>by
  unfold PX
  split
  ·simp
  ·obtain ⟨h0,h1,h2⟩:=Fg ps n (Z8 ps g.toNat).1
   obtain ⟨h3,h4,h5⟩:=Ft (lo:=(Z8 ps g.toNat).2.1) (hi:=(Z8 ps g.toNat).2.2) h0 h1 h2
   exact ⟨by omega,h4,by omega⟩
theorem Be (ps:List ZH) (g:Int):0<=(bnd ps g).1/\(bnd ps g).1<=(bnd ps g).2/\(bnd ps g).2<=1024:=Fg ps _ g
theorem LM {ps:List ZH} (h:Zd ps=true):∀ (n m:Nat) (g:Int),g<n->g<m->g<ps.length->PX ps n g=PX ps m g
 | 0,0,g,_,_,_=>rfl
 | 0,m+1,g,h1,h2,h3=>by unfold PX;rw [if_pos (by omega)]
 | n+1,0,g,h1,h2,h3=>by unfold PX;rw [if_pos (by omega)]
 | n+1,m+1,g,h1,h2,h3=>by
  unfold PX
  by_cases h0:g<0
  ·rw [if_pos h0,if_pos h0]
  ·rw [if_neg h0,if_neg h0]
   obtain ⟨a0,a1,_⟩:=TL h (g:=g) (by omega) h3
   rw [LM h n m (Z8 ps g.toNat).1 (by omega) (by omega) (by omega)]
theorem QO (ps:List ZH) {g:Int} (h:g<0):bnd ps g=(0,1024):=by
 unfold bnd
 rw [show (g+1).toNat=0 by omega];rfl
theorem IC {ps:List ZH} (h:Zd ps=true) {g:Int} (h0:0<=g) (h1:g<ps.length):bnd ps g=Vj (bnd ps (Z8 ps g.toNat).1) (Z8 ps g.toNat).2.1 (Z8 ps g.toNat).2.2:=by
 obtain ⟨a0,a1,_⟩:=TL h h0 h1
 unfold bnd
 rw [show (g+1).toNat=g.toNat+1 by omega]
 show (if g<0 then (0,1024) else _)=_
 rw [if_neg (by omega),LM h g.toNat ((Z8 ps g.toNat).1+1).toNat _ (by omega) (by omega) (by omega)]
def isB (ps:List ZH) (g:Int):Bool:=Zd ps && inB g (-1) ((ps.length:Int)-1)
def T9 (ps:List ZH) (g lo hi:Int):Int × Int:=if isB ps g && YU lo hi then Vj (bnd ps g) lo hi else (-1,-1)
theorem MB {ps:List ZH} {g lo hi:Int} (h:(isB ps g && YU lo hi)=false):T9 ps g lo hi=(-1,-1):=by unfold T9;rw [h];rfl
theorem MC {ps:List ZH} {g lo hi:Int} (h:isB ps g=true) (h':YU lo hi=true):T9 ps g lo hi=Vj (bnd ps g) lo hi:=by unfold T9;rw [h,h'];rfl
theorem Cf {lo hi:Int} (h0:0<=lo) (h1:lo<=hi) (h2:hi<=1024):YU lo hi=true:=by unfold YU;rw [Zj h0 (by omega),Zj (by omega) h2];simp;omega
theorem Lw {lo hi:Int} (h:lo<0\/hi<lo\/1024<hi):YU lo hi=false:=by
 cases e:YU lo hi
 ·rfl
 ·have:=Dn e;omega
theorem VK (lo hi:Int) (w:World):Calls Tryz.prog 150 #[.int .i64 lo,.int .i64 hi] w fun e w'=>e= .returned (.bool (YU lo hi))/\w'=w:=by
 by_cases h1:0<=lo
 ·by_cases h2:lo<=hi
  ·by_cases h3:hi<=1024
   all_goals
    go_enter Tryz.func150,Tryz.ntmps150
    go_wp2
    go_ret
    exact ⟨Z5 (by first | exact (Cf h1 h2 h3).symm | exact (Lw (by omega)).symm),rfl⟩
  ·go_enter Tryz.func150,Tryz.ntmps150
   go_wp2
   go_ret
   exact ⟨Z5 (Lw (by omega)).symm,rfl⟩
 ·go_enter Tryz.func150,Tryz.ntmps150
  go_wp2
  go_ret
  exact ⟨Z5 (Lw (by omega)).symm,rfl⟩
theorem SL (a lo hi n:Int) (w:World):Calls Tryz.prog 285 #[.agg #[.int .i64 a,.int .i64 lo,.int .i64 hi],.int .i64 n] w fun e w'=>e= .returned (.bool (XB (a,lo,hi) n))/\Below w.heap.size w w':=by
 by_cases h1 : -1<=a
 ·by_cases h2:a<n
  ·have hg:XB (a,lo,hi) n=YU lo hi:=by unfold XB;rw [Zj h1 (by omega)];rfl
   rw [hg];clear hg
   go_enter Tryz.func285,Tryz.ntmps285
   go_wp2_with (go_at_call 150;refine (VK _ _ _).mono ?_;rintro e w' ⟨rfl,rfl⟩)
   go_ret
   exact ⟨rfl,(Below.refl _ _).alloc (Nat.le_refl _) _⟩
  ·have hg:XB (a,lo,hi) n=false:=by unfold XB;rw [Xj (.inr (by omega))];rfl
   rw [hg];clear hg
   go_enter Tryz.func285,Tryz.ntmps285
   go_wp2_with fail
   go_ret
   exact ⟨rfl,(Below.refl _ _).alloc (Nat.le_refl _) _⟩
 ·have hg:XB (a,lo,hi) n=false:=by unfold XB;rw [Xj (.inl (by omega))];rfl
  rw [hg];clear hg
  go_enter Tryz.func285,Tryz.ntmps285
  go_wp2_with fail
  go_ret
  exact ⟨rfl,(Below.refl _ _).alloc (Nat.le_refl _) _⟩
theorem W8  {ps:List ZH} (h:Y5 w v ps) :
  Calls Tryz.prog 229 #[v] w fun e w'=>e= .returned (.bool (Zd ps))/\Below w.heap.size w w':=by
 obtain ⟨a,cap,rfl,hc,hm,hr⟩:=h
 have Hr:=Z9 hr
 clear hr
 by_cases hbig:6<ps.length
 ·go_enter Tryz.func229,Tryz.ntmps229
  go_wp2_with fail
  go_ret
  exact ⟨Z5 (K6 hbig).symm,Below.refl _ _⟩
 go_enter Tryz.func229,Tryz.ntmps229
 go_wp2_with fail
 go_loopw [10] (fun i wr=> ∃ k:Nat,k<=ps.length/\i= .int .i64 k/\Th ps k=true/\Below w.heap.size w wr) (fun i _=>ps.length-(intOf i).toNat)
 case atStart=>exact ⟨0,Nat.zero_le _,rfl,rfl,Below.refl _ _⟩
 case round=>
  obtain ⟨k,hk,rfl,hst,hb⟩:=hrel
  have Hst:=Z9 hst
  have Hb:=Z9 hb
  clear hst
  by_cases hlt:k<ps.length
  ·rcases uh Hr with h0 | ⟨b,off,rfl,hbw,hcl⟩
   ·rw [h0] at hlt;simp at hlt
   have hbr:b<wr.heap.size:=Nat.lt_of_lt_of_le hbw hb.size
   obtain ⟨c0,c1,c2⟩:=Xi hcl hlt
   rw [<-hb.cell (p:=⟨b,off+k*3,none⟩) hbw] at c0
   rw [<-hb.cell (p:=⟨b,off+k*3+1,none⟩) hbw] at c1
   rw [<-hb.cell (p:=⟨b,off+k*3+2,none⟩) hbw] at c2
   generalize hp:Z8 ps k=p at c0 c1 c2
   have Hp:=Z9 hp
   clear hp
   obtain ⟨x0,x1,x2⟩:=p
   simp only at c0 c1 c2
   have hsz:=hb.size
   clear hcl hb
   go_wp2_with fail
   refine (SL _ _ _ _ _).mono ?_
   rintro e w1 ⟨rfl,hb1⟩
   have Hb1:=Z9 ((uh Hb).trans (((Below.refl _ _).alloc hsz _).trans (hb1.mono (by simp;omega))))
   clear hb1
   cases hg:XB (x0,x1,x2) k
   ·go_wp2_with fail
    go_ret
    exact ⟨Z5 (P7 hlt (by rw [uh Hp];exact hg)).symm,uh Hb1⟩
   ·go_wp2_with fail
    go_roundw
    case rel=>exact ⟨k+1,by omega,by go_num,by rw [OR,uh Hst,uh Hp,hg];rfl,uh Hb1⟩
    case measure=>simp [intOf];omega
  ·obtain rfl:k=ps.length:=by omega
   go_wp2_with fail
   go_ret
   exact ⟨Z5 (by unfold Zd;rw [uh Hst];simp;omega),hb⟩
theorem Q7 (a lo hi l h:Int) (w:World):Calls Tryz.prog 352 #[.agg #[.int .i64 a,.int .i64 lo,.int .i64 hi],.int .i64 l,.int .i64 h] w
  fun e w'=>e= .returned (.tuple #[.int .i64 (Vj (lo,hi) l h).1,.int .i64 (Vj (lo,hi) l h).2])/\Below w.heap.size w w':=by
 unfold Vj
 go_enter Tryz.func352,Tryz.ntmps352
 go_wp2_with (go_at_call 325;refine (Vt _ _ _ _).mono ?_;rintro e w' ⟨rfl,rfl⟩)
 go_ret2
 exact ⟨rfl,(Below.refl _ _).alloc (Nat.le_refl _) _⟩
theorem JY (a lo hi a' l h:Int) (w:World):Calls Tryz.prog 368 #[.agg #[.int .i64 a,.int .i64 lo,.int .i64 hi,.int .i64 a',.int .i64 l,.int .i64 h]] w
  fun e w'=>e= .returned (.agg #[.int .i64 a',.int .i64 (Vj (lo,hi) l h).1,.int .i64 (Vj (lo,hi) l h).2])/\Below w.heap.size w w':=by
 go_enter Tryz.func368,Tryz.ntmps368
 go_wp2_with fail
 refine (Q7 _ _ _ _ _ _).mono ?_
 rintro e w1 ⟨rfl,hb1⟩
 have hz:w.heap.size+1<w1.heap.size:=by have:=hb1.size;simp at this;omega
 have Hb1:=Z9 hb1
 obtain ⟨hc,hf⟩:=QM hb1
 clear hb1
 go_wp2_with fail
 exact bodyPost_ret (v:= .agg #[.int .i64 a',.int .i64 (Vj (lo,hi) l h).1,.int .i64 (Vj (lo,hi) l h).2]) (by simp [results,Tryz.results368,go_sem,hc]) rfl
  ⟨rfl,((((((Below.refl _ _).alloc (Nat.le_refl _) _).alloc (by simp) _).trans ((uh Hb1).mono (by simp;omega))).setCell (by simp) _).setCell (by simp) _).setCell (by simp) _⟩
theorem MX {ps:List ZH} (hg:Zd ps=true):∀ (n:Nat) (g:Int) {w:World} {v:Value},Y5 w v ps-> -1<=g->g<n->g<ps.length->
  Calls Tryz.prog 351 #[v,.int .i64 g] w fun e w'=> ∃ x,e= .returned (.agg #[.int .i64 x,.int .i64 (bnd ps g).1,.int .i64 (bnd ps g).2])/\Below w.heap.size w w':=by
 intro n
 induction n with
 | zero=>
  intro g w v h h0 h1 h2
  obtain rfl:g= -1:=by omega
  rw [QO ps (by omega)]
  obtain ⟨a,cap,rfl,_⟩:=h
  go_enter Tryz.func351,Tryz.ntmps351
  go_wp2_with fail
  exact bodyPost_ret (v:= .agg #[.int .i64 (-1),.int .i64 0,.int .i64 1024]) (by simp [results,Tryz.results351,go_sem]) rfl ⟨-1,rfl,(Below.refl _ _).alloc (Nat.le_refl _) _⟩
 | succ n ih=>
  intro g w v h h0 h1 h2
  by_cases hg0:g= -1
  ·subst hg0
   rw [QO ps (by omega)]
   obtain ⟨a,cap,rfl,_⟩:=h
   go_enter Tryz.func351,Tryz.ntmps351
   go_wp2_with fail
   exact bodyPost_ret (v:= .agg #[.int .i64 (-1),.int .i64 0,.int .i64 1024]) (by simp [results,Tryz.results351,go_sem]) rfl ⟨-1,rfl,(Below.refl _ _).alloc (Nat.le_refl _) _⟩
  ·obtain ⟨k,rfl⟩:∃ k:Nat,g=k:=⟨g.toNat,by omega⟩
   have hlt:k<ps.length:=by omega
   obtain ⟨a0,a1,_⟩:=TL hg (g:=(k:Int)) (by omega) h2
   have hs:=IC hg (g:=(k:Int)) (by omega) h2
   rw [show ((k:Int)).toNat=k by omega] at a0 a1 hs
   rw [hs]
   clear hs
   have Hi:=Z9 h
   obtain ⟨a,cap,rfl,hc,hm,hr⟩:=h
   rcases hr with hz | ⟨b,off,rfl,hbw,hcl⟩
   ·rw [hz] at hlt;simp at hlt
   obtain ⟨c0,c1,c2⟩:=Xi hcl hlt
   clear hcl
   generalize hW:w.alloc (.cells #[.int .i64 0,.int .i64 0,.int .i64 0] 90)=W
   have HB:Hid (Below w.heap.size w W):=Z9 (by rw [<-hW];exact (Below.refl _ _).alloc (Nat.le_refl _) _)
   have hsz:w.heap.size<W.heap.size:=by rw [<-hW];simp
   have hbW:b<W.heap.size:=by omega
   rw [<-(uh HB).cell (p:=⟨b,off+k*3,none⟩) hbw] at c0
   rw [<-(uh HB).cell (p:=⟨b,off+k*3+1,none⟩) hbw] at c1
   rw [<-(uh HB).cell (p:=⟨b,off+k*3+2,none⟩) hbw] at c2
   have D:Hid ((∃ u,W.cell? ⟨w.heap.size,0,none⟩=some u)/\(∃ u,W.cell? ⟨w.heap.size,1,none⟩=some u)/\(∃ u,W.cell? ⟨w.heap.size,2,none⟩=some u)/\W.frozen? ⟨w.heap.size,0,none⟩=false/\W.frozen? ⟨w.heap.size,1,none⟩=false/\W.frozen? ⟨w.heap.size,2,none⟩=false):=
    Z9 (by rw [<-hW];exact ⟨⟨_,by simp;rfl⟩,⟨_,by simp;rfl⟩,⟨_,by simp;rfl⟩,by simp,by simp,by simp⟩)
   have HW:=Z9 hW
   clear hW
   have Hc:=Z9 (And.intro c0 (And.intro c1 c2))
   generalize hp:Z8 ps k=p at *
   obtain ⟨x0,x1,x2⟩:=p
   simp only at c0 c1 c2 a0 a1
   have ih':=fun (w:World) (v:Value) (h:Y5 w v ps)=>ih x0 h a0 (by omega) (by omega)
   have Ih:=Z9 ih'
   clear ih ih' hp
   go_enter Tryz.func351,Tryz.ntmps351
   go_wp2_with fail
   rw [uh HW]
   go_region_with (first
    | (go_at_call 351;refine (uh Ih _ _ ?_).mono ?_;(first | exact (uh Hi).below (uh HB) | exact ((uh Hi).below (uh HB)).below ((Below.refl _ _).drew));rintro e w1 ⟨y,rfl,hb1⟩;have B1:Hid (Below W.heap.size W w1):=Z9 (by first | exact hb1 | exact ((Below.refl _ _).drew).trans (hb1.mono (by simp)));have e0:=((uh B1).cell (p:=⟨b,off+k*3,none⟩) hbW).trans (uh Hc).1;have e1:=((uh B1).cell (p:=⟨b,off+k*3+1,none⟩) hbW).trans (uh Hc).2.1;have e2:=((uh B1).cell (p:=⟨b,off+k*3+2,none⟩) hbW).trans (uh Hc).2.2;clear hb1)
    | (go_at_call 368;refine (JY _ _ _ _ _ _ _).mono ?_;rintro e w2 ⟨rfl,hb2⟩;have B2:Hid (Below W.heap.size W w2):=Z9 ((uh B1).trans (hb2.mono (uh B1).size));obtain ⟨⟨u0,q0⟩,⟨u1,q1⟩,⟨u2,q2⟩,f0,f1,f2⟩:=uh D;have d0:=((uh B2).cell (p:=⟨w.heap.size,0,none⟩) hsz).trans q0;have d1:=((uh B2).cell (p:=⟨w.heap.size,1,none⟩) hsz).trans q1;have d2:=((uh B2).cell (p:=⟨w.heap.size,2,none⟩) hsz).trans q2;have z0:=((uh B2).frozen (p:=⟨w.heap.size,0,none⟩) hsz).trans f0;have z1:=((uh B2).frozen (p:=⟨w.heap.size,1,none⟩) hsz).trans f1;have z2:=((uh B2).frozen (p:=⟨w.heap.size,2,none⟩) hsz).trans f2;clear hb2 q0 q1 q2 f0 f1 f2))
   all_goals
    go_wp2_with fail
    exact bodyPost_ret (v:= .agg #[.int .i64 x0,.int .i64 (Vj (bnd ps x0) x1 x2).1,.int .i64 (Vj (bnd ps x0) x1 x2).2]) (by simp [results,Tryz.results351,go_sem,d0,d1,d2]) rfl
     ⟨x0,rfl,((((uh HB).trans ((uh B2).mono (by omega))).setCell (Nat.le_refl _) _).setCell (Nat.le_refl _) _).setCell (Nat.le_refl _) _⟩
theorem NN  {ps:List ZH} (g lo hi:Int) (h:Y5 w v ps) :
  Calls Tryz.prog 324 #[v,.int .i64 g,.int .i64 lo,.int .i64 hi] w fun e w'=>e= .returned (.tuple #[.int .i64 (T9 ps g lo hi).1,.int .i64 (T9 ps g lo hi).2])/\Below w.heap.size w w':=by
 have Hi:=Z9 h
 obtain ⟨a,cap,rfl,hc,hm,hr⟩:=h
 clear hr
 generalize hW:w.alloc (.cells #[.int .i64 g,.int .i64 lo,.int .i64 hi] 90)=W
 have HB:Hid (Below w.heap.size w W):=Z9 (by rw [<-hW];exact (Below.refl _ _).alloc (Nat.le_refl _) _)
 have hsz:w.heap.size<W.heap.size:=by rw [<-hW];simp
 have D:Hid (W.cell? ⟨w.heap.size,0,none⟩=some (.int .i64 g)/\W.cell? ⟨w.heap.size,1,none⟩=some (.int .i64 lo)/\W.cell? ⟨w.heap.size,2,none⟩=some (.int .i64 hi)):=Z9 (by rw [<-hW];simp)
 have HW:=Z9 hW
 clear hW
 have hsv:(Zd ps && XB (g,lo,hi) ps.length)=(isB ps g && YU lo hi):=by unfold XB isB;rw [Bool.and_assoc]
 cases hG:Zd ps
 ·rw [MB (by rw [<-hsv,hG];rfl)]
  clear hsv
  go_enter Tryz.func324,Tryz.ntmps324
  go_wp2_with fail
  rw [uh HW]
  refine (W8 ((uh Hi).below (uh HB))).mono ?_
  rw [hG]
  rintro e w1 ⟨rfl,hb1⟩
  have B1:=Z9 ((uh HB).trans (hb1.mono (by omega)))
  clear hb1
  go_wp2_with fail
  go_ret2
  exact ⟨rfl,uh B1⟩
 ·cases hQ:XB (g,lo,hi) ps.length
  ·rw [MB (by rw [<-hsv,hG,hQ];rfl)]
   clear hsv
   go_enter Tryz.func324,Tryz.ntmps324
   go_wp2_with fail
   rw [uh HW]
   refine (W8 ((uh Hi).below (uh HB))).mono ?_
   rw [hG]
   rintro e w1 ⟨rfl,hb1⟩
   have d0:=(hb1.cell (p:=⟨w.heap.size,0,none⟩) hsz).trans (uh D).1
   have d1:=(hb1.cell (p:=⟨w.heap.size,1,none⟩) hsz).trans (uh D).2.1
   have d2:=(hb1.cell (p:=⟨w.heap.size,2,none⟩) hsz).trans (uh D).2.2
   have B1:=Z9 ((uh HB).trans (hb1.mono (by omega)))
   clear hb1
   go_wp2_with fail
   refine (SL _ _ _ _ _).mono ?_
   rw [hQ]
   rintro e w2 ⟨rfl,hb2⟩
   have B2:=Z9 ((uh B1).trans (hb2.mono (uh B1).size))
   clear hb2
   go_wp2_with fail
   go_ret2
   exact ⟨rfl,uh B2⟩
  ·obtain ⟨g0,g1,g2⟩:=LQ hQ
   have hisB:isB ps g=true:=by unfold isB;rw [hG,Zj g0 (by simpa using g1)];rfl
   rw [MC hisB g2]
   clear hsv hisB
   have hlt:g<ps.length:=by simp only at g1;omega
   simp only at g0
   go_enter Tryz.func324,Tryz.ntmps324
   go_wp2_with fail
   rw [uh HW]
   refine (W8 ((uh Hi).below (uh HB))).mono ?_
   rw [hG]
   rintro e w1 ⟨rfl,hb1⟩
   have d0:=(hb1.cell (p:=⟨w.heap.size,0,none⟩) hsz).trans (uh D).1
   have d1:=(hb1.cell (p:=⟨w.heap.size,1,none⟩) hsz).trans (uh D).2.1
   have d2:=(hb1.cell (p:=⟨w.heap.size,2,none⟩) hsz).trans (uh D).2.2
   have B1:=Z9 ((uh HB).trans (hb1.mono (by omega)))
   clear hb1
   go_wp2_with fail
   refine (SL _ _ _ _ _).mono ?_
   rw [hQ]
   rintro e w2 ⟨rfl,hb2⟩
   have B2:=Z9 ((uh B1).trans (hb2.mono (uh B1).size))
   clear hb2
   go_wp2_with fail
   refine (MX hG (g+1).toNat g ((uh Hi).below (uh B2)) g0 (by omega) hlt).mono ?_
   rintro e w3 ⟨x,rfl,hb3⟩
   have B3:=Z9 ((uh B2).trans (hb3.mono (uh B2).size))
   clear hb3
   go_wp2_with fail
   refine (Q7 _ _ _ _ _ _).mono ?_
   rintro e w4 ⟨rfl,hb4⟩
   have B4:=Z9 ((uh B3).trans (hb4.mono (uh B3).size))
   clear hb4
   go_wp2_with fail
   go_ret2
   exact ⟨rfl,uh B4⟩
theorem Yz {B:Nat} (h:Below B w w') (n:Nat):Below B w (w'.drewN n):=⟨h.os,h.tape,h.output,h.size,h.block⟩
theorem YK (x:Int) (w:World):Calls Tryz.prog 163 #[.int .i64 x] w fun e w'=>e= .returned (.bool (inB x 0 1024))/\w'=w:=by
 go_enter Tryz.func163,Tryz.ntmps163
 go_wp2_with (go_at_call 76;refine (ZX _ _ _ _).mono ?_;rintro e w' ⟨rfl,rfl⟩)
 go_ret
 exact ⟨rfl,rfl⟩
theorem Y6 (lo hi:Int) (w:World):Calls Tryz.prog 81 #[.int .i64 lo,.int .i64 hi] w fun e w'=>e= .returned (.bool (YU lo hi))/\w'=w:=by
 cases h1:inB lo 0 1024
 ·have hp:YU lo hi=false:=by unfold YU;rw [h1];rfl
  rw [hp];clear hp
  go_enter Tryz.func81,Tryz.ntmps81
  go_wp2_with (go_at_call 163;refine (YK _ _).mono ?_;rintro e w' ⟨rfl,rfl⟩)
  go_ret
  exact ⟨rfl,rfl⟩
 ·cases h2:inB hi 0 1024
  ·have hp:YU lo hi=false:=by unfold YU;rw [h1,h2];rfl
   rw [hp];clear hp
   go_enter Tryz.func81,Tryz.ntmps81
   go_wp2_with (go_at_call 163;refine (YK _ _).mono ?_;rintro e w' ⟨rfl,rfl⟩)
   go_ret
   exact ⟨rfl,rfl⟩
  ·have hp:YU lo hi=decide (lo<=hi):=by unfold YU;rw [h1,h2];rfl
   rw [hp];clear hp
   by_cases h3:lo<=hi
   all_goals
    go_enter Tryz.func81,Tryz.ntmps81
    go_wp2_with (go_at_call 163;refine (YK _ _).mono ?_;rintro e w' ⟨rfl,rfl⟩)
    go_ret
    exact ⟨Z5 (by first | (simp;done) | (simp;omega)),rfl⟩
theorem Qv  {ps:List ZH} (h:Y5 w v ps) :
  Calls Tryz.prog 171 #[v] w fun e w'=>e= .returned (.bool (Zd ps))/\Below w.heap.size w w':=by
 obtain ⟨a,cap,rfl,hc,hm,hr⟩:=h
 have Hr:=Z9 hr
 clear hr
 go_enter Tryz.func171,Tryz.ntmps171
 go_wp2_with fail
 go_loopw [3] (fun i wr=> ∃ k:Nat,k<=ps.length/\i= .int .i64 k/\Th ps k=true/\Below w.heap.size w wr) (fun i _=>ps.length-(intOf i).toNat)
 case atStart=>exact ⟨0,Nat.zero_le _,rfl,rfl,Below.refl _ _⟩
 case round=>
  obtain ⟨k,hk,rfl,hst,hb⟩:=hrel
  have Hst:=Z9 hst
  have Hb:=Z9 hb
  clear hst
  by_cases hlt:k<ps.length
  ·rcases uh Hr with h0 | ⟨b,off,rfl,hbw,hcl⟩
   ·rw [h0] at hlt;simp at hlt
   obtain ⟨c0,c1,c2⟩:=Xi hcl hlt
   rw [<-hb.cell (p:=⟨b,off+k*3,none⟩) hbw] at c0
   rw [<-hb.cell (p:=⟨b,off+k*3+1,none⟩) hbw] at c1
   rw [<-hb.cell (p:=⟨b,off+k*3+2,none⟩) hbw] at c2
   generalize hp:Z8 ps k=p at c0 c1 c2
   have Hp:=Z9 hp
   clear hp
   obtain ⟨x0,x1,x2⟩:=p
   simp only at c0 c1 c2
   clear hcl hb
   have hg:XB (x0,x1,x2) k=(inB x0 (-1) ((k:Int)-1) && YU x1 x2):=rfl
   have Hg:=Z9 hg
   clear hg
   cases h1:inB x0 (-1) ((k:Int)-1)
   ·go_wp2_with fail
    go_quiet (first | exact Calls.quiet_of_same (ZX _ _ _ _) | exact Calls.quiet_of_same (Y6 _ _ _))
    go_wp2_with fail
    go_ret
    exact ⟨Z5 (P7 hlt (by rw [uh Hp,uh Hg,h1];rfl)).symm,Yz (uh Hb) _⟩
   cases h2:YU x1 x2
   ·go_wp2_with fail
    go_quiet (first | exact Calls.quiet_of_same (ZX _ _ _ _) | exact Calls.quiet_of_same (Y6 _ _ _))
    go_wp2_with fail
    go_ret
    exact ⟨Z5 (P7 hlt (by rw [uh Hp,uh Hg,h1,h2];rfl)).symm,Yz (uh Hb) _⟩
   ·go_wp2_with fail
    go_quiet (first | exact Calls.quiet_of_same (ZX _ _ _ _) | exact Calls.quiet_of_same (Y6 _ _ _))
    go_wp2_with fail
    go_roundw
    case rel=>exact ⟨k+1,by omega,by go_num,by rw [OR,uh Hst,uh Hp,uh Hg,h1,h2];rfl,Yz (uh Hb) _⟩
    case measure=>simp [intOf];omega
  ·obtain rfl:k=ps.length:=by omega
   by_cases hbig:ps.length<=6
   all_goals
    go_wp2_with fail
    go_ret
    exact ⟨Z5 (by unfold Zd;rw [uh Hst];simp;omega),hb⟩
theorem PE {ps:List ZH} (g:Int) (lo hi:Int)  (h:Y5 w v ps)
  (hB:Calls Tryz.prog 330 #[v,.int .i64 g] w fun e w'=>e= .returned (.tuple #[.int .i64 (bnd ps g).1,.int .i64 (bnd ps g).2])/\Below w.heap.size w w') :
  Calls Tryz.prog 280 #[v,.int .i64 g,.int .i64 lo,.int .i64 hi] w fun e w'=>e= .returned (.tuple #[.int .i64 (Vj (bnd ps g) lo hi).1,.int .i64 (Vj (bnd ps g) lo hi).2])/\Below w.heap.size w w':=by
 have HB:=Z9 hB
 clear hB
 obtain ⟨a,cap,rfl,_⟩:=h
 unfold Vj
 go_enter Tryz.func280,Tryz.ntmps280
 go_wp2_with fail
 refine (uh HB).mono ?_
 rintro e w1 ⟨rfl,hb1⟩
 go_wp2_with (go_at_call 281;refine (Tz _ _ _ _).mono ?_;rintro e w' ⟨rfl,rfl⟩)
 go_ret2
 exact ⟨rfl,hb1⟩
theorem Lh {ps:List ZH} (hg:Zd ps=true):∀ (n:Nat) (g:Int) {w:World} {v:Value},Y5 w v ps-> -1<=g->g<n->g<ps.length->
  Calls Tryz.prog 330 #[v,.int .i64 g] w fun e w'=>e= .returned (.tuple #[.int .i64 (bnd ps g).1,.int .i64 (bnd ps g).2])/\Below w.heap.size w w':=by
 intro n
 induction n with
 | zero=>
  intro g w v h h0 h1 h2
  obtain rfl:g= -1:=by omega
  rw [QO ps (by omega)]
  obtain ⟨a,cap,rfl,_⟩:=h
  go_enter Tryz.func330,Tryz.ntmps330
  go_wp2_with fail
  go_ret2
  exact ⟨rfl,Below.refl _ _⟩
 | succ n ih=>
  intro g w v h h0 h1 h2
  by_cases hg0:g<0
  ·obtain rfl:g= -1:=by omega
   rw [QO ps (by omega)]
   obtain ⟨a,cap,rfl,_⟩:=h
   go_enter Tryz.func330,Tryz.ntmps330
   go_wp2_with fail
   go_ret2
   exact ⟨rfl,Below.refl _ _⟩
  ·obtain ⟨k,rfl⟩:∃ k:Nat,g=k:=⟨g.toNat,by omega⟩
   have hlt:k<ps.length:=by omega
   obtain ⟨a0,a1,_⟩:=TL hg (g:=(k:Int)) (by omega) h2
   have hs:=IC hg (g:=(k:Int)) (by omega) h2
   rw [show ((k:Int)).toNat=k by omega] at a0 a1 hs
   rw [hs]
   clear hs
   have Hi:=Z9 h
   obtain ⟨a,cap,rfl,hc,hm,hr⟩:=h
   rcases hr with hz | ⟨b,off,rfl,hbw,hcl⟩
   ·rw [hz] at hlt;simp at hlt
   obtain ⟨c0,c1,c2⟩:=Xi hcl hlt
   clear hcl
   generalize hp:Z8 ps k=p at *
   obtain ⟨x0,x1,x2⟩:=p
   simp only at c0 c1 c2 a0 a1
   have k0:=cell_regrown c0
   have k1:=cell_regrown c1
   have k2:=cell_regrown c2
   have ih':=fun (w':World) (h:Y5 w' (.slice (some ⟨b,off,none⟩) ps.length cap) ps)=>PE x0 x1 x2 h (ih x0 h a0 (by omega) (by omega))
   have Ih:=Z9 ih'
   clear ih ih' hp
   go_enter Tryz.func330,Tryz.ntmps330
   go_wp2_with fail
   refine wp_region_quiet_below (by kernel_rfl) (by kernel_rfl) ?_
   repeat (go_big_quiet_step (exact Calls.regrown_of (uh Ih _ ((uh Hi).below (below_regrown _ _ _)))))
   refine wpQuiet_nil ?_
   intro _ hw'
   obtain ⟨⟨dq,osq⟩,hw''⟩:=hw'
   subst hw''
   go_wp2_with fail
   go_ret2
   exact ⟨rfl,below_regrown _ _ _⟩
def Zg (x:Z2):Bool:=
 inB x.1 1 3 && (inB x.2.1 0 7 && (inB x.2.2.1 (-5) 5 && (inB x.2.2.2.1 1 255 && (inB x.2.2.2.2.1 (-1) 5 && (YU x.2.2.2.2.2.1 x.2.2.2.2.2.2.1 && (inB x.2.2.2.2.2.2.2.1 (-1000000000000) 1000000000000 &&
  (inB x.2.2.2.2.2.2.2.2.1 0 (Zr x.2.2.1-1) && (inB x.2.2.2.2.2.2.2.2.2.1 0 1024 && inB x.2.2.2.2.2.2.2.2.2.2 0 100000000000))))))))
def Ru:Z2:=(0,0,0,0,0,0,0,0,0,0,0)
def Ur (x y:Z2):Bool:=x.1 ==y.1 && (x.2.1 ==y.2.1 && (x.2.2.1 ==y.2.2.1 && (x.2.2.2.1 ==y.2.2.2.1 && (x.2.2.2.2.1 ==y.2.2.2.2.1 && (x.2.2.2.2.2.1 ==y.2.2.2.2.2.1 && (x.2.2.2.2.2.2.1 ==y.2.2.2.2.2.2.1 && (x.2.2.2.2.2.2.2.1 ==y.2.2.2.2.2.2.2.1 && (x.2.2.2.2.2.2.2.2.1 ==y.2.2.2.2.2.2.2.2.1 && (x.2.2.2.2.2.2.2.2.2.1 ==y.2.2.2.2.2.2.2.2.2.1 && (x.2.2.2.2.2.2.2.2.2.2 ==y.2.2.2.2.2.2.2.2.2.2))))))))))
theorem GX (x:Z2):Ur x x=true:=by unfold Ur;simp
theorem Dx {x y:Z2} (h:Ur x y=true):x=y:=by
 obtain ⟨x0,x1,x2,x3,x4,x5,x6,x7,x8,x9,x10⟩:=x
 obtain ⟨y0,y1,y2,y3,y4,y5,y6,y7,y8,y9,y10⟩:=y
 unfold Ur at h
 simp only [Bool.and_eq_true,beq_iff_eq] at h
 obtain ⟨rfl,rfl,rfl,rfl,rfl,rfl,rfl,rfl,rfl,rfl,rfl⟩:=h
 rfl
def Wh (x:Z2):Bool:=Ur x Ru
def Zu (x:Z2):Bool:=Wh x || Zg x
theorem Uy (r:Int):0<=Zr r/\Zr r<=3125:=by
 cases h:inB r (-5) 5
 ·rw [Wq h];omega
 ·rcases Dt h with rfl | rfl | rfl | rfl | rfl | rfl | rfl | rfl | rfl | rfl | rfl<;>decide
theorem V5 {r:Int} (h:inB r (-5) 5=true):335<=Zr r:=by
 rcases Dt h with rfl | rfl | rfl | rfl | rfl | rfl | rfl | rfl | rfl | rfl | rfl<;>decide
theorem PQ (r:Int):(Zr r !=0)=inB r (-5) 5:=by
 cases h:inB r (-5) 5
 ·rw [Wq h];rfl
 ·have:=V5 h
  simp;omega
theorem Zk {st be rk my gu lo hi hd ca ut wk:Int} (h:Zg (st,be,rk,my,gu,lo,hi,hd,ca,ut,wk)=true):(1<=st/\st<=3)/\(0<=be/\be<=7)/\inB rk (-5) 5=true/\(1<=my/\my<=255)/\(-1<=gu/\gu<=5)/\YU lo hi=true/\(-1000000000000<=hd/\hd<=1000000000000)/\(0<=ca/\ca<=Zr rk-1)/\(0<=ut/\ut<=1024)/\(0<=wk/\wk<=100000000000):=by
 unfold Zg at h
 simp only [Bool.and_eq_true] at h
 obtain ⟨h0,h1,h2,h3,h4,h5,h6,h7,h8,h9⟩:=h
 exact ⟨ZP h0,ZP h1,h2,ZP h3,ZP h4,h5,ZP h6,ZP h7,ZP h8,ZP h9⟩
theorem Vy {x:Z2} (h:Wh x=true):x=Ru:=Dx h
theorem Gf:Wh Ru=true:=GX _
theorem Ns {x:Z2} (h:x.1 ≠ 0):Wh x=false:=by
 cases hg:Wh x
 ·rfl
 ·exact absurd (show x.1=0 by rw [Vy hg];rfl) h
theorem Ol {x:Z2} (h:x.1=0):Zg x=false:=by
 unfold Zg
 rw [h]
 rfl
def RL (x:Z2) (rank:Int):Z2:=
 (x.1,x.2.1,rank,x.2.2.2.1,x.2.2.2.2.1,x.2.2.2.2.2.1,x.2.2.2.2.2.2.1,x.2.2.2.2.2.2.2.1,x.2.2.2.2.2.2.2.2.1%Zr rank,x.2.2.2.2.2.2.2.2.2.1,x.2.2.2.2.2.2.2.2.2.2)
def ZE (x:Z2) (rank:Int):Z2 × Bool:=
 if Zg x then (if inB rank (-5) 5 then (RL x rank,true) else (x,false)) else (if Wh x then x else Ru,false)
theorem TY {x:Z2} {rank:Int} (h:Zg x=true) (hr:inB rank (-5) 5=true):Zg (RL x rank)=true:=by
 obtain ⟨st,be,rk,my,gu,lo,hi,hd,ca,ut,wk⟩:=x
 have hp:=V5 hr
 have hc:inB (ca%Zr rank) 0 (Zr rank-1)=true:=Zj (Int.emod_nonneg _ (by omega)) (by have:=Int.emod_lt_of_pos ca (show 0<Zr rank by omega);omega)
 unfold Zg at h ⊢
 simp only [Bool.and_eq_true] at h
 obtain ⟨h0,h1,h2,h3,h4,h5,h6,h7,h8,h9⟩:=h
 simp only [RL,h0,h1,h3,h4,h5,h6,h8,h9,hr,hc,Bool.and_self]
theorem UC (s:Int) (w:World):Calls Tryz.prog 214 #[.int .i64 s] w fun e w'=>e= .returned (.bool (inB s 0 255))/\w'=w:=by
 by_cases h1:0<=s
 ·by_cases h2:s<=255
  all_goals
   go_enter Tryz.func214,Tryz.ntmps214
   go_wp2
   go_ret
   exact ⟨Z5 (by first | exact (Zj h1 h2).symm | exact (Xj (by omega)).symm),rfl⟩
 ·go_enter Tryz.func214,Tryz.ntmps214
  go_wp2
  go_ret
  exact ⟨Z5 (Xj (by omega)).symm,rfl⟩
theorem VA (i:Int) (w:World):Calls Tryz.prog 215 #[.int .i64 i] w fun e w'=>e= .returned (.bool (inB i 0 7))/\w'=w:=by
 by_cases h1:0<=i
 ·by_cases h2:i<8
  all_goals
   go_enter Tryz.func215,Tryz.ntmps215
   go_wp2
   go_ret
   exact ⟨Z5 (by first | exact (Zj h1 (by omega)).symm | exact (Xj (by omega)).symm),rfl⟩
 ·go_enter Tryz.func215,Tryz.ntmps215
  go_wp2
  go_ret
  exact ⟨Z5 (Xj (by omega)).symm,rfl⟩
def Xp (s i:Int):Bool:=decide (s / 2 ^ i.toNat%2=1)
def VY (s i:Int):Bool:=inB s 0 255 && inB i 0 7 && Xp s i
theorem CV (n:Int):bits .and .i64 n 1=n%2:=by
 have h1:(BitVec.ofInt 64 1).toNat=2 ^ 1-1:=by decide
 have key:(BitVec.ofInt 64 n &&& BitVec.ofInt 64 1).toNat=(n%((2 ^ 64:Nat):Int)).toNat%2 ^ 1:=by
  rw [BitVec.toNat_and,BitVec.toNat_ofInt,h1,Nat.and_two_pow_sub_one_eq_mod]
 show IntKind.i64.wrap ((BitVec.ofInt 64 n &&& BitVec.ofInt 64 1).toNat:Nat)=n%2
 rw [key,IntKind.wrap_i64]
 omega
theorem CF (s i:Int):(bits .and .i64 (s / 2 ^ i.toNat) 1 ==1)=Xp s i:=by rw [CV];unfold Xp;rfl
theorem Gz {s i:Int} (h:inB s 0 255=false\/inB i 0 7=false):VY s i=false:=by unfold VY;rcases h with h | h<;>simp [h]
theorem Dd {s i:Int} (hs:inB s 0 255=true) (hi:inB i 0 7=true):VY s i=Xp s i:=by unfold VY;simp [hs,hi]
theorem Mb (s i:Int) (w:World) (hs:0<=s) (hs2:s<=255) (hi:0<=i) (hi2:i<=7):Calls Tryz.prog 78 #[.int .i64 s,.int .i64 i] w fun e w'=>e= .returned (.bool (Xp s i))/\w'=w:=by
 go_enter Tryz.func78,Tryz.ntmps78
 go_wp2
 go_ret
 exact ⟨Z5 (CF s i),rfl⟩
theorem WL (s i:Int) (w:World):Calls Tryz.prog 147 #[.int .i64 s,.int .i64 i] w fun e w'=>e= .returned (.bool (VY s i))/\w'=w:=by
 by_cases hb:inB s 0 255=true
 ·obtain ⟨hs,hs2⟩:=ZP hb
  by_cases hc:inB i 0 7=true
  ·obtain ⟨hi,hi2⟩:=ZP hc
   go_enter Tryz.func147,Tryz.ntmps147
   go_wp2_with (first | (go_at_call 214;refine (UC _ _).mono ?_;rintro e w' ⟨rfl,rfl⟩) | (go_at_call 215;refine (VA _ _).mono ?_;rintro e w' ⟨rfl,rfl⟩))
   go_ret
   exact ⟨Z5 ((CF s i).trans (Dd hb hc).symm),rfl⟩
  ·have hc':inB i 0 7=false:=by simpa using hc
   go_enter Tryz.func147,Tryz.ntmps147
   go_wp2_with (first | (go_at_call 214;refine (UC _ _).mono ?_;rintro e w' ⟨rfl,rfl⟩) | (go_at_call 215;refine (VA _ _).mono ?_;rintro e w' ⟨rfl,rfl⟩))
   go_ret
   exact ⟨Z5 (Gz (.inr hc')).symm,rfl⟩
 ·have hb':inB s 0 255=false:=by simpa using hb
  go_enter Tryz.func147,Tryz.ntmps147
  go_wp2_with (first | (go_at_call 214;refine (UC _ _).mono ?_;rintro e w' ⟨rfl,rfl⟩) | (go_at_call 215;refine (VA _ _).mono ?_;rintro e w' ⟨rfl,rfl⟩))
  go_ret
  exact ⟨Z5 (Gz (.inl hb')).symm,rfl⟩
end Go.Proofs.YtjhijildaceadaaGreatDoor
