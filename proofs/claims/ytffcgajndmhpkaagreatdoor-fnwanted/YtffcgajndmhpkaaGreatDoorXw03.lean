/- Part 3 of what the proof rests on. No condition but those that a theorem names. -/
import Derived.Test.YtffcgajndmhpkaaGreatDoorXw02
import Derived.Deep.RegionWith
set_option maxHeartbeats 8000000
set_option maxRecDepth 100000
namespace Go.Proofs.YtffcgajndmhpkaaGreatDoor
open Go.ChangeShapes Go.WideShapes Go.ChangeAt Go.RowKit Go.Sort
set_option linter.unusedVariables false
variable {w w' w0 w1 w2 w3 w₀ wr W W' X A B C : World} {v v0 v1 v2 v3 v4 u u0 u1 u2 u3 u4 : Value}
structure Z4 where
 rooms:List Z2
 guilds:List ZF
 smiths:List Z3
 desks:List Yq
 paces:List Int
 now:Int
structure Smy (w:World) (v0 v1 v2 v3 v4:Value) (m:Z4):Prop where
 rooms:IsRooms w v0 m.rooms
 guilds:Yg w v1 m.guilds
 smiths:Wu w v2 m.smiths
 desks:Vy w v3 m.desks
 paces:Qg w v4 m.paces
theorem Smy.below  {m:Z4} (h:Smy w v0 v1 v2 v3 v4 m) (hb:Below w.heap.size w w'):Smy w' v0 v1 v2 v3 v4 m:=
 ⟨h.rooms.below hb,h.guilds.below hb,h.smiths.below hb,h.desks.below hb,h.paces.below hb⟩
theorem Smy.alloc  {m:Z4} (h:Smy w v0 v1 v2 v3 v4 m) (o:Obj):Smy (w.alloc o) v0 v1 v2 v3 v4 m:=h.below ((ba _ _))
theorem RecAt.set_old {α:Type} {t k:Nat} {enc:α->List Value} {n₀:Nat}  {xs:List α} (h:RecAt t k enc n₀ w v xs) (g o:Nat) (u:Value) (hg:g<n₀):RecAt t k enc n₀ (w.setCell ⟨g,o,none⟩ u) v xs:=
 h.same fun i hi=>heap_setCell_other w _ i u (by have:=(h.lt hi).1;show i ≠ g;omega)
abbrev E6:Array Value:=#[.slice none 0 0,.slice none 0 0,.slice none 0 0,.slice none 0 0,.slice none 0 0,.int .i64 0]
abbrev S6 (a0:Option Addr) (p0:Nat) (a1:Option Addr) (p1:Nat) (a2:Option Addr) (p2:Nat) (a3:Option Addr) (p3:Nat) (a4:Option Addr) (p4:Nat) (m:Z4):Array Value:=#[.slice a0 m.rooms.length p0,.slice a1 m.guilds.length p1,.slice a2 m.smiths.length p2,.slice a3 m.desks.length p3,.slice a4 m.paces.length p4,.int .i64 m.now]
theorem Smy.five  {m:Z4} (h:Smy w v0 v1 v2 v3 v4 m):∃ a0 p0 a1 p1 a2 p2 a3 p3 a4 p4,v0= .slice a0 m.rooms.length p0/\v1= .slice a1 m.guilds.length p1/\v2= .slice a2 m.smiths.length p2/\v3= .slice a3 m.desks.length p3/\v4= .slice a4 m.paces.length p4/\m.rooms.length<=p0/\p0<=9223372036854775807/\m.guilds.length<=p1/\p1<=9223372036854775807/\m.smiths.length<=p2/\p2<=9223372036854775807/\m.desks.length<=p3/\p3<=9223372036854775807/\m.paces.length<=p4/\p4<=9223372036854775807:=by
 obtain ⟨a0,p0,e0,x0,y0,_⟩:=h.rooms
 obtain ⟨a1,p1,e1,x1,y1,_⟩:=h.guilds
 obtain ⟨a2,p2,e2,x2,y2,_⟩:=h.smiths
 obtain ⟨a3,p3,e3,x3,y3,_⟩:=h.desks
 obtain ⟨a4,p4,e4,x4,y4,_⟩:=h.paces
 exact ⟨a0,p0,a1,p1,a2,p2,a3,p3,a4,p4,e0,e1,e2,e3,e4,x0,y0,x1,y1,x2,y2,x3,y3,x4,y4⟩
open Go.ChangeShapes Go.WideShapes Go.ChangeAt Go.RowKit
def Wm (k:Nat):Int:=[1024,819,655,524,419,335].getD k 0
def VQ (k:Nat):Int:=[1024,1280,1600,2000,2500,3125].getD k 0
def Zx (r:Int):Int:=if inB r (-5) 5 then (if 0<=r then Wm r.toNat else VQ (-r).toNat) else 0
theorem G7:∀ k:Fin 5,Wm (k.val+1)=Wm k.val*4 / 5/\0<=Wm k.val/\Wm k.val<=1024:=by decide
theorem GL:∀ k:Fin 5,VQ (k.val+1)=VQ k.val*5 / 4/\0<=VQ k.val/\VQ k.val<=3125:=by decide
theorem JS {k:Nat} (h:k<5):Wm (k+1)=Wm k*4 / 5/\0<=Wm k/\Wm k<=1024:=G7 ⟨k,h⟩
theorem JG {k:Nat} (h:k<5):VQ (k+1)=VQ k*5 / 4/\0<=VQ k/\VQ k<=3125:=GL ⟨k,h⟩
theorem DK {r:Int} (h:inB r (-5) 5=true):r= -5\/r= -4\/r= -3\/r= -2\/r= -1\/r=0\/r=1\/r=2\/r=3\/r=4\/r=5:=by
 have:=ZU h
 omega
theorem WE {r:Int} (h:inB r (-5) 5=false):Zx r=0:=by unfold Zx;simp [h]
theorem IU {r:Int} (h:inB r (-5) 5=true) (h0:0<=r):Zx r=Wm r.toNat:=by unfold Zx;simp [h,h0]
theorem Ma {r:Int} (h:inB r (-5) 5=true) (h0:¬ 0<=r):Zx r=VQ (-r).toNat:=by unfold Zx;simp [h,h0]
theorem Zc (x:Int) (w:World):Calls Tryz.prog 159 #[.int .i64 x] w fun e w'=>e= .returned (.bool (inB x (-5) 5))/\w'=w:=by
 go_enter Tryz.func159,Tryz.ntmps159
 go_wp2_with (go_at_call 40;refine (ZZ _ _ _ _).mono ?_;rintro e w' ⟨rfl,rfl⟩)
 go_ret
 exact ⟨rfl,rfl⟩
theorem QV (r:Int) (w:World):Calls Tryz.prog 102 #[.int .i64 r] w fun e w'=>e= .returned (.int .i64 (Zx r))/\w'=w:=by
 cases hb:inB r (-5) 5
 ·rw [WE hb]
  go_enter Tryz.func102,Tryz.ntmps102
  go_wp2_with (go_at_call 159;refine (Zc _ _).mono ?_;rintro e w' ⟨rfl,rfl⟩)
  go_ret
  exact ⟨rfl,rfl⟩
 ·obtain ⟨r0,r1⟩:=ZU hb
  by_cases h0:0<=r
  ·rw [IU hb h0]
   obtain ⟨n,rfl⟩:=Int.eq_ofNat_of_zero_le h0
   rw [Int.toNat_natCast]
   go_enter Tryz.func102,Tryz.ntmps102
   go_wp2_with (go_at_call 159;refine (Zc _ _).mono ?_;rintro e w' ⟨rfl,rfl⟩)
   go_loop [0,3] (fun i s=> ∃ k:Nat,k<=n/\i= .int .i64 ((n:Int)-k)/\s= .int .i64 (Wm k)) (fun i _=>(intOf i).toNat)
   case atStart=>exact ⟨0,Nat.zero_le _,by simp,rfl⟩
   case round=>
    obtain ⟨k,hk,rfl,rfl⟩:=hrel
    by_cases hlt:k<n
    ·obtain ⟨hs,f1,f2⟩:=JS (k:=k) (by omega)
     have Hs:=Z9 hs
     clear hs
     generalize Wm k=z at *
     go_wp2_with fail
     go_round
     case rel=>exact ⟨k+1,by omega,by go_num,by rw [uh Hs]⟩
     case measure=>exact ms
    ·obtain rfl:k=n:=by omega
     go_wp2_with fail
     go_loop [0,3] (fun i s=>i= .int .i64 0/\s= .int .i64 (Wm k)) (fun _ _=>0)
     case atStart=>exact ⟨by simp,rfl⟩
     case round=>
      obtain ⟨rfl,rfl⟩:=hrel
      go_wp2_with fail
      go_ret
      exact ⟨rfl,rfl⟩
  ·rw [Ma hb h0]
   obtain ⟨n,hn⟩:=Int.eq_ofNat_of_zero_le (show 0<= -r by omega)
   obtain rfl:r= -(n:Int):=by omega
   rw [show (-(-(n:Int))).toNat=n by omega]
   clear hn
   go_enter Tryz.func102,Tryz.ntmps102
   go_wp2_with (go_at_call 159;refine (Zc _ _).mono ?_;rintro e w' ⟨rfl,rfl⟩)
   go_loop [0,3] (fun i s=>i= .int .i64 (-(n:Int))/\s= .int .i64 1024) (fun _ _=>0)
   case atStart=>exact ⟨rfl,rfl⟩
   case round=>
    obtain ⟨rfl,rfl⟩:=hrel
    go_wp2_with fail
    go_loop [0,3] (fun i s=> ∃ k:Nat,k<=n/\i= .int .i64 ((k:Int)-n)/\s= .int .i64 (VQ k)) (fun i _=>(-(intOf i)).toNat)
    case atStart=>exact ⟨0,Nat.zero_le _,by simp,rfl⟩
    case round=>
     obtain ⟨k,hk,rfl,rfl⟩:=hrel
     by_cases hlt:k<n
     ·obtain ⟨hs,f1,f2⟩:=JG (k:=k) (by omega)
      have Hs:=Z9 hs
      clear hs
      generalize VQ k=z at *
      go_wp2_with fail
      go_round
      case rel=>exact ⟨k+1,by omega,by go_num,by rw [uh Hs]⟩
      case measure=>exact ms
     ·obtain rfl:k=n:=by omega
      go_wp2_with fail
      go_ret
      exact ⟨rfl,rfl⟩
theorem JF {x y:Int} (h0:0<=x) (h1:x<=100000) (h:x*5 / 4=y) (w:World):Calls Tryz.prog 294 #[.int .i64 x] w fun e w'=>e= .returned (.int .i64 y)/\w'=w:=by
 subst h
 go_enter Tryz.func294,Tryz.ntmps294
 go_wp2
 go_ret
 exact ⟨rfl,rfl⟩
theorem JT {x y:Int} (h0:0<=x) (h1:x<=100000) (h:x*4 / 5=y) (w:World):Calls Tryz.prog 295 #[.int .i64 x] w fun e w'=>e= .returned (.int .i64 y)/\w'=w:=by
 subst h
 go_enter Tryz.func295,Tryz.ntmps295
 go_wp2
 go_ret
 exact ⟨rfl,rfl⟩
theorem Qv (r:Int) (w:World):Calls Tryz.prog 262 #[.int .i64 r] w fun e w'=>e= .returned (.int .i64 (Zx r))/\w'=w:=by
 cases hb:inB r (-5) 5
 ·rw [WE hb]
  have hr:r < -5\/5<r:=by
   by_cases h1 : -5<=r
   ·by_cases h2:r<=5
    ·rw [Zv h1 h2] at hb;cases hb
    ·omega
   ·omega
  have e1:¬ r= -5:=by omega
  have e2:¬ r= -4:=by omega
  have e3:¬ r= -3:=by omega
  have e4:¬ r= -2:=by omega
  have e5:¬ r= -1:=by omega
  have e6:¬ r=0:=by omega
  have e7:¬ r=5:=by omega
  have e8:¬ r=4:=by omega
  have e9:¬ r=3:=by omega
  have e10:¬ r=2:=by omega
  have e11:¬ r=1:=by omega
  clear hb hr
  go_enter Tryz.func262,Tryz.ntmps262
  go_wp2_with fail
  go_ret
  exact ⟨rfl,rfl⟩
 ·rcases DK hb with rfl | rfl | rfl | rfl | rfl | rfl | rfl | rfl | rfl | rfl | rfl
  all_goals
   clear hb
   go_enter Tryz.func262,Tryz.ntmps262
   go_wp2_with (first
    | (go_at_call 294;refine (JF (by decide) (by decide) rfl _).mono ?_;rintro e w' ⟨rfl,rfl⟩)
    | (go_at_call 295;refine (JT (by decide) (by decide) rfl _).mono ?_;rintro e w' ⟨rfl,rfl⟩))
   go_ret
   exact ⟨rfl,rfl⟩
def Xg (work weight carry:Int):Bool:=inB work 0 1000000000 && (inB weight 1 100000 && inB carry 0 (weight-1))
def TZ (work weight carry:Int):Int:=if Xg work weight carry then (1024*work+carry) / weight else -1
def TY (work weight carry:Int):Int:=if Xg work weight carry then (1024*work+carry)%weight else 0
theorem EY {a b c:Int} (ha:inB a 0 1000000000=true) (hb:inB b 1 100000=true) (hc:inB c 0 (b-1)=true):Xg a b c=true:=by unfold Xg;simp [ha,hb,hc]
theorem Ic {a b c:Int} (h:Xg a b c=true):0<=a/\a<=1000000000/\1<=b/\b<=100000/\0<=c/\c<b:=by
 unfold Xg at h
 simp only [Bool.and_eq_true] at h
 obtain ⟨h1,h2,h3⟩:=h
 have:=ZU h1
 have:=ZU h2
 have:=ZU h3
 omega
theorem Ib {a b c:Int} (a0:0<=a) (a1:a<=1000000000) (b0:1<=b) (b1:b<=100000) (c0:0<=c) (c1:c<b):Xg a b c=true:=EY (Zv a0 a1) (Zv b0 b1) (Zv c0 (by omega))
theorem MI {a b c:Int} (h:Xg a b c=true):TZ a b c=(1024*a+c) / b/\TY a b c=(1024*a+c)%b:=by unfold TZ TY;simp [h]
def YG (lo hi:Int):Bool:=inB lo 0 1024 && inB hi 0 1024 && decide (lo<=hi)
theorem DD {lo hi:Int} (h:YG lo hi=true):0<=lo/\lo<=1024/\0<=hi/\hi<=1024/\lo<=hi:=by
 unfold YG at h
 simp only [Bool.and_eq_true,decide_eq_true_eq] at h
 obtain ⟨⟨h1,h2⟩,h3⟩:=h
 exact ⟨(ZU h1).1,(ZU h1).2,(ZU h2).1,(ZU h2).2,h3⟩
def XQ (g:ZF) (n:Int):Bool:=inB g.1 (-1) (n-1) && YG g.2.1 g.2.2
theorem Mk {g:ZF} {n:Int} (h:XQ g n=true) : -1<=g.1/\g.1<=n-1/\YG g.2.1 g.2.2=true:=by
 unfold XQ at h
 simp only [Bool.and_eq_true] at h
 exact ⟨(ZU h.1).1,(ZU h.1).2,h.2⟩
def UY (ps:List ZF) (k:Nat):Bool:=(List.range k).all fun i=>XQ (Z8 ps i) i
theorem RZ (ps:List ZF) (k:Nat):UY ps (k+1)=(UY ps k && XQ (Z8 ps k) k):=by unfold UY;rw [List.range_succ,List.all_append];simp
theorem CO {ps:List ZF} {k n:Nat} (hk:k<n) (h:XQ (Z8 ps k) k=false):UY ps n=false:=by
 unfold UY
 rw [List.all_eq_false]
 exact ⟨k,List.mem_range.2 hk,by simp [h]⟩
theorem KO {ps:List ZF} {k n:Nat} (h:UY ps n=true) (hk:k<n):XQ (Z8 ps k) k=true:=by
 unfold UY at h
 exact List.all_eq_true.1 h k (List.mem_range.2 hk)
def Zw (ps:List ZF):Bool:=UY ps ps.length && decide (ps.length<=6)
theorem Wj {ps:List ZF} (h:Zw ps=true):UY ps ps.length=true/\ps.length<=6:=by
 unfold Zw at h
 simpa using h
theorem Qs {ps:List ZF} {k:Nat} (hk:k<ps.length) (h:XQ (Z8 ps k) k=false):Zw ps=false:=by unfold Zw;rw [CO hk h];rfl
theorem Lz {ps:List ZF} (h:6<ps.length):Zw ps=false:=by unfold Zw;simp;omega
theorem TJ {ps:List ZF} (h:Zw ps=true) {g:Int} (h0:0<=g) (h1:g<ps.length) : -1<=(Z8 ps g.toNat).1/\(Z8 ps g.toNat).1<=g-1/\YG (Z8 ps g.toNat).2.1 (Z8 ps g.toNat).2.2=true:=by
 have:=Mk (KO (Wj h).1 (k:=g.toNat) (by omega))
 rw [show ((g.toNat:Nat):Int)=g by omega] at this
 exact this
def VE (b:Int × Int) (lo hi:Int):Int × Int:=(min (max lo b.1) b.2,min (max hi (min (max lo b.1) b.2)) b.2)
def Ql (ps:List ZF):Nat->Int->Int × Int
 | 0,_=>(0,1024)
 | n+1,g=>if g<0 then (0,1024) else VE (Ql ps n (Z8 ps g.toNat).1) (Z8 ps g.toNat).2.1 (Z8 ps g.toNat).2.2
def bnd (ps:List ZF) (g:Int):Int × Int:=Ql ps (g+1).toNat g
theorem Ga {b:Int × Int} {lo hi:Int} (h0:0<=b.1) (h1:b.1<=b.2) (h2:b.2<=1024):b.1<=(VE b lo hi).1/\(VE b lo hi).1<=(VE b lo hi).2/\(VE b lo hi).2<=b.2:=by
 unfold VE
 refine ⟨?_,?_,?_⟩<;>simp only<;>omega
theorem FG (ps:List ZF):∀ (n:Nat) (g:Int),0<=(Ql ps n g).1/\(Ql ps n g).1<=(Ql ps n g).2/\(Ql ps n g).2<=1024
 | 0,g=>by unfold Ql;simp
 | n+1,g=>by
  unfold Ql
  split
  ·simp
  ·obtain ⟨h0,h1,h2⟩:=FG ps n (Z8 ps g.toNat).1
   obtain ⟨h3,h4,h5⟩:=Ga (lo:=(Z8 ps g.toNat).2.1) (hi:=(Z8 ps g.toNat).2.2) h0 h1 h2
   exact ⟨by omega,h4,by omega⟩
theorem Bt (ps:List ZF) (g:Int):0<=(bnd ps g).1/\(bnd ps g).1<=(bnd ps g).2/\(bnd ps g).2<=1024:=FG ps _ g
theorem Me {ps:List ZF} (h:Zw ps=true):∀ (n m:Nat) (g:Int),g<n->g<m->g<ps.length->Ql ps n g=Ql ps m g
 | 0,0,g,_,_,_=>rfl
 | 0,m+1,g,h1,h2,h3=>by unfold Ql;rw [if_pos (by omega)]
 | n+1,0,g,h1,h2,h3=>by unfold Ql;rw [if_pos (by omega)]
 | n+1,m+1,g,h1,h2,h3=>by
  unfold Ql
  by_cases h0:g<0
  ·rw [if_pos h0,if_pos h0]
  ·rw [if_neg h0,if_neg h0]
   obtain ⟨a0,a1,_⟩:=TJ h (g:=g) (by omega) h3
   rw [Me h n m (Z8 ps g.toNat).1 (by omega) (by omega) (by omega)]
theorem Q9 (ps:List ZF) {g:Int} (h:g<0):bnd ps g=(0,1024):=by
 unfold bnd
 rw [show (g+1).toNat=0 by omega];rfl
theorem I9 {ps:List ZF} (h:Zw ps=true) {g:Int} (h0:0<=g) (h1:g<ps.length):bnd ps g=VE (bnd ps (Z8 ps g.toNat).1) (Z8 ps g.toNat).2.1 (Z8 ps g.toNat).2.2:=by
 obtain ⟨a0,a1,_⟩:=TJ h h0 h1
 unfold bnd
 rw [show (g+1).toNat=g.toNat+1 by omega]
 show (if g<0 then (0,1024) else _)=_
 rw [if_neg (by omega),Me h g.toNat ((Z8 ps g.toNat).1+1).toNat _ (by omega) (by omega) (by omega)]
def isB (ps:List ZF) (g:Int):Bool:=Zw ps && inB g (-1) ((ps.length:Int)-1)
def Ub (ps:List ZF) (g lo hi:Int):Int × Int:=if isB ps g && YG lo hi then VE (bnd ps g) lo hi else (-1,-1)
theorem MY {ps:List ZF} {g lo hi:Int} (h:(isB ps g && YG lo hi)=false):Ub ps g lo hi=(-1,-1):=by unfold Ub;rw [h];rfl
theorem MZ {ps:List ZF} {g lo hi:Int} (h:isB ps g=true) (h':YG lo hi=true):Ub ps g lo hi=VE (bnd ps g) lo hi:=by unfold Ub;rw [h,h'];rfl
theorem Cz {lo hi:Int} (h0:0<=lo) (h1:lo<=hi) (h2:hi<=1024):YG lo hi=true:=by unfold YG;rw [Zv h0 (by omega),Zv (by omega) h2];simp;omega
theorem LQ {lo hi:Int} (h:lo<0\/hi<lo\/1024<hi):YG lo hi=false:=by
 cases e:YG lo hi
 ·rfl
 ·have:=DD e;omega
theorem UG (lo hi:Int) (w:World):Calls Tryz.prog 269 #[.int .i64 lo,.int .i64 hi] w fun e w'=>e= .returned (.bool (YG lo hi))/\w'=w:=by
 by_cases h1:0<=lo
 ·by_cases h2:lo<=hi
  ·by_cases h3:hi<=1024
   all_goals
    go_enter Tryz.func269,Tryz.ntmps269
    go_wp2
    go_ret
    exact ⟨Z5 (by first | exact (Cz h1 h2 h3).symm | exact (LQ (by omega)).symm),rfl⟩
  ·go_enter Tryz.func269,Tryz.ntmps269
   go_wp2
   go_ret
   exact ⟨Z5 (LQ (by omega)).symm,rfl⟩
 ·go_enter Tryz.func269,Tryz.ntmps269
  go_wp2
  go_ret
  exact ⟨Z5 (LQ (by omega)).symm,rfl⟩
theorem SN (a lo hi n:Int) (w:World):Calls Tryz.prog 213 #[.agg #[.int .i64 a,.int .i64 lo,.int .i64 hi],.int .i64 n] w fun e w'=>e= .returned (.bool (XQ (a,lo,hi) n))/\Below w.heap.size w w':=by
 by_cases h1 : -1<=a
 ·by_cases h2:a<n
  ·have hg:XQ (a,lo,hi) n=YG lo hi:=by unfold XQ;rw [Zv h1 (by omega)];rfl
   rw [hg];clear hg
   go_enter Tryz.func213,Tryz.ntmps213
   go_wp2_with (go_at_call 269;refine (UG _ _ _).mono ?_;rintro e w' ⟨rfl,rfl⟩)
   go_ret
   exact ⟨rfl,(ba _ _)⟩
  ·have hg:XQ (a,lo,hi) n=false:=by unfold XQ;rw [U7 (.inr (by omega))];rfl
   rw [hg];clear hg
   go_enter Tryz.func213,Tryz.ntmps213
   go_wp2_with fail
   go_ret
   exact ⟨rfl,(ba _ _)⟩
 ·have hg:XQ (a,lo,hi) n=false:=by unfold XQ;rw [U7 (.inl (by omega))];rfl
  rw [hg];clear hg
  go_enter Tryz.func213,Tryz.ntmps213
  go_wp2_with fail
  go_ret
  exact ⟨rfl,(ba _ _)⟩
theorem Xd  {ps:List ZF} (h:Yg w v ps) :
  Calls Tryz.prog 165 #[v] w fun e w'=>e= .returned (.bool (Zw ps))/\Below w.heap.size w w':=by
 obtain ⟨a,cap,rfl,hc,hm,hr⟩:=h
 have Hr:=Z9 hr
 clear hr
 by_cases hbig:6<ps.length
 ·go_enter Tryz.func165,Tryz.ntmps165
  go_wp2_with fail
  go_ret
  exact ⟨Z5 (Lz hbig).symm,Below.refl _ _⟩
 go_enter Tryz.func165,Tryz.ntmps165
 go_wp2_with fail
 go_loopw [10] (fun i wr=> ∃ k:Nat,k<=ps.length/\i= .int .i64 k/\UY ps k=true/\Below w.heap.size w wr) (fun i _=>ps.length-(intOf i).toNat)
 case atStart=>exact ⟨0,Nat.zero_le _,rfl,rfl,Below.refl _ _⟩
 case round=>
  obtain ⟨k,hk,rfl,hst,hb⟩:=hrel
  have Hst:=Z9 hst
  have Hb:=Z9 hb
  clear hst
  by_cases hlt:k<ps.length
  ·rcases uh Hr with h0 | ⟨b,off,rfl,hbw,hcl⟩
   ·rw [h0] at hlt;simp at hlt
   have hbr:b<wr.heap.size:=Nat.lt_of_lt_of_le hbw hb.size
   obtain ⟨c0,c1,c2⟩:=WH hcl hlt
   rw [<-hb.cell (p:=⟨b,off+k*3,none⟩) hbw] at c0
   rw [<-hb.cell (p:=⟨b,off+k*3+1,none⟩) hbw] at c1
   rw [<-hb.cell (p:=⟨b,off+k*3+2,none⟩) hbw] at c2
   generalize hp:Z8 ps k=p at c0 c1 c2
   have Hp:=Z9 hp
   clear hp
   obtain ⟨x0,x1,x2⟩:=p
   simp only at c0 c1 c2
   have hsz:=hb.size
   clear hcl hb
   go_wp2_with fail
   refine ck (SN _ _ _ _ _) fun w1 hb1=> ?_
   have Hb1:=Z9 ((uh Hb).trans (((Below.refl _ _).alloc hsz _).trans (hb1.mono (by simp;omega))))
   clear hb1
   cases hg:XQ (x0,x1,x2) k
   ·go_wp2_with fail
    go_ret
    exact ⟨Z5 (Qs hlt (by rw [uh Hp];exact hg)).symm,uh Hb1⟩
   ·go_wp2_with fail
    go_roundw
    case rel=>exact ⟨k+1,by omega,by go_num,by rw [RZ,uh Hst,uh Hp,hg];rfl,uh Hb1⟩
    case measure=>exact ms
  ·obtain rfl:k=ps.length:=by omega
   go_wp2_with fail
   go_ret
   exact ⟨Z5 (by unfold Zw;rw [uh Hst];simp;omega),hb⟩
theorem Ro (a lo hi l h:Int) (w:World):Calls Tryz.prog 298 #[.agg #[.int .i64 a,.int .i64 lo,.int .i64 hi],.int .i64 l,.int .i64 h] w
  fun e w'=>e= .returned (.tuple #[.int .i64 (VE (lo,hi) l h).1,.int .i64 (VE (lo,hi) l h).2])/\Below w.heap.size w w':=by
 unfold VE
 go_enter Tryz.func298,Tryz.ntmps298
 go_wp2_with (go_at_call 258;refine (VR _ _ _ _).mono ?_;rintro e w' ⟨rfl,rfl⟩)
 go_ret2
 exact ⟨rfl,(ba _ _)⟩
theorem Kz (a lo hi a' l h:Int) (w:World):Calls Tryz.prog 315 #[.agg #[.int .i64 a,.int .i64 lo,.int .i64 hi,.int .i64 a',.int .i64 l,.int .i64 h]] w
  fun e w'=>e= .returned (.agg #[.int .i64 a',.int .i64 (VE (lo,hi) l h).1,.int .i64 (VE (lo,hi) l h).2])/\Below w.heap.size w w':=by
 go_enter Tryz.func315,Tryz.ntmps315
 go_wp2_with fail
 refine ck (Ro _ _ _ _ _ _) fun w1 hb1=> ?_
 have hz:w.heap.size+1<w1.heap.size:=by have:=hb1.size;simp at this;omega
 have Hb1:=Z9 hb1
 obtain ⟨hc,hf⟩:=NG hb1
 clear hb1
 go_wp2_with fail
 exact bodyPost_ret (v:= .agg #[.int .i64 a',.int .i64 (VE (lo,hi) l h).1,.int .i64 (VE (lo,hi) l h).2]) (by simp [results,Tryz.results315,go_sem,hc]) rfl
  ⟨rfl,((((((ba _ _)).alloc (by simp) _).trans ((uh Hb1).mono (by simp;omega))).setCell (by simp) _).setCell (by simp) _).setCell (by simp) _⟩
theorem Nn {ps:List ZF} (hg:Zw ps=true):∀ (n:Nat) (g:Int) {w:World} {v:Value},Yg w v ps-> -1<=g->g<n->g<ps.length->
  Calls Tryz.prog 297 #[v,.int .i64 g] w fun e w'=> ∃ x,e= .returned (.agg #[.int .i64 x,.int .i64 (bnd ps g).1,.int .i64 (bnd ps g).2])/\Below w.heap.size w w':=by
 intro n
 induction n with
 | zero=>
  intro g w v h h0 h1 h2
  obtain rfl:g= -1:=by omega
  rw [Q9 ps (by omega)]
  obtain ⟨a,cap,rfl,_⟩:=h
  go_enter Tryz.func297,Tryz.ntmps297
  go_wp2_with fail
  exact bodyPost_ret (v:= .agg #[.int .i64 (-1),.int .i64 0,.int .i64 1024]) (by simp [results,Tryz.results297,go_sem]) rfl ⟨-1,rfl,(ba _ _)⟩
 | succ n ih=>
  intro g w v h h0 h1 h2
  by_cases hg0:g= -1
  ·subst hg0
   rw [Q9 ps (by omega)]
   obtain ⟨a,cap,rfl,_⟩:=h
   go_enter Tryz.func297,Tryz.ntmps297
   go_wp2_with fail
   exact bodyPost_ret (v:= .agg #[.int .i64 (-1),.int .i64 0,.int .i64 1024]) (by simp [results,Tryz.results297,go_sem]) rfl ⟨-1,rfl,(ba _ _)⟩
  ·obtain ⟨k,rfl⟩:∃ k:Nat,g=k:=⟨g.toNat,by omega⟩
   have hlt:k<ps.length:=by omega
   obtain ⟨a0,a1,_⟩:=TJ hg (g:=(k:Int)) (by omega) h2
   have hs:=I9 hg (g:=(k:Int)) (by omega) h2
   rw [show ((k:Int)).toNat=k by omega] at a0 a1 hs
   rw [hs]
   clear hs
   have Hi:=Z9 h
   obtain ⟨a,cap,rfl,hc,hm,hr⟩:=h
   rcases hr with hz | ⟨b,off,rfl,hbw,hcl⟩
   ·rw [hz] at hlt;simp at hlt
   obtain ⟨c0,c1,c2⟩:=WH hcl hlt
   clear hcl
   generalize hW:w.alloc (.cells #[.int .i64 0,.int .i64 0,.int .i64 0] 88)=W
   have HB:Hid (Below w.heap.size w W):=Z9 (by rw [<-hW];exact (ba _ _))
   have hsz:w.heap.size<W.heap.size:=by rw [<-hW];simp
   have hbW:b<W.heap.size:=by omega
   rw [<-(uh HB).cell (p:=⟨b,off+k*3,none⟩) hbw] at c0
   rw [<-(uh HB).cell (p:=⟨b,off+k*3+1,none⟩) hbw] at c1
   rw [<-(uh HB).cell (p:=⟨b,off+k*3+2,none⟩) hbw] at c2
   have D:Hid ((∃ u,W.cell? ⟨w.heap.size,0,none⟩=some u)/\(∃ u,W.cell? ⟨w.heap.size,1,none⟩=some u)/\(∃ u,W.cell? ⟨w.heap.size,2,none⟩=some u)/\W.frozen? ⟨w.heap.size,0,none⟩=false/\W.frozen? ⟨w.heap.size,1,none⟩=false/\W.frozen? ⟨w.heap.size,2,none⟩=false):=
    Z9 (by rw [<-hW];exact ⟨⟨_,by simp;rfl⟩,⟨_,by simp;rfl⟩,⟨_,by simp;rfl⟩,by simp,by simp,by simp⟩)
   have HW:=Z9 hW
   clear hW
   have Hc:=Z9 (And.intro c0 (And.intro c1 c2))
   generalize hp:Z8 ps k=p at *
   obtain ⟨x0,x1,x2⟩:=p
   simp only at c0 c1 c2 a0 a1
   have ih':=fun (w:World) (v:Value) (h:Yg w v ps)=>ih x0 h a0 (by omega) (by omega)
   have Ih:=Z9 ih'
   clear ih ih' hp
   go_enter Tryz.func297,Tryz.ntmps297
   go_wp2_with fail
   rw [uh HW]
   go_region_with (first
    | (go_at_call 297;refine (uh Ih _ _ ?_).mono ?_;(first | exact (uh Hi).below (uh HB) | exact ((uh Hi).below (uh HB)).below ((Below.refl _ _).drew));rintro e w1 ⟨y,rfl,hb1⟩;have B1:Hid (Below W.heap.size W w1):=Z9 (by first | exact hb1 | exact ((Below.refl _ _).drew).trans (hb1.mono (by simp)));have e0:=((uh B1).cell (p:=⟨b,off+k*3,none⟩) hbW).trans (uh Hc).1;have e1:=((uh B1).cell (p:=⟨b,off+k*3+1,none⟩) hbW).trans (uh Hc).2.1;have e2:=((uh B1).cell (p:=⟨b,off+k*3+2,none⟩) hbW).trans (uh Hc).2.2;clear hb1)
    | (go_at_call 315;refine (Kz _ _ _ _ _ _ _).mono ?_;rintro e w2 ⟨rfl,hb2⟩;have B2:Hid (Below W.heap.size W w2):=Z9 ((uh B1).trans (hb2.mono (uh B1).size));obtain ⟨⟨u0,q0⟩,⟨u1,q1⟩,⟨u2,q2⟩,f0,f1,f2⟩:=uh D;have d0:=((uh B2).cell (p:=⟨w.heap.size,0,none⟩) hsz).trans q0;have d1:=((uh B2).cell (p:=⟨w.heap.size,1,none⟩) hsz).trans q1;have d2:=((uh B2).cell (p:=⟨w.heap.size,2,none⟩) hsz).trans q2;have z0:=((uh B2).frozen (p:=⟨w.heap.size,0,none⟩) hsz).trans f0;have z1:=((uh B2).frozen (p:=⟨w.heap.size,1,none⟩) hsz).trans f1;have z2:=((uh B2).frozen (p:=⟨w.heap.size,2,none⟩) hsz).trans f2;clear hb2 q0 q1 q2 f0 f1 f2))
   all_goals
    go_wp2_with fail
    exact bodyPost_ret (v:= .agg #[.int .i64 x0,.int .i64 (VE (bnd ps x0) x1 x2).1,.int .i64 (VE (bnd ps x0) x1 x2).2]) (by simp [results,Tryz.results297,go_sem,d0,d1,d2]) rfl
     ⟨x0,rfl,((((uh HB).trans ((uh B2).mono (by omega))).setCell (Nat.le_refl _) _).setCell (Nat.le_refl _) _).setCell (Nat.le_refl _) _⟩
theorem Oh  {ps:List ZF} (g lo hi:Int) (h:Yg w v ps) :
  Calls Tryz.prog 273 #[v,.int .i64 g,.int .i64 lo,.int .i64 hi] w fun e w'=>e= .returned (.tuple #[.int .i64 (Ub ps g lo hi).1,.int .i64 (Ub ps g lo hi).2])/\Below w.heap.size w w':=by
 have Hi:=Z9 h
 obtain ⟨a,cap,rfl,hc,hm,hr⟩:=h
 clear hr
 generalize hW:w.alloc (.cells #[.int .i64 g,.int .i64 lo,.int .i64 hi] 88)=W
 have HB:Hid (Below w.heap.size w W):=Z9 (by rw [<-hW];exact (ba _ _))
 have hsz:w.heap.size<W.heap.size:=by rw [<-hW];simp
 have D:Hid (W.cell? ⟨w.heap.size,0,none⟩=some (.int .i64 g)/\W.cell? ⟨w.heap.size,1,none⟩=some (.int .i64 lo)/\W.cell? ⟨w.heap.size,2,none⟩=some (.int .i64 hi)):=Z9 (by rw [<-hW];simp)
 have HW:=Z9 hW
 clear hW
 have hsv:(Zw ps && XQ (g,lo,hi) ps.length)=(isB ps g && YG lo hi):=by unfold XQ isB;rw [Bool.and_assoc]
 cases hG:Zw ps
 ·rw [MY (by rw [<-hsv,hG];rfl)]
  clear hsv
  go_enter Tryz.func273,Tryz.ntmps273
  go_wp2_with fail
  rw [uh HW]
  refine (Xd ((uh Hi).below (uh HB))).mono ?_
  rw [hG]
  rintro e w1 ⟨rfl,hb1⟩
  have B1:=Z9 ((uh HB).trans (hb1.mono (by omega)))
  clear hb1
  go_wp2_with fail
  go_ret2
  exact ⟨rfl,uh B1⟩
 ·cases hQ:XQ (g,lo,hi) ps.length
  ·rw [MY (by rw [<-hsv,hG,hQ];rfl)]
   clear hsv
   go_enter Tryz.func273,Tryz.ntmps273
   go_wp2_with fail
   rw [uh HW]
   refine (Xd ((uh Hi).below (uh HB))).mono ?_
   rw [hG]
   rintro e w1 ⟨rfl,hb1⟩
   have d0:=(hb1.cell (p:=⟨w.heap.size,0,none⟩) hsz).trans (uh D).1
   have d1:=(hb1.cell (p:=⟨w.heap.size,1,none⟩) hsz).trans (uh D).2.1
   have d2:=(hb1.cell (p:=⟨w.heap.size,2,none⟩) hsz).trans (uh D).2.2
   have B1:=Z9 ((uh HB).trans (hb1.mono (by omega)))
   clear hb1
   go_wp2_with fail
   refine (SN _ _ _ _ _).mono ?_
   rw [hQ]
   rintro e w2 ⟨rfl,hb2⟩
   have B2:=Z9 ((uh B1).trans (hb2.mono (uh B1).size))
   clear hb2
   go_wp2_with fail
   go_ret2
   exact ⟨rfl,uh B2⟩
  ·obtain ⟨g0,g1,g2⟩:=Mk hQ
   have hisB:isB ps g=true:=by unfold isB;rw [hG,Zv g0 (by simpa using g1)];rfl
   rw [MZ hisB g2]
   clear hsv hisB
   have hlt:g<ps.length:=by simp only at g1;omega
   simp only at g0
   go_enter Tryz.func273,Tryz.ntmps273
   go_wp2_with fail
   rw [uh HW]
   refine (Xd ((uh Hi).below (uh HB))).mono ?_
   rw [hG]
   rintro e w1 ⟨rfl,hb1⟩
   have d0:=(hb1.cell (p:=⟨w.heap.size,0,none⟩) hsz).trans (uh D).1
   have d1:=(hb1.cell (p:=⟨w.heap.size,1,none⟩) hsz).trans (uh D).2.1
   have d2:=(hb1.cell (p:=⟨w.heap.size,2,none⟩) hsz).trans (uh D).2.2
   have B1:=Z9 ((uh HB).trans (hb1.mono (by omega)))
   clear hb1
   go_wp2_with fail
   refine (SN _ _ _ _ _).mono ?_
   rw [hQ]
   rintro e w2 ⟨rfl,hb2⟩
   have B2:=Z9 ((uh B1).trans (hb2.mono (uh B1).size))
   clear hb2
   go_wp2_with fail
   refine (Nn hG (g+1).toNat g ((uh Hi).below (uh B2)) g0 (by omega) hlt).mono ?_
   rintro e w3 ⟨x,rfl,hb3⟩
   have B3:=Z9 ((uh B2).trans (hb3.mono (uh B2).size))
   clear hb3
   go_wp2_with fail
   refine ck (Ro _ _ _ _ _ _) fun w4 hb4=> ?_
   have B4:=Z9 ((uh B3).trans (hb4.mono (uh B3).size))
   clear hb4
   go_wp2_with fail
   go_ret2
   exact ⟨rfl,uh B4⟩
theorem YP {B:Nat} (h:Below B w w') (n:Nat):Below B w (w'.drewN n):=⟨h.os,h.tape,h.output,h.size,h.block⟩
theorem YD (x:Int) (w:World):Calls Tryz.prog 49 #[.int .i64 x] w fun e w'=>e= .returned (.bool (inB x 0 1024))/\w'=w:=by
 go_enter Tryz.func49,Tryz.ntmps49
 go_wp2_with (go_at_call 40;refine (ZZ _ _ _ _).mono ?_;rintro e w' ⟨rfl,rfl⟩)
 go_ret
 exact ⟨rfl,rfl⟩
theorem Y3 (lo hi:Int) (w:World):Calls Tryz.prog 160 #[.int .i64 lo,.int .i64 hi] w fun e w'=>e= .returned (.bool (YG lo hi))/\w'=w:=by
 cases h1:inB lo 0 1024
 ·have hp:YG lo hi=false:=by unfold YG;rw [h1];rfl
  rw [hp];clear hp
  go_enter Tryz.func160,Tryz.ntmps160
  go_wp2_with (go_at_call 49;refine (YD _ _).mono ?_;rintro e w' ⟨rfl,rfl⟩)
  go_ret
  exact ⟨rfl,rfl⟩
 ·cases h2:inB hi 0 1024
  ·have hp:YG lo hi=false:=by unfold YG;rw [h1,h2];rfl
   rw [hp];clear hp
   go_enter Tryz.func160,Tryz.ntmps160
   go_wp2_with (go_at_call 49;refine (YD _ _).mono ?_;rintro e w' ⟨rfl,rfl⟩)
   go_ret
   exact ⟨rfl,rfl⟩
  ·have hp:YG lo hi=decide (lo<=hi):=by unfold YG;rw [h1,h2];rfl
   rw [hp];clear hp
   by_cases h3:lo<=hi
   all_goals
    go_enter Tryz.func160,Tryz.ntmps160
    go_wp2_with (go_at_call 49;refine (YD _ _).mono ?_;rintro e w' ⟨rfl,rfl⟩)
    go_ret
    exact ⟨Z5 (by first | (simp;done) | (simp;omega)),rfl⟩
theorem QS  {ps:List ZF} (h:Yg w v ps) :
  Calls Tryz.prog 104 #[v] w fun e w'=>e= .returned (.bool (Zw ps))/\Below w.heap.size w w':=by
 obtain ⟨a,cap,rfl,hc,hm,hr⟩:=h
 have Hr:=Z9 hr
 clear hr
 go_enter Tryz.func104,Tryz.ntmps104
 go_wp2_with fail
 go_loopw [3] (fun i wr=> ∃ k:Nat,k<=ps.length/\i= .int .i64 k/\UY ps k=true/\Below w.heap.size w wr) (fun i _=>ps.length-(intOf i).toNat)
 case atStart=>exact ⟨0,Nat.zero_le _,rfl,rfl,Below.refl _ _⟩
 case round=>
  obtain ⟨k,hk,rfl,hst,hb⟩:=hrel
  have Hst:=Z9 hst
  have Hb:=Z9 hb
  clear hst
  by_cases hlt:k<ps.length
  ·rcases uh Hr with h0 | ⟨b,off,rfl,hbw,hcl⟩
   ·rw [h0] at hlt;simp at hlt
   obtain ⟨c0,c1,c2⟩:=WH hcl hlt
   rw [<-hb.cell (p:=⟨b,off+k*3,none⟩) hbw] at c0
   rw [<-hb.cell (p:=⟨b,off+k*3+1,none⟩) hbw] at c1
   rw [<-hb.cell (p:=⟨b,off+k*3+2,none⟩) hbw] at c2
   generalize hp:Z8 ps k=p at c0 c1 c2
   have Hp:=Z9 hp
   clear hp
   obtain ⟨x0,x1,x2⟩:=p
   simp only at c0 c1 c2
   clear hcl hb
   have hg:XQ (x0,x1,x2) k=(inB x0 (-1) ((k:Int)-1) && YG x1 x2):=rfl
   have Hg:=Z9 hg
   clear hg
   cases h1:inB x0 (-1) ((k:Int)-1)
   ·go_wp2_with fail
    go_quiet (first | exact Calls.quiet_of_same (ZZ _ _ _ _) | exact Calls.quiet_of_same (Y3 _ _ _))
    go_wp2_with fail
    go_ret
    exact ⟨Z5 (Qs hlt (by rw [uh Hp,uh Hg,h1];rfl)).symm,YP (uh Hb) _⟩
   cases h2:YG x1 x2
   ·go_wp2_with fail
    go_quiet (first | exact Calls.quiet_of_same (ZZ _ _ _ _) | exact Calls.quiet_of_same (Y3 _ _ _))
    go_wp2_with fail
    go_ret
    exact ⟨Z5 (Qs hlt (by rw [uh Hp,uh Hg,h1,h2];rfl)).symm,YP (uh Hb) _⟩
   ·go_wp2_with fail
    go_quiet (first | exact Calls.quiet_of_same (ZZ _ _ _ _) | exact Calls.quiet_of_same (Y3 _ _ _))
    go_wp2_with fail
    go_roundw
    case rel=>exact ⟨k+1,by omega,by go_num,by rw [RZ,uh Hst,uh Hp,uh Hg,h1,h2];rfl,YP (uh Hb) _⟩
    case measure=>exact ms
  ·obtain rfl:k=ps.length:=by omega
   by_cases hbig:ps.length<=6
   all_goals
    go_wp2_with fail
    go_ret
    exact ⟨Z5 (by unfold Zw;rw [uh Hst];simp;omega),hb⟩
theorem P1 {ps:List ZF} (g:Int) (lo hi:Int)  (h:Yg w v ps)
  (hB:Calls Tryz.prog 236 #[v,.int .i64 g] w fun e w'=>e= .returned (.tuple #[.int .i64 (bnd ps g).1,.int .i64 (bnd ps g).2])/\Below w.heap.size w w') :
  Calls Tryz.prog 188 #[v,.int .i64 g,.int .i64 lo,.int .i64 hi] w fun e w'=>e= .returned (.tuple #[.int .i64 (VE (bnd ps g) lo hi).1,.int .i64 (VE (bnd ps g) lo hi).2])/\Below w.heap.size w w':=by
 have HB:=Z9 hB
 clear hB
 obtain ⟨a,cap,rfl,_⟩:=h
 unfold VE
 go_enter Tryz.func188,Tryz.ntmps188
 go_wp2_with fail
 refine ck (uh HB) fun w1 hb1=> ?_
 go_wp2_with (go_at_call 189;refine (Tx _ _ _ _).mono ?_;rintro e w' ⟨rfl,rfl⟩)
 go_ret2
 exact ⟨rfl,hb1⟩
theorem LH {ps:List ZF} (hg:Zw ps=true):∀ (n:Nat) (g:Int) {w:World} {v:Value},Yg w v ps-> -1<=g->g<n->g<ps.length->
  Calls Tryz.prog 236 #[v,.int .i64 g] w fun e w'=>e= .returned (.tuple #[.int .i64 (bnd ps g).1,.int .i64 (bnd ps g).2])/\Below w.heap.size w w':=by
 intro n
 induction n with
 | zero=>
  intro g w v h h0 h1 h2
  obtain rfl:g= -1:=by omega
  rw [Q9 ps (by omega)]
  obtain ⟨a,cap,rfl,_⟩:=h
  go_enter Tryz.func236,Tryz.ntmps236
  go_wp2_with fail
  go_ret2
  exact ⟨rfl,Below.refl _ _⟩
 | succ n ih=>
  intro g w v h h0 h1 h2
  by_cases hg0:g<0
  ·obtain rfl:g= -1:=by omega
   rw [Q9 ps (by omega)]
   obtain ⟨a,cap,rfl,_⟩:=h
   go_enter Tryz.func236,Tryz.ntmps236
   go_wp2_with fail
   go_ret2
   exact ⟨rfl,Below.refl _ _⟩
  ·obtain ⟨k,rfl⟩:∃ k:Nat,g=k:=⟨g.toNat,by omega⟩
   have hlt:k<ps.length:=by omega
   obtain ⟨a0,a1,_⟩:=TJ hg (g:=(k:Int)) (by omega) h2
   have hs:=I9 hg (g:=(k:Int)) (by omega) h2
   rw [show ((k:Int)).toNat=k by omega] at a0 a1 hs
   rw [hs]
   clear hs
   have Hi:=Z9 h
   obtain ⟨a,cap,rfl,hc,hm,hr⟩:=h
   rcases hr with hz | ⟨b,off,rfl,hbw,hcl⟩
   ·rw [hz] at hlt;simp at hlt
   obtain ⟨c0,c1,c2⟩:=WH hcl hlt
   clear hcl
   generalize hp:Z8 ps k=p at *
   obtain ⟨x0,x1,x2⟩:=p
   simp only at c0 c1 c2 a0 a1
   have k0:=cell_regrown c0
   have k1:=cell_regrown c1
   have k2:=cell_regrown c2
   have ih':=fun (w':World) (h:Yg w' (.slice (some ⟨b,off,none⟩) ps.length cap) ps)=>P1 x0 x1 x2 h (ih x0 h a0 (by omega) (by omega))
   have Ih:=Z9 ih'
   clear ih ih' hp
   go_enter Tryz.func236,Tryz.ntmps236
   go_wp2_with fail
   refine wq ?_
   repeat (go_big_quiet_step (exact Calls.regrown_of (uh Ih _ ((uh Hi).below (below_regrown _ _ _)))))
   refine wpQuiet_nil ?_
   intro _ hw'
   obtain ⟨⟨dq,osq⟩,hw''⟩:=hw'
   subst hw''
   go_wp2_with fail
   go_ret2
   exact ⟨rfl,below_regrown _ _ _⟩
end Go.Proofs.YtffcgajndmhpkaaGreatDoor
