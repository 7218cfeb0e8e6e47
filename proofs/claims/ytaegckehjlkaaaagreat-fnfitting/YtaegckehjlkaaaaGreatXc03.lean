/- Part 3 of what the proof rests on. No condition but those that a theorem names. -/
import Derived.Test.YtaegckehjlkaaaaGreatXc02
import Derived.Deep.RegionWith
set_option maxHeartbeats 8000000
set_option maxRecDepth 100000
namespace Go.Proofs.YtaegckehjlkaaaaGreat
open Go.ChangeShapes Go.WideShapes Go.ChangeAt Go.RowKit Go.Sort
set_option linter.unusedVariables false
variable {w w' w0 w1 w2 w3 w₀ wr W W' X A B C : World} {v v0 v1 v2 v3 v4 u u0 u1 u2 u3 u4 : Value}
structure Z6 where
 rooms:List Z3
 guilds:List ZC
 smiths:List Z5
 desks:List XZ
 paces:List Int
 now:Int
structure Smy (w:World) (v0 v1 v2 v3 v4:Value) (m:Z6):Prop where
 rooms:IsRooms w v0 m.rooms
 guilds:XP w v1 m.guilds
 smiths:V8 w v2 m.smiths
 desks:Uz w v3 m.desks
 paces:Ii w v4 m.paces
theorem Smy.below  {m:Z6} (h:Smy w v0 v1 v2 v3 v4 m) (hb:Below w.heap.size w w'):Smy w' v0 v1 v2 v3 v4 m:=
 ⟨h.rooms.below hb,h.guilds.below hb,h.smiths.below hb,h.desks.below hb,h.paces.below hb⟩
theorem Smy.alloc  {m:Z6} (h:Smy w v0 v1 v2 v3 v4 m) (o:Obj):Smy (w.alloc o) v0 v1 v2 v3 v4 m:=h.below ((Below.refl _ _).alloc (Nat.le_refl _) _)
theorem RecAt.set_old {α:Type} {t k:Nat} {enc:α->List Value} {n₀:Nat}  {xs:List α} (h:RecAt t k enc n₀ w v xs) (g o:Nat) (u:Value) (hg:g<n₀):RecAt t k enc n₀ (w.setCell ⟨g,o,none⟩ u) v xs:=
 h.same fun i hi=>heap_setCell_other w _ i u (by have:=(h.lt hi).1;show i ≠ g;omega)
abbrev E6:Array Value:=#[.slice none 0 0,.slice none 0 0,.slice none 0 0,.slice none 0 0,.slice none 0 0,.int .i64 0]
abbrev S6 (a0:Option Addr) (p0:Nat) (a1:Option Addr) (p1:Nat) (a2:Option Addr) (p2:Nat) (a3:Option Addr) (p3:Nat) (a4:Option Addr) (p4:Nat) (m:Z6):Array Value:=#[.slice a0 m.rooms.length p0,.slice a1 m.guilds.length p1,.slice a2 m.smiths.length p2,.slice a3 m.desks.length p3,.slice a4 m.paces.length p4,.int .i64 m.now]
theorem Smy.five  {m:Z6} (h:Smy w v0 v1 v2 v3 v4 m):∃ a0 p0 a1 p1 a2 p2 a3 p3 a4 p4,v0= .slice a0 m.rooms.length p0/\v1= .slice a1 m.guilds.length p1/\v2= .slice a2 m.smiths.length p2/\v3= .slice a3 m.desks.length p3/\v4= .slice a4 m.paces.length p4/\m.rooms.length<=p0/\p0<=9223372036854775807/\m.guilds.length<=p1/\p1<=9223372036854775807/\m.smiths.length<=p2/\p2<=9223372036854775807/\m.desks.length<=p3/\p3<=9223372036854775807/\m.paces.length<=p4/\p4<=9223372036854775807:=by
 obtain ⟨a0,p0,e0,x0,y0,_⟩:=h.rooms
 obtain ⟨a1,p1,e1,x1,y1,_⟩:=h.guilds
 obtain ⟨a2,p2,e2,x2,y2,_⟩:=h.smiths
 obtain ⟨a3,p3,e3,x3,y3,_⟩:=h.desks
 obtain ⟨a4,p4,e4,x4,y4,_⟩:=h.paces
 exact ⟨a0,p0,a1,p1,a2,p2,a3,p3,a4,p4,e0,e1,e2,e3,e4,x0,y0,x1,y1,x2,y2,x3,y3,x4,y4⟩
open Go.ChangeShapes Go.WideShapes Go.ChangeAt Go.RowKit
def V3 (k:Nat):Int:=[1024,819,655,524,419,335].getD k 0
def Vz (k:Nat):Int:=[1024,1280,1600,2000,2500,3125].getD k 0
def Zl (r:Int):Int:=if inB r (-5) 5 then (if 0<=r then V3 r.toNat else Vz (-r).toNat) else 0
theorem IV:∀ k:Fin 5,V3 (k.val+1)=V3 k.val*4 / 5/\0<=V3 k.val/\V3 k.val<=1024:=by decide
theorem IF:∀ k:Fin 5,Vz (k.val+1)=Vz k.val*5 / 4/\0<=Vz k.val/\Vz k.val<=3125:=by decide
theorem KE {k:Nat} (h:k<5):V3 (k+1)=V3 k*4 / 5/\0<=V3 k/\V3 k<=1024:=IV ⟨k,h⟩
theorem Kq {k:Nat} (h:k<5):Vz (k+1)=Vz k*5 / 4/\0<=Vz k/\Vz k<=3125:=IF ⟨k,h⟩
theorem Em {r:Int} (h:inB r (-5) 5=true):r= -5\/r= -4\/r= -3\/r= -2\/r= -1\/r=0\/r=1\/r=2\/r=3\/r=4\/r=5:=by
 have:=ZV h
 omega
theorem Ws {r:Int} (h:inB r (-5) 5=false):Zl r=0:=by unfold Zl;simp [h]
theorem JE {r:Int} (h:inB r (-5) 5=true) (h0:0<=r):Zl r=V3 r.toNat:=by unfold Zl;simp [h,h0]
theorem MH {r:Int} (h:inB r (-5) 5=true) (h0:¬ 0<=r):Zl r=Vz (-r).toNat:=by unfold Zl;simp [h,h0]
theorem YW (x:Int) (w:World):Calls Tryz.prog 190 #[.int .i64 x] w fun e w'=>e= .returned (.bool (inB x (-5) 5))/\w'=w:=by
 go_enter Tryz.func190,Tryz.ntmps190
 go_wp2_with (go_at_call 123;refine (Z0 _ _ _ _).mono ?_;rintro e w' ⟨rfl,rfl⟩)
 go_ret
 exact ⟨rfl,rfl⟩
theorem QY (r:Int) (w:World):Calls Tryz.prog 191 #[.int .i64 r] w fun e w'=>e= .returned (.int .i64 (Zl r))/\w'=w:=by
 cases hb:inB r (-5) 5
 ·rw [Ws hb]
  go_enter Tryz.func191,Tryz.ntmps191
  go_wp2_with (go_at_call 190;refine (YW _ _).mono ?_;rintro e w' ⟨rfl,rfl⟩)
  go_ret
  exact ⟨rfl,rfl⟩
 ·obtain ⟨r0,r1⟩:=ZV hb
  by_cases h0:0<=r
  ·rw [JE hb h0]
   obtain ⟨n,rfl⟩:=Int.eq_ofNat_of_zero_le h0
   rw [Int.toNat_natCast]
   go_enter Tryz.func191,Tryz.ntmps191
   go_wp2_with (go_at_call 190;refine (YW _ _).mono ?_;rintro e w' ⟨rfl,rfl⟩)
   go_loop [0,3] (fun i s=> ∃ k:Nat,k<=n/\i= .int .i64 ((n:Int)-k)/\s= .int .i64 (V3 k)) (fun i _=>(intOf i).toNat)
   case atStart=>exact ⟨0,Nat.zero_le _,by simp,rfl⟩
   case round=>
    obtain ⟨k,hk,rfl,rfl⟩:=hrel
    by_cases hlt:k<n
    ·obtain ⟨hs,f1,f2⟩:=KE (k:=k) (by omega)
     have Hs:=Z9 hs
     clear hs
     generalize V3 k=z at *
     go_wp2_with fail
     go_round
     case rel=>exact ⟨k+1,by omega,by go_num,by rw [uh Hs]⟩
     case measure=>simp [intOf];omega
    ·obtain rfl:k=n:=by omega
     go_wp2_with fail
     go_loop [0,3] (fun i s=>i= .int .i64 0/\s= .int .i64 (V3 k)) (fun _ _=>0)
     case atStart=>exact ⟨by simp,rfl⟩
     case round=>
      obtain ⟨rfl,rfl⟩:=hrel
      go_wp2_with fail
      go_ret
      exact ⟨rfl,rfl⟩
  ·rw [MH hb h0]
   obtain ⟨n,hn⟩:=Int.eq_ofNat_of_zero_le (show 0<= -r by omega)
   obtain rfl:r= -(n:Int):=by omega
   rw [show (-(-(n:Int))).toNat=n by omega]
   clear hn
   go_enter Tryz.func191,Tryz.ntmps191
   go_wp2_with (go_at_call 190;refine (YW _ _).mono ?_;rintro e w' ⟨rfl,rfl⟩)
   go_loop [0,3] (fun i s=>i= .int .i64 (-(n:Int))/\s= .int .i64 1024) (fun _ _=>0)
   case atStart=>exact ⟨rfl,rfl⟩
   case round=>
    obtain ⟨rfl,rfl⟩:=hrel
    go_wp2_with fail
    go_loop [0,3] (fun i s=> ∃ k:Nat,k<=n/\i= .int .i64 ((k:Int)-n)/\s= .int .i64 (Vz k)) (fun i _=>(-(intOf i)).toNat)
    case atStart=>exact ⟨0,Nat.zero_le _,by simp,rfl⟩
    case round=>
     obtain ⟨k,hk,rfl,rfl⟩:=hrel
     by_cases hlt:k<n
     ·obtain ⟨hs,f1,f2⟩:=Kq (k:=k) (by omega)
      have Hs:=Z9 hs
      clear hs
      generalize Vz k=z at *
      go_wp2_with fail
      go_round
      case rel=>exact ⟨k+1,by omega,by go_num,by rw [uh Hs]⟩
      case measure=>simp [intOf];omega
     ·obtain rfl:k=n:=by omega
      go_wp2_with fail
      go_ret
      exact ⟨rfl,rfl⟩
theorem Kp {x y:Int} (h0:0<=x) (h1:x<=100000) (h:x*5 / 4=y) (w:World):Calls Tryz.prog 312 #[.int .i64 x] w fun e w'=>e= .returned (.int .i64 y)/\w'=w:=by
 subst h
 go_enter Tryz.func312,Tryz.ntmps312
 go_wp2
 go_ret
 exact ⟨rfl,rfl⟩
theorem KF {x y:Int} (h0:0<=x) (h1:x<=100000) (h:x*4 / 5=y) (w:World):Calls Tryz.prog 313 #[.int .i64 x] w fun e w'=>e= .returned (.int .i64 y)/\w'=w:=by
 subst h
 go_enter Tryz.func313,Tryz.ntmps313
 go_wp2
 go_ret
 exact ⟨rfl,rfl⟩
theorem Qz (r:Int) (w:World):Calls Tryz.prog 311 #[.int .i64 r] w fun e w'=>e= .returned (.int .i64 (Zl r))/\w'=w:=by
 cases hb:inB r (-5) 5
 ·rw [Ws hb]
  have hr:r < -5\/5<r:=by
   by_cases h1 : -5<=r
   ·by_cases h2:r<=5
    ·rw [Zq h1 h2] at hb;cases hb
    ·omega
   ·omega
  have e1:¬ r= -5:=by omega
  have e2:¬ r= -4:=by omega
  have e3:¬ r= -3:=by omega
  have e4:¬ r= -2:=by omega
  have e5:¬ r= -1:=by omega
  have e6:¬ r=0:=by omega
  have e7:¬ r=5:=by omega
  have e8:¬ r=4:=by omega
  have e9:¬ r=3:=by omega
  have e10:¬ r=2:=by omega
  have e11:¬ r=1:=by omega
  clear hb hr
  go_enter Tryz.func311,Tryz.ntmps311
  go_wp2_with fail
  go_ret
  exact ⟨rfl,rfl⟩
 ·rcases Em hb with rfl | rfl | rfl | rfl | rfl | rfl | rfl | rfl | rfl | rfl | rfl
  all_goals
   clear hb
   go_enter Tryz.func311,Tryz.ntmps311
   go_wp2_with (first
    | (go_at_call 312;refine (Kp (by decide) (by decide) rfl _).mono ?_;rintro e w' ⟨rfl,rfl⟩)
    | (go_at_call 313;refine (KF (by decide) (by decide) rfl _).mono ?_;rintro e w' ⟨rfl,rfl⟩))
   go_ret
   exact ⟨rfl,rfl⟩
def WR (work weight carry:Int):Bool:=inB work 0 1000000000 && (inB weight 1 100000 && inB carry 0 (weight-1))
def TM (work weight carry:Int):Int:=if WR work weight carry then (1024*work+carry) / weight else -1
def TL (work weight carry:Int):Int:=if WR work weight carry then (1024*work+carry)%weight else 0
theorem FP {a b c:Int} (ha:inB a 0 1000000000=true) (hb:inB b 1 100000=true) (hc:inB c 0 (b-1)=true):WR a b c=true:=by unfold WR;simp [ha,hb,hc]
theorem I5 {a b c:Int} (h:WR a b c=true):0<=a/\a<=1000000000/\1<=b/\b<=100000/\0<=c/\c<b:=by
 unfold WR at h
 simp only [Bool.and_eq_true] at h
 obtain ⟨h1,h2,h3⟩:=h
 have:=ZV h1
 have:=ZV h2
 have:=ZV h3
 omega
theorem I4 {a b c:Int} (a0:0<=a) (a1:a<=1000000000) (b0:1<=b) (b1:b<=100000) (c0:0<=c) (c1:c<b):WR a b c=true:=FP (Zq a0 a1) (Zq b0 b1) (Zq c0 (by omega))
theorem Nl {a b c:Int} (h:WR a b c=true):TM a b c=(1024*a+c) / b/\TL a b c=(1024*a+c)%b:=by unfold TM TL;simp [h]
def Yr (lo hi:Int):Bool:=inB lo 0 1024 && inB hi 0 1024 && decide (lo<=hi)
theorem Ef {lo hi:Int} (h:Yr lo hi=true):0<=lo/\lo<=1024/\0<=hi/\hi<=1024/\lo<=hi:=by
 unfold Yr at h
 simp only [Bool.and_eq_true,decide_eq_true_eq] at h
 obtain ⟨⟨h1,h2⟩,h3⟩:=h
 exact ⟨(ZV h1).1,(ZV h1).2,(ZV h2).1,(ZV h2).2,h3⟩
def XE (g:ZC) (n:Int):Bool:=inB g.1 (-1) (n-1) && Yr g.2.1 g.2.2
theorem MT {g:ZC} {n:Int} (h:XE g n=true) : -1<=g.1/\g.1<=n-1/\Yr g.2.1 g.2.2=true:=by
 unfold XE at h
 simp only [Bool.and_eq_true] at h
 exact ⟨(ZV h.1).1,(ZV h.1).2,h.2⟩
def UL (ps:List ZC) (k:Nat):Bool:=(List.range k).all fun i=>XE (Z8 ps i) i
theorem R7 (ps:List ZC) (k:Nat):UL ps (k+1)=(UL ps k && XE (Z8 ps k) k):=by unfold UL;rw [List.range_succ,List.all_append];simp
theorem Dp {ps:List ZC} {k n:Nat} (hk:k<n) (h:XE (Z8 ps k) k=false):UL ps n=false:=by
 unfold UL
 rw [List.all_eq_false]
 exact ⟨k,List.mem_range.2 hk,by simp [h]⟩
theorem Lz {ps:List ZC} {k n:Nat} (h:UL ps n=true) (hk:k<n):XE (Z8 ps k) k=true:=by
 unfold UL at h
 exact List.all_eq_true.1 h k (List.mem_range.2 hk)
def Zk (ps:List ZC):Bool:=UL ps ps.length && decide (ps.length<=6)
theorem VY {ps:List ZC} (h:Zk ps=true):UL ps ps.length=true/\ps.length<=6:=by
 unfold Zk at h
 simpa using h
theorem Qw {ps:List ZC} {k:Nat} (hk:k<ps.length) (h:XE (Z8 ps k) k=false):Zk ps=false:=by unfold Zk;rw [Dp hk h];rfl
theorem Md {ps:List ZC} (h:6<ps.length):Zk ps=false:=by unfold Zk;simp;omega
theorem Tx {ps:List ZC} (h:Zk ps=true) {g:Int} (h0:0<=g) (h1:g<ps.length) : -1<=(Z8 ps g.toNat).1/\(Z8 ps g.toNat).1<=g-1/\Yr (Z8 ps g.toNat).2.1 (Z8 ps g.toNat).2.2=true:=by
 have:=MT (Lz (VY h).1 (k:=g.toNat) (by omega))
 rw [show ((g.toNat:Nat):Int)=g by omega] at this
 exact this
def Vo (b:Int × Int) (lo hi:Int):Int × Int:=(min (max lo b.1) b.2,min (max hi (min (max lo b.1) b.2)) b.2)
def Qo (ps:List ZC):Nat->Int->Int × Int
 | 0,_=>(0,1024)
 | n+1,g=>if g<0 then (0,1024) else Vo (Qo ps n (Z8 ps g.toNat).1) (Z8 ps g.toNat).2.1 (Z8 ps g.toNat).2.2
def bnd (ps:List ZC) (g:Int):Int × Int:=Qo ps (g+1).toNat g
theorem GV {b:Int × Int} {lo hi:Int} (h0:0<=b.1) (h1:b.1<=b.2) (h2:b.2<=1024):b.1<=(Vo b lo hi).1/\(Vo b lo hi).1<=(Vo b lo hi).2/\(Vo b lo hi).2<=b.2:=by
 unfold Vo
 refine ⟨?_,?_,?_⟩<;>simp only<;>omega
theorem Gv (ps:List ZC):∀ (n:Nat) (g:Int),0<=(Qo ps n g).1/\(Qo ps n g).1<=(Qo ps n g).2/\(Qo ps n g).2<=1024
 | 0,g=>by unfold Qo;simp
 | n+1,g=>by
  unfold Qo
  split
  ·simp
  ·obtain ⟨h0,h1,h2⟩:=Gv ps n (Z8 ps g.toNat).1
   obtain ⟨h3,h4,h5⟩:=GV (lo:=(Z8 ps g.toNat).2.1) (hi:=(Z8 ps g.toNat).2.2) h0 h1 h2
   exact ⟨by omega,h4,by omega⟩
theorem CD (ps:List ZC) (g:Int):0<=(bnd ps g).1/\(bnd ps g).1<=(bnd ps g).2/\(bnd ps g).2<=1024:=Gv ps _ g
theorem MN {ps:List ZC} (h:Zk ps=true):∀ (n m:Nat) (g:Int),g<n->g<m->g<ps.length->Qo ps n g=Qo ps m g
 | 0,0,g,_,_,_=>rfl
 | 0,m+1,g,h1,h2,h3=>by unfold Qo;rw [if_pos (by omega)]
 | n+1,0,g,h1,h2,h3=>by unfold Qo;rw [if_pos (by omega)]
 | n+1,m+1,g,h1,h2,h3=>by
  unfold Qo
  by_cases h0:g<0
  ·rw [if_pos h0,if_pos h0]
  ·rw [if_neg h0,if_neg h0]
   obtain ⟨a0,a1,_⟩:=Tx h (g:=g) (by omega) h3
   rw [MN h n m (Z8 ps g.toNat).1 (by omega) (by omega) (by omega)]
theorem Rf (ps:List ZC) {g:Int} (h:g<0):bnd ps g=(0,1024):=by
 unfold bnd
 rw [show (g+1).toNat=0 by omega];rfl
theorem JS {ps:List ZC} (h:Zk ps=true) {g:Int} (h0:0<=g) (h1:g<ps.length):bnd ps g=Vo (bnd ps (Z8 ps g.toNat).1) (Z8 ps g.toNat).2.1 (Z8 ps g.toNat).2.2:=by
 obtain ⟨a0,a1,_⟩:=Tx h h0 h1
 unfold bnd
 rw [show (g+1).toNat=g.toNat+1 by omega]
 show (if g<0 then (0,1024) else _)=_
 rw [if_neg (by omega),MN h g.toNat ((Z8 ps g.toNat).1+1).toNat _ (by omega) (by omega) (by omega)]
def isB (ps:List ZC) (g:Int):Bool:=Zk ps && inB g (-1) ((ps.length:Int)-1)
def TV (ps:List ZC) (g lo hi:Int):Int × Int:=if isB ps g && Yr lo hi then Vo (bnd ps g) lo hi else (-1,-1)
theorem NA {ps:List ZC} {g lo hi:Int} (h:(isB ps g && Yr lo hi)=false):TV ps g lo hi=(-1,-1):=by unfold TV;rw [h];rfl
theorem NB {ps:List ZC} {g lo hi:Int} (h:isB ps g=true) (h':Yr lo hi=true):TV ps g lo hi=Vo (bnd ps g) lo hi:=by unfold TV;rw [h,h'];rfl
theorem Dj {lo hi:Int} (h0:0<=lo) (h1:lo<=hi) (h2:hi<=1024):Yr lo hi=true:=by unfold Yr;rw [Zq h0 (by omega),Zq (by omega) h2];simp;omega
theorem Mq {lo hi:Int} (h:lo<0\/hi<lo\/1024<hi):Yr lo hi=false:=by
 cases e:Yr lo hi
 ·rfl
 ·have:=Ef e;omega
theorem ZG (lo hi:Int) (w:World):Calls Tryz.prog 217 #[.int .i64 lo,.int .i64 hi] w fun e w'=>e= .returned (.bool (Yr lo hi))/\w'=w:=by
 by_cases h1:0<=lo
 ·by_cases h2:lo<=hi
  ·by_cases h3:hi<=1024
   all_goals
    go_enter Tryz.func217,Tryz.ntmps217
    go_wp2
    go_ret
    exact ⟨Z7 (by first | exact (Dj h1 h2 h3).symm | exact (Mq (by omega)).symm),rfl⟩
  ·go_enter Tryz.func217,Tryz.ntmps217
   go_wp2
   go_ret
   exact ⟨Z7 (Mq (by omega)).symm,rfl⟩
 ·go_enter Tryz.func217,Tryz.ntmps217
  go_wp2
  go_ret
  exact ⟨Z7 (Mq (by omega)).symm,rfl⟩
theorem SH (a lo hi n:Int) (w:World):Calls Tryz.prog 173 #[.agg #[.int .i64 a,.int .i64 lo,.int .i64 hi],.int .i64 n] w fun e w'=>e= .returned (.bool (XE (a,lo,hi) n))/\Below w.heap.size w w':=by
 by_cases h1 : -1<=a
 ·by_cases h2:a<n
  ·have hg:XE (a,lo,hi) n=Yr lo hi:=by unfold XE;rw [Zq h1 (by omega)];rfl
   rw [hg];clear hg
   go_enter Tryz.func173,Tryz.ntmps173
   go_wp2_with (go_at_call 217;refine (ZG _ _ _).mono ?_;rintro e w' ⟨rfl,rfl⟩)
   go_ret
   exact ⟨rfl,(Below.refl _ _).alloc (Nat.le_refl _) _⟩
  ·have hg:XE (a,lo,hi) n=false:=by unfold XE;rw [W7 (.inr (by omega))];rfl
   rw [hg];clear hg
   go_enter Tryz.func173,Tryz.ntmps173
   go_wp2_with fail
   go_ret
   exact ⟨rfl,(Below.refl _ _).alloc (Nat.le_refl _) _⟩
 ·have hg:XE (a,lo,hi) n=false:=by unfold XE;rw [W7 (.inl (by omega))];rfl
  rw [hg];clear hg
  go_enter Tryz.func173,Tryz.ntmps173
  go_wp2_with fail
  go_ret
  exact ⟨rfl,(Below.refl _ _).alloc (Nat.le_refl _) _⟩
theorem WO  {ps:List ZC} (h:XP w v ps) :
  Calls Tryz.prog 172 #[v] w fun e w'=>e= .returned (.bool (Zk ps))/\Below w.heap.size w w':=by
 obtain ⟨a,cap,rfl,hc,hm,hr⟩:=h
 have Hr:=Z9 hr
 clear hr
 by_cases hbig:6<ps.length
 ·go_enter Tryz.func172,Tryz.ntmps172
  go_wp2_with fail
  go_ret
  exact ⟨Z7 (Md hbig).symm,Below.refl _ _⟩
 go_enter Tryz.func172,Tryz.ntmps172
 go_wp2_with fail
 go_loopw [10] (fun i wr=> ∃ k:Nat,k<=ps.length/\i= .int .i64 k/\UL ps k=true/\Below w.heap.size w wr) (fun i _=>ps.length-(intOf i).toNat)
 case atStart=>exact ⟨0,Nat.zero_le _,rfl,rfl,Below.refl _ _⟩
 case round=>
  obtain ⟨k,hk,rfl,hst,hb⟩:=hrel
  have Hst:=Z9 hst
  have Hb:=Z9 hb
  clear hst
  by_cases hlt:k<ps.length
  ·rcases uh Hr with h0 | ⟨b,off,rfl,hbw,hcl⟩
   ·rw [h0] at hlt;simp at hlt
   have hbr:b<wr.heap.size:=Nat.lt_of_lt_of_le hbw hb.size
   obtain ⟨c0,c1,c2⟩:=UB hcl hlt
   rw [<-hb.cell (p:=⟨b,off+k*3,none⟩) hbw] at c0
   rw [<-hb.cell (p:=⟨b,off+k*3+1,none⟩) hbw] at c1
   rw [<-hb.cell (p:=⟨b,off+k*3+2,none⟩) hbw] at c2
   generalize hp:Z8 ps k=p at c0 c1 c2
   have Hp:=Z9 hp
   clear hp
   obtain ⟨x0,x1,x2⟩:=p
   simp only at c0 c1 c2
   have hsz:=hb.size
   clear hcl hb
   go_wp2_with fail
   refine (SH _ _ _ _ _).mono ?_
   rintro e w1 ⟨rfl,hb1⟩
   have Hb1:=Z9 ((uh Hb).trans (((Below.refl _ _).alloc hsz _).trans (hb1.mono (by simp;omega))))
   clear hb1
   cases hg:XE (x0,x1,x2) k
   ·go_wp2_with fail
    go_ret
    exact ⟨Z7 (Qw hlt (by rw [uh Hp];exact hg)).symm,uh Hb1⟩
   ·go_wp2_with fail
    go_roundw
    case rel=>exact ⟨k+1,by omega,by go_num,by rw [R7,uh Hst,uh Hp,hg];rfl,uh Hb1⟩
    case measure=>simp [intOf];omega
  ·obtain rfl:k=ps.length:=by omega
   go_wp2_with fail
   go_ret
   exact ⟨Z7 (by unfold Zk;rw [uh Hst];simp;omega),hb⟩
theorem Rt (a lo hi l h:Int) (w:World):Calls Tryz.prog 175 #[.agg #[.int .i64 a,.int .i64 lo,.int .i64 hi],.int .i64 l,.int .i64 h] w
  fun e w'=>e= .returned (.tuple #[.int .i64 (Vo (lo,hi) l h).1,.int .i64 (Vo (lo,hi) l h).2])/\Below w.heap.size w w':=by
 unfold Vo
 go_enter Tryz.func175,Tryz.ntmps175
 go_wp2_with (go_at_call 122;refine (Td _ _ _ _).mono ?_;rintro e w' ⟨rfl,rfl⟩)
 go_ret2
 exact ⟨rfl,(Below.refl _ _).alloc (Nat.le_refl _) _⟩
theorem Ln (a lo hi a' l h:Int) (w:World):Calls Tryz.prog 218 #[.agg #[.int .i64 a,.int .i64 lo,.int .i64 hi,.int .i64 a',.int .i64 l,.int .i64 h]] w
  fun e w'=>e= .returned (.agg #[.int .i64 a',.int .i64 (Vo (lo,hi) l h).1,.int .i64 (Vo (lo,hi) l h).2])/\Below w.heap.size w w':=by
 go_enter Tryz.func218,Tryz.ntmps218
 go_wp2_with fail
 refine (Rt _ _ _ _ _ _).mono ?_
 rintro e w1 ⟨rfl,hb1⟩
 have hz:w.heap.size+1<w1.heap.size:=by have:=hb1.size;simp at this;omega
 have Hb1:=Z9 hb1
 obtain ⟨hc,hf⟩:=Dr hb1
 clear hb1
 go_wp2_with fail
 exact bodyPost_ret (v:= .agg #[.int .i64 a',.int .i64 (Vo (lo,hi) l h).1,.int .i64 (Vo (lo,hi) l h).2]) (by simp [results,Tryz.results218,go_sem,hc]) rfl
  ⟨rfl,((((((Below.refl _ _).alloc (Nat.le_refl _) _).alloc (by simp) _).trans ((uh Hb1).mono (by simp;omega))).setCell (by simp) _).setCell (by simp) _).setCell (by simp) _⟩
theorem NS {ps:List ZC} (hg:Zk ps=true):∀ (n:Nat) (g:Int) {w:World} {v:Value},XP w v ps-> -1<=g->g<n->g<ps.length->
  Calls Tryz.prog 174 #[v,.int .i64 g] w fun e w'=> ∃ x,e= .returned (.agg #[.int .i64 x,.int .i64 (bnd ps g).1,.int .i64 (bnd ps g).2])/\Below w.heap.size w w':=by
 intro n
 induction n with
 | zero=>
  intro g w v h h0 h1 h2
  obtain rfl:g= -1:=by omega
  rw [Rf ps (by omega)]
  obtain ⟨a,cap,rfl,_⟩:=h
  go_enter Tryz.func174,Tryz.ntmps174
  go_wp2_with fail
  exact bodyPost_ret (v:= .agg #[.int .i64 (-1),.int .i64 0,.int .i64 1024]) (by simp [results,Tryz.results174,go_sem]) rfl ⟨-1,rfl,(Below.refl _ _).alloc (Nat.le_refl _) _⟩
 | succ n ih=>
  intro g w v h h0 h1 h2
  by_cases hg0:g= -1
  ·subst hg0
   rw [Rf ps (by omega)]
   obtain ⟨a,cap,rfl,_⟩:=h
   go_enter Tryz.func174,Tryz.ntmps174
   go_wp2_with fail
   exact bodyPost_ret (v:= .agg #[.int .i64 (-1),.int .i64 0,.int .i64 1024]) (by simp [results,Tryz.results174,go_sem]) rfl ⟨-1,rfl,(Below.refl _ _).alloc (Nat.le_refl _) _⟩
  ·obtain ⟨k,rfl⟩:∃ k:Nat,g=k:=⟨g.toNat,by omega⟩
   have hlt:k<ps.length:=by omega
   obtain ⟨a0,a1,_⟩:=Tx hg (g:=(k:Int)) (by omega) h2
   have hs:=JS hg (g:=(k:Int)) (by omega) h2
   rw [show ((k:Int)).toNat=k by omega] at a0 a1 hs
   rw [hs]
   clear hs
   have Hi:=Z9 h
   obtain ⟨a,cap,rfl,hc,hm,hr⟩:=h
   rcases hr with hz | ⟨b,off,rfl,hbw,hcl⟩
   ·rw [hz] at hlt;simp at hlt
   obtain ⟨c0,c1,c2⟩:=UB hcl hlt
   clear hcl
   generalize hW:w.alloc (.cells #[.int .i64 0,.int .i64 0,.int .i64 0] 154)=W
   have HB:Hid (Below w.heap.size w W):=Z9 (by rw [<-hW];exact (Below.refl _ _).alloc (Nat.le_refl _) _)
   have hsz:w.heap.size<W.heap.size:=by rw [<-hW];simp
   have hbW:b<W.heap.size:=by omega
   rw [<-(uh HB).cell (p:=⟨b,off+k*3,none⟩) hbw] at c0
   rw [<-(uh HB).cell (p:=⟨b,off+k*3+1,none⟩) hbw] at c1
   rw [<-(uh HB).cell (p:=⟨b,off+k*3+2,none⟩) hbw] at c2
   have D:Hid ((∃ u,W.cell? ⟨w.heap.size,0,none⟩=some u)/\(∃ u,W.cell? ⟨w.heap.size,1,none⟩=some u)/\(∃ u,W.cell? ⟨w.heap.size,2,none⟩=some u)/\W.frozen? ⟨w.heap.size,0,none⟩=false/\W.frozen? ⟨w.heap.size,1,none⟩=false/\W.frozen? ⟨w.heap.size,2,none⟩=false):=
    Z9 (by rw [<-hW];exact ⟨⟨_,by simp;rfl⟩,⟨_,by simp;rfl⟩,⟨_,by simp;rfl⟩,by simp,by simp,by simp⟩)
   have HW:=Z9 hW
   clear hW
   have Hc:=Z9 (And.intro c0 (And.intro c1 c2))
   generalize hp:Z8 ps k=p at *
   obtain ⟨x0,x1,x2⟩:=p
   simp only at c0 c1 c2 a0 a1
   have ih':=fun (w:World) (v:Value) (h:XP w v ps)=>ih x0 h a0 (by omega) (by omega)
   have Ih:=Z9 ih'
   clear ih ih' hp
   go_enter Tryz.func174,Tryz.ntmps174
   go_wp2_with fail
   rw [uh HW]
   go_region_with (first
    | (go_at_call 174;refine (uh Ih _ _ ?_).mono ?_;(first | exact (uh Hi).below (uh HB) | exact ((uh Hi).below (uh HB)).below ((Below.refl _ _).drew));rintro e w1 ⟨y,rfl,hb1⟩;have B1:Hid (Below W.heap.size W w1):=Z9 (by first | exact hb1 | exact ((Below.refl _ _).drew).trans (hb1.mono (by simp)));have e0:=((uh B1).cell (p:=⟨b,off+k*3,none⟩) hbW).trans (uh Hc).1;have e1:=((uh B1).cell (p:=⟨b,off+k*3+1,none⟩) hbW).trans (uh Hc).2.1;have e2:=((uh B1).cell (p:=⟨b,off+k*3+2,none⟩) hbW).trans (uh Hc).2.2;clear hb1)
    | (go_at_call 218;refine (Ln _ _ _ _ _ _ _).mono ?_;rintro e w2 ⟨rfl,hb2⟩;have B2:Hid (Below W.heap.size W w2):=Z9 ((uh B1).trans (hb2.mono (uh B1).size));obtain ⟨⟨u0,q0⟩,⟨u1,q1⟩,⟨u2,q2⟩,f0,f1,f2⟩:=uh D;have d0:=((uh B2).cell (p:=⟨w.heap.size,0,none⟩) hsz).trans q0;have d1:=((uh B2).cell (p:=⟨w.heap.size,1,none⟩) hsz).trans q1;have d2:=((uh B2).cell (p:=⟨w.heap.size,2,none⟩) hsz).trans q2;have z0:=((uh B2).frozen (p:=⟨w.heap.size,0,none⟩) hsz).trans f0;have z1:=((uh B2).frozen (p:=⟨w.heap.size,1,none⟩) hsz).trans f1;have z2:=((uh B2).frozen (p:=⟨w.heap.size,2,none⟩) hsz).trans f2;clear hb2 q0 q1 q2 f0 f1 f2))
   all_goals
    go_wp2_with fail
    exact bodyPost_ret (v:= .agg #[.int .i64 x0,.int .i64 (Vo (bnd ps x0) x1 x2).1,.int .i64 (Vo (bnd ps x0) x1 x2).2]) (by simp [results,Tryz.results174,go_sem,d0,d1,d2]) rfl
     ⟨x0,rfl,((((uh HB).trans ((uh B2).mono (by omega))).setCell (Nat.le_refl _) _).setCell (Nat.le_refl _) _).setCell (Nat.le_refl _) _⟩
theorem OB  {ps:List ZC} (g lo hi:Int) (h:XP w v ps) :
  Calls Tryz.prog 121 #[v,.int .i64 g,.int .i64 lo,.int .i64 hi] w fun e w'=>e= .returned (.tuple #[.int .i64 (TV ps g lo hi).1,.int .i64 (TV ps g lo hi).2])/\Below w.heap.size w w':=by
 have Hi:=Z9 h
 obtain ⟨a,cap,rfl,hc,hm,hr⟩:=h
 clear hr
 generalize hW:w.alloc (.cells #[.int .i64 g,.int .i64 lo,.int .i64 hi] 154)=W
 have HB:Hid (Below w.heap.size w W):=Z9 (by rw [<-hW];exact (Below.refl _ _).alloc (Nat.le_refl _) _)
 have hsz:w.heap.size<W.heap.size:=by rw [<-hW];simp
 have D:Hid (W.cell? ⟨w.heap.size,0,none⟩=some (.int .i64 g)/\W.cell? ⟨w.heap.size,1,none⟩=some (.int .i64 lo)/\W.cell? ⟨w.heap.size,2,none⟩=some (.int .i64 hi)):=Z9 (by rw [<-hW];simp)
 have HW:=Z9 hW
 clear hW
 have hsv:(Zk ps && XE (g,lo,hi) ps.length)=(isB ps g && Yr lo hi):=by unfold XE isB;rw [Bool.and_assoc]
 cases hG:Zk ps
 ·rw [NA (by rw [<-hsv,hG];rfl)]
  clear hsv
  go_enter Tryz.func121,Tryz.ntmps121
  go_wp2_with fail
  rw [uh HW]
  refine (WO ((uh Hi).below (uh HB))).mono ?_
  rw [hG]
  rintro e w1 ⟨rfl,hb1⟩
  have B1:=Z9 ((uh HB).trans (hb1.mono (by omega)))
  clear hb1
  go_wp2_with fail
  go_ret2
  exact ⟨rfl,uh B1⟩
 ·cases hQ:XE (g,lo,hi) ps.length
  ·rw [NA (by rw [<-hsv,hG,hQ];rfl)]
   clear hsv
   go_enter Tryz.func121,Tryz.ntmps121
   go_wp2_with fail
   rw [uh HW]
   refine (WO ((uh Hi).below (uh HB))).mono ?_
   rw [hG]
   rintro e w1 ⟨rfl,hb1⟩
   have d0:=(hb1.cell (p:=⟨w.heap.size,0,none⟩) hsz).trans (uh D).1
   have d1:=(hb1.cell (p:=⟨w.heap.size,1,none⟩) hsz).trans (uh D).2.1
   have d2:=(hb1.cell (p:=⟨w.heap.size,2,none⟩) hsz).trans (uh D).2.2
   have B1:=Z9 ((uh HB).trans (hb1.mono (by omega)))
   clear hb1
   go_wp2_with fail
   refine (SH _ _ _ _ _).mono ?_
   rw [hQ]
   rintro e w2 ⟨rfl,hb2⟩
   have B2:=Z9 ((uh B1).trans (hb2.mono (uh B1).size))
   clear hb2
   go_wp2_with fail
   go_ret2
   exact ⟨rfl,uh B2⟩
  ·obtain ⟨g0,g1,g2⟩:=MT hQ
   have hisB:isB ps g=true:=by unfold isB;rw [hG,Zq g0 (by simpa using g1)];rfl
   rw [NB hisB g2]
   clear hsv hisB
   have hlt:g<ps.length:=by simp only at g1;omega
   simp only at g0
   go_enter Tryz.func121,Tryz.ntmps121
   go_wp2_with fail
   rw [uh HW]
   refine (WO ((uh Hi).below (uh HB))).mono ?_
   rw [hG]
   rintro e w1 ⟨rfl,hb1⟩
   have d0:=(hb1.cell (p:=⟨w.heap.size,0,none⟩) hsz).trans (uh D).1
   have d1:=(hb1.cell (p:=⟨w.heap.size,1,none⟩) hsz).trans (uh D).2.1
   have d2:=(hb1.cell (p:=⟨w.heap.size,2,none⟩) hsz).trans (uh D).2.2
   have B1:=Z9 ((uh HB).trans (hb1.mono (by omega)))
   clear hb1
   go_wp2_with fail
   refine (SH _ _ _ _ _).mono ?_
   rw [hQ]
   rintro e w2 ⟨rfl,hb2⟩
   have B2:=Z9 ((uh B1).trans (hb2.mono (uh B1).size))
   clear hb2
   go_wp2_with fail
   refine (NS hG (g+1).toNat g ((uh Hi).below (uh B2)) g0 (by omega) hlt).mono ?_
   rintro e w3 ⟨x,rfl,hb3⟩
   have B3:=Z9 ((uh B2).trans (hb3.mono (uh B2).size))
   clear hb3
   go_wp2_with fail
   refine (Rt _ _ _ _ _ _).mono ?_
   rintro e w4 ⟨rfl,hb4⟩
   have B4:=Z9 ((uh B3).trans (hb4.mono (uh B3).size))
   clear hb4
   go_wp2_with fail
   go_ret2
   exact ⟨rfl,uh B4⟩
theorem YC {B:Nat} (h:Below B w w') (n:Nat):Below B w (w'.drewN n):=⟨h.os,h.tape,h.output,h.size,h.block⟩
theorem Yp (x:Int) (w:World):Calls Tryz.prog 137 #[.int .i64 x] w fun e w'=>e= .returned (.bool (inB x 0 1024))/\w'=w:=by
 go_enter Tryz.func137,Tryz.ntmps137
 go_wp2_with (go_at_call 123;refine (Z0 _ _ _ _).mono ?_;rintro e w' ⟨rfl,rfl⟩)
 go_ret
 exact ⟨rfl,rfl⟩
theorem YL (lo hi:Int) (w:World):Calls Tryz.prog 74 #[.int .i64 lo,.int .i64 hi] w fun e w'=>e= .returned (.bool (Yr lo hi))/\w'=w:=by
 cases h1:inB lo 0 1024
 ·have hp:Yr lo hi=false:=by unfold Yr;rw [h1];rfl
  rw [hp];clear hp
  go_enter Tryz.func74,Tryz.ntmps74
  go_wp2_with (go_at_call 137;refine (Yp _ _).mono ?_;rintro e w' ⟨rfl,rfl⟩)
  go_ret
  exact ⟨rfl,rfl⟩
 ·cases h2:inB hi 0 1024
  ·have hp:Yr lo hi=false:=by unfold Yr;rw [h1,h2];rfl
   rw [hp];clear hp
   go_enter Tryz.func74,Tryz.ntmps74
   go_wp2_with (go_at_call 137;refine (Yp _ _).mono ?_;rintro e w' ⟨rfl,rfl⟩)
   go_ret
   exact ⟨rfl,rfl⟩
  ·have hp:Yr lo hi=decide (lo<=hi):=by unfold Yr;rw [h1,h2];rfl
   rw [hp];clear hp
   by_cases h3:lo<=hi
   all_goals
    go_enter Tryz.func74,Tryz.ntmps74
    go_wp2_with (go_at_call 137;refine (Yp _ _).mono ?_;rintro e w' ⟨rfl,rfl⟩)
    go_ret
    exact ⟨Z7 (by first | (simp;done) | (simp;omega)),rfl⟩
theorem QV  {ps:List ZC} (h:XP w v ps) :
  Calls Tryz.prog 132 #[v] w fun e w'=>e= .returned (.bool (Zk ps))/\Below w.heap.size w w':=by
 obtain ⟨a,cap,rfl,hc,hm,hr⟩:=h
 have Hr:=Z9 hr
 clear hr
 go_enter Tryz.func132,Tryz.ntmps132
 go_wp2_with fail
 go_loopw [3] (fun i wr=> ∃ k:Nat,k<=ps.length/\i= .int .i64 k/\UL ps k=true/\Below w.heap.size w wr) (fun i _=>ps.length-(intOf i).toNat)
 case atStart=>exact ⟨0,Nat.zero_le _,rfl,rfl,Below.refl _ _⟩
 case round=>
  obtain ⟨k,hk,rfl,hst,hb⟩:=hrel
  have Hst:=Z9 hst
  have Hb:=Z9 hb
  clear hst
  by_cases hlt:k<ps.length
  ·rcases uh Hr with h0 | ⟨b,off,rfl,hbw,hcl⟩
   ·rw [h0] at hlt;simp at hlt
   obtain ⟨c0,c1,c2⟩:=UB hcl hlt
   rw [<-hb.cell (p:=⟨b,off+k*3,none⟩) hbw] at c0
   rw [<-hb.cell (p:=⟨b,off+k*3+1,none⟩) hbw] at c1
   rw [<-hb.cell (p:=⟨b,off+k*3+2,none⟩) hbw] at c2
   generalize hp:Z8 ps k=p at c0 c1 c2
   have Hp:=Z9 hp
   clear hp
   obtain ⟨x0,x1,x2⟩:=p
   simp only at c0 c1 c2
   clear hcl hb
   have hg:XE (x0,x1,x2) k=(inB x0 (-1) ((k:Int)-1) && Yr x1 x2):=rfl
   have Hg:=Z9 hg
   clear hg
   cases h1:inB x0 (-1) ((k:Int)-1)
   ·go_wp2_with fail
    go_quiet (first | exact Calls.quiet_of_same (Z0 _ _ _ _) | exact Calls.quiet_of_same (YL _ _ _))
    go_wp2_with fail
    go_ret
    exact ⟨Z7 (Qw hlt (by rw [uh Hp,uh Hg,h1];rfl)).symm,YC (uh Hb) _⟩
   cases h2:Yr x1 x2
   ·go_wp2_with fail
    go_quiet (first | exact Calls.quiet_of_same (Z0 _ _ _ _) | exact Calls.quiet_of_same (YL _ _ _))
    go_wp2_with fail
    go_ret
    exact ⟨Z7 (Qw hlt (by rw [uh Hp,uh Hg,h1,h2];rfl)).symm,YC (uh Hb) _⟩
   ·go_wp2_with fail
    go_quiet (first | exact Calls.quiet_of_same (Z0 _ _ _ _) | exact Calls.quiet_of_same (YL _ _ _))
    go_wp2_with fail
    go_roundw
    case rel=>exact ⟨k+1,by omega,by go_num,by rw [R7,uh Hst,uh Hp,uh Hg,h1,h2];rfl,YC (uh Hb) _⟩
    case measure=>simp [intOf];omega
  ·obtain rfl:k=ps.length:=by omega
   by_cases hbig:ps.length<=6
   all_goals
    go_wp2_with fail
    go_ret
    exact ⟨Z7 (by unfold Zk;rw [uh Hst];simp;omega),hb⟩
theorem P9 {ps:List ZC} (g:Int) (lo hi:Int)  (h:XP w v ps)
  (hB:Calls Tryz.prog 138 #[v,.int .i64 g] w fun e w'=>e= .returned (.tuple #[.int .i64 (bnd ps g).1,.int .i64 (bnd ps g).2])/\Below w.heap.size w w') :
  Calls Tryz.prog 75 #[v,.int .i64 g,.int .i64 lo,.int .i64 hi] w fun e w'=>e= .returned (.tuple #[.int .i64 (Vo (bnd ps g) lo hi).1,.int .i64 (Vo (bnd ps g) lo hi).2])/\Below w.heap.size w w':=by
 have HB:=Z9 hB
 clear hB
 obtain ⟨a,cap,rfl,_⟩:=h
 unfold Vo
 go_enter Tryz.func75,Tryz.ntmps75
 go_wp2_with fail
 refine (uh HB).mono ?_
 rintro e w1 ⟨rfl,hb1⟩
 go_wp2_with (go_at_call 125;refine (Tj _ _ _ _).mono ?_;rintro e w' ⟨rfl,rfl⟩)
 go_ret2
 exact ⟨rfl,hb1⟩
theorem Mj {ps:List ZC} (hg:Zk ps=true):∀ (n:Nat) (g:Int) {w:World} {v:Value},XP w v ps-> -1<=g->g<n->g<ps.length->
  Calls Tryz.prog 138 #[v,.int .i64 g] w fun e w'=>e= .returned (.tuple #[.int .i64 (bnd ps g).1,.int .i64 (bnd ps g).2])/\Below w.heap.size w w':=by
 intro n
 induction n with
 | zero=>
  intro g w v h h0 h1 h2
  obtain rfl:g= -1:=by omega
  rw [Rf ps (by omega)]
  obtain ⟨a,cap,rfl,_⟩:=h
  go_enter Tryz.func138,Tryz.ntmps138
  go_wp2_with fail
  go_ret2
  exact ⟨rfl,Below.refl _ _⟩
 | succ n ih=>
  intro g w v h h0 h1 h2
  by_cases hg0:g<0
  ·obtain rfl:g= -1:=by omega
   rw [Rf ps (by omega)]
   obtain ⟨a,cap,rfl,_⟩:=h
   go_enter Tryz.func138,Tryz.ntmps138
   go_wp2_with fail
   go_ret2
   exact ⟨rfl,Below.refl _ _⟩
  ·obtain ⟨k,rfl⟩:∃ k:Nat,g=k:=⟨g.toNat,by omega⟩
   have hlt:k<ps.length:=by omega
   obtain ⟨a0,a1,_⟩:=Tx hg (g:=(k:Int)) (by omega) h2
   have hs:=JS hg (g:=(k:Int)) (by omega) h2
   rw [show ((k:Int)).toNat=k by omega] at a0 a1 hs
   rw [hs]
   clear hs
   have Hi:=Z9 h
   obtain ⟨a,cap,rfl,hc,hm,hr⟩:=h
   rcases hr with hz | ⟨b,off,rfl,hbw,hcl⟩
   ·rw [hz] at hlt;simp at hlt
   obtain ⟨c0,c1,c2⟩:=UB hcl hlt
   clear hcl
   generalize hp:Z8 ps k=p at *
   obtain ⟨x0,x1,x2⟩:=p
   simp only at c0 c1 c2 a0 a1
   have k0:=cell_regrown c0
   have k1:=cell_regrown c1
   have k2:=cell_regrown c2
   have ih':=fun (w':World) (h:XP w' (.slice (some ⟨b,off,none⟩) ps.length cap) ps)=>P9 x0 x1 x2 h (ih x0 h a0 (by omega) (by omega))
   have Ih:=Z9 ih'
   clear ih ih' hp
   go_enter Tryz.func138,Tryz.ntmps138
   go_wp2_with fail
   refine wp_region_quiet_below (by kernel_rfl) (by kernel_rfl) ?_
   repeat (go_big_quiet_step (exact Calls.regrown_of (uh Ih _ ((uh Hi).below (below_regrown _ _ _)))))
   refine wpQuiet_nil ?_
   intro _ hw'
   obtain ⟨⟨dq,osq⟩,hw''⟩:=hw'
   subst hw''
   go_wp2_with fail
   go_ret2
   exact ⟨rfl,below_regrown _ _ _⟩
def YY (x:Z5):Bool:=
 inB x.1 1 3 && (inB x.2.1 0 7 && (inB x.2.2.1 (-5) 5 && (inB x.2.2.2.1 1 255 && (inB x.2.2.2.2.1 (-1) 5 && (Yr x.2.2.2.2.2.1 x.2.2.2.2.2.2.1 && (inB x.2.2.2.2.2.2.2.1 (-1000000000000) 1000000000000 &&
  (inB x.2.2.2.2.2.2.2.2.1 0 (Zl x.2.2.1-1) && (inB x.2.2.2.2.2.2.2.2.2.1 0 1024 && inB x.2.2.2.2.2.2.2.2.2.2 0 100000000000))))))))
def VQ:Z5:=(0,0,0,0,0,0,0,0,0,0,0)
def Uk (x y:Z5):Bool:=x.1 ==y.1 && (x.2.1 ==y.2.1 && (x.2.2.1 ==y.2.2.1 && (x.2.2.2.1 ==y.2.2.2.1 && (x.2.2.2.2.1 ==y.2.2.2.2.1 && (x.2.2.2.2.2.1 ==y.2.2.2.2.2.1 && (x.2.2.2.2.2.2.1 ==y.2.2.2.2.2.2.1 && (x.2.2.2.2.2.2.2.1 ==y.2.2.2.2.2.2.2.1 && (x.2.2.2.2.2.2.2.2.1 ==y.2.2.2.2.2.2.2.2.1 && (x.2.2.2.2.2.2.2.2.2.1 ==y.2.2.2.2.2.2.2.2.2.1 && (x.2.2.2.2.2.2.2.2.2.2 ==y.2.2.2.2.2.2.2.2.2.2))))))))))
theorem Jc (x:Z5):Uk x x=true:=by unfold Uk;simp
theorem Es {x y:Z5} (h:Uk x y=true):x=y:=by
 obtain ⟨x0,x1,x2,x3,x4,x5,x6,x7,x8,x9,x10⟩:=x
 obtain ⟨y0,y1,y2,y3,y4,y5,y6,y7,y8,y9,y10⟩:=y
 unfold Uk at h
 simp only [Bool.and_eq_true,beq_iff_eq] at h
 obtain ⟨rfl,rfl,rfl,rfl,rfl,rfl,rfl,rfl,rfl,rfl,rfl⟩:=h
 rfl
def VG (x:Z5):Bool:=Uk x VQ
def ZD (x:Z5):Bool:=VG x || YY x
theorem Uo (r:Int):0<=Zl r/\Zl r<=3125:=by
 cases h:inB r (-5) 5
 ·rw [Ws h];omega
 ·rcases Em h with rfl | rfl | rfl | rfl | rfl | rfl | rfl | rfl | rfl | rfl | rfl<;>decide
theorem V5 {r:Int} (h:inB r (-5) 5=true):335<=Zl r:=by
 rcases Em h with rfl | rfl | rfl | rfl | rfl | rfl | rfl | rfl | rfl | rfl | rfl<;>decide
theorem LF (r:Int):(Zl r !=0)=inB r (-5) 5:=by
 cases h:inB r (-5) 5
 ·rw [Ws h];rfl
 ·have:=V5 h
  simp;omega
theorem Zc {st be rk my gu lo hi hd ca ut wk:Int} (h:YY (st,be,rk,my,gu,lo,hi,hd,ca,ut,wk)=true):(1<=st/\st<=3)/\(0<=be/\be<=7)/\inB rk (-5) 5=true/\(1<=my/\my<=255)/\(-1<=gu/\gu<=5)/\Yr lo hi=true/\(-1000000000000<=hd/\hd<=1000000000000)/\(0<=ca/\ca<=Zl rk-1)/\(0<=ut/\ut<=1024)/\(0<=wk/\wk<=100000000000):=by
 unfold YY at h
 simp only [Bool.and_eq_true] at h
 obtain ⟨h0,h1,h2,h3,h4,h5,h6,h7,h8,h9⟩:=h
 exact ⟨ZV h0,ZV h1,h2,ZV h3,ZV h4,h5,ZV h6,ZV h7,ZV h8,ZV h9⟩
theorem VH {x:Z5} (h:VG x=true):x=VQ:=Es h
theorem Iw:VG VQ=true:=Jc _
theorem SG {x:Z5} (h:x.1 ≠ 0):VG x=false:=by
 cases hg:VG x
 ·rfl
 ·exact absurd (show x.1=0 by rw [VH hg];rfl) h
theorem OU {x:Z5} (h:x.1=0):YY x=false:=by
 unfold YY
 rw [h]
 rfl
def OV (x:Z5) (work:Int):Z5:=
 (x.1,x.2.1,x.2.2.1,x.2.2.2.1,x.2.2.2.2.1,x.2.2.2.2.2.1,x.2.2.2.2.2.2.1,x.2.2.2.2.2.2.2.1+TM work (Zl x.2.2.1) x.2.2.2.2.2.2.2.2.1,TL work (Zl x.2.2.1) x.2.2.2.2.2.2.2.2.1,x.2.2.2.2.2.2.2.2.2.1,x.2.2.2.2.2.2.2.2.2.2+work)
def OX (x:Z5) (rank:Int):Z5:=
 (x.1,x.2.1,rank,x.2.2.2.1,x.2.2.2.2.1,x.2.2.2.2.2.1,x.2.2.2.2.2.2.1,x.2.2.2.2.2.2.2.1,x.2.2.2.2.2.2.2.2.1%Zl rank,x.2.2.2.2.2.2.2.2.2.1,x.2.2.2.2.2.2.2.2.2.2)
def Xq (x:Z5) (work:Int):Z5 × Bool:=
 if YY x then (if inB work 0 100000 && YY (OV x work) then (OV x work,true) else (x,false)) else (if VG x then x else VQ,false)
def Ya (x:Z5) (rank:Int):Z5 × Bool:=
 if YY x then (if inB rank (-5) 5 then (OX x rank,true) else (x,false)) else (if VG x then x else VQ,false)
theorem Rw {x:Z5} {rank:Int} (h:YY x=true) (hr:inB rank (-5) 5=true):YY (OX x rank)=true:=by
 obtain ⟨st,be,rk,my,gu,lo,hi,hd,ca,ut,wk⟩:=x
 have hp:=V5 hr
 have hc:inB (ca%Zl rank) 0 (Zl rank-1)=true:=Zq (Int.emod_nonneg _ (by omega)) (by have:=Int.emod_lt_of_pos ca (show 0<Zl rank by omega);omega)
 unfold YY at h ⊢
 simp only [Bool.and_eq_true] at h
 obtain ⟨h0,h1,h2,h3,h4,h5,h6,h7,h8,h9⟩:=h
 simp only [OX,h0,h1,h3,h4,h5,h6,h8,h9,hr,hc,Bool.and_self]
theorem Ew {work W ca:Int} (w0:0<=work) (w1:work<=100000) (r0:335<=W) (r1:W<=3125) (c0:0<=ca) (c1:ca<=W-1) :
  WR work W ca=true/\0<=TM work W ca/\TM work W ca<=400000/\0<=TL work W ca/\TL work W ca<=W-1/\TM work W ca*W+TL work W ca=1024*work+ca:=by
 have hk:WR work W ca=true:=I4 w0 (by omega) (by omega) (by omega) c0 (by omega)
 obtain ⟨e1,e2⟩:=Nl hk
 rw [e1,e2]
 have hd:=Int.emod_add_mul_ediv (1024*work+ca) W
 have m0:=Int.emod_nonneg (1024*work+ca) (show W ≠ 0 by omega)
 have m1:=Int.emod_lt_of_pos (1024*work+ca) (show 0<W by omega)
 have q0:0<=(1024*work+ca) / W:=Int.ediv_nonneg (by omega) (by omega)
 have q1:(1024*work+ca) / W<=400000:=by
  refine Int.le_of_lt_add_one (Int.ediv_lt_of_lt_mul (by omega) ?_)
  have:(335:Int)*400001<=W*400001:=Int.mul_le_mul_of_nonneg_right r0 (by omega)
  have e:(400000+1)*W=W*400001:=by rw [Int.mul_comm];rfl
  rw [e]
  omega
 refine ⟨hk,q0,q1,m0,by omega,?_⟩
 rw [Int.mul_comm]
 omega
end Go.Proofs.YtaegckehjlkaaaaGreat
