/- Part 6 of what the proof rests on. No condition but those that a theorem names. -/
import Derived.Test.YtjhijildaceadaaGreatDoorXg05
set_option maxHeartbeats 8000000
set_option maxRecDepth 100000
namespace Go.Proofs.YtjhijildaceadaaGreatDoor
open Go.ChangeShapes Go.WideShapes Go.ChangeAt Go.RowKit Go.Sort
set_option linter.unusedVariables false
variable {w w' w0 w1 w2 w3 w₀ wr W W' X A B C : World} {v v0 v1 v2 v3 v4 u u0 u1 u2 u3 u4 : Value} {m : Z4}
theorem YS {B:Nat} (h:Below B w w') (n:Nat):Below B w (w'.drewN n):=⟨h.os,h.tape,h.output,h.size,h.block⟩
theorem YI (x:Int) (w:World):Calls Tryz.prog 163 #[.int .i64 x] w fun e w'=>e= .returned (.bool (inB x 0 1024))/\w'=w:=by
 go_enter Tryz.func163,Tryz.ntmps163
 go_wp2_with (go_at_call 76;refine (Z1 _ _ _ _).mono ?_;rintro e w' ⟨rfl,rfl⟩)
 go_ret
 exact ⟨rfl,rfl⟩
theorem Y2 (lo hi:Int) (w:World):Calls Tryz.prog 81 #[.int .i64 lo,.int .i64 hi] w fun e w'=>e= .returned (.bool (Yq lo hi))/\w'=w:=by
 cases h1:inB lo 0 1024
 ·have hp:Yq lo hi=false:=by unfold Yq;rw [h1];rfl
  rw [hp];clear hp
  go_enter Tryz.func81,Tryz.ntmps81
  go_wp2_with (go_at_call 163;refine (YI _ _).mono ?_;rintro e w' ⟨rfl,rfl⟩)
  go_ret
  exact ⟨rfl,rfl⟩
 ·cases h2:inB hi 0 1024
  ·have hp:Yq lo hi=false:=by unfold Yq;rw [h1,h2];rfl
   rw [hp];clear hp
   go_enter Tryz.func81,Tryz.ntmps81
   go_wp2_with (go_at_call 163;refine (YI _ _).mono ?_;rintro e w' ⟨rfl,rfl⟩)
   go_ret
   exact ⟨rfl,rfl⟩
  ·have hp:Yq lo hi=decide (lo<=hi):=by unfold Yq;rw [h1,h2];rfl
   rw [hp];clear hp
   by_cases h3:lo<=hi
   all_goals
    go_enter Tryz.func81,Tryz.ntmps81
    go_wp2_with (go_at_call 163;refine (YI _ _).mono ?_;rintro e w' ⟨rfl,rfl⟩)
    go_ret
    exact ⟨Z5 (by first | (simp;done) | (simp;omega)),rfl⟩
theorem Ro  {ps:List ZF} (h:XJ w v ps) :
  Calls Tryz.prog 171 #[v] w fun e w'=>e= .returned (.bool (Zk ps))/\Below w.heap.size w w':=by
 obtain ⟨a,cap,rfl,hc,hm,hr⟩:=h
 have Hr:=Z9 hr
 clear hr
 go_enter Tryz.func171,Tryz.ntmps171
 go_wp2_with fail
 go_loopw [3] (fun i wr=> ∃ k:Nat,k<=ps.length/\i= .int .i64 k/\Vf ps k=true/\Below w.heap.size w wr) (fun i _=>ps.length-(intOf i).toNat)
 case atStart=>exact ⟨0,Nat.zero_le _,rfl,rfl,Below.refl _ _⟩
 case round=>
  obtain ⟨k,hk,rfl,hst,hb⟩:=hrel
  have Hst:=Z9 hst
  have Hb:=Z9 hb
  clear hst
  by_cases hlt:k<ps.length
  ·rcases uh Hr with h0 | ⟨b,off,rfl,hbw,hcl⟩
   ·rw [h0] at hlt;simp at hlt
   obtain ⟨c0,c1,c2⟩:=V7 hcl hlt
   rw [<-hb.cell (p:=⟨b,off+k*3,none⟩) hbw] at c0
   rw [<-hb.cell (p:=⟨b,off+k*3+1,none⟩) hbw] at c1
   rw [<-hb.cell (p:=⟨b,off+k*3+2,none⟩) hbw] at c2
   generalize hp:Z8 ps k=p at c0 c1 c2
   have Hp:=Z9 hp
   clear hp
   obtain ⟨x0,x1,x2⟩:=p
   simp only at c0 c1 c2
   clear hcl hb
   have hg:Xw (x0,x1,x2) k=(inB x0 (-1) ((k:Int)-1) && Yq x1 x2):=rfl
   have Hg:=Z9 hg
   clear hg
   cases h1:inB x0 (-1) ((k:Int)-1)
   ·go_wp2_with fail
    go_quiet (first | exact Calls.quiet_of_same (Z1 _ _ _ _) | exact Calls.quiet_of_same (Y2 _ _ _))
    go_wp2_with fail
    go_ret
    exact ⟨Z5 (Ra hlt (by rw [uh Hp,uh Hg,h1];rfl)).symm,YS (uh Hb) _⟩
   cases h2:Yq x1 x2
   ·go_wp2_with fail
    go_quiet (first | exact Calls.quiet_of_same (Z1 _ _ _ _) | exact Calls.quiet_of_same (Y2 _ _ _))
    go_wp2_with fail
    go_ret
    exact ⟨Z5 (Ra hlt (by rw [uh Hp,uh Hg,h1,h2];rfl)).symm,YS (uh Hb) _⟩
   ·go_wp2_with fail
    go_quiet (first | exact Calls.quiet_of_same (Z1 _ _ _ _) | exact Calls.quiet_of_same (Y2 _ _ _))
    go_wp2_with fail
    go_roundw
    case rel=>exact ⟨k+1,by omega,by go_num,by rw [SC,uh Hst,uh Hp,uh Hg,h1,h2];rfl,YS (uh Hb) _⟩
    case measure=>simp [intOf];omega
  ·obtain rfl:k=ps.length:=by omega
   by_cases hbig:ps.length<=6
   all_goals
    go_wp2_with fail
    go_ret
    exact ⟨Z5 (by unfold Zk;rw [uh Hst];simp;omega),hb⟩
theorem QC {ps:List ZF} (g:Int) (lo hi:Int)  (h:XJ w v ps)
  (hB:Calls Tryz.prog 330 #[v,.int .i64 g] w fun e w'=>e= .returned (.tuple #[.int .i64 (bnd ps g).1,.int .i64 (bnd ps g).2])/\Below w.heap.size w w') :
  Calls Tryz.prog 280 #[v,.int .i64 g,.int .i64 lo,.int .i64 hi] w fun e w'=>e= .returned (.tuple #[.int .i64 (P6 (bnd ps g) lo hi).1,.int .i64 (P6 (bnd ps g) lo hi).2])/\Below w.heap.size w w':=by
 have HB:=Z9 hB
 clear hB
 obtain ⟨a,cap,rfl,_⟩:=h
 unfold P6
 go_enter Tryz.func280,Tryz.ntmps280
 go_wp2_with fail
 refine (uh HB).mono ?_
 rintro e w1 ⟨rfl,hb1⟩
 go_wp2_with (go_at_call 281;refine (TS _ _ _ _).mono ?_;rintro e w' ⟨rfl,rfl⟩)
 go_ret2
 exact ⟨rfl,hb1⟩
theorem MA {ps:List ZF} (hg:Zk ps=true):∀ (n:Nat) (g:Int) {w:World} {v:Value},XJ w v ps-> -1<=g->g<n->g<ps.length->
  Calls Tryz.prog 330 #[v,.int .i64 g] w fun e w'=>e= .returned (.tuple #[.int .i64 (bnd ps g).1,.int .i64 (bnd ps g).2])/\Below w.heap.size w w':=by
 intro n
 induction n with
 | zero=>
  intro g w v h h0 h1 h2
  obtain rfl:g= -1:=by omega
  rw [JX ps (by omega)]
  obtain ⟨a,cap,rfl,_⟩:=h
  go_enter Tryz.func330,Tryz.ntmps330
  go_wp2_with fail
  go_ret2
  exact ⟨rfl,Below.refl _ _⟩
 | succ n ih=>
  intro g w v h h0 h1 h2
  by_cases hg0:g<0
  ·obtain rfl:g= -1:=by omega
   rw [JX ps (by omega)]
   obtain ⟨a,cap,rfl,_⟩:=h
   go_enter Tryz.func330,Tryz.ntmps330
   go_wp2_with fail
   go_ret2
   exact ⟨rfl,Below.refl _ _⟩
  ·obtain ⟨k,rfl⟩:∃ k:Nat,g=k:=⟨g.toNat,by omega⟩
   have hlt:k<ps.length:=by omega
   obtain ⟨a0,a1,_⟩:=Sp hg (g:=(k:Int)) (by omega) h2
   have hs:=D2 hg (g:=(k:Int)) (by omega) h2
   rw [show ((k:Int)).toNat=k by omega] at a0 a1 hs
   rw [hs]
   clear hs
   have Hi:=Z9 h
   obtain ⟨a,cap,rfl,hc,hm,hr⟩:=h
   rcases hr with hz | ⟨b,off,rfl,hbw,hcl⟩
   ·rw [hz] at hlt;simp at hlt
   obtain ⟨c0,c1,c2⟩:=V7 hcl hlt
   clear hcl
   generalize hp:Z8 ps k=p at *
   obtain ⟨x0,x1,x2⟩:=p
   simp only at c0 c1 c2 a0 a1
   have k0:=cell_regrown c0
   have k1:=cell_regrown c1
   have k2:=cell_regrown c2
   have ih':=fun (w':World) (h:XJ w' (.slice (some ⟨b,off,none⟩) ps.length cap) ps)=>QC x0 x1 x2 h (ih x0 h a0 (by omega) (by omega))
   have Ih:=Z9 ih'
   clear ih ih' hp
   go_enter Tryz.func330,Tryz.ntmps330
   go_wp2_with fail
   refine wp_region_quiet_below (by kernel_rfl) (by kernel_rfl) ?_
   repeat (go_big_quiet_step (exact Calls.regrown_of (uh Ih _ ((uh Hi).below (below_regrown _ _ _)))))
   refine wpQuiet_nil ?_
   intro _ hw'
   obtain ⟨⟨dq,osq⟩,hw''⟩:=hw'
   subst hw''
   go_wp2_with fail
   go_ret2
   exact ⟨rfl,below_regrown _ _ _⟩
def Zj (x:Z3):Bool:=
 inB x.1 1 3 && (inB x.2.1 0 7 && (inB x.2.2.1 (-5) 5 && (inB x.2.2.2.1 1 255 && (inB x.2.2.2.2.1 (-1) 5 && (Yq x.2.2.2.2.2.1 x.2.2.2.2.2.2.1 && (inB x.2.2.2.2.2.2.2.1 (-1000000000000) 1000000000000 &&
  (inB x.2.2.2.2.2.2.2.2.1 0 (Zx x.2.2.1-1) && (inB x.2.2.2.2.2.2.2.2.2.1 0 1024 && inB x.2.2.2.2.2.2.2.2.2.2 0 100000000000))))))))
def XC:Z3:=(0,0,0,0,0,0,0,0,0,0,0)
def VB (x y:Z3):Bool:=x.1 ==y.1 && (x.2.1 ==y.2.1 && (x.2.2.1 ==y.2.2.1 && (x.2.2.2.1 ==y.2.2.2.1 && (x.2.2.2.2.1 ==y.2.2.2.2.1 && (x.2.2.2.2.2.1 ==y.2.2.2.2.2.1 && (x.2.2.2.2.2.2.1 ==y.2.2.2.2.2.2.1 && (x.2.2.2.2.2.2.2.1 ==y.2.2.2.2.2.2.2.1 && (x.2.2.2.2.2.2.2.2.1 ==y.2.2.2.2.2.2.2.2.1 && (x.2.2.2.2.2.2.2.2.2.1 ==y.2.2.2.2.2.2.2.2.2.1 && (x.2.2.2.2.2.2.2.2.2.2 ==y.2.2.2.2.2.2.2.2.2.2))))))))))
theorem Pq (x:Z3):VB x x=true:=by unfold VB;simp
theorem EW {x y:Z3} (h:VB x y=true):x=y:=by
 obtain ⟨x0,x1,x2,x3,x4,x5,x6,x7,x8,x9,x10⟩:=x
 obtain ⟨y0,y1,y2,y3,y4,y5,y6,y7,y8,y9,y10⟩:=y
 unfold VB at h
 simp only [Bool.and_eq_true,beq_iff_eq] at h
 obtain ⟨rfl,rfl,rfl,rfl,rfl,rfl,rfl,rfl,rfl,rfl,rfl⟩:=h
 rfl
def V5 (x:Z3):Bool:=VB x XC
def ZG (x:Z3):Bool:=V5 x || Zj x
theorem UW (r:Int):0<=Zx r/\Zx r<=3125:=by
 cases h:inB r (-5) 5
 ·rw [WR h];omega
 ·rcases EN h with rfl | rfl | rfl | rfl | rfl | rfl | rfl | rfl | rfl | rfl | rfl<;>decide
theorem Wx {r:Int} (h:inB r (-5) 5=true):335<=Zx r:=by
 rcases EN h with rfl | rfl | rfl | rfl | rfl | rfl | rfl | rfl | rfl | rfl | rfl<;>decide
theorem LY (r:Int):(Zx r !=0)=inB r (-5) 5:=by
 cases h:inB r (-5) 5
 ·rw [WR h];rfl
 ·have:=Wx h
  simp;omega
theorem Zn {st be rk my gu lo hi hd ca ut wk:Int} (h:Zj (st,be,rk,my,gu,lo,hi,hd,ca,ut,wk)=true):(1<=st/\st<=3)/\(0<=be/\be<=7)/\inB rk (-5) 5=true/\(1<=my/\my<=255)/\(-1<=gu/\gu<=5)/\Yq lo hi=true/\(-1000000000000<=hd/\hd<=1000000000000)/\(0<=ca/\ca<=Zx rk-1)/\(0<=ut/\ut<=1024)/\(0<=wk/\wk<=100000000000):=by
 unfold Zj at h
 simp only [Bool.and_eq_true] at h
 obtain ⟨h0,h1,h2,h3,h4,h5,h6,h7,h8,h9⟩:=h
 exact ⟨ZR h0,ZR h1,h2,ZR h3,ZR h4,h5,ZR h6,ZR h7,ZR h8,ZR h9⟩
theorem V6 {x:Z3} (h:V5 x=true):x=XC:=EW h
theorem IB:V5 XC=true:=Pq _
theorem Tm {x:Z3} (h:x.1 ≠ 0):V5 x=false:=by
 cases hg:V5 x
 ·rfl
 ·exact absurd (show x.1=0 by rw [V6 hg];rfl) h
theorem Pg {x:Z3} (h:x.1=0):Zj x=false:=by
 unfold Zj
 rw [h]
 rfl
def Ph (x:Z3) (work:Int):Z3:=
 (x.1,x.2.1,x.2.2.1,x.2.2.2.1,x.2.2.2.2.1,x.2.2.2.2.2.1,x.2.2.2.2.2.2.1,x.2.2.2.2.2.2.2.1+Ur work (Zx x.2.2.1) x.2.2.2.2.2.2.2.2.1,Uq work (Zx x.2.2.1) x.2.2.2.2.2.2.2.2.1,x.2.2.2.2.2.2.2.2.2.1,x.2.2.2.2.2.2.2.2.2.2+work)
def Pk (x:Z3) (rank:Int):Z3:=
 (x.1,x.2.1,rank,x.2.2.2.1,x.2.2.2.2.1,x.2.2.2.2.2.1,x.2.2.2.2.2.2.1,x.2.2.2.2.2.2.2.1,x.2.2.2.2.2.2.2.2.1%Zx rank,x.2.2.2.2.2.2.2.2.2.1,x.2.2.2.2.2.2.2.2.2.2)
def XK (x:Z3) (work:Int):Z3 × Bool:=
 if Zj x then (if inB work 0 100000 && Zj (Ph x work) then (Ph x work,true) else (x,false)) else (if V5 x then x else XC,false)
def Yv (x:Z3) (rank:Int):Z3 × Bool:=
 if Zj x then (if inB rank (-5) 5 then (Pk x rank,true) else (x,false)) else (if V5 x then x else XC,false)
theorem RX {x:Z3} {rank:Int} (h:Zj x=true) (hr:inB rank (-5) 5=true):Zj (Pk x rank)=true:=by
 obtain ⟨st,be,rk,my,gu,lo,hi,hd,ca,ut,wk⟩:=x
 have hp:=Wx hr
 have hc:inB (ca%Zx rank) 0 (Zx rank-1)=true:=Zm (Int.emod_nonneg _ (by omega)) (by have:=Int.emod_lt_of_pos ca (show 0<Zx rank by omega);omega)
 unfold Zj at h ⊢
 simp only [Bool.and_eq_true] at h
 obtain ⟨h0,h1,h2,h3,h4,h5,h6,h7,h8,h9⟩:=h
 simp only [Pk,h0,h1,h3,h4,h5,h6,h8,h9,hr,hc,Bool.and_self]
theorem E5 {work W ca:Int} (w0:0<=work) (w1:work<=100000) (r0:335<=W) (r1:W<=3125) (c0:0<=ca) (c1:ca<=W-1) :
  Xr work W ca=true/\0<=Ur work W ca/\Ur work W ca<=400000/\0<=Uq work W ca/\Uq work W ca<=W-1/\Ur work W ca*W+Uq work W ca=1024*work+ca:=by
 have hk:Xr work W ca=true:=I5 w0 (by omega) (by omega) (by omega) c0 (by omega)
 obtain ⟨e1,e2⟩:=NA hk
 rw [e1,e2]
 have hd:=Int.emod_add_mul_ediv (1024*work+ca) W
 have m0:=Int.emod_nonneg (1024*work+ca) (show W ≠ 0 by omega)
 have m1:=Int.emod_lt_of_pos (1024*work+ca) (show 0<W by omega)
 have q0:0<=(1024*work+ca) / W:=Int.ediv_nonneg (by omega) (by omega)
 have q1:(1024*work+ca) / W<=400000:=by
  refine Int.le_of_lt_add_one (Int.ediv_lt_of_lt_mul (by omega) ?_)
  have:(335:Int)*400001<=W*400001:=Int.mul_le_mul_of_nonneg_right r0 (by omega)
  have e:(400000+1)*W=W*400001:=by rw [Int.mul_comm];rfl
  rw [e]
  omega
 refine ⟨hk,q0,q1,m0,by omega,?_⟩
 rw [Int.mul_comm]
 omega
open Go.ChangeShapes Go.WideShapes Go.ChangeAt Go.RowKit
theorem U1 (s:Int) (w:World):Calls Tryz.prog 214 #[.int .i64 s] w fun e w'=>e= .returned (.bool (inB s 0 255))/\w'=w:=by
 by_cases h1:0<=s
 ·by_cases h2:s<=255
  all_goals
   go_enter Tryz.func214,Tryz.ntmps214
   go_wp2
   go_ret
   exact ⟨Z5 (by first | exact (Zm h1 h2).symm | exact (U8 (by omega)).symm),rfl⟩
 ·go_enter Tryz.func214,Tryz.ntmps214
  go_wp2
  go_ret
  exact ⟨Z5 (U8 (by omega)).symm,rfl⟩
theorem V9 (i:Int) (w:World):Calls Tryz.prog 215 #[.int .i64 i] w fun e w'=>e= .returned (.bool (inB i 0 7))/\w'=w:=by
 by_cases h1:0<=i
 ·by_cases h2:i<8
  all_goals
   go_enter Tryz.func215,Tryz.ntmps215
   go_wp2
   go_ret
   exact ⟨Z5 (by first | exact (Zm h1 (by omega)).symm | exact (U8 (by omega)).symm),rfl⟩
 ·go_enter Tryz.func215,Tryz.ntmps215
  go_wp2
  go_ret
  exact ⟨Z5 (U8 (by omega)).symm,rfl⟩
def Wl (s i:Int):Bool:=decide (s / 2 ^ i.toNat%2=1)
def Sv (s i:Int):Bool:=inB s 0 255 && inB i 0 7 && Wl s i
theorem Ek (n:Int):bits .and .i64 n 1=n%2:=by
 have h1:(BitVec.ofInt 64 1).toNat=2 ^ 1-1:=by decide
 have key:(BitVec.ofInt 64 n &&& BitVec.ofInt 64 1).toNat=(n%((2 ^ 64:Nat):Int)).toNat%2 ^ 1:=by
  rw [BitVec.toNat_and,BitVec.toNat_ofInt,h1,Nat.and_two_pow_sub_one_eq_mod]
 show IntKind.i64.wrap ((BitVec.ofInt 64 n &&& BitVec.ofInt 64 1).toNat:Nat)=n%2
 rw [key,IntKind.wrap_i64]
 omega
theorem DZ (s i:Int):(bits .and .i64 (s / 2 ^ i.toNat) 1 ==1)=Wl s i:=by rw [Ek];unfold Wl;rfl
theorem I2 {s i:Int} (h:inB s 0 255=false\/inB i 0 7=false):Sv s i=false:=by unfold Sv;rcases h with h | h<;>simp [h]
theorem Ez {s i:Int} (hs:inB s 0 255=true) (hi:inB i 0 7=true):Sv s i=Wl s i:=by unfold Sv;simp [hs,hi]
theorem Nj (s i:Int) (w:World) (hs:0<=s) (hs2:s<=255) (hi:0<=i) (hi2:i<=7):Calls Tryz.prog 78 #[.int .i64 s,.int .i64 i] w fun e w'=>e= .returned (.bool (Wl s i))/\w'=w:=by
 go_enter Tryz.func78,Tryz.ntmps78
 go_wp2
 go_ret
 exact ⟨Z5 (DZ s i),rfl⟩
theorem U0 (s i:Int) (w:World):Calls Tryz.prog 147 #[.int .i64 s,.int .i64 i] w fun e w'=>e= .returned (.bool (Sv s i))/\w'=w:=by
 by_cases hb:inB s 0 255=true
 ·obtain ⟨hs,hs2⟩:=ZR hb
  by_cases hc:inB i 0 7=true
  ·obtain ⟨hi,hi2⟩:=ZR hc
   go_enter Tryz.func147,Tryz.ntmps147
   go_wp2_with (first | (go_at_call 214;refine (U1 _ _).mono ?_;rintro e w' ⟨rfl,rfl⟩) | (go_at_call 215;refine (V9 _ _).mono ?_;rintro e w' ⟨rfl,rfl⟩))
   go_ret
   exact ⟨Z5 ((DZ s i).trans (Ez hb hc).symm),rfl⟩
  ·have hc':inB i 0 7=false:=by simpa using hc
   go_enter Tryz.func147,Tryz.ntmps147
   go_wp2_with (first | (go_at_call 214;refine (U1 _ _).mono ?_;rintro e w' ⟨rfl,rfl⟩) | (go_at_call 215;refine (V9 _ _).mono ?_;rintro e w' ⟨rfl,rfl⟩))
   go_ret
   exact ⟨Z5 (I2 (.inr hc')).symm,rfl⟩
 ·have hb':inB s 0 255=false:=by simpa using hb
  go_enter Tryz.func147,Tryz.ntmps147
  go_wp2_with (first | (go_at_call 214;refine (U1 _ _).mono ?_;rintro e w' ⟨rfl,rfl⟩) | (go_at_call 215;refine (V9 _ _).mono ?_;rintro e w' ⟨rfl,rfl⟩))
  go_ret
  exact ⟨Z5 (I2 (.inl hb')).symm,rfl⟩
def ZT (s:Z3):Bool:=s.1 ==2 || s.1 ==3
def XD (had XP:Int):Bool:=inB had (-1000000000000) 1000000000000 && (inB XP (-1000000000000) 1000000000000 && inB (had-XP) (-20000) 63000)
def Wy (d:Yx):Bool:=inB d.2.2 (-900000000000) 900000000000
def Xf (m:Z4) (j:Nat):Bool:=inB (Z8 m.paces j) 0 (((ZW m.rooms j).2.length:Int)-1)
def YA (m:Z4) (s:Z3):Bool:=ZG s && (s.1 ==0 || (decide (s.2.2.2.2.1<m.guilds.length) && decide (s.2.1<m.desks.length)))
def Yt (m:Z4) (s:Z3):Bool:= !ZT s || ((Z8 m.desks s.2.1.toNat).1 && (Wl s.2.2.2.1 s.2.1 && XD s.2.2.2.2.2.2.2.1 (Z8 m.desks s.2.1.toNat).2.2))
def YW (m:Z4):Bool:=Ze m.rooms && (Zk m.guilds && (decide (m.smiths.length<=12) && (decide ((m.desks.length:Int)=ZY m.rooms) && (decide (m.paces.length=m.rooms.length) && inB m.now 0 1000000))))
def Wk (m:Z4) (k:Nat):Bool:=(List.range k).all fun j=>Wy (Z8 m.desks j)
def U6 (m:Z4) (k:Nat):Bool:=(List.range k).any fun j=>(Z8 m.desks j).1
def WN (m:Z4) (k:Nat):Bool:=(List.range k).all fun j=>Xf m j
def WO (m:Z4) (k:Nat):Bool:=(List.range k).all fun j=>YA m (Z8 m.smiths j) && Yt m (Z8 m.smiths j)
def YY (m:Z4):Bool:=YW m && (Wk m m.desks.length && (WN m m.paces.length && (WO m m.smiths.length && U6 m m.desks.length)))
theorem UX {p:Nat->Bool} (k:Nat):(List.range (k+1)).all p=((List.range k).all p && p k):=by rw [List.range_succ,List.all_append];simp
theorem DT {p:Nat->Bool} (k:Nat):(List.range (k+1)).any p=((List.range k).any p || p k):=by rw [List.range_succ,List.any_append];simp
theorem Sl {p:Nat->Bool} {k n:Nat} (hk:k<n) (h:p k=false):(List.range n).all p=false:=by
 rw [List.all_eq_false]
 exact ⟨k,List.mem_range.2 hk,by simp [h]⟩
theorem Me {p:Nat->Bool} {k n:Nat} (h:(List.range n).all p=true) (hk:k<n):p k=true:=List.all_eq_true.1 h k (List.mem_range.2 hk)
theorem WX (h:YW m=false):YY m=false:=by unfold YY;rw [h];rfl
theorem KS {k:Nat} (hk:k<m.desks.length) (h:Wy (Z8 m.desks k)=false):YY m=false:=by
 unfold YY Wk
 rw [Sl hk h];simp
theorem KT {k:Nat} (hk:k<m.paces.length) (h:Xf m k=false):YY m=false:=by
 unfold YY WN
 rw [Sl (p:=fun j=>Xf m j) hk h];simp
theorem MF {k:Nat} (hk:k<m.smiths.length) (h:(YA m (Z8 m.smiths k) && Yt m (Z8 m.smiths k))=false):YY m=false:=by
 unfold YY WO
 rw [Sl (p:=fun j=>YA m (Z8 m.smiths j) && Yt m (Z8 m.smiths j)) hk h];simp
theorem IZ (h1:YW m=true) (h2:Wk m m.desks.length=true) (h3:WN m m.paces.length=true) (h4:WO m m.smiths.length=true):YY m=U6 m m.desks.length:=by
 unfold YY;rw [h1,h2,h3,h4];rfl
theorem KA {s:Z3} (h:YA m s=true) (hp:ZT s=true):0<=s.2.1/\s.2.1<m.desks.length/\s.2.1<=7/\1<=s.2.2.2.1/\s.2.2.2.1<=255/\s.2.2.2.2.1<m.guilds.length:=by
 obtain ⟨st,be,rk,my,gu,lo,hi,hd,ca,ut,wk⟩:=s
 have hst:st ≠ 0:=by
  intro e
  subst e
  cases hp
 unfold YA at h
 simp only [Bool.and_eq_true,Bool.or_eq_true,decide_eq_true_eq] at h
 obtain ⟨h1,h2⟩:=h
 rcases h2 with h2 | ⟨h2,h3⟩
 ·exact absurd (by simpa using h2) hst
 ·have hs:ZG (st,be,rk,my,gu,lo,hi,hd,ca,ut,wk)=Zj (st,be,rk,my,gu,lo,hi,hd,ca,ut,wk):=by unfold ZG;rw [Tm hst,Bool.false_or]
  rw [hs] at h1
  obtain ⟨_,⟨b0,b1⟩,_,⟨m0,m1⟩,_⟩:=Zn h1
  exact ⟨b0,h3,b1,m0,m1,h2⟩
def Yn (ss:List Z3) (b:Int):Nat->Option (Int × Bool)
 | 0=>some (-1,false)
 | k+1=>match Yn ss b k with
  | none=>none
  | some (wk,wt)=>if (Z8 ss k).2.1=b/\ZT (Z8 ss k)=true then (if (Z8 ss k).1=2 then some (wk,true) else if 0<=wk then none else some ((k:Int),wt)) else some (wk,wt)
def YH (m:Z4) (b:Nat):Bool:=match Yn m.smiths b m.smiths.length with
 | none=>false
 | some (wk,wt)=>(Z8 m.desks b).2.1 ==wk && !(wt && decide (wk<0))
def ZP (m:Z4):Bool:=YY m && (List.range m.desks.length).all (YH m)
def ltB (a b:Z6):Bool:=decide (a.1<b.1\/(a.1=b.1/\a.2<b.2))
theorem Ew {a b:Z6} : ltB a b=true ↔ (a.1<b.1\/(a.1=b.1/\a.2<b.2)):=by unfold ltB;exact decide_eq_true_iff
theorem Nl {a b:Z6} : ltB a b=false ↔ ¬ (a.1<b.1\/(a.1=b.1/\a.2<b.2)):=by unfold ltB;exact decide_eq_false_iff_not
theorem RT (a:Z6):ltB a a=false:=by rw [Nl];omega
theorem S0 {a b:Z6} (h:ltB a b=true):ltB b a=false:=by rw [Ew] at h;rw [Nl];omega
theorem Ui {a b c:Z6} (h:ltB b a=false) (k:ltB c b=false):ltB c a=false:=by rw [Nl] at *;omega
theorem CM {a b c:Z6} (h:ltB a b=true) (k:ltB b c=true):ltB a c=true:=by rw [Ew] at *;omega
theorem CL {a b:Z6} (h:ltB b a=false) (k:ltB a b=false):a=b:=by
  rw [Nl] at *;obtain ⟨a1,a2⟩:=a;obtain ⟨b1,b2⟩:=b;simp only at h k;rw [show a1=b1 by omega,show a2=b2 by omega]
def swp (ps:List Z6) (i j:Nat):List Z6:=(ps.set i (Z7 ps j)).set j (Z7 ps i)
theorem DP (ps:List Z6) (i j:Nat):(swp ps i j).length=ps.length:=by simp [swp]
theorem Pb {ps:List Z6} {i:Nat} {x:Z6} (h:i<ps.length) (k:Nat):Z7 (ps.set i x) k=if k=i then x else Z7 ps k:=by
  unfold Z7
  by_cases e:k=i
  · subst e;simp [List.getD,h]
  · rw [if_neg e];simp [List.getD,Ne.symm e]
theorem TJ {ps:List Z6} {i j:Nat} (hi:i<ps.length) (hj:j<ps.length) (k:Nat):Z7 (swp ps i j) k=if k=j then Z7 ps i else if k=i then Z7 ps j else Z7 ps k:=by
  unfold swp
  rw [Pb (by simpa using hj),Pb hi]
theorem TK {ps:List Z6} {i j:Nat} (hi:i<ps.length) (hj:j<ps.length):(swp ps i j).Perm ps:=by
  have:=List.set_set_perm hi hj
  unfold swp Z7
  simpa [List.getD,hi,hj] using this
def HeapTo (ps:List Z6) (n:Nat):Prop:= ∀ k,0<k->k<n->ltB (Z7 ps k) (Z7 ps ((k-1) / 2))=false
def UpTo (ps:List Z6) (n j:Nat):Prop:=
  (∀ k,0<k->k<n->k ≠ j->ltB (Z7 ps k) (Z7 ps ((k-1) / 2))=false)/\
  (∀ k,0<k->k<n->(k-1) / 2=j->0<j->ltB (Z7 ps k) (Z7 ps ((j-1) / 2))=false)
def DnTo (ps:List Z6) (n i0 i:Nat):Prop:=
  (∀ k,0<k->k<n->(k-1) / 2 ≠ i->(k ≠ i0\/i ≠ i0)->ltB (Z7 ps k) (Z7 ps ((k-1) / 2))=false)/\
  (∀ k,0<k->k<n->(k-1) / 2=i->0<i->ltB (Z7 ps k) (Z7 ps ((i-1) / 2))=false)
theorem UpTo.done {ps:List Z6} {n j:Nat} (h:UpTo ps n j) (hd:j=0\/ltB (Z7 ps j) (Z7 ps ((j-1) / 2))=false):HeapTo ps n:=fun k h0 hn=>by
  by_cases e:k=j
  · subst e
    rcases hd with hd | hd
    · omega
    · exact hd
  · exact h.1 k h0 hn e
theorem UpTo.step {ps:List Z6} {n j:Nat} (h:UpTo ps n j) (hj0:0<j) (hj:j<n) (hn:n<=ps.length) (hl:ltB (Z7 ps j) (Z7 ps ((j-1) / 2))=true):UpTo (swp ps ((j-1) / 2) j) n ((j-1) / 2):=by
  have hi:(j-1) / 2<j:=by omega
  have at':=fun k=>TJ (ps:=ps) (i:=(j-1) / 2) (j:=j) (by omega) (by omega) k
  generalize hi':(j-1) / 2=i at *
  have hp:ltB (Z7 ps i) (Z7 ps j)=false:=S0 hl
  refine ⟨fun k k0 kn kne=> ?_,fun k k0 kn kp i0=> ?_⟩
  · rw [at' k,at' ((k-1) / 2)]
    by_cases e1:k=j
    · subst e1
      rw [if_pos rfl,hi',if_neg (by omega),if_pos rfl]
      exact hp
    · rw [if_neg e1,if_neg kne]
      by_cases e2:(k-1) / 2=j
      · rw [if_pos e2]
        have:=h.2 k k0 kn e2 hj0
        rwa [hi'] at this
      · rw [if_neg e2]
        by_cases e3:(k-1) / 2=i
        · rw [if_pos e3]
          have:=h.1 k k0 kn e1
          rw [e3] at this
          exact Ui hp this
        · rw [if_neg e3]
          exact h.1 k k0 kn e1
  · rw [at' k,at' ((i-1) / 2),if_neg (by omega:(i-1) / 2 ≠ j),if_neg (by omega:(i-1) / 2 ≠ i)]
    by_cases e1:k=j
    · rw [if_pos e1]
      exact h.1 i i0 (by omega) (by omega)
    · rw [if_neg e1,if_neg (by omega)]
      have h1:=h.1 k k0 kn e1
      rw [kp] at h1
      exact Ui (h.1 i i0 (by omega) (by omega)) h1
theorem DnTo.still {ps:List Z6} {n i:Nat} (h:DnTo ps n i i) (hd:∀ k,0<k->k<n->(k-1) / 2=i->ltB (Z7 ps k) (Z7 ps i)=false):UpTo ps n i:=
  ⟨fun k k0 kn kne=>by
    by_cases e:(k-1) / 2=i
    · rw [e];exact hd k k0 kn e
    · exact h.1 k k0 kn e (.inl kne),h.2⟩
theorem DnTo.moved {ps:List Z6} {n i0 i:Nat} (h:DnTo ps n i0 i) (hm:i ≠ i0) (hd:∀ k,0<k->k<n->(k-1) / 2=i->ltB (Z7 ps k) (Z7 ps i)=false):HeapTo ps n:=fun k k0 kn=>by
  by_cases e:(k-1) / 2=i
  · rw [e];exact hd k k0 kn e
  · exact h.1 k k0 kn e (.inr hm)
theorem DnTo.step {ps : List Z6} {n i0 i j : Nat} (h : DnTo ps n i0 i) (hi0 : i0 ≤ i) (hj0 : 0 < j) (hji : (j - 1) / 2 = i) (hj : j < n) (hn : n ≤ ps.length) (hl : ltB (Z7 ps j) (Z7 ps i) = true)
    (hm : ∀ k, 0 < k → k < n → (k - 1) / 2 = i → ltB (Z7 ps k) (Z7 ps j) = false) : DnTo (swp ps i j) n i0 j := by
  have at' := fun k => TJ (ps := ps) (i := i) (j := j) (by omega) (by omega) k
  have hp : ltB (Z7 ps i) (Z7 ps j) = false := S0 hl
  refine ⟨fun k k0 kn kne _ => ?_, fun k k0 kn kp _ => ?_⟩
  · rw [at' k, at' ((k - 1) / 2), if_neg kne]
    by_cases e1 : k = j
    · subst e1
      rw [if_pos rfl, if_pos hji]
      exact hp
    · rw [if_neg e1]
      by_cases e2 : k = i
      · subst e2
        rw [if_pos rfl, if_neg (by omega)]
        exact h.2 j hj0 hj hji k0
      · rw [if_neg e2]
        by_cases e3 : (k - 1) / 2 = i
        · rw [if_pos e3]
          exact hm k k0 kn e3
        · rw [if_neg e3]
          exact h.1 k k0 kn e3 (by omega)
  · rw [at' k, at' ((j - 1) / 2), hji, if_neg (by omega : k ≠ j), if_neg (by omega : k ≠ i), if_neg (by omega : i ≠ j), if_pos rfl]
    have := h.1 k k0 kn (by omega) (by omega)
    rwa [kp] at this
theorem HeapTo.least {ps:List Z6} {n:Nat} (h:HeapTo ps n):∀ k,k<n->ltB (Z7 ps k) (Z7 ps 0)=false:=by
  intro k
  induction k using Nat.strongRecOn with
  | ind k ih=>
    intro hk
    by_cases e:k=0
    · subst e;exact RT _
    · exact Ui (ih ((k-1) / 2) (by omega) (by omega)) (h k (by omega) hk)
theorem SK {ps qs:List Z6} {k:Nat} (h:k<ps.length):Z7 (ps++qs) k=Z7 ps k:=by unfold Z7;simp [List.getD,List.getElem?_append_left h]
theorem Wc {ps:List Z6} {n k:Nat} (h:k<n):Z7 (ps.take n) k=Z7 ps k:=by unfold Z7;simp [List.getD,h]
theorem HeapTo.push {ps:List Z6} (e:Z6) (h:HeapTo ps ps.length):UpTo (ps++[e]) (ps.length+1) ps.length:=
  ⟨fun k k0 kn kne=>by rw [SK (by omega),SK (by omega)];exact h k k0 (by omega),fun k k0 kn kp h0=>by omega⟩
theorem HeapTo.swap {ps:List Z6} {n i:Nat} (h:HeapTo ps (n+1)) (hl:ps.length=n+1) (hi:i<n):DnTo (swp ps i n) n i i:=by
  have at':=fun k=>TJ (ps:=ps) (i:=i) (j:=n) (by omega) (by omega) k
  refine ⟨fun k k0 kn kne kd=> ?_,fun k k0 kn kp i0=> ?_⟩
  · rw [at' k,at' ((k-1) / 2),if_neg (by omega),if_neg (by omega),if_neg (by omega),if_neg kne]
    exact h k k0 (by omega)
  · rw [at' k,at' ((i-1) / 2),if_neg (by omega),if_neg (by omega),if_neg (by omega),if_neg (by omega)]
    have h1:=h k k0 (by omega)
    rw [kp] at h1
    exact Ui (h i i0 (by omega)) h1
abbrev Ris (ps:List Z6):Prop:=ps.Pairwise fun a b=>ltB b a=false
theorem CX {ps qs:List Z6} (h:Ris ps) (k:Ris qs) (hp:ps.Perm qs):ps=qs:=
  hp.eq_of_pairwise (le:=fun a b=>ltB b a=false) (fun _ _ _ _ h1 h2=>CL h1 h2) h k
theorem ES {ps:List Z6} (h:Ris ps):HeapTo ps ps.length:=fun k k0 kn=>by
  have hk:(k-1) / 2<k:=by omega
  have:=List.pairwise_iff_getElem.1 h ((k-1) / 2) k (by omega) kn hk
  unfold Z7
  simpa [List.getD,kn,(by omega:(k-1) / 2<ps.length)] using this
theorem ET {ps : List Z6} {x : Z6} (h : Ris ps) (hx : ∀ y ∈ ps, ltB x y = false) : Ris (ps ++ [x]) := by
  unfold Ris; rw [List.pairwise_append]
  exact ⟨h, by simp, fun a ha b hb => by obtain rfl : b = x := by simpa using hb
                                         exact hx a ha⟩
theorem PI {ps:List Z6} {n:Nat} (h:ps.length=n+1):ps.take n++[Z7 ps n]=ps:=by
  have e:Z7 ps n=ps[n]:=by unfold Z7;simp [List.getD,h]
  rw [e,<-List.take_succ_eq_append_getElem (by omega),List.take_of_length_le (by omega)]
theorem XR {ps:List Z6} {k:Nat} (h:k<ps.length):Z7 ps k ∈ ps:=by unfold Z7;simp [List.getD,h]
theorem Uk {ps:List Z6} {x:Z6} (h:x ∈ ps):∃ k,k<ps.length/\Z7 ps k=x:=by
  obtain ⟨k,hk,rfl⟩:=List.getElem_of_mem h
  exact ⟨k,hk,by unfold Z7;simp [List.getD,hk]⟩
def OE (p:Z6):Bool:=inB p.1 (-1000000000000) 1000000000000 && inB p.2 0 99
def WD (ps:List Z6) (who:Int):Int:=match ps.findIdx? (fun p=>p.2 ==who) with
  | some k=>k
  | none=> -1
def WA (ps:List Z6) (k:Nat):Bool:=OE (Z7 ps k) && ((k ==0 || ltB (Z7 ps (k-1)) (Z7 ps k)) && decide (WD (ps.take k) (Z7 ps k).2<0))
def YP (ps:List Z6):Bool:=decide (ps.length<=100) && (List.range ps.length).all (WA ps)
def XZ (e:Z6):List Z6->Nat
  | []=>0
  | p::ps=>if ltB p e then XZ e ps+1 else 0
def Vi (ps:List Z6) (e:Z6):List Z6:=ps.take (XZ e ps)++e::ps.drop (XZ e ps)
def Uo (ps:List Z6) (e:Z6):List Z6 × Bool:=if YP ps then if YP (Vi ps e) then (Vi ps e,true) else (ps,false) else ([],false)
def Ub (ps:List Z6):Z6 × Bool:=if YP ps && decide (0<ps.length) then (Z7 ps 0,true) else ((0,0),false)
theorem OG {ps:List Z6} {who:Int} (h:∀ j,j<ps.length->(Z7 ps j).2 ≠ who):WD ps who= -1:=by
  unfold WD
  rw [List.findIdx?_eq_none_iff.2]
  intro p hp
  obtain ⟨k,hk,rfl⟩:=Uk hp
  simpa using h k hk
theorem Iz {ps:List Z6} {who:Int} {k:Nat} (hk:k<ps.length) (h:(Z7 ps k).2=who) (hn:∀ j,j<k->(Z7 ps j).2 ≠ who):WD ps who=k:=by
  have e:∀ j (hj:j<ps.length),Z7 ps j=ps[j]:=fun j hj=>by unfold Z7;simp [List.getD,hj]
  unfold WD
  rw [List.findIdx?_eq_some_iff_getElem.2 ⟨hk,by rw [<-e k hk];simpa using h,fun j hj=>by rw [<-e j (by omega)];simpa using hn j hj⟩]
theorem Qq (ps:List Z6) (who:Int):(WD ps who= -1/\ ∀ j,j<ps.length->(Z7 ps j).2 ≠ who)\/ ∃ k:Nat,WD ps who=k/\k<ps.length/\(Z7 ps k).2=who/\ ∀ j,j<k->(Z7 ps j).2 ≠ who:=by
  have e:∀ j (hj:j<ps.length),Z7 ps j=ps[j]:=fun j hj=>by unfold Z7;simp [List.getD,hj]
  cases hf:ps.findIdx? (fun p=>p.2 ==who) with
  | none=>
    left
    refine ⟨by unfold WD;rw [hf],fun j hj=> ?_⟩
    have:=List.findIdx?_eq_none_iff.1 hf _ (XR hj)
    simpa using this
  | some k=>
    right
    obtain ⟨hk,h1,h2⟩:=List.findIdx?_eq_some_iff_getElem.1 hf
    refine ⟨k,by unfold WD;rw [hf],hk,by rw [e k hk];simpa using h1,fun j hj=> ?_⟩
    have:=h2 j hj
    rw [e j (by omega)];simpa using this
theorem Ec (ps:List Z6) (who:Int) : -1<=WD ps who/\WD ps who<ps.length:=by
  rcases Qq ps who with ⟨h,_⟩ | ⟨k,h,hk,_⟩<;>omega
theorem Lp {ps:List Z6} (hl:ps.length<=100) (h:∀ j,j<ps.length->WA ps j=true):YP ps=true:=by
  unfold YP;simp only [Bool.and_eq_true,decide_eq_true_eq,List.all_eq_true];exact ⟨hl,fun j hj=>h j (List.mem_range.1 hj)⟩
theorem Pj {ps:List Z6} {j:Nat} (hj:j<ps.length) (h:WA ps j=false):YP ps=false:=by
  unfold YP;rw [Bool.and_eq_false_iff];right;rw [List.all_eq_false];exact ⟨j,List.mem_range.2 hj,by simp [h]⟩
theorem Jd {ps:List Z6} (hl:100<ps.length):YP ps=false:=by
  unfold YP;rw [Bool.and_eq_false_iff];left;exact decide_eq_false (by omega)
theorem Gi {ps:List Z6} (h:YP ps=true):ps.length<=100/\ ∀ j,j<ps.length->WA ps j=true:=by
  unfold YP at h;simp only [Bool.and_eq_true,decide_eq_true_eq,List.all_eq_true] at h;exact ⟨h.1,fun j hj=>h.2 j (List.mem_range.2 hj)⟩
theorem PH {ps : List Z6} {k : Nat} (h : WA ps k = true) : OE (Z7 ps k) = true ∧ (0 < k → ltB (Z7 ps (k - 1)) (Z7 ps k) = true) ∧ WD (ps.take k) (Z7 ps k).2 < 0 := by
  unfold WA at h; simp only [Bool.and_eq_true, Bool.or_eq_true, decide_eq_true_eq, beq_iff_eq] at h
  exact ⟨h.1, fun h0 => by rcases h.2.1 with e | e; · omega
                           · exact e, h.2.2⟩
structure IsQ (ps:List Z6):Prop where
  len:ps.length<=100
  ent:∀ p ∈ ps,OE p=true
  ord:ps.Pairwise fun a b=>ltB a b=true
  who:ps.Pairwise fun a b=>a.2 ≠ b.2
theorem CV {ps:List Z6} (h:∀ k,0<k->k<ps.length->ltB (Z7 ps (k-1)) (Z7 ps k)=true):∀ i j,i<j->j<ps.length->ltB (Z7 ps i) (Z7 ps j)=true:=by
  intro i j
  induction j with
  | zero=>intro h;omega
  | succ j ih=>
    intro hij hj
    have h1:=h (j+1) (by omega) hj
    by_cases e:i=j
    · subst e;simpa using h1
    · exact CM (ih (by omega) (by omega)) (by simpa using h1)
theorem CH {ps:List Z6} (h:YP ps=true):IsQ ps:=by
  obtain ⟨hl,hs⟩:=Gi h
  have e:∀ j (hj:j<ps.length),Z7 ps j=ps[j]:=fun j hj=>by unfold Z7;simp [List.getD,hj]
  refine ⟨hl,fun p hp=> ?_,?_,?_⟩
  · obtain ⟨k,hk,rfl⟩:=Uk hp
    exact (PH (hs k hk)).1
  · rw [List.pairwise_iff_getElem]
    intro i j hi hj hij
    rw [<-e i hi,<-e j hj]
    exact CV (fun k k0 kn=>(PH (hs k kn)).2.1 k0) i j hij hj
  · rw [List.pairwise_iff_getElem]
    intro i j hi hj hij
    rw [<-e i hi,<-e j hj]
    have h3:=(PH (hs j hj)).2.2
    rcases Qq (ps.take j) (Z7 ps j).2 with ⟨_,h4⟩ | ⟨k,h4,_⟩
    · have:=h4 i (by simp;omega)
      rwa [Wc hij] at this
    · omega
theorem Je {ps:List Z6} (h:IsQ ps):YP ps=true:=by
  have e:∀ j (hj:j<ps.length),Z7 ps j=ps[j]:=fun j hj=>by unfold Z7;simp [List.getD,hj]
  refine Lp h.len fun j hj=> ?_
  unfold WA
  simp only [Bool.and_eq_true,Bool.or_eq_true,decide_eq_true_eq,beq_iff_eq]
  refine ⟨h.ent _ (XR hj),?_,?_⟩
  · by_cases h0:j=0
    · exact .inl h0
    · right
      rw [e j hj,e (j-1) (by omega)]
      exact List.pairwise_iff_getElem.1 h.ord (j-1) j (by omega) hj (by omega)
  · rw [OG (fun i hi=> ?_)]
    · omega
    · have hi':i<j:=by simp at hi;omega
      rw [Wc hi',e i (by omega),e j hj]
      exact List.pairwise_iff_getElem.1 h.who i j (by omega) hj hi'
theorem IsQ.ris {ps:List Z6} (h:IsQ ps):Ris ps:=h.ord.imp fun hab=>S0 hab
theorem O5 (e:Z6):∀ ps:List Z6,XZ e ps<=ps.length
  | []=>Nat.le_refl _
  | p::ps=>by have:=O5 e ps;unfold XZ;split<;>simp<;>omega
theorem O6 (e:Z6):∀ (ps:List Z6) (k:Nat),k<XZ e ps->ltB (Z7 ps k) e=true
  | [],k,h=>by simp [XZ] at h
  | p::ps,k,h=>by
    unfold XZ at h
    split at h
    · cases k with
      | zero=>simpa [Z7] using ‹ltB p e=true›
      | succ k=>
        have:=O6 e ps k (by omega)
        simpa [Z7] using this
    · omega
theorem O4 (e:Z6):∀ (ps:List Z6),XZ e ps<ps.length->ltB (Z7 ps (XZ e ps)) e=false
  | [],h=>by simp at h
  | p::ps,h=>by
    unfold XZ at h ⊢
    by_cases hp:ltB p e=true
    · rw [if_pos hp] at h ⊢
      have:=O4 e ps (by simpa using h)
      simpa [Z7] using this
    · rw [if_neg hp] at h ⊢
      simpa [Z7] using hp
theorem Eu {e:Z6} {ps:List Z6} {k:Nat} (hk:k<=ps.length) (h:∀ j,j<k->ltB (Z7 ps j) e=true) (hn:k=ps.length\/ltB (Z7 ps k) e=false):XZ e ps=k:=by
  rcases Nat.lt_trichotomy (XZ e ps) k with h1 | h1 | h1
  · have h2:=O4 e ps (by omega)
    rw [h _ h1] at h2;cases h2
  · exact h1
  · rcases hn with hn | hn
    · have:=O5 e ps;omega
    · have:=O6 e ps k h1
      rw [hn] at this;cases this
theorem S8 (ps:List Z6) (e:Z6):(Vi ps e).Perm (ps++[e]):=by
  unfold Vi
  have h1:(ps.take (XZ e ps)++e::ps.drop (XZ e ps)).Perm (e::(ps.take (XZ e ps)++ps.drop (XZ e ps))):=List.perm_middle
  rw [List.take_append_drop] at h1
  exact h1.trans (List.perm_append_comm (l₁:=[e]) (l₂:=ps))
theorem EJ (ps:List Z6) (e:Z6):(Vi ps e).length=ps.length+1:=by have:=(S8 ps e).length_eq;simpa using this
theorem Lm {ps:List Z6} (h:Ris ps) (e:Z6):Ris (Vi ps e):=by
  have hle:=O5 e ps
  have hdr:∀ y ∈ ps.drop (XZ e ps),ltB y e=false:=fun y hy=>by
    obtain ⟨k,hk,rfl⟩:=List.getElem_of_mem hy
    have hk':XZ e ps+k<ps.length:=by simp at hk;omega
    rw [List.getElem_drop]
    have h0:=O4 e ps (by omega)
    have e0:Z7 ps (XZ e ps)=ps[XZ e ps]'(by omega):=by unfold Z7;simp [List.getD,(by omega:XZ e ps<ps.length)]
    rw [e0] at h0
    by_cases hz:k=0
    · subst hz;simpa using h0
    · have h1:=List.pairwise_iff_getElem.1 h (XZ e ps) (XZ e ps+k) (by omega) hk' (by omega)
      exact Ui h0 h1
  have hta:∀ y ∈ ps.take (XZ e ps),ltB y e=true:=fun y hy=>by
    obtain ⟨k,hk,rfl⟩:=List.getElem_of_mem hy
    have hk':k<XZ e ps:=by simp at hk;omega
    have:=O6 e ps k hk'
    rw [List.getElem_take]
    unfold Z7 at this
    simpa [List.getD,(by omega:k<ps.length)] using this
  unfold Vi Ris
  rw [List.pairwise_append,List.pairwise_cons]
  refine ⟨h.sublist (List.take_sublist _ _),⟨fun y hy=>hdr y hy,h.sublist (List.drop_sublist _ _)⟩,fun a ha b hb=> ?_⟩
  rcases List.mem_cons.1 hb with rfl | hb
  · exact S0 (hta a ha)
  · exact Ui (S0 (hta a ha)) (hdr b hb)
theorem Jo {ps qs:List Z6} {e:Z6} (h:IsQ ps) (hq:Ris qs) (hp:qs.Perm (ps++[e])):qs=Vi ps e:=
  CX hq (Lm h.ris e) (hp.trans (S8 ps e).symm)
def atV (ss:List Z3) (b:Int):Nat->List Z6
 | 0=>[]
 | k+1=>if (Z8 ss k).2.1=b/\ZT (Z8 ss k)=true then Vi (atV ss b k) ((Z8 ss k).2.2.2.2.2.2.2.1,(k:Int)) else atV ss b k
theorem TY (ss:List Z3) (b:Int):∀ k,(atV ss b k).length<=k
 | 0=>Nat.le_refl _
 | k+1=>by
  have:=TY ss b k
  unfold atV
  split
  ·rw [EJ];omega
  ·omega
theorem Oo {ss:List Z3} {b:Int} {k:Nat} (h:¬ ((Z8 ss k).2.1=b/\ZT (Z8 ss k)=true)):atV ss b (k+1)=atV ss b k:=by rw [atV,if_neg h]
theorem RC {ss:List Z3} {b:Int} {k:Nat} (h1:(Z8 ss k).2.1=b) (h2:ZT (Z8 ss k)=true):atV ss b (k+1)=Vi (atV ss b k) ((Z8 ss k).2.2.2.2.2.2.2.1,(k:Int)):=by rw [atV,if_pos ⟨h1,h2⟩]
def Vq (m:Z4) (b:Int):Bool:=inB b 0 ((m.desks.length:Int)-1)
def XM (s:Z3):Int:=s.2.2.2.2.2.2.2.1
theorem EK {ps:List Z6} {x e:Z6} : e ∈ Vi ps x ↔ e ∈ ps\/e=x:=by
 rw [(S8 ps x).mem_iff];simp
theorem Yj (ss:List Z3) (b:Int) (e:Z6):∀ k,e ∈ atV ss b k ↔ ∃ i:Nat,i<k/\(Z8 ss i).2.1=b/\ZT (Z8 ss i)=true/\e=(XM (Z8 ss i),(i:Int))
 | 0=>by simp [atV]
 | k+1=>by
  have ih:=Yj ss b e k
  by_cases h:(Z8 ss k).2.1=b/\ZT (Z8 ss k)=true
  ·rw [RC h.1 h.2,EK,ih]
   constructor
   ·rintro (⟨i,hi,h1,h2,h3⟩ | h3)
    ·exact ⟨i,by omega,h1,h2,h3⟩
    ·exact ⟨k,by omega,h.1,h.2,h3⟩
   ·rintro ⟨i,hi,h1,h2,h3⟩
    by_cases hik:i=k
    ·subst hik;exact .inr h3
    ·exact .inl ⟨i,by omega,h1,h2,h3⟩
  ·rw [Oo h,ih]
   constructor
   ·rintro ⟨i,hi,h1,h2,h3⟩
    exact ⟨i,by omega,h1,h2,h3⟩
   ·rintro ⟨i,hi,h1,h2,h3⟩
    by_cases hik:i=k
    ·subst hik;exact absurd ⟨h1,h2⟩ h
    ·exact ⟨i,by omega,h1,h2,h3⟩
theorem PR (ss:List Z3) (b:Int):∀ k,Ris (atV ss b k)
 | 0=>List.Pairwise.nil
 | k+1=>by
  by_cases h:(Z8 ss k).2.1=b/\ZT (Z8 ss k)=true
  ·rw [RC h.1 h.2];exact Lm (PR ss b k) _
  ·rw [Oo h];exact PR ss b k
theorem Ux (ss:List Z3) (b:Int):∀ k,(atV ss b k).Pairwise fun x y=>x.2 ≠ y.2
 | 0=>List.Pairwise.nil
 | k+1=>by
  by_cases h:(Z8 ss k).2.1=b/\ZT (Z8 ss k)=true
  ·rw [RC h.1 h.2]
   refine (S8 (atV ss b k) _).symm.pairwise ?_ (fun h=>Ne.symm h)
   rw [List.pairwise_append]
   refine ⟨Ux ss b k,by simp,fun x hx y hy=> ?_⟩
   obtain rfl:y=_:=by simpa using hy
   obtain ⟨i,hi,_,_,rfl⟩:=(Yj ss b x k).1 hx
   show (i:Int) ≠ (k:Int)
   omega
  ·rw [Oo h];exact Ux ss b k
def Alike (ss ss':List Z3) (k:Nat):Prop:= ∀ i,i<k->(Z8 ss' i).2.1=(Z8 ss i).2.1/\ZT (Z8 ss' i)=ZT (Z8 ss i)/\XM (Z8 ss' i)=XM (Z8 ss i)
theorem MY {ss ss':List Z3} (b:Int):∀ k,Alike ss ss' k->atV ss' b k=atV ss b k
 | 0,_=>rfl
 | k+1,h=>by
  have ih:=MY b k (fun i hi=>h i (by omega))
  obtain ⟨h1,h2,h3⟩:=h k (by omega)
  unfold atV
  rw [h1,h2,ih,show (Z8 ss' k).2.2.2.2.2.2.2.1=(Z8 ss k).2.2.2.2.2.2.2.1 from h3]
def Xd (ss:List Z3) (b:Int):Int:=match atV ss b ss.length with
 | []=> -1
 | h::_=>h.2
theorem Ua {ss:List Z3} {b:Int} {e:Z6} {t:List Z6} (h:atV ss b ss.length=e::t):Xd ss b=e.2/\ ∃ i:Nat,i<ss.length/\(Z8 ss i).2.1=b/\ZT (Z8 ss i)=true/\e=(XM (Z8 ss i),(i:Int)):=by
 refine ⟨by unfold Xd;rw [h],?_⟩
 exact (Yj ss b e ss.length).1 (by rw [h];simp)
theorem Qr {ss:List Z3} {b:Int} {e:Z6} {t:List Z6} (h:atV ss b ss.length=e::t) {i:Nat} (hi:i<ss.length) (h1:(Z8 ss i).2.1=b) (h2:ZT (Z8 ss i)=true):e.1<=XM (Z8 ss i):=by
 have hm:(XM (Z8 ss i),(i:Int)) ∈ atV ss b ss.length:=(Yj ss b _ ss.length).2 ⟨i,hi,h1,h2,rfl⟩
 have hr:=PR ss b ss.length
 rw [h] at hm hr
 rcases List.mem_cons.1 hm with he | ht
 ·rw [<-he];exact Int.le_refl _
 ·have:=(List.pairwise_cons.1 hr).1 _ ht
  rw [Nl] at this
  simp only at this
  omega
end Go.Proofs.YtjhijildaceadaaGreatDoor
