/- Part 3 of what the proof rests on. No condition but those that a theorem names. -/
import Derived.Test.YtffcgajndmhpkaaGreatDoorXt02
set_option maxHeartbeats 8000000
set_option maxRecDepth 100000
namespace Go.Proofs.YtffcgajndmhpkaaGreatDoor
open Go.ChangeShapes Go.WideShapes Go.ChangeAt Go.RowKit Go.Sort
set_option linter.unusedVariables false
variable {w w' w0 w1 w2 w3 w₀ wr W W' X A B C : World} {v v0 v1 v2 v3 v4 u u0 u1 u2 u3 u4 : Value} {m : Z6}
def Yj (lo hi:Int):Bool:=inB lo 0 1024 && inB hi 0 1024 && decide (lo<=hi)
theorem DV {lo hi:Int} (h:Yj lo hi=true):0<=lo/\lo<=1024/\0<=hi/\hi<=1024/\lo<=hi:=by
 unfold Yj at h
 simp only [Bool.and_eq_true,decide_eq_true_eq] at h
 obtain ⟨⟨h1,h2⟩,h3⟩:=h
 exact ⟨(ZU h1).1,(ZU h1).2,(ZU h2).1,(ZU h2).2,h3⟩
def Xp (g:ZA) (n:Int):Bool:=inB g.1 (-1) (n-1) && Yj g.2.1 g.2.2
theorem EP {g:ZA} {n:Int} (h:Xp g n=true) : -1<=g.1/\g.1<=n-1/\Yj g.2.1 g.2.2=true:=by
 unfold Xp at h
 simp only [Bool.and_eq_true] at h
 exact ⟨(ZU h.1).1,(ZU h.1).2,h.2⟩
def U2 (ps:List ZA) (k:Nat):Bool:=(List.range k).all fun i=>Xp (Z8 ps i) i
theorem Si (ps:List ZA) (k:Nat):U2 ps (k+1)=(U2 ps k && Xp (Z8 ps k) k):=by unfold U2;rw [List.range_succ,List.all_append];simp
theorem Dc {ps:List ZA} {k n:Nat} (hk:k<n) (h:Xp (Z8 ps k) k=false):U2 ps n=false:=by
 unfold U2
 rw [List.all_eq_false]
 exact ⟨k,List.mem_range.2 hk,by simp [h]⟩
theorem K8 {ps:List ZA} {k n:Nat} (h:U2 ps n=true) (hk:k<n):Xp (Z8 ps k) k=true:=by
 unfold U2 at h
 exact List.all_eq_true.1 h k (List.mem_range.2 hk)
def Zc (ps:List ZA):Bool:=U2 ps ps.length && decide (ps.length<=6)
theorem Wk {ps:List ZA} (h:Zc ps=true):U2 ps ps.length=true/\ps.length<=6:=by
 unfold Zc at h
 simpa using h
theorem QJ {ps:List ZA} {k:Nat} (hk:k<ps.length) (h:Xp (Z8 ps k) k=false):Zc ps=false:=by unfold Zc;rw [Dc hk h];rfl
theorem LM {ps:List ZA} (h:6<ps.length):Zc ps=false:=by unfold Zc;simp;omega
theorem R6 {ps:List ZA} (h:Zc ps=true) {g:Int} (h0:0<=g) (h1:g<ps.length) : -1<=(Z8 ps g.toNat).1/\(Z8 ps g.toNat).1<=g-1/\Yj (Z8 ps g.toNat).2.1 (Z8 ps g.toNat).2.2=true:=by
 have:=EP (K8 (Wk h).1 (k:=g.toNat) (by omega))
 rw [show ((g.toNat:Nat):Int)=g by omega] at this
 exact this
def PJ (b:Int × Int) (lo hi:Int):Int × Int:=(min (max lo b.1) b.2,min (max hi (min (max lo b.1) b.2)) b.2)
def Qz (ps:List ZA):Nat->Int->Int × Int
 | 0,_=>(0,1024)
 | n+1,g=>if g<0 then (0,1024) else PJ (Qz ps n (Z8 ps g.toNat).1) (Z8 ps g.toNat).2.1 (Z8 ps g.toNat).2.2
def bnd (ps:List ZA) (g:Int):Int × Int:=Qz ps (g+1).toNat g
theorem Gs {b:Int × Int} {lo hi:Int} (h0:0<=b.1) (h1:b.1<=b.2) (h2:b.2<=1024):b.1<=(PJ b lo hi).1/\(PJ b lo hi).1<=(PJ b lo hi).2/\(PJ b lo hi).2<=b.2:=by
 unfold PJ
 refine ⟨?_,?_,?_⟩<;>simp only<;>omega
theorem FY (ps:List ZA):∀ (n:Nat) (g:Int),0<=(Qz ps n g).1/\(Qz ps n g).1<=(Qz ps n g).2/\(Qz ps n g).2<=1024
 | 0,g=>by unfold Qz;simp
 | n+1,g=>by
  unfold Qz
  split
  ·simp
  ·obtain ⟨h0,h1,h2⟩:=FY ps n (Z8 ps g.toNat).1
   obtain ⟨h3,h4,h5⟩:=Gs (lo:=(Z8 ps g.toNat).2.1) (hi:=(Z8 ps g.toNat).2.2) h0 h1 h2
   exact ⟨by omega,h4,by omega⟩
theorem BK (ps:List ZA) (g:Int):0<=(bnd ps g).1/\(bnd ps g).1<=(bnd ps g).2/\(bnd ps g).2<=1024:=FY ps _ g
theorem Mq {ps:List ZA} (h:Zc ps=true):∀ (n m:Nat) (g:Int),g<n->g<m->g<ps.length->Qz ps n g=Qz ps m g
 | 0,0,g,_,_,_=>rfl
 | 0,m+1,g,h1,h2,h3=>by unfold Qz;rw [if_pos (by omega)]
 | n+1,0,g,h1,h2,h3=>by unfold Qz;rw [if_pos (by omega)]
 | n+1,m+1,g,h1,h2,h3=>by
  unfold Qz
  by_cases h0:g<0
  ·rw [if_pos h0,if_pos h0]
  ·rw [if_neg h0,if_neg h0]
   obtain ⟨a0,a1,_⟩:=R6 h (g:=g) (by omega) h3
   rw [Mq h n m (Z8 ps g.toNat).1 (by omega) (by omega) (by omega)]
theorem Jh (ps:List ZA) {g:Int} (h:g<0):bnd ps g=(0,1024):=by
 unfold bnd
 rw [show (g+1).toNat=0 by omega];rfl
theorem Dk {ps:List ZA} (h:Zc ps=true) {g:Int} (h0:0<=g) (h1:g<ps.length):bnd ps g=PJ (bnd ps (Z8 ps g.toNat).1) (Z8 ps g.toNat).2.1 (Z8 ps g.toNat).2.2:=by
 obtain ⟨a0,a1,_⟩:=R6 h h0 h1
 unfold bnd
 rw [show (g+1).toNat=g.toNat+1 by omega]
 show (if g<0 then (0,1024) else _)=_
 rw [if_neg (by omega),Mq h g.toNat ((Z8 ps g.toNat).1+1).toNat _ (by omega) (by omega) (by omega)]
theorem CV {lo hi:Int} (h0:0<=lo) (h1:lo<=hi) (h2:hi<=1024):Yj lo hi=true:=by unfold Yj;rw [Zp h0 (by omega),Zp (by omega) h2];simp;omega
theorem L7 {lo hi:Int} (h:lo<0\/hi<lo\/1024<hi):Yj lo hi=false:=by
 cases e:Yj lo hi
 ·rfl
 ·have:=DV e;omega
theorem UH (lo hi:Int) (w:World):Calls Tryz.prog 269 #[.int .i64 lo,.int .i64 hi] w fun e w'=>e= .returned (.bool (Yj lo hi))/\w'=w:=by
 by_cases h1:0<=lo
 ·by_cases h2:lo<=hi
  ·by_cases h3:hi<=1024
   all_goals
    go_enter Tryz.func269,Tryz.ntmps269
    go_wp2
    go_ret
    exact ⟨Z5 (by first | exact (CV h1 h2 h3).symm | exact (L7 (by omega)).symm),rfl⟩
  ·go_enter Tryz.func269,Tryz.ntmps269
   go_wp2
   go_ret
   exact ⟨Z5 (L7 (by omega)).symm,rfl⟩
 ·go_enter Tryz.func269,Tryz.ntmps269
  go_wp2
  go_ret
  exact ⟨Z5 (L7 (by omega)).symm,rfl⟩
theorem JD (a lo hi n:Int) (w:World):Calls Tryz.prog 213 #[.agg #[.int .i64 a,.int .i64 lo,.int .i64 hi],.int .i64 n] w fun e w'=>e= .returned (.bool (Xp (a,lo,hi) n))/\Below w.heap.size w w':=by
 by_cases h1 : -1<=a
 ·by_cases h2:a<n
  ·have hg:Xp (a,lo,hi) n=Yj lo hi:=by unfold Xp;rw [Zp h1 (by omega)];rfl
   rw [hg];clear hg
   go_enter Tryz.func213,Tryz.ntmps213
   go_wp2_with (go_at_call 269;refine (UH _ _ _).mono ?_;rintro e w' ⟨rfl,rfl⟩)
   go_ret
   exact ⟨rfl,(ba _ _)⟩
  ·have hg:Xp (a,lo,hi) n=false:=by unfold Xp;rw [V3 (.inr (by omega))];rfl
   rw [hg];clear hg
   go_enter Tryz.func213,Tryz.ntmps213
   go_wp2_with fail
   go_ret
   exact ⟨rfl,(ba _ _)⟩
 ·have hg:Xp (a,lo,hi) n=false:=by unfold Xp;rw [V3 (.inl (by omega))];rfl
  rw [hg];clear hg
  go_enter Tryz.func213,Tryz.ntmps213
  go_wp2_with fail
  go_ret
  exact ⟨rfl,(ba _ _)⟩
theorem QK  {ps:List ZA} (h:XJ w v ps) :
  Calls Tryz.prog 165 #[v] w fun e w'=>e= .returned (.bool (Zc ps))/\Below w.heap.size w w':=by
 obtain ⟨a,cap,rfl,hc,hm,hr⟩:=h
 have Hr:=Z9 hr
 clear hr
 by_cases hbig:6<ps.length
 ·go_enter Tryz.func165,Tryz.ntmps165
  go_wp2_with fail
  go_ret
  exact ⟨Z5 (LM hbig).symm,Below.refl _ _⟩
 go_enter Tryz.func165,Tryz.ntmps165
 go_wp2_with fail
 go_loopw [10] (fun i wr=> ∃ k:Nat,k<=ps.length/\i= .int .i64 k/\U2 ps k=true/\Below w.heap.size w wr) (fun i _=>ps.length-(intOf i).toNat)
 case atStart=>exact ⟨0,Nat.zero_le _,rfl,rfl,Below.refl _ _⟩
 case round=>
  obtain ⟨k,hk,rfl,hst,hb⟩:=hrel
  have Hst:=Z9 hst
  have Hb:=Z9 hb
  clear hst
  by_cases hlt:k<ps.length
  ·rcases uh Hr with h0 | ⟨b,off,rfl,hbw,hcl⟩
   ·rw [h0] at hlt;simp at hlt
   have hbr:b<wr.heap.size:=Nat.lt_of_lt_of_le hbw hb.size
   obtain ⟨c0,c1,c2⟩:=V1 hcl hlt
   rw [<-hb.cell (p:=⟨b,off+k*3,none⟩) hbw] at c0
   rw [<-hb.cell (p:=⟨b,off+k*3+1,none⟩) hbw] at c1
   rw [<-hb.cell (p:=⟨b,off+k*3+2,none⟩) hbw] at c2
   generalize hp:Z8 ps k=p at c0 c1 c2
   have Hp:=Z9 hp
   clear hp
   obtain ⟨x0,x1,x2⟩:=p
   simp only at c0 c1 c2
   have hsz:=hb.size
   clear hcl hb
   go_wp2_with fail
   refine ck (JD _ _ _ _ _) fun w1 hb1=> ?_
   have Hb1:=Z9 ((uh Hb).trans (((Below.refl _ _).alloc hsz _).trans (hb1.mono (by simp;omega))))
   clear hb1
   cases hg:Xp (x0,x1,x2) k
   ·go_wp2_with fail
    go_ret
    exact ⟨Z5 (QJ hlt (by rw [uh Hp];exact hg)).symm,uh Hb1⟩
   ·go_wp2_with fail
    go_roundw
    case rel=>exact ⟨k+1,by omega,by go_num,by rw [Si,uh Hst,uh Hp,hg];rfl,uh Hb1⟩
    case measure=>exact ms
  ·obtain rfl:k=ps.length:=by omega
   go_wp2_with fail
   go_ret
   exact ⟨Z5 (by unfold Zc;rw [uh Hst];simp;omega),hb⟩
theorem YX {B:Nat} (h:Below B w w') (n:Nat):Below B w (w'.drewN n):=⟨h.os,h.tape,h.output,h.size,h.block⟩
theorem YC (x:Int) (w:World):Calls Tryz.prog 49 #[.int .i64 x] w fun e w'=>e= .returned (.bool (inB x 0 1024))/\w'=w:=by
 go_enter Tryz.func49,Tryz.ntmps49
 go_wp2_with (go_at_call 40;refine (Z1 _ _ _ _).mono ?_;rintro e w' ⟨rfl,rfl⟩)
 go_ret
 exact ⟨rfl,rfl⟩
theorem YZ (lo hi:Int) (w:World):Calls Tryz.prog 160 #[.int .i64 lo,.int .i64 hi] w fun e w'=>e= .returned (.bool (Yj lo hi))/\w'=w:=by
 cases h1:inB lo 0 1024
 ·have hp:Yj lo hi=false:=by unfold Yj;rw [h1];rfl
  rw [hp];clear hp
  go_enter Tryz.func160,Tryz.ntmps160
  go_wp2_with (go_at_call 49;refine (YC _ _).mono ?_;rintro e w' ⟨rfl,rfl⟩)
  go_ret
  exact ⟨rfl,rfl⟩
 ·cases h2:inB hi 0 1024
  ·have hp:Yj lo hi=false:=by unfold Yj;rw [h1,h2];rfl
   rw [hp];clear hp
   go_enter Tryz.func160,Tryz.ntmps160
   go_wp2_with (go_at_call 49;refine (YC _ _).mono ?_;rintro e w' ⟨rfl,rfl⟩)
   go_ret
   exact ⟨rfl,rfl⟩
  ·have hp:Yj lo hi=decide (lo<=hi):=by unfold Yj;rw [h1,h2];rfl
   rw [hp];clear hp
   by_cases h3:lo<=hi
   all_goals
    go_enter Tryz.func160,Tryz.ntmps160
    go_wp2_with (go_at_call 49;refine (YC _ _).mono ?_;rintro e w' ⟨rfl,rfl⟩)
    go_ret
    exact ⟨Z5 (by first | (simp;done) | (simp;omega)),rfl⟩
theorem Q4  {ps:List ZA} (h:XJ w v ps) :
  Calls Tryz.prog 104 #[v] w fun e w'=>e= .returned (.bool (Zc ps))/\Below w.heap.size w w':=by
 obtain ⟨a,cap,rfl,hc,hm,hr⟩:=h
 have Hr:=Z9 hr
 clear hr
 go_enter Tryz.func104,Tryz.ntmps104
 go_wp2_with fail
 go_loopw [3] (fun i wr=> ∃ k:Nat,k<=ps.length/\i= .int .i64 k/\U2 ps k=true/\Below w.heap.size w wr) (fun i _=>ps.length-(intOf i).toNat)
 case atStart=>exact ⟨0,Nat.zero_le _,rfl,rfl,Below.refl _ _⟩
 case round=>
  obtain ⟨k,hk,rfl,hst,hb⟩:=hrel
  have Hst:=Z9 hst
  have Hb:=Z9 hb
  clear hst
  by_cases hlt:k<ps.length
  ·rcases uh Hr with h0 | ⟨b,off,rfl,hbw,hcl⟩
   ·rw [h0] at hlt;simp at hlt
   obtain ⟨c0,c1,c2⟩:=V1 hcl hlt
   rw [<-hb.cell (p:=⟨b,off+k*3,none⟩) hbw] at c0
   rw [<-hb.cell (p:=⟨b,off+k*3+1,none⟩) hbw] at c1
   rw [<-hb.cell (p:=⟨b,off+k*3+2,none⟩) hbw] at c2
   generalize hp:Z8 ps k=p at c0 c1 c2
   have Hp:=Z9 hp
   clear hp
   obtain ⟨x0,x1,x2⟩:=p
   simp only at c0 c1 c2
   clear hcl hb
   have hg:Xp (x0,x1,x2) k=(inB x0 (-1) ((k:Int)-1) && Yj x1 x2):=rfl
   have Hg:=Z9 hg
   clear hg
   cases h1:inB x0 (-1) ((k:Int)-1)
   ·go_wp2_with fail
    go_quiet (first | exact Calls.quiet_of_same (Z1 _ _ _ _) | exact Calls.quiet_of_same (YZ _ _ _))
    go_wp2_with fail
    go_ret
    exact ⟨Z5 (QJ hlt (by rw [uh Hp,uh Hg,h1];rfl)).symm,YX (uh Hb) _⟩
   cases h2:Yj x1 x2
   ·go_wp2_with fail
    go_quiet (first | exact Calls.quiet_of_same (Z1 _ _ _ _) | exact Calls.quiet_of_same (YZ _ _ _))
    go_wp2_with fail
    go_ret
    exact ⟨Z5 (QJ hlt (by rw [uh Hp,uh Hg,h1,h2];rfl)).symm,YX (uh Hb) _⟩
   ·go_wp2_with fail
    go_quiet (first | exact Calls.quiet_of_same (Z1 _ _ _ _) | exact Calls.quiet_of_same (YZ _ _ _))
    go_wp2_with fail
    go_roundw
    case rel=>exact ⟨k+1,by omega,by go_num,by rw [Si,uh Hst,uh Hp,uh Hg,h1,h2];rfl,YX (uh Hb) _⟩
    case measure=>exact ms
  ·obtain rfl:k=ps.length:=by omega
   by_cases hbig:ps.length<=6
   all_goals
    go_wp2_with fail
    go_ret
    exact ⟨Z5 (by unfold Zc;rw [uh Hst];simp;omega),hb⟩
theorem Qi {ps:List ZA} (g:Int) (lo hi:Int)  (h:XJ w v ps)
  (hB:Calls Tryz.prog 236 #[v,.int .i64 g] w fun e w'=>e= .returned (.tuple #[.int .i64 (bnd ps g).1,.int .i64 (bnd ps g).2])/\Below w.heap.size w w') :
  Calls Tryz.prog 188 #[v,.int .i64 g,.int .i64 lo,.int .i64 hi] w fun e w'=>e= .returned (.tuple #[.int .i64 (PJ (bnd ps g) lo hi).1,.int .i64 (PJ (bnd ps g) lo hi).2])/\Below w.heap.size w w':=by
 have HB:=Z9 hB
 clear hB
 obtain ⟨a,cap,rfl,_⟩:=h
 unfold PJ
 go_enter Tryz.func188,Tryz.ntmps188
 go_wp2_with fail
 refine ck (uh HB) fun w1 hb1=> ?_
 go_wp2_with (go_at_call 189;refine (TF _ _ _ _).mono ?_;rintro e w' ⟨rfl,rfl⟩)
 go_ret2
 exact ⟨rfl,hb1⟩
theorem LS {ps:List ZA} (hg:Zc ps=true):∀ (n:Nat) (g:Int) {w:World} {v:Value},XJ w v ps-> -1<=g->g<n->g<ps.length->
  Calls Tryz.prog 236 #[v,.int .i64 g] w fun e w'=>e= .returned (.tuple #[.int .i64 (bnd ps g).1,.int .i64 (bnd ps g).2])/\Below w.heap.size w w':=by
 intro n
 induction n with
 | zero=>
  intro g w v h h0 h1 h2
  obtain rfl:g= -1:=by omega
  rw [Jh ps (by omega)]
  obtain ⟨a,cap,rfl,_⟩:=h
  go_enter Tryz.func236,Tryz.ntmps236
  go_wp2_with fail
  go_ret2
  exact ⟨rfl,Below.refl _ _⟩
 | succ n ih=>
  intro g w v h h0 h1 h2
  by_cases hg0:g<0
  ·obtain rfl:g= -1:=by omega
   rw [Jh ps (by omega)]
   obtain ⟨a,cap,rfl,_⟩:=h
   go_enter Tryz.func236,Tryz.ntmps236
   go_wp2_with fail
   go_ret2
   exact ⟨rfl,Below.refl _ _⟩
  ·obtain ⟨k,rfl⟩:∃ k:Nat,g=k:=⟨g.toNat,by omega⟩
   have hlt:k<ps.length:=by omega
   obtain ⟨a0,a1,_⟩:=R6 hg (g:=(k:Int)) (by omega) h2
   have hs:=Dk hg (g:=(k:Int)) (by omega) h2
   rw [show ((k:Int)).toNat=k by omega] at a0 a1 hs
   rw [hs]
   clear hs
   have Hi:=Z9 h
   obtain ⟨a,cap,rfl,hc,hm,hr⟩:=h
   rcases hr with hz | ⟨b,off,rfl,hbw,hcl⟩
   ·rw [hz] at hlt;simp at hlt
   obtain ⟨c0,c1,c2⟩:=V1 hcl hlt
   clear hcl
   generalize hp:Z8 ps k=p at *
   obtain ⟨x0,x1,x2⟩:=p
   simp only at c0 c1 c2 a0 a1
   have k0:=cell_regrown c0
   have k1:=cell_regrown c1
   have k2:=cell_regrown c2
   have ih':=fun (w':World) (h:XJ w' (.slice (some ⟨b,off,none⟩) ps.length cap) ps)=>Qi x0 x1 x2 h (ih x0 h a0 (by omega) (by omega))
   have Ih:=Z9 ih'
   clear ih ih' hp
   go_enter Tryz.func236,Tryz.ntmps236
   go_wp2_with fail
   refine wq ?_
   repeat (go_big_quiet_step (exact Calls.regrown_of (uh Ih _ ((uh Hi).below (below_regrown _ _ _)))))
   refine wpQuiet_nil ?_
   intro _ hw'
   obtain ⟨⟨dq,osq⟩,hw''⟩:=hw'
   subst hw''
   go_wp2_with fail
   go_ret2
   exact ⟨rfl,below_regrown _ _ _⟩
def Zw (x:Z3):Bool:=
 inB x.1 1 3 && (inB x.2.1 0 7 && (inB x.2.2.1 (-5) 5 && (inB x.2.2.2.1 1 255 && (inB x.2.2.2.2.1 (-1) 5 && (Yj x.2.2.2.2.2.1 x.2.2.2.2.2.2.1 && (inB x.2.2.2.2.2.2.2.1 (-1000000000000) 1000000000000 &&
  (inB x.2.2.2.2.2.2.2.2.1 0 (Zy x.2.2.1-1) && (inB x.2.2.2.2.2.2.2.2.2.1 0 1024 && inB x.2.2.2.2.2.2.2.2.2.2 0 100000000000))))))))
def XV:Z3:=(0,0,0,0,0,0,0,0,0,0,0)
def Uz (x y:Z3):Bool:=x.1 ==y.1 && (x.2.1 ==y.2.1 && (x.2.2.1 ==y.2.2.1 && (x.2.2.2.1 ==y.2.2.2.1 && (x.2.2.2.2.1 ==y.2.2.2.2.1 && (x.2.2.2.2.2.1 ==y.2.2.2.2.2.1 && (x.2.2.2.2.2.2.1 ==y.2.2.2.2.2.2.1 && (x.2.2.2.2.2.2.2.1 ==y.2.2.2.2.2.2.2.1 && (x.2.2.2.2.2.2.2.2.1 ==y.2.2.2.2.2.2.2.2.1 && (x.2.2.2.2.2.2.2.2.2.1 ==y.2.2.2.2.2.2.2.2.2.1 && (x.2.2.2.2.2.2.2.2.2.2 ==y.2.2.2.2.2.2.2.2.2.2))))))))))
theorem OW (x:Z3):Uz x x=true:=by unfold Uz;simp
theorem Ec {x y:Z3} (h:Uz x y=true):x=y:=by
 obtain ⟨x0,x1,x2,x3,x4,x5,x6,x7,x8,x9,x10⟩:=x
 obtain ⟨y0,y1,y2,y3,y4,y5,y6,y7,y8,y9,y10⟩:=y
 unfold Uz at h
 simp only [Bool.and_eq_true,beq_iff_eq] at h
 obtain ⟨rfl,rfl,rfl,rfl,rfl,rfl,rfl,rfl,rfl,rfl,rfl⟩:=h
 rfl
def XB (x:Z3):Bool:=Uz x XV
def ZJ (x:Z3):Bool:=XB x || Zw x
theorem VH (r:Int):0<=Zy r/\Zy r<=3125:=by
 cases h:inB r (-5) 5
 ·rw [WL h];omega
 ·rcases D4 h with rfl | rfl | rfl | rfl | rfl | rfl | rfl | rfl | rfl | rfl | rfl<;>decide
theorem WU {r:Int} (h:inB r (-5) 5=true):335<=Zy r:=by
 rcases D4 h with rfl | rfl | rfl | rfl | rfl | rfl | rfl | rfl | rfl | rfl | rfl<;>decide
theorem Lg (r:Int):(Zy r !=0)=inB r (-5) 5:=by
 cases h:inB r (-5) 5
 ·rw [WL h];rfl
 ·have:=WU h
  simp;omega
theorem Zu {st be rk my gu lo hi hd ca ut wk:Int} (h:Zw (st,be,rk,my,gu,lo,hi,hd,ca,ut,wk)=true):(1<=st/\st<=3)/\(0<=be/\be<=7)/\inB rk (-5) 5=true/\(1<=my/\my<=255)/\(-1<=gu/\gu<=5)/\Yj lo hi=true/\(-1000000000000<=hd/\hd<=1000000000000)/\(0<=ca/\ca<=Zy rk-1)/\(0<=ut/\ut<=1024)/\(0<=wk/\wk<=100000000000):=by
 unfold Zw at h
 simp only [Bool.and_eq_true] at h
 obtain ⟨h0,h1,h2,h3,h4,h5,h6,h7,h8,h9⟩:=h
 exact ⟨ZU h0,ZU h1,h2,ZU h3,ZU h4,h5,ZU h6,ZU h7,ZU h8,ZU h9⟩
theorem Xc {x:Z3} (h:XB x=true):x=XV:=Ec h
theorem GV:XB XV=true:=OW _
theorem Up {x:Z3} (h:x.1 ≠ 0):XB x=false:=by
 cases hg:XB x
 ·rfl
 ·exact absurd (show x.1=0 by rw [Xc hg];rfl) h
theorem Tn {x:Z3} (h:x.1=0):Zw x=false:=by
 unfold Zw
 rw [h]
 rfl
def Uy (x:Z3) (work:Int):Z3:=
 (x.1,x.2.1,x.2.2.1,x.2.2.2.1,x.2.2.2.2.1,x.2.2.2.2.2.1,x.2.2.2.2.2.2.1,x.2.2.2.2.2.2.2.1+Wt work (Zy x.2.2.1) x.2.2.2.2.2.2.2.2.1,Ws work (Zy x.2.2.1) x.2.2.2.2.2.2.2.2.1,x.2.2.2.2.2.2.2.2.2.1,x.2.2.2.2.2.2.2.2.2.2+work)
def OQ (x:Z3) (rank:Int):Z3:=
 (x.1,x.2.1,rank,x.2.2.2.1,x.2.2.2.2.1,x.2.2.2.2.2.1,x.2.2.2.2.2.2.1,x.2.2.2.2.2.2.2.1,x.2.2.2.2.2.2.2.2.1%Zy rank,x.2.2.2.2.2.2.2.2.2.1,x.2.2.2.2.2.2.2.2.2.2)
def ZH (x:Z3) (work:Int):Z3 × Bool:=
 if Zw x then (if inB work 0 100000 && Zw (Uy x work) then (Uy x work,true) else (x,false)) else (if XB x then x else XV,false)
def Yo (x:Z3) (rank:Int):Z3 × Bool:=
 if Zw x then (if inB rank (-5) 5 then (OQ x rank,true) else (x,false)) else (if XB x then x else XV,false)
theorem RG {x:Z3} {rank:Int} (h:Zw x=true) (hr:inB rank (-5) 5=true):Zw (OQ x rank)=true:=by
 obtain ⟨st,be,rk,my,gu,lo,hi,hd,ca,ut,wk⟩:=x
 have hp:=WU hr
 have hc:inB (ca%Zy rank) 0 (Zy rank-1)=true:=Zp (Int.emod_nonneg _ (by omega)) (by have:=Int.emod_lt_of_pos ca (show 0<Zy rank by omega);omega)
 unfold Zw at h ⊢
 simp only [Bool.and_eq_true] at h
 obtain ⟨h0,h1,h2,h3,h4,h5,h6,h7,h8,h9⟩:=h
 simp only [OQ,h0,h1,h3,h4,h5,h6,h8,h9,hr,hc,Bool.and_self]
theorem KN {work W ca:Int} (w0:0<=work) (w1:work<=100000) (r0:335<=W) (r1:W<=3125) (c0:0<=ca) (c1:ca<=W-1) :
  YA work W ca=true/\0<=Wt work W ca/\Wt work W ca<=400000/\0<=Ws work W ca/\Ws work W ca<=W-1/\Wt work W ca*W+Ws work W ca=1024*work+ca:=by
 have hk:YA work W ca=true:=OI w0 (by omega) (by omega) (by omega) c0 (by omega)
 obtain ⟨e1,e2⟩:=QZ hk
 rw [e1,e2]
 have hd:=Int.emod_add_mul_ediv (1024*work+ca) W
 have m0:=Int.emod_nonneg (1024*work+ca) (show W ≠ 0 by omega)
 have m1:=Int.emod_lt_of_pos (1024*work+ca) (show 0<W by omega)
 have q0:0<=(1024*work+ca) / W:=Int.ediv_nonneg (by omega) (by omega)
 have q1:(1024*work+ca) / W<=400000:=by
  refine Int.le_of_lt_add_one (Int.ediv_lt_of_lt_mul (by omega) ?_)
  have:(335:Int)*400001<=W*400001:=Int.mul_le_mul_of_nonneg_right r0 (by omega)
  have e:(400000+1)*W=W*400001:=by rw [Int.mul_comm];rfl
  rw [e]
  omega
 refine ⟨hk,q0,q1,m0,by omega,?_⟩
 rw [Int.mul_comm]
 omega
open Go.ChangeShapes Go.WideShapes Go.ChangeAt Go.RowKit
theorem UM (s:Int) (w:World):Calls Tryz.prog 220 #[.int .i64 s] w fun e w'=>e= .returned (.bool (inB s 0 255))/\w'=w:=by
 by_cases h1:0<=s
 ·by_cases h2:s<=255
  all_goals
   go_enter Tryz.func220,Tryz.ntmps220
   go_wp2
   go_ret
   exact ⟨Z5 (by first | exact (Zp h1 h2).symm | exact (V3 (by omega)).symm),rfl⟩
 ·go_enter Tryz.func220,Tryz.ntmps220
  go_wp2
  go_ret
  exact ⟨Z5 (V3 (by omega)).symm,rfl⟩
theorem V4 (i:Int) (w:World):Calls Tryz.prog 221 #[.int .i64 i] w fun e w'=>e= .returned (.bool (inB i 0 7))/\w'=w:=by
 by_cases h1:0<=i
 ·by_cases h2:i<8
  all_goals
   go_enter Tryz.func221,Tryz.ntmps221
   go_wp2
   go_ret
   exact ⟨Z5 (by first | exact (Zp h1 (by omega)).symm | exact (V3 (by omega)).symm),rfl⟩
 ·go_enter Tryz.func221,Tryz.ntmps221
  go_wp2
  go_ret
  exact ⟨Z5 (V3 (by omega)).symm,rfl⟩
def Wf (s i:Int):Bool:=decide (s / 2 ^ i.toNat%2=1)
def Sb (s i:Int):Bool:=inB s 0 255 && inB i 0 7 && Wf s i
theorem DA (n:Int):bits .and .i64 n 1=n%2:=by
 have h1:(BitVec.ofInt 64 1).toNat=2 ^ 1-1:=by decide
 have key:(BitVec.ofInt 64 n &&& BitVec.ofInt 64 1).toNat=(n%((2 ^ 64:Nat):Int)).toNat%2 ^ 1:=by
  rw [BitVec.toNat_and,BitVec.toNat_ofInt,h1,Nat.and_two_pow_sub_one_eq_mod]
 show IntKind.i64.wrap ((BitVec.ofInt 64 n &&& BitVec.ofInt 64 1).toNat:Nat)=n%2
 rw [key,IntKind.wrap_i64]
 omega
theorem Dj (s i:Int):(bits .and .i64 (s / 2 ^ i.toNat) 1 ==1)=Wf s i:=by rw [DA];unfold Wf;rfl
theorem Im {s i:Int} (h:inB s 0 255=false\/inB i 0 7=false):Sb s i=false:=by unfold Sb;rcases h with h | h<;>simp [h]
theorem DO {s i:Int} (hs:inB s 0 255=true) (hi:inB i 0 7=true):Sb s i=Wf s i:=by unfold Sb;simp [hs,hi]
theorem ME (s i:Int) (w:World) (hs:0<=s) (hs2:s<=255) (hi:0<=i) (hi2:i<=7):Calls Tryz.prog 106 #[.int .i64 s,.int .i64 i] w fun e w'=>e= .returned (.bool (Wf s i))/\w'=w:=by
 go_enter Tryz.func106,Tryz.ntmps106
 go_wp2
 go_ret
 exact ⟨Z5 (Dj s i),rfl⟩
theorem UL (s i:Int) (w:World):Calls Tryz.prog 174 #[.int .i64 s,.int .i64 i] w fun e w'=>e= .returned (.bool (Sb s i))/\w'=w:=by
 by_cases hb:inB s 0 255=true
 ·obtain ⟨hs,hs2⟩:=ZU hb
  by_cases hc:inB i 0 7=true
  ·obtain ⟨hi,hi2⟩:=ZU hc
   go_enter Tryz.func174,Tryz.ntmps174
   go_wp2_with (first | (go_at_call 220;refine (UM _ _).mono ?_;rintro e w' ⟨rfl,rfl⟩) | (go_at_call 221;refine (V4 _ _).mono ?_;rintro e w' ⟨rfl,rfl⟩))
   go_ret
   exact ⟨Z5 ((Dj s i).trans (DO hb hc).symm),rfl⟩
  ·have hc':inB i 0 7=false:=by simpa using hc
   go_enter Tryz.func174,Tryz.ntmps174
   go_wp2_with (first | (go_at_call 220;refine (UM _ _).mono ?_;rintro e w' ⟨rfl,rfl⟩) | (go_at_call 221;refine (V4 _ _).mono ?_;rintro e w' ⟨rfl,rfl⟩))
   go_ret
   exact ⟨Z5 (Im (.inr hc')).symm,rfl⟩
 ·have hb':inB s 0 255=false:=by simpa using hb
  go_enter Tryz.func174,Tryz.ntmps174
  go_wp2_with (first | (go_at_call 220;refine (UM _ _).mono ?_;rintro e w' ⟨rfl,rfl⟩) | (go_at_call 221;refine (V4 _ _).mono ?_;rintro e w' ⟨rfl,rfl⟩))
  go_ret
  exact ⟨Z5 (Im (.inl hb')).symm,rfl⟩
def ZP (s:Z3):Bool:=s.1 ==2 || s.1 ==3
def Xz (had XO:Int):Bool:=inB had (-1000000000000) 1000000000000 && (inB XO (-1000000000000) 1000000000000 && inB (had-XO) (-20000) 63000)
def Wu (d:Yq):Bool:=inB d.2.2 (-900000000000) 900000000000
def WY (m:Z6) (j:Nat):Bool:=inB (Z8 m.paces j) 0 (((ZV m.rooms j).2.length:Int)-1)
def Yt (m:Z6) (s:Z3):Bool:=ZJ s && (s.1 ==0 || (decide (s.2.2.2.2.1<m.guilds.length) && decide (s.2.1<m.desks.length)))
def Ym (m:Z6) (s:Z3):Bool:= !ZP s || ((Z8 m.desks s.2.1.toNat).1 && (Wf s.2.2.2.1 s.2.1 && Xz s.2.2.2.2.2.2.2.1 (Z8 m.desks s.2.1.toNat).2.2))
def YY (m:Z6):Bool:=Zf m.rooms && (Zc m.guilds && (decide (m.smiths.length<=12) && (decide ((m.desks.length:Int)=ZY m.rooms) && (decide (m.paces.length=m.rooms.length) && inB m.now 0 1000000))))
def We (m:Z6) (k:Nat):Bool:=(List.range k).all fun j=>Wu (Z8 m.desks j)
def US (m:Z6) (k:Nat):Bool:=(List.range k).any fun j=>(Z8 m.desks j).1
def WJ (m:Z6) (k:Nat):Bool:=(List.range k).all fun j=>WY m j
def WK (m:Z6) (k:Nat):Bool:=(List.range k).all fun j=>Yt m (Z8 m.smiths j) && Ym m (Z8 m.smiths j)
def Ze (m:Z6):Bool:=YY m && (We m m.desks.length && (WJ m m.paces.length && (WK m m.smiths.length && US m m.desks.length)))
theorem UG {p:Nat->Bool} (k:Nat):(List.range (k+1)).all p=((List.range k).all p && p k):=by rw [List.range_succ,List.all_append];simp
theorem Dd {p:Nat->Bool} (k:Nat):(List.range (k+1)).any p=((List.range k).any p || p k):=by rw [List.range_succ,List.any_append];simp
theorem RW {p:Nat->Bool} {k n:Nat} (hk:k<n) (h:p k=false):(List.range n).all p=false:=by
 rw [List.all_eq_false]
 exact ⟨k,List.mem_range.2 hk,by simp [h]⟩
theorem Lr {p:Nat->Bool} {k n:Nat} (h:(List.range n).all p=true) (hk:k<n):p k=true:=List.all_eq_true.1 h k (List.mem_range.2 hk)
theorem WN (h:YY m=false):Ze m=false:=by unfold Ze;rw [h];rfl
theorem J5 {k:Nat} (hk:k<m.desks.length) (h:Wu (Z8 m.desks k)=false):Ze m=false:=by
 unfold Ze We
 rw [RW hk h];simp
theorem J6 {k:Nat} (hk:k<m.paces.length) (h:WY m k=false):Ze m=false:=by
 unfold Ze WJ
 rw [RW (p:=fun j=>WY m j) hk h];simp
theorem LZ {k:Nat} (hk:k<m.smiths.length) (h:(Yt m (Z8 m.smiths k) && Ym m (Z8 m.smiths k))=false):Ze m=false:=by
 unfold Ze WK
 rw [RW (p:=fun j=>Yt m (Z8 m.smiths j) && Ym m (Z8 m.smiths j)) hk h];simp
theorem Ij (h1:YY m=true) (h2:We m m.desks.length=true) (h3:WJ m m.paces.length=true) (h4:WK m m.smiths.length=true):Ze m=US m m.desks.length:=by
 unfold Ze;rw [h1,h2,h3,h4];rfl
theorem JQ {s:Z3} (h:Yt m s=true) (hp:ZP s=true):0<=s.2.1/\s.2.1<m.desks.length/\s.2.1<=7/\1<=s.2.2.2.1/\s.2.2.2.1<=255/\s.2.2.2.2.1<m.guilds.length:=by
 obtain ⟨st,be,rk,my,gu,lo,hi,hd,ca,ut,wk⟩:=s
 have hst:st ≠ 0:=by
  intro e
  subst e
  cases hp
 unfold Yt at h
 simp only [Bool.and_eq_true,Bool.or_eq_true,decide_eq_true_eq] at h
 obtain ⟨h1,h2⟩:=h
 rcases h2 with h2 | ⟨h2,h3⟩
 ·exact absurd (by simpa using h2) hst
 ·have hs:ZJ (st,be,rk,my,gu,lo,hi,hd,ca,ut,wk)=Zw (st,be,rk,my,gu,lo,hi,hd,ca,ut,wk):=by unfold ZJ;rw [Up hst,Bool.false_or]
  rw [hs] at h1
  obtain ⟨_,⟨b0,b1⟩,_,⟨m0,m1⟩,_⟩:=Zu h1
  exact ⟨b0,h3,b1,m0,m1,h2⟩
def Yv (ss:List Z3) (b:Int):Nat->Option (Int × Bool)
 | 0=>some (-1,false)
 | k+1=>match Yv ss b k with
  | none=>none
  | some (wk,wt)=>if (Z8 ss k).2.1=b/\ZP (Z8 ss k)=true then (if (Z8 ss k).1=2 then some (wk,true) else if 0<=wk then none else some ((k:Int),wt)) else some (wk,wt)
def YL (m:Z6) (b:Nat):Bool:=match Yv m.smiths b m.smiths.length with
 | none=>false
 | some (wk,wt)=>(Z8 m.desks b).2.1 ==wk && !(wt && decide (wk<0))
def ZO (m:Z6):Bool:=Ze m && (List.range m.desks.length).all (YL m)
end Go.Proofs.YtffcgajndmhpkaaGreatDoor
