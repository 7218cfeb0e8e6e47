/- Part 3 of what the proof rests on. No condition but those that a theorem names. -/
import Derived.Test.YthbbahagpmdooaaGreatXq02
set_option maxHeartbeats 8000000
set_option maxRecDepth 100000
namespace Go.Proofs.YthbbahagpmdooaaGreat
open Go.ChangeShapes Go.WideShapes Go.ChangeAt Go.RowKit Go.Sort
set_option linter.unusedVariables false
variable {w w' w0 w1 w2 w3 w₀ wr W W' X A B C : World} {v v0 v1 v2 v3 v4 u u0 u1 u2 u3 u4 : Value} {m : Z4}
def YJ (lo hi:Int):Bool:=inB lo 0 1024 && inB hi 0 1024 && decide (lo<=hi)
theorem FV {lo hi:Int} (h:YJ lo hi=true):0<=lo/\lo<=1024/\0<=hi/\hi<=1024/\lo<=hi:=by
 unfold YJ at h
 simp only [Bool.and_eq_true,decide_eq_true_eq] at h
 obtain ⟨⟨h1,h2⟩,h3⟩:=h
 exact ⟨(ZU h1).1,(ZU h1).2,(ZU h2).1,(ZU h2).2,h3⟩
def XU (g:ZK) (n:Int):Bool:=inB g.1 (-1) (n-1) && YJ g.2.1 g.2.2
theorem N0 {g:ZK} {n:Int} (h:XU g n=true) : -1<=g.1/\g.1<=n-1/\YJ g.2.1 g.2.2=true:=by
 unfold XU at h
 simp only [Bool.and_eq_true] at h
 exact ⟨(ZU h.1).1,(ZU h.1).2,h.2⟩
def Vj (ps:List ZK) (k:Nat):Bool:=(List.range k).all fun i=>XU (Z8 ps i) i
theorem SO (ps:List ZK) (k:Nat):Vj ps (k+1)=(Vj ps k && XU (Z8 ps k) k):=by unfold Vj;rw [List.range_succ,List.all_append];simp
theorem Fd {ps:List ZK} {k n:Nat} (hk:k<n) (h:XU (Z8 ps k) k=false):Vj ps n=false:=by
 unfold Vj
 rw [List.all_eq_false]
 exact ⟨k,List.mem_range.2 hk,by simp [h]⟩
theorem MO {ps:List ZK} {k n:Nat} (h:Vj ps n=true) (hk:k<n):XU (Z8 ps k) k=true:=by
 unfold Vj at h
 exact List.all_eq_true.1 h k (List.mem_range.2 hk)
def Zw (ps:List ZK):Bool:=Vj ps ps.length && decide (ps.length<=6)
theorem Xb {ps:List ZK} (h:Zw ps=true):Vj ps ps.length=true/\ps.length<=6:=by
 unfold Zw at h
 simpa using h
theorem Ru {ps:List ZK} {k:Nat} (hk:k<ps.length) (h:XU (Z8 ps k) k=false):Zw ps=false:=by unfold Zw;rw [Fd hk h];rfl
theorem Nm {ps:List ZK} (h:6<ps.length):Zw ps=false:=by unfold Zw;simp;omega
theorem Uj {ps:List ZK} (h:Zw ps=true) {g:Int} (h0:0<=g) (h1:g<ps.length) : -1<=(Z8 ps g.toNat).1/\(Z8 ps g.toNat).1<=g-1/\YJ (Z8 ps g.toNat).2.1 (Z8 ps g.toNat).2.2=true:=by
 have:=N0 (MO (Xb h).1 (k:=g.toNat) (by omega))
 rw [show ((g.toNat:Nat):Int)=g by omega] at this
 exact this
def VX (b:Int × Int) (lo hi:Int):Int × Int:=(min (max lo b.1) b.2,min (max hi (min (max lo b.1) b.2)) b.2)
def Rn (ps:List ZK):Nat->Int->Int × Int
 | 0,_=>(0,1024)
 | n+1,g=>if g<0 then (0,1024) else VX (Rn ps n (Z8 ps g.toNat).1) (Z8 ps g.toNat).2.1 (Z8 ps g.toNat).2.2
def bnd (ps:List ZK) (g:Int):Int × Int:=Rn ps (g+1).toNat g
theorem Nz {b:Int × Int} {lo hi:Int} (h0:0<=b.1) (h1:b.1<=b.2) (h2:b.2<=1024):b.1<=(VX b lo hi).1/\(VX b lo hi).1<=(VX b lo hi).2/\(VX b lo hi).2<=b.2:=by
 unfold VX
 refine ⟨?_,?_,?_⟩<;>simp only<;>omega
theorem IQ (ps:List ZK):∀ (n:Nat) (g:Int),0<=(Rn ps n g).1/\(Rn ps n g).1<=(Rn ps n g).2/\(Rn ps n g).2<=1024
 | 0,g=>by unfold Rn;simp
 | n+1,g=>by
  unfold Rn
  split
  ·simp
  ·obtain ⟨h0,h1,h2⟩:=IQ ps n (Z8 ps g.toNat).1
   obtain ⟨h3,h4,h5⟩:=Nz (lo:=(Z8 ps g.toNat).2.1) (hi:=(Z8 ps g.toNat).2.2) h0 h1 h2
   exact ⟨by omega,h4,by omega⟩
theorem Fl (ps:List ZK) (g:Int):0<=(bnd ps g).1/\(bnd ps g).1<=(bnd ps g).2/\(bnd ps g).2<=1024:=IQ ps _ g
theorem NU {ps:List ZK} (h:Zw ps=true):∀ (n m:Nat) (g:Int),g<n->g<m->g<ps.length->Rn ps n g=Rn ps m g
 | 0,0,g,_,_,_=>rfl
 | 0,m+1,g,h1,h2,h3=>by unfold Rn;rw [if_pos (by omega)]
 | n+1,0,g,h1,h2,h3=>by unfold Rn;rw [if_pos (by omega)]
 | n+1,m+1,g,h1,h2,h3=>by
  unfold Rn
  by_cases h0:g<0
  ·rw [if_pos h0,if_pos h0]
  ·rw [if_neg h0,if_neg h0]
   obtain ⟨a0,a1,_⟩:=Uj h (g:=g) (by omega) h3
   rw [NU h n m (Z8 ps g.toNat).1 (by omega) (by omega) (by omega)]
theorem RU (ps:List ZK) {g:Int} (h:g<0):bnd ps g=(0,1024):=by
 unfold bnd
 rw [show (g+1).toNat=0 by omega];rfl
theorem Lf {ps:List ZK} (h:Zw ps=true) {g:Int} (h0:0<=g) (h1:g<ps.length):bnd ps g=VX (bnd ps (Z8 ps g.toNat).1) (Z8 ps g.toNat).2.1 (Z8 ps g.toNat).2.2:=by
 obtain ⟨a0,a1,_⟩:=Uj h h0 h1
 unfold bnd
 rw [show (g+1).toNat=g.toNat+1 by omega]
 show (if g<0 then (0,1024) else _)=_
 rw [if_neg (by omega),NU h g.toNat ((Z8 ps g.toNat).1+1).toNat _ (by omega) (by omega) (by omega)]
def isB (ps:List ZK) (g:Int):Bool:=Zw ps && inB g (-1) ((ps.length:Int)-1)
theorem Em {ps:List ZK} {g:Int} (h:isB ps g=true):Zw ps=true/\ -1<=g/\g<ps.length:=by
 unfold isB at h
 simp only [Bool.and_eq_true] at h
 have:=ZU h.2
 exact ⟨h.1,this.1,by omega⟩
def Wm (ps:List ZK) (g lo hi:Int):Int × Int:=if isB ps g && YJ lo hi then VX (bnd ps g) lo hi else (-1,-1)
theorem Ti {ps:List ZK} {g lo hi:Int} (h:(isB ps g && YJ lo hi)=false):Wm ps g lo hi=(-1,-1):=by unfold Wm;rw [h];rfl
theorem Tj {ps:List ZK} {g lo hi:Int} (h:isB ps g=true) (h':YJ lo hi=true):Wm ps g lo hi=VX (bnd ps g) lo hi:=by unfold Wm;rw [h,h'];rfl
theorem EY {lo hi:Int} (h0:0<=lo) (h1:lo<=hi) (h2:hi<=1024):YJ lo hi=true:=by unfold YJ;rw [Zs h0 (by omega),Zs (by omega) h2];simp;omega
theorem NA {lo hi:Int} (h:lo<0\/hi<lo\/1024<hi):YJ lo hi=false:=by
 cases e:YJ lo hi
 ·rfl
 ·have:=FV e;omega
theorem ZJ (lo hi:Int) (w:World):Calls Tryz.prog 153 #[.int .i64 lo,.int .i64 hi] w fun e w'=>e= .returned (.bool (YJ lo hi))/\w'=w:=by
 by_cases h1:0<=lo
 ·by_cases h2:lo<=hi
  ·by_cases h3:hi<=1024
   all_goals
    go_enter Tryz.func153,Tryz.ntmps153
    go_wp2
    go_ret
    exact ⟨Z6 (by first | exact (EY h1 h2 h3).symm | exact (NA (by omega)).symm),rfl⟩
  ·go_enter Tryz.func153,Tryz.ntmps153
   go_wp2
   go_ret
   exact ⟨Z6 (NA (by omega)).symm,rfl⟩
 ·go_enter Tryz.func153,Tryz.ntmps153
  go_wp2
  go_ret
  exact ⟨Z6 (NA (by omega)).symm,rfl⟩
theorem Tu (a lo hi n:Int) (w:World):Calls Tryz.prog 119 #[.agg #[.int .i64 a,.int .i64 lo,.int .i64 hi],.int .i64 n] w fun e w'=>e= .returned (.bool (XU (a,lo,hi) n))/\Below w.heap.size w w':=by
 by_cases h1 : -1<=a
 ·by_cases h2:a<n
  ·have hg:XU (a,lo,hi) n=YJ lo hi:=by unfold XU;rw [Zs h1 (by omega)];rfl
   rw [hg];clear hg
   go_enter Tryz.func119,Tryz.ntmps119
   go_wp2_with (go_at_call 153;refine (ZJ _ _ _).mono ?_;rintro e w' ⟨rfl,rfl⟩)
   go_ret
   exact ⟨rfl,(Below.refl _ _).alloc (Nat.le_refl _) _⟩
  ·have hg:XU (a,lo,hi) n=false:=by unfold XU;rw [VS (.inr (by omega))];rfl
   rw [hg];clear hg
   go_enter Tryz.func119,Tryz.ntmps119
   go_wp2_with fail
   go_ret
   exact ⟨rfl,(Below.refl _ _).alloc (Nat.le_refl _) _⟩
 ·have hg:XU (a,lo,hi) n=false:=by unfold XU;rw [VS (.inl (by omega))];rfl
  rw [hg];clear hg
  go_enter Tryz.func119,Tryz.ntmps119
  go_wp2_with fail
  go_ret
  exact ⟨rfl,(Below.refl _ _).alloc (Nat.le_refl _) _⟩
theorem Xp  {ps:List ZK} (h:Yw w v ps) :
  Calls Tryz.prog 118 #[v] w fun e w'=>e= .returned (.bool (Zw ps))/\Below w.heap.size w w':=by
 obtain ⟨a,cap,rfl,hc,hm,hr⟩:=h
 have Hr:=Z9 hr
 clear hr
 by_cases hbig:6<ps.length
 ·go_enter Tryz.func118,Tryz.ntmps118
  go_wp2_with fail
  go_ret
  exact ⟨Z6 (Nm hbig).symm,Below.refl _ _⟩
 go_enter Tryz.func118,Tryz.ntmps118
 go_wp2_with fail
 go_loopw [10] (fun i wr=> ∃ k:Nat,k<=ps.length/\i= .int .i64 k/\Vj ps k=true/\Below w.heap.size w wr) (fun i _=>ps.length-(intOf i).toNat)
 case atStart=>exact ⟨0,Nat.zero_le _,rfl,rfl,Below.refl _ _⟩
 case round=>
  obtain ⟨k,hk,rfl,hst,hb⟩:=hrel
  have Hst:=Z9 hst
  have Hb:=Z9 hb
  clear hst
  by_cases hlt:k<ps.length
  ·rcases uh Hr with h0 | ⟨b,off,rfl,hbw,hcl⟩
   ·rw [h0] at hlt;simp at hlt
   have hbr:b<wr.heap.size:=Nat.lt_of_lt_of_le hbw hb.size
   obtain ⟨c0,c1,c2⟩:=Va hcl hlt
   rw [<-hb.cell (p:=⟨b,off+k*3,none⟩) hbw] at c0
   rw [<-hb.cell (p:=⟨b,off+k*3+1,none⟩) hbw] at c1
   rw [<-hb.cell (p:=⟨b,off+k*3+2,none⟩) hbw] at c2
   generalize hp:Z8 ps k=p at c0 c1 c2
   have Hp:=Z9 hp
   clear hp
   obtain ⟨x0,x1,x2⟩:=p
   simp only at c0 c1 c2
   have hsz:=hb.size
   clear hcl hb
   go_wp2_with fail
   refine (Tu _ _ _ _ _).mono ?_
   rintro e w1 ⟨rfl,hb1⟩
   have Hb1:=Z9 ((uh Hb).trans (((Below.refl _ _).alloc hsz _).trans (hb1.mono (by simp;omega))))
   clear hb1
   cases hg:XU (x0,x1,x2) k
   ·go_wp2_with fail
    go_ret
    exact ⟨Z6 (Ru hlt (by rw [uh Hp];exact hg)).symm,uh Hb1⟩
   ·go_wp2_with fail
    go_roundw
    case rel=>exact ⟨k+1,by omega,by go_num,by rw [SO,uh Hst,uh Hp,hg];rfl,uh Hb1⟩
    case measure=>simp [intOf];omega
  ·obtain rfl:k=ps.length:=by omega
   go_wp2_with fail
   go_ret
   exact ⟨Z6 (by unfold Zw;rw [uh Hst];simp;omega),hb⟩
theorem Sf (a lo hi l h:Int) (w:World):Calls Tryz.prog 121 #[.agg #[.int .i64 a,.int .i64 lo,.int .i64 hi],.int .i64 l,.int .i64 h] w
  fun e w'=>e= .returned (.tuple #[.int .i64 (VX (lo,hi) l h).1,.int .i64 (VX (lo,hi) l h).2])/\Below w.heap.size w w':=by
 unfold VX
 go_enter Tryz.func121,Tryz.ntmps121
 go_wp2_with (go_at_call 76;refine (TZ _ _ _ _).mono ?_;rintro e w' ⟨rfl,rfl⟩)
 go_ret2
 exact ⟨rfl,(Below.refl _ _).alloc (Nat.le_refl _) _⟩
theorem MF (a lo hi a' l h:Int) (w:World):Calls Tryz.prog 154 #[.agg #[.int .i64 a,.int .i64 lo,.int .i64 hi,.int .i64 a',.int .i64 l,.int .i64 h]] w
  fun e w'=>e= .returned (.agg #[.int .i64 a',.int .i64 (VX (lo,hi) l h).1,.int .i64 (VX (lo,hi) l h).2])/\Below w.heap.size w w':=by
 go_enter Tryz.func154,Tryz.ntmps154
 go_wp2_with fail
 refine (Sf _ _ _ _ _ _).mono ?_
 rintro e w1 ⟨rfl,hb1⟩
 have hz:w.heap.size+1<w1.heap.size:=by have:=hb1.size;simp at this;omega
 have Hb1:=Z9 hb1
 obtain ⟨hc,hf⟩:=Fi hb1
 clear hb1
 go_wp2_with fail
 exact bodyPost_ret (v:= .agg #[.int .i64 a',.int .i64 (VX (lo,hi) l h).1,.int .i64 (VX (lo,hi) l h).2]) (by simp [results,Tryz.results154,go_sem,hc]) rfl
  ⟨rfl,((((((Below.refl _ _).alloc (Nat.le_refl _) _).alloc (by simp) _).trans ((uh Hb1).mono (by simp;omega))).setCell (by simp) _).setCell (by simp) _).setCell (by simp) _⟩
theorem OR {ps:List ZK} (hg:Zw ps=true):∀ (n:Nat) (g:Int) {w:World} {v:Value},Yw w v ps-> -1<=g->g<n->g<ps.length->
  Calls Tryz.prog 120 #[v,.int .i64 g] w fun e w'=> ∃ x,e= .returned (.agg #[.int .i64 x,.int .i64 (bnd ps g).1,.int .i64 (bnd ps g).2])/\Below w.heap.size w w':=by
 intro n
 induction n with
 | zero=>
  intro g w v h h0 h1 h2
  obtain rfl:g= -1:=by omega
  rw [RU ps (by omega)]
  obtain ⟨a,cap,rfl,_⟩:=h
  go_enter Tryz.func120,Tryz.ntmps120
  go_wp2_with fail
  exact bodyPost_ret (v:= .agg #[.int .i64 (-1),.int .i64 0,.int .i64 1024]) (by simp [results,Tryz.results120,go_sem]) rfl ⟨-1,rfl,(Below.refl _ _).alloc (Nat.le_refl _) _⟩
 | succ n ih=>
  intro g w v h h0 h1 h2
  by_cases hg0:g= -1
  ·subst hg0
   rw [RU ps (by omega)]
   obtain ⟨a,cap,rfl,_⟩:=h
   go_enter Tryz.func120,Tryz.ntmps120
   go_wp2_with fail
   exact bodyPost_ret (v:= .agg #[.int .i64 (-1),.int .i64 0,.int .i64 1024]) (by simp [results,Tryz.results120,go_sem]) rfl ⟨-1,rfl,(Below.refl _ _).alloc (Nat.le_refl _) _⟩
  ·obtain ⟨k,rfl⟩:∃ k:Nat,g=k:=⟨g.toNat,by omega⟩
   have hlt:k<ps.length:=by omega
   obtain ⟨a0,a1,_⟩:=Uj hg (g:=(k:Int)) (by omega) h2
   have hs:=Lf hg (g:=(k:Int)) (by omega) h2
   rw [show ((k:Int)).toNat=k by omega] at a0 a1 hs
   rw [hs]
   clear hs
   have Hi:=Z9 h
   obtain ⟨a,cap,rfl,hc,hm,hr⟩:=h
   rcases hr with hz | ⟨b,off,rfl,hbw,hcl⟩
   ·rw [hz] at hlt;simp at hlt
   obtain ⟨c0,c1,c2⟩:=Va hcl hlt
   clear hcl
   generalize hW:w.alloc (.cells #[.int .i64 0,.int .i64 0,.int .i64 0] 121)=W
   have HB:Hid (Below w.heap.size w W):=Z9 (by rw [<-hW];exact (Below.refl _ _).alloc (Nat.le_refl _) _)
   have hsz:w.heap.size<W.heap.size:=by rw [<-hW];simp
   have hbW:b<W.heap.size:=by omega
   rw [<-(uh HB).cell (p:=⟨b,off+k*3,none⟩) hbw] at c0
   rw [<-(uh HB).cell (p:=⟨b,off+k*3+1,none⟩) hbw] at c1
   rw [<-(uh HB).cell (p:=⟨b,off+k*3+2,none⟩) hbw] at c2
   have D:Hid ((∃ u,W.cell? ⟨w.heap.size,0,none⟩=some u)/\(∃ u,W.cell? ⟨w.heap.size,1,none⟩=some u)/\(∃ u,W.cell? ⟨w.heap.size,2,none⟩=some u)/\W.frozen? ⟨w.heap.size,0,none⟩=false/\W.frozen? ⟨w.heap.size,1,none⟩=false/\W.frozen? ⟨w.heap.size,2,none⟩=false):=
    Z9 (by rw [<-hW];exact ⟨⟨_,by simp;rfl⟩,⟨_,by simp;rfl⟩,⟨_,by simp;rfl⟩,by simp,by simp,by simp⟩)
   have HW:=Z9 hW
   clear hW
   have Hc:=Z9 (And.intro c0 (And.intro c1 c2))
   generalize hp:Z8 ps k=p at *
   obtain ⟨x0,x1,x2⟩:=p
   simp only at c0 c1 c2 a0 a1
   have ih':=fun (w:World) (v:Value) (h:Yw w v ps)=>ih x0 h a0 (by omega) (by omega)
   have Ih:=Z9 ih'
   clear ih ih' hp
   go_enter Tryz.func120,Tryz.ntmps120
   go_wp2_with fail
   rw [uh HW]
   go_region_with (first
    | (go_at_call 120;refine (uh Ih _ _ ?_).mono ?_;(first | exact (uh Hi).below (uh HB) | exact ((uh Hi).below (uh HB)).below ((Below.refl _ _).drew));rintro e w1 ⟨y,rfl,hb1⟩;have B1:Hid (Below W.heap.size W w1):=Z9 (by first | exact hb1 | exact ((Below.refl _ _).drew).trans (hb1.mono (by simp)));have e0:=((uh B1).cell (p:=⟨b,off+k*3,none⟩) hbW).trans (uh Hc).1;have e1:=((uh B1).cell (p:=⟨b,off+k*3+1,none⟩) hbW).trans (uh Hc).2.1;have e2:=((uh B1).cell (p:=⟨b,off+k*3+2,none⟩) hbW).trans (uh Hc).2.2;clear hb1)
    | (go_at_call 154;refine (MF _ _ _ _ _ _ _).mono ?_;rintro e w2 ⟨rfl,hb2⟩;have B2:Hid (Below W.heap.size W w2):=Z9 ((uh B1).trans (hb2.mono (uh B1).size));obtain ⟨⟨u0,q0⟩,⟨u1,q1⟩,⟨u2,q2⟩,f0,f1,f2⟩:=uh D;have d0:=((uh B2).cell (p:=⟨w.heap.size,0,none⟩) hsz).trans q0;have d1:=((uh B2).cell (p:=⟨w.heap.size,1,none⟩) hsz).trans q1;have d2:=((uh B2).cell (p:=⟨w.heap.size,2,none⟩) hsz).trans q2;have z0:=((uh B2).frozen (p:=⟨w.heap.size,0,none⟩) hsz).trans f0;have z1:=((uh B2).frozen (p:=⟨w.heap.size,1,none⟩) hsz).trans f1;have z2:=((uh B2).frozen (p:=⟨w.heap.size,2,none⟩) hsz).trans f2;clear hb2 q0 q1 q2 f0 f1 f2))
   all_goals
    go_wp2_with fail
    exact bodyPost_ret (v:= .agg #[.int .i64 x0,.int .i64 (VX (bnd ps x0) x1 x2).1,.int .i64 (VX (bnd ps x0) x1 x2).2]) (by simp [results,Tryz.results120,go_sem,d0,d1,d2]) rfl
     ⟨x0,rfl,((((uh HB).trans ((uh B2).mono (by omega))).setCell (Nat.le_refl _) _).setCell (Nat.le_refl _) _).setCell (Nat.le_refl _) _⟩
theorem Pt  {ps:List ZK} (g lo hi:Int) (h:Yw w v ps) :
  Calls Tryz.prog 75 #[v,.int .i64 g,.int .i64 lo,.int .i64 hi] w fun e w'=>e= .returned (.tuple #[.int .i64 (Wm ps g lo hi).1,.int .i64 (Wm ps g lo hi).2])/\Below w.heap.size w w':=by
 have Hi:=Z9 h
 obtain ⟨a,cap,rfl,hc,hm,hr⟩:=h
 clear hr
 generalize hW:w.alloc (.cells #[.int .i64 g,.int .i64 lo,.int .i64 hi] 121)=W
 have HB:Hid (Below w.heap.size w W):=Z9 (by rw [<-hW];exact (Below.refl _ _).alloc (Nat.le_refl _) _)
 have hsz:w.heap.size<W.heap.size:=by rw [<-hW];simp
 have D:Hid (W.cell? ⟨w.heap.size,0,none⟩=some (.int .i64 g)/\W.cell? ⟨w.heap.size,1,none⟩=some (.int .i64 lo)/\W.cell? ⟨w.heap.size,2,none⟩=some (.int .i64 hi)):=Z9 (by rw [<-hW];simp)
 have HW:=Z9 hW
 clear hW
 have hsv:(Zw ps && XU (g,lo,hi) ps.length)=(isB ps g && YJ lo hi):=by unfold XU isB;rw [Bool.and_assoc]
 cases hG:Zw ps
 ·rw [Ti (by rw [<-hsv,hG];rfl)]
  clear hsv
  go_enter Tryz.func75,Tryz.ntmps75
  go_wp2_with fail
  rw [uh HW]
  refine (Xp ((uh Hi).below (uh HB))).mono ?_
  rw [hG]
  rintro e w1 ⟨rfl,hb1⟩
  have B1:=Z9 ((uh HB).trans (hb1.mono (by omega)))
  clear hb1
  go_wp2_with fail
  go_ret2
  exact ⟨rfl,uh B1⟩
 ·cases hQ:XU (g,lo,hi) ps.length
  ·rw [Ti (by rw [<-hsv,hG,hQ];rfl)]
   clear hsv
   go_enter Tryz.func75,Tryz.ntmps75
   go_wp2_with fail
   rw [uh HW]
   refine (Xp ((uh Hi).below (uh HB))).mono ?_
   rw [hG]
   rintro e w1 ⟨rfl,hb1⟩
   have d0:=(hb1.cell (p:=⟨w.heap.size,0,none⟩) hsz).trans (uh D).1
   have d1:=(hb1.cell (p:=⟨w.heap.size,1,none⟩) hsz).trans (uh D).2.1
   have d2:=(hb1.cell (p:=⟨w.heap.size,2,none⟩) hsz).trans (uh D).2.2
   have B1:=Z9 ((uh HB).trans (hb1.mono (by omega)))
   clear hb1
   go_wp2_with fail
   refine (Tu _ _ _ _ _).mono ?_
   rw [hQ]
   rintro e w2 ⟨rfl,hb2⟩
   have B2:=Z9 ((uh B1).trans (hb2.mono (uh B1).size))
   clear hb2
   go_wp2_with fail
   go_ret2
   exact ⟨rfl,uh B2⟩
  ·obtain ⟨g0,g1,g2⟩:=N0 hQ
   have hisB:isB ps g=true:=by unfold isB;rw [hG,Zs g0 (by simpa using g1)];rfl
   rw [Tj hisB g2]
   clear hsv hisB
   have hlt:g<ps.length:=by simp only at g1;omega
   simp only at g0
   go_enter Tryz.func75,Tryz.ntmps75
   go_wp2_with fail
   rw [uh HW]
   refine (Xp ((uh Hi).below (uh HB))).mono ?_
   rw [hG]
   rintro e w1 ⟨rfl,hb1⟩
   have d0:=(hb1.cell (p:=⟨w.heap.size,0,none⟩) hsz).trans (uh D).1
   have d1:=(hb1.cell (p:=⟨w.heap.size,1,none⟩) hsz).trans (uh D).2.1
   have d2:=(hb1.cell (p:=⟨w.heap.size,2,none⟩) hsz).trans (uh D).2.2
   have B1:=Z9 ((uh HB).trans (hb1.mono (by omega)))
   clear hb1
   go_wp2_with fail
   refine (Tu _ _ _ _ _).mono ?_
   rw [hQ]
   rintro e w2 ⟨rfl,hb2⟩
   have B2:=Z9 ((uh B1).trans (hb2.mono (uh B1).size))
   clear hb2
   go_wp2_with fail
   refine (OR hG (g+1).toNat g ((uh Hi).below (uh B2)) g0 (by omega) hlt).mono ?_
   rintro e w3 ⟨x,rfl,hb3⟩
   have B3:=Z9 ((uh B2).trans (hb3.mono (uh B2).size))
   clear hb3
   go_wp2_with fail
   refine (Sf _ _ _ _ _ _).mono ?_
   rintro e w4 ⟨rfl,hb4⟩
   have B4:=Z9 ((uh B3).trans (hb4.mono (uh B3).size))
   clear hb4
   go_wp2_with fail
   go_ret2
   exact ⟨rfl,uh B4⟩
theorem YP {B:Nat} (h:Below B w w') (n:Nat):Below B w (w'.drewN n):=⟨h.os,h.tape,h.output,h.size,h.block⟩
theorem YF (x:Int) (w:World):Calls Tryz.prog 91 #[.int .i64 x] w fun e w'=>e= .returned (.bool (inB x 0 1024))/\w'=w:=by
 go_enter Tryz.func91,Tryz.ntmps91
 go_wp2_with (go_at_call 77;refine (Z1 _ _ _ _).mono ?_;rintro e w' ⟨rfl,rfl⟩)
 go_ret
 exact ⟨rfl,rfl⟩
theorem Zg (lo hi:Int) (w:World):Calls Tryz.prog 43 #[.int .i64 lo,.int .i64 hi] w fun e w'=>e= .returned (.bool (YJ lo hi))/\w'=w:=by
 cases h1:inB lo 0 1024
 ·have hp:YJ lo hi=false:=by unfold YJ;rw [h1];rfl
  rw [hp];clear hp
  go_enter Tryz.func43,Tryz.ntmps43
  go_wp2_with (go_at_call 91;refine (YF _ _).mono ?_;rintro e w' ⟨rfl,rfl⟩)
  go_ret
  exact ⟨rfl,rfl⟩
 ·cases h2:inB hi 0 1024
  ·have hp:YJ lo hi=false:=by unfold YJ;rw [h1,h2];rfl
   rw [hp];clear hp
   go_enter Tryz.func43,Tryz.ntmps43
   go_wp2_with (go_at_call 91;refine (YF _ _).mono ?_;rintro e w' ⟨rfl,rfl⟩)
   go_ret
   exact ⟨rfl,rfl⟩
  ·have hp:YJ lo hi=decide (lo<=hi):=by unfold YJ;rw [h1,h2];rfl
   rw [hp];clear hp
   by_cases h3:lo<=hi
   all_goals
    go_enter Tryz.func43,Tryz.ntmps43
    go_wp2_with (go_at_call 91;refine (YF _ _).mono ?_;rintro e w' ⟨rfl,rfl⟩)
    go_ret
    exact ⟨Z6 (by first | (simp;done) | (simp;omega)),rfl⟩
theorem Wx  {ps:List ZK} (h:Yw w v ps) :
  Calls Tryz.prog 86 #[v] w fun e w'=>e= .returned (.bool (Zw ps))/\Below w.heap.size w w':=by
 obtain ⟨a,cap,rfl,hc,hm,hr⟩:=h
 have Hr:=Z9 hr
 clear hr
 go_enter Tryz.func86,Tryz.ntmps86
 go_wp2_with fail
 go_loopw [3] (fun i wr=> ∃ k:Nat,k<=ps.length/\i= .int .i64 k/\Vj ps k=true/\Below w.heap.size w wr) (fun i _=>ps.length-(intOf i).toNat)
 case atStart=>exact ⟨0,Nat.zero_le _,rfl,rfl,Below.refl _ _⟩
 case round=>
  obtain ⟨k,hk,rfl,hst,hb⟩:=hrel
  have Hst:=Z9 hst
  have Hb:=Z9 hb
  clear hst
  by_cases hlt:k<ps.length
  ·rcases uh Hr with h0 | ⟨b,off,rfl,hbw,hcl⟩
   ·rw [h0] at hlt;simp at hlt
   obtain ⟨c0,c1,c2⟩:=Va hcl hlt
   rw [<-hb.cell (p:=⟨b,off+k*3,none⟩) hbw] at c0
   rw [<-hb.cell (p:=⟨b,off+k*3+1,none⟩) hbw] at c1
   rw [<-hb.cell (p:=⟨b,off+k*3+2,none⟩) hbw] at c2
   generalize hp:Z8 ps k=p at c0 c1 c2
   have Hp:=Z9 hp
   clear hp
   obtain ⟨x0,x1,x2⟩:=p
   simp only at c0 c1 c2
   clear hcl hb
   have hg:XU (x0,x1,x2) k=(inB x0 (-1) ((k:Int)-1) && YJ x1 x2):=rfl
   have Hg:=Z9 hg
   clear hg
   cases h1:inB x0 (-1) ((k:Int)-1)
   ·go_wp2_with fail
    go_quiet (first | exact Calls.quiet_of_same (Z1 _ _ _ _) | exact Calls.quiet_of_same (Zg _ _ _))
    go_wp2_with fail
    go_ret
    exact ⟨Z6 (Ru hlt (by rw [uh Hp,uh Hg,h1];rfl)).symm,YP (uh Hb) _⟩
   cases h2:YJ x1 x2
   ·go_wp2_with fail
    go_quiet (first | exact Calls.quiet_of_same (Z1 _ _ _ _) | exact Calls.quiet_of_same (Zg _ _ _))
    go_wp2_with fail
    go_ret
    exact ⟨Z6 (Ru hlt (by rw [uh Hp,uh Hg,h1,h2];rfl)).symm,YP (uh Hb) _⟩
   ·go_wp2_with fail
    go_quiet (first | exact Calls.quiet_of_same (Z1 _ _ _ _) | exact Calls.quiet_of_same (Zg _ _ _))
    go_wp2_with fail
    go_roundw
    case rel=>exact ⟨k+1,by omega,by go_num,by rw [SO,uh Hst,uh Hp,uh Hg,h1,h2];rfl,YP (uh Hb) _⟩
    case measure=>simp [intOf];omega
  ·obtain rfl:k=ps.length:=by omega
   by_cases hbig:ps.length<=6
   all_goals
    go_wp2_with fail
    go_ret
    exact ⟨Z6 (by unfold Zw;rw [uh Hst];simp;omega),hb⟩
theorem TI {ps:List ZK} (g:Int) (lo hi:Int)  (h:Yw w v ps)
  (hB:Calls Tryz.prog 92 #[v,.int .i64 g] w fun e w'=>e= .returned (.tuple #[.int .i64 (bnd ps g).1,.int .i64 (bnd ps g).2])/\Below w.heap.size w w') :
  Calls Tryz.prog 44 #[v,.int .i64 g,.int .i64 lo,.int .i64 hi] w fun e w'=>e= .returned (.tuple #[.int .i64 (VX (bnd ps g) lo hi).1,.int .i64 (VX (bnd ps g) lo hi).2])/\Below w.heap.size w w':=by
 have HB:=Z9 hB
 clear hB
 obtain ⟨a,cap,rfl,_⟩:=h
 unfold VX
 go_enter Tryz.func44,Tryz.ntmps44
 go_wp2_with fail
 refine (uh HB).mono ?_
 rintro e w1 ⟨rfl,hb1⟩
 go_wp2_with (go_at_call 79;refine (Ua _ _ _ _).mono ?_;rintro e w' ⟨rfl,rfl⟩)
 go_ret2
 exact ⟨rfl,hb1⟩
theorem Sa {ps:List ZK} (hg:Zw ps=true):∀ (n:Nat) (g:Int) {w:World} {v:Value},Yw w v ps-> -1<=g->g<n->g<ps.length->
  Calls Tryz.prog 92 #[v,.int .i64 g] w fun e w'=>e= .returned (.tuple #[.int .i64 (bnd ps g).1,.int .i64 (bnd ps g).2])/\Below w.heap.size w w':=by
 intro n
 induction n with
 | zero=>
  intro g w v h h0 h1 h2
  obtain rfl:g= -1:=by omega
  rw [RU ps (by omega)]
  obtain ⟨a,cap,rfl,_⟩:=h
  go_enter Tryz.func92,Tryz.ntmps92
  go_wp2_with fail
  go_ret2
  exact ⟨rfl,Below.refl _ _⟩
 | succ n ih=>
  intro g w v h h0 h1 h2
  by_cases hg0:g<0
  ·obtain rfl:g= -1:=by omega
   rw [RU ps (by omega)]
   obtain ⟨a,cap,rfl,_⟩:=h
   go_enter Tryz.func92,Tryz.ntmps92
   go_wp2_with fail
   go_ret2
   exact ⟨rfl,Below.refl _ _⟩
  ·obtain ⟨k,rfl⟩:∃ k:Nat,g=k:=⟨g.toNat,by omega⟩
   have hlt:k<ps.length:=by omega
   obtain ⟨a0,a1,_⟩:=Uj hg (g:=(k:Int)) (by omega) h2
   have hs:=Lf hg (g:=(k:Int)) (by omega) h2
   rw [show ((k:Int)).toNat=k by omega] at a0 a1 hs
   rw [hs]
   clear hs
   have Hi:=Z9 h
   obtain ⟨a,cap,rfl,hc,hm,hr⟩:=h
   rcases hr with hz | ⟨b,off,rfl,hbw,hcl⟩
   ·rw [hz] at hlt;simp at hlt
   obtain ⟨c0,c1,c2⟩:=Va hcl hlt
   clear hcl
   generalize hp:Z8 ps k=p at *
   obtain ⟨x0,x1,x2⟩:=p
   simp only at c0 c1 c2 a0 a1
   have k0:=cell_regrown c0
   have k1:=cell_regrown c1
   have k2:=cell_regrown c2
   have ih':=fun (w':World) (h:Yw w' (.slice (some ⟨b,off,none⟩) ps.length cap) ps)=>TI x0 x1 x2 h (ih x0 h a0 (by omega) (by omega))
   have Ih:=Z9 ih'
   clear ih ih' hp
   go_enter Tryz.func92,Tryz.ntmps92
   go_wp2_with fail
   refine wp_region_quiet_below (by kernel_rfl) (by kernel_rfl) ?_
   repeat (go_big_quiet_step (exact Calls.regrown_of (uh Ih _ ((uh Hi).below (below_regrown _ _ _)))))
   refine wpQuiet_nil ?_
   intro _ hw'
   obtain ⟨⟨dq,osq⟩,hw''⟩:=hw'
   subst hw''
   go_wp2_with fail
   go_ret2
   exact ⟨rfl,below_regrown _ _ _⟩
theorem Pz  {ps:List ZK} (g:Int) (h:Yw w v ps) :
  Calls Tryz.prog 42 #[v,.int .i64 g] w fun e w'=>e= .returned (.bool (isB ps g))/\Below w.heap.size w w':=by
 have Hi:=Z9 h
 obtain ⟨a,cap,rfl,hc,hm,hr⟩:=h
 clear hr
 unfold isB
 cases hG:Zw ps
 ·go_enter Tryz.func42,Tryz.ntmps42
  go_wp2_with fail
  refine (Wx (uh Hi)).mono ?_
  rw [hG]
  rintro e w1 ⟨rfl,hb1⟩
  go_wp2_with fail
  go_ret
  exact ⟨rfl,hb1⟩
 ·have hl:=(Xb hG).2
  go_enter Tryz.func42,Tryz.ntmps42
  go_wp2_with fail
  refine (Wx (uh Hi)).mono ?_
  rw [hG]
  rintro e w1 ⟨rfl,hb1⟩
  go_wp2_with (go_at_call 77;refine (Z1 _ _ _ _).mono ?_;rintro e w' ⟨rfl,rfl⟩)
  go_ret
  exact ⟨rfl,hb1⟩
theorem Qc  {ps:List ZK} (g lo hi:Int) (h:Yw w v ps) :
  Calls Tryz.prog 17 #[v,.int .i64 g,.int .i64 lo,.int .i64 hi] w fun e w'=>e= .returned (.tuple #[.int .i64 (Wm ps g lo hi).1,.int .i64 (Wm ps g lo hi).2])/\Below w.heap.size w w':=by
 have Hi:=Z9 h
 obtain ⟨a,cap,rfl,hc,hm,hr⟩:=h
 clear hr
 cases hI:isB ps g
 ·rw [Ti (by rw [hI];rfl)]
  go_enter Tryz.func17,Tryz.ntmps17
  go_wp2_with fail
  refine (Pz g (uh Hi)).mono ?_
  rw [hI]
  rintro e w1 ⟨rfl,hb1⟩
  go_wp2_with fail
  go_ret2
  exact ⟨rfl,hb1⟩
 ·cases hP:YJ lo hi
  ·rw [Ti (by rw [hI,hP];rfl)]
   go_enter Tryz.func17,Tryz.ntmps17
   go_wp2_with fail
   refine (Pz g (uh Hi)).mono ?_
   rw [hI]
   rintro e w1 ⟨rfl,hb1⟩
   go_wp2_with (go_at_call 43;refine (Zg _ _ _).mono ?_;rw [hP];rintro e w' ⟨rfl,rfl⟩)
   go_ret2
   exact ⟨rfl,hb1⟩
  ·rw [Tj hI hP]
   obtain ⟨hG,g0,g1⟩:=Em hI
   go_enter Tryz.func17,Tryz.ntmps17
   go_wp2_with fail
   refine (Pz g (uh Hi)).mono ?_
   rw [hI]
   rintro e w1 ⟨rfl,hb1⟩
   have B1:=Z9 hb1
   clear hb1
   go_wp2_with (go_at_call 43;refine (Zg _ _ _).mono ?_;rw [hP];rintro e w' ⟨rfl,rfl⟩)
   have hi1:=(uh Hi).below (uh B1)
   refine (TI g lo hi hi1 (Sa hG (g+1).toNat g hi1 g0 (by omega) g1)).mono ?_
   rintro e w2 ⟨rfl,hb2⟩
   have B2:=Z9 ((uh B1).trans (hb2.mono (uh B1).size))
   clear hb2 hi1
   go_wp2_with fail
   go_ret2
   exact ⟨rfl,uh B2⟩
def Zh (x:Z3):Bool:=
 inB x.1 1 3 && (inB x.2.1 0 7 && (inB x.2.2.1 (-5) 5 && (inB x.2.2.2.1 1 255 && (inB x.2.2.2.2.1 (-1) 5 && (YJ x.2.2.2.2.2.1 x.2.2.2.2.2.2.1 && (inB x.2.2.2.2.2.2.2.1 (-1000000000000) 1000000000000 &&
  (inB x.2.2.2.2.2.2.2.2.1 0 (Zt x.2.2.1-1) && (inB x.2.2.2.2.2.2.2.2.2.1 0 1024 && inB x.2.2.2.2.2.2.2.2.2.2 0 100000000000))))))))
def Wh:Z3:=(0,0,0,0,0,0,0,0,0,0,0)
def US (x y:Z3):Bool:=x.1 ==y.1 && (x.2.1 ==y.2.1 && (x.2.2.1 ==y.2.2.1 && (x.2.2.2.1 ==y.2.2.2.1 && (x.2.2.2.2.1 ==y.2.2.2.2.1 && (x.2.2.2.2.2.1 ==y.2.2.2.2.2.1 && (x.2.2.2.2.2.2.1 ==y.2.2.2.2.2.2.1 && (x.2.2.2.2.2.2.2.1 ==y.2.2.2.2.2.2.2.1 && (x.2.2.2.2.2.2.2.2.1 ==y.2.2.2.2.2.2.2.2.1 && (x.2.2.2.2.2.2.2.2.2.1 ==y.2.2.2.2.2.2.2.2.2.1 && (x.2.2.2.2.2.2.2.2.2.2 ==y.2.2.2.2.2.2.2.2.2.2))))))))))
theorem Kq (x:Z3):US x x=true:=by unfold US;simp
theorem Ga {x y:Z3} (h:US x y=true):x=y:=by
 obtain ⟨x0,x1,x2,x3,x4,x5,x6,x7,x8,x9,x10⟩:=x
 obtain ⟨y0,y1,y2,y3,y4,y5,y6,y7,y8,y9,y10⟩:=y
 unfold US at h
 simp only [Bool.and_eq_true,beq_iff_eq] at h
 obtain ⟨rfl,rfl,rfl,rfl,rfl,rfl,rfl,rfl,rfl,rfl,rfl⟩:=h
 rfl
def V5 (x:Z3):Bool:=US x Wh
def ZH (x:Z3):Bool:=V5 x || Zh x
theorem UY (r:Int):0<=Zt r/\Zt r<=3125:=by
 cases h:inB r (-5) 5
 ·rw [WR h];omega
 ·rcases F4 h with rfl | rfl | rfl | rfl | rfl | rfl | rfl | rfl | rfl | rfl | rfl<;>decide
theorem Wy {r:Int} (h:inB r (-5) 5=true):335<=Zt r:=by
 rcases F4 h with rfl | rfl | rfl | rfl | rfl | rfl | rfl | rfl | rfl | rfl | rfl<;>decide
theorem MU (r:Int):(Zt r !=0)=inB r (-5) 5:=by
 cases h:inB r (-5) 5
 ·rw [WR h];rfl
 ·have:=Wy h
  simp;omega
theorem Zk {st be rk my gu lo hi hd ca ut wk:Int} (h:Zh (st,be,rk,my,gu,lo,hi,hd,ca,ut,wk)=true):(1<=st/\st<=3)/\(0<=be/\be<=7)/\inB rk (-5) 5=true/\(1<=my/\my<=255)/\(-1<=gu/\gu<=5)/\YJ lo hi=true/\(-1000000000000<=hd/\hd<=1000000000000)/\(0<=ca/\ca<=Zt rk-1)/\(0<=ut/\ut<=1024)/\(0<=wk/\wk<=100000000000):=by
 unfold Zh at h
 simp only [Bool.and_eq_true] at h
 obtain ⟨h0,h1,h2,h3,h4,h5,h6,h7,h8,h9⟩:=h
 exact ⟨ZU h0,ZU h1,h2,ZU h3,ZU h4,h5,ZU h6,ZU h7,ZU h8,ZU h9⟩
theorem V6 {x:Z3} (h:V5 x=true):x=Wh:=Ga h
theorem JD:V5 Wh=true:=Kq _
theorem Ts {x:Z3} (h:x.1 ≠ 0):V5 x=false:=by
 cases hg:V5 x
 ·rfl
 ·exact absurd (show x.1=0 by rw [V6 hg];rfl) h
theorem PK {x:Z3} (h:x.1=0):Zh x=false:=by
 unfold Zh
 rw [h]
 rfl
def PL (x:Z3) (work:Int):Z3:=
 (x.1,x.2.1,x.2.2.1,x.2.2.2.1,x.2.2.2.2.1,x.2.2.2.2.2.1,x.2.2.2.2.2.2.1,x.2.2.2.2.2.2.2.1+Uy work (Zt x.2.2.1) x.2.2.2.2.2.2.2.2.1,Ux work (Zt x.2.2.1) x.2.2.2.2.2.2.2.2.1,x.2.2.2.2.2.2.2.2.2.1,x.2.2.2.2.2.2.2.2.2.2+work)
def PQ (x:Z3) (rank:Int):Z3:=
 (x.1,x.2.1,rank,x.2.2.2.1,x.2.2.2.2.1,x.2.2.2.2.2.1,x.2.2.2.2.2.2.1,x.2.2.2.2.2.2.2.1,x.2.2.2.2.2.2.2.2.1%Zt rank,x.2.2.2.2.2.2.2.2.2.1,x.2.2.2.2.2.2.2.2.2.2)
def XJ (x:Z3) (work:Int):Z3 × Bool:=
 if Zh x then (if inB work 0 100000 && Zh (PL x work) then (PL x work,true) else (x,false)) else (if V5 x then x else Wh,false)
def Yr (x:Z3) (rank:Int):Z3 × Bool:=
 if Zh x then (if inB rank (-5) 5 then (PQ x rank,true) else (x,false)) else (if V5 x then x else Wh,false)
theorem Si {x:Z3} {rank:Int} (h:Zh x=true) (hr:inB rank (-5) 5=true):Zh (PQ x rank)=true:=by
 obtain ⟨st,be,rk,my,gu,lo,hi,hd,ca,ut,wk⟩:=x
 have hp:=Wy hr
 have hc:inB (ca%Zt rank) 0 (Zt rank-1)=true:=Zs (Int.emod_nonneg _ (by omega)) (by have:=Int.emod_lt_of_pos ca (show 0<Zt rank by omega);omega)
 unfold Zh at h ⊢
 simp only [Bool.and_eq_true] at h
 obtain ⟨h0,h1,h2,h3,h4,h5,h6,h7,h8,h9⟩:=h
 simp only [PQ,h0,h1,h3,h4,h5,h6,h8,h9,hr,hc,Bool.and_self]
theorem Ge {work W ca:Int} (w0:0<=work) (w1:work<=100000) (r0:335<=W) (r1:W<=3125) (c0:0<=ca) (c1:ca<=W-1) :
  Xs work W ca=true/\0<=Uy work W ca/\Uy work W ca<=400000/\0<=Ux work W ca/\Ux work W ca<=W-1/\Uy work W ca*W+Ux work W ca=1024*work+ca:=by
 have hk:Xs work W ca=true:=Kc w0 (by omega) (by omega) (by omega) c0 (by omega)
 obtain ⟨e1,e2⟩:=Om hk
 rw [e1,e2]
 have hd:=Int.emod_add_mul_ediv (1024*work+ca) W
 have m0:=Int.emod_nonneg (1024*work+ca) (show W ≠ 0 by omega)
 have m1:=Int.emod_lt_of_pos (1024*work+ca) (show 0<W by omega)
 have q0:0<=(1024*work+ca) / W:=Int.ediv_nonneg (by omega) (by omega)
 have q1:(1024*work+ca) / W<=400000:=by
  refine Int.le_of_lt_add_one (Int.ediv_lt_of_lt_mul (by omega) ?_)
  have:(335:Int)*400001<=W*400001:=Int.mul_le_mul_of_nonneg_right r0 (by omega)
  have e:(400000+1)*W=W*400001:=by rw [Int.mul_comm];rfl
  rw [e]
  omega
 refine ⟨hk,q0,q1,m0,by omega,?_⟩
 rw [Int.mul_comm]
 omega
open Go.ChangeShapes Go.WideShapes Go.ChangeAt Go.RowKit
theorem U2 (s:Int) (w:World):Calls Tryz.prog 164 #[.int .i64 s] w fun e w'=>e= .returned (.bool (inB s 0 255))/\w'=w:=by
 by_cases h1:0<=s
 ·by_cases h2:s<=255
  all_goals
   go_enter Tryz.func164,Tryz.ntmps164
   go_wp2
   go_ret
   exact ⟨Z6 (by first | exact (Zs h1 h2).symm | exact (VS (by omega)).symm),rfl⟩
 ·go_enter Tryz.func164,Tryz.ntmps164
  go_wp2
  go_ret
  exact ⟨Z6 (VS (by omega)).symm,rfl⟩
theorem ZG (i:Int) (w:World):Calls Tryz.prog 165 #[.int .i64 i] w fun e w'=>e= .returned (.bool (inB i 0 7))/\w'=w:=by
 by_cases h1:0<=i
 ·by_cases h2:i<8
  all_goals
   go_enter Tryz.func165,Tryz.ntmps165
   go_wp2
   go_ret
   exact ⟨Z6 (by first | exact (Zs h1 (by omega)).symm | exact (VS (by omega)).symm),rfl⟩
 ·go_enter Tryz.func165,Tryz.ntmps165
  go_wp2
  go_ret
  exact ⟨Z6 (VS (by omega)).symm,rfl⟩
def V4 (s i:Int):Bool:=decide (s / 2 ^ i.toNat%2=1)
def SI (s i:Int):Bool:=inB s 0 255 && inB i 0 7 && V4 s i
theorem FA (n:Int):bits .and .i64 n 1=n%2:=by
 have h1:(BitVec.ofInt 64 1).toNat=2 ^ 1-1:=by decide
 have key:(BitVec.ofInt 64 n &&& BitVec.ofInt 64 1).toNat=(n%((2 ^ 64:Nat):Int)).toNat%2 ^ 1:=by
  rw [BitVec.toNat_and,BitVec.toNat_ofInt,h1,Nat.and_two_pow_sub_one_eq_mod]
 show IntKind.i64.wrap ((BitVec.ofInt 64 n &&& BitVec.ofInt 64 1).toNat:Nat)=n%2
 rw [key,IntKind.wrap_i64]
 omega
theorem Fk (s i:Int):(bits .and .i64 (s / 2 ^ i.toNat) 1 ==1)=V4 s i:=by rw [FA];unfold V4;rfl
theorem J7 {s i:Int} (h:inB s 0 255=false\/inB i 0 7=false):SI s i=false:=by unfold SI;rcases h with h | h<;>simp [h]
theorem FN {s i:Int} (hs:inB s 0 255=true) (hi:inB i 0 7=true):SI s i=V4 s i:=by unfold SI;simp [hs,hi]
theorem N7 (s i:Int) (w:World) (hs:0<=s) (hs2:s<=255) (hi:0<=i) (hi2:i<=7):Calls Tryz.prog 89 #[.int .i64 s,.int .i64 i] w fun e w'=>e= .returned (.bool (V4 s i))/\w'=w:=by
 go_enter Tryz.func89,Tryz.ntmps89
 go_wp2
 go_ret
 exact ⟨Z6 (Fk s i),rfl⟩
theorem U1 (s i:Int) (w:World):Calls Tryz.prog 133 #[.int .i64 s,.int .i64 i] w fun e w'=>e= .returned (.bool (SI s i))/\w'=w:=by
 by_cases hb:inB s 0 255=true
 ·obtain ⟨hs,hs2⟩:=ZU hb
  by_cases hc:inB i 0 7=true
  ·obtain ⟨hi,hi2⟩:=ZU hc
   go_enter Tryz.func133,Tryz.ntmps133
   go_wp2_with (first | (go_at_call 164;refine (U2 _ _).mono ?_;rintro e w' ⟨rfl,rfl⟩) | (go_at_call 165;refine (ZG _ _).mono ?_;rintro e w' ⟨rfl,rfl⟩))
   go_ret
   exact ⟨Z6 ((Fk s i).trans (FN hb hc).symm),rfl⟩
  ·have hc':inB i 0 7=false:=by simpa using hc
   go_enter Tryz.func133,Tryz.ntmps133
   go_wp2_with (first | (go_at_call 164;refine (U2 _ _).mono ?_;rintro e w' ⟨rfl,rfl⟩) | (go_at_call 165;refine (ZG _ _).mono ?_;rintro e w' ⟨rfl,rfl⟩))
   go_ret
   exact ⟨Z6 (J7 (.inr hc')).symm,rfl⟩
 ·have hb':inB s 0 255=false:=by simpa using hb
  go_enter Tryz.func133,Tryz.ntmps133
  go_wp2_with (first | (go_at_call 164;refine (U2 _ _).mono ?_;rintro e w' ⟨rfl,rfl⟩) | (go_at_call 165;refine (ZG _ _).mono ?_;rintro e w' ⟨rfl,rfl⟩))
  go_ret
  exact ⟨Z6 (J7 (.inl hb')).symm,rfl⟩
def ZR (s:Z3):Bool:=s.1 ==2 || s.1 ==3
def Xw (had XO:Int):Bool:=inB had (-1000000000000) 1000000000000 && (inB XO (-1000000000000) 1000000000000 && inB (had-XO) (-20000) 63000)
def Wz (d:Yl):Bool:=inB d.2.2 (-900000000000) 900000000000
def WI (m:Z4) (j:Nat):Bool:=inB (Z8 m.paces j) 0 (((ZS m.rooms j).2.length:Int)-1)
def Yx (m:Z4) (s:Z3):Bool:=ZH s && (s.1 ==0 || (decide (s.2.2.2.2.1<m.guilds.length) && decide (s.2.1<m.desks.length)))
def Yi (m:Z4) (s:Z3):Bool:= !ZR s || ((Z8 m.desks s.2.1.toNat).1 && (V4 s.2.2.2.1 s.2.1 && Xw s.2.2.2.2.2.2.2.1 (Z8 m.desks s.2.1.toNat).2.2))
def YY (m:Z4):Bool:=Zb m.rooms && (Zw m.guilds && (decide (m.smiths.length<=12) && (decide ((m.desks.length:Int)=ZZ m.rooms) && (decide (m.paces.length=m.rooms.length) && inB m.now 0 1000000))))
def Wl (m:Z4) (k:Nat):Bool:=(List.range k).all fun j=>Wz (Z8 m.desks j)
def U7 (m:Z4) (k:Nat):Bool:=(List.range k).any fun j=>(Z8 m.desks j).1
def WN (m:Z4) (k:Nat):Bool:=(List.range k).all fun j=>WI m j
def WO (m:Z4) (k:Nat):Bool:=(List.range k).all fun j=>Yx m (Z8 m.smiths j) && Yi m (Z8 m.smiths j)
def YO (m:Z4):Bool:=YY m && (Wl m m.desks.length && (WN m m.paces.length && (WO m m.smiths.length && U7 m m.desks.length)))
theorem UZ {p:Nat->Bool} (k:Nat):(List.range (k+1)).all p=((List.range k).all p && p k):=by rw [List.range_succ,List.all_append];simp
theorem Fg {p:Nat->Bool} (k:Nat):(List.range (k+1)).any p=((List.range k).any p || p k):=by rw [List.range_succ,List.any_append];simp
theorem Sx {p:Nat->Bool} {k n:Nat} (hk:k<n) (h:p k=false):(List.range n).all p=false:=by
 rw [List.all_eq_false]
 exact ⟨k,List.mem_range.2 hk,by simp [h]⟩
theorem Na {p:Nat->Bool} {k n:Nat} (h:(List.range n).all p=true) (hk:k<n):p k=true:=List.all_eq_true.1 h k (List.mem_range.2 hk)
theorem WW (h:YY m=false):YO m=false:=by unfold YO;rw [h];rfl
theorem L5 {k:Nat} (hk:k<m.desks.length) (h:Wz (Z8 m.desks k)=false):YO m=false:=by
 unfold YO Wl
 rw [Sx hk h];simp
theorem L6 {k:Nat} (hk:k<m.paces.length) (h:WI m k=false):YO m=false:=by
 unfold YO WN
 rw [Sx (p:=fun j=>WI m j) hk h];simp
theorem Nw {k:Nat} (hk:k<m.smiths.length) (h:(Yx m (Z8 m.smiths k) && Yi m (Z8 m.smiths k))=false):YO m=false:=by
 unfold YO WO
 rw [Sx (p:=fun j=>Yx m (Z8 m.smiths j) && Yi m (Z8 m.smiths j)) hk h];simp
theorem J4 (h1:YY m=true) (h2:Wl m m.desks.length=true) (h3:WN m m.paces.length=true) (h4:WO m m.smiths.length=true):YO m=U7 m m.desks.length:=by
 unfold YO;rw [h1,h2,h3,h4];rfl
theorem LK {s:Z3} (h:Yx m s=true) (hp:ZR s=true):0<=s.2.1/\s.2.1<m.desks.length/\s.2.1<=7/\1<=s.2.2.2.1/\s.2.2.2.1<=255/\s.2.2.2.2.1<m.guilds.length:=by
 obtain ⟨st,be,rk,my,gu,lo,hi,hd,ca,ut,wk⟩:=s
 have hst:st ≠ 0:=by
  intro e
  subst e
  cases hp
 unfold Yx at h
 simp only [Bool.and_eq_true,Bool.or_eq_true,decide_eq_true_eq] at h
 obtain ⟨h1,h2⟩:=h
 rcases h2 with h2 | ⟨h2,h3⟩
 ·exact absurd (by simpa using h2) hst
 ·have hs:ZH (st,be,rk,my,gu,lo,hi,hd,ca,ut,wk)=Zh (st,be,rk,my,gu,lo,hi,hd,ca,ut,wk):=by unfold ZH;rw [Ts hst,Bool.false_or]
  rw [hs] at h1
  obtain ⟨_,⟨b0,b1⟩,_,⟨m0,m1⟩,_⟩:=Zk h1
  exact ⟨b0,h3,b1,m0,m1,h2⟩
def Yf (ss:List Z3) (b:Int):Nat->Option (Int × Bool)
 | 0=>some (-1,false)
 | k+1=>match Yf ss b k with
  | none=>none
  | some (wk,wt)=>if (Z8 ss k).2.1=b/\ZR (Z8 ss k)=true then (if (Z8 ss k).1=2 then some (wk,true) else if 0<=wk then none else some ((k:Int),wt)) else some (wk,wt)
def YE (m:Z4) (b:Nat):Bool:=match Yf m.smiths b m.smiths.length with
 | none=>false
 | some (wk,wt)=>(Z8 m.desks b).2.1 ==wk && !(wt && decide (wk<0))
def ZO (m:Z4):Bool:=YO m && (List.range m.desks.length).all (YE m)
end Go.Proofs.YthbbahagpmdooaaGreat
