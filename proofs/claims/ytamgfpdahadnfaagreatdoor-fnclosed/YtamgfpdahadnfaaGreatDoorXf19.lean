/- Part 19 of what the proof rests on. No condition but those that a theorem names. -/
import Derived.Test.YtamgfpdahadnfaaGreatDoorXf14
import Derived.Test.YtamgfpdahadnfaaGreatDoorXf15
import Derived.Deep.OwnRows
namespace Go.Proofs.YtamgfpdahadnfaaGreatDoor
open Go.ChangeShapes Go.WideShapes Go.ChangeAt Go.RowKit Go.Sort
set_option linter.unusedVariables false
def Yc:Z6:=⟨[],[],[],[],[],0⟩
def TJ (m:Z6) (who:Int):Bool:=inB who 0 ((m.sm.length:Int)-1) && !((Z8 m.sm who.toNat).1 ==0)
theorem Wr {m:Z6} {who:Int} (h:TJ m who=true):∃ k:Nat,who=(k:Int)/\k<m.sm.length/\(Z8 m.sm k).1 ≠ 0:=by
 unfold TJ at h;simp only [ZL,Bool.not_eq_true',beq_eq_false_iff_ne] at h;have h1:=ZJ h.1;exact ⟨who.toNat,by omega,by omega,h.2⟩
theorem WJ {m:Z6} (h:Loose m):Few m:=by
 have hd:=h.head;unfold YG at hd;simp only [ZL,YZ] at hd;obtain ⟨h1,h2,h3,h4,h5,_⟩:=hd;obtain ⟨r1,r2,r3,r4⟩:=Zq h1;have hg:=(Vl h2).2;refine ⟨by omega,fun r hr=> ?_,by omega,by omega,by omega,by omega⟩;have hrb:=List.all_eq_true.1 r3 r hr;unfold Zc at hrb;simp only [ZL] at hrb;have:=ZJ hrb.2.1;omega
def RI (m:Z6) (who:Int):Z6 × Int:=
 if ZF m then (if TJ m who then (if ZR (Z8 m.sm who.toNat) then (ZP (setS m who.toNat (stS (Z8 m.sm who.toNat) 1)),0) else (m,2)) else (m,1)) else (Yc,3)
def TD (m:Z6) (who:Int):Z6 × Int:=
 if ZF m then (if TJ m who then (ZP (setS m who.toNat Uv),0) else (m,1)) else (Yc,3)
def Uj (m:Z6) (who lo hi:Int):Z6 × Int:=
 if ZF m then (if TJ m who then (if Ya lo hi then (ZP (setS m who.toNat (Ez (Z8 m.sm who.toNat) lo hi)),0) else (m,3)) else (m,1)) else (Yc,3)
def Uo (m:Z6) (who rank:Int):Z6 × Int:=
 if ZF m then (if TJ m who then (if (XH (Z8 m.sm who.toNat) rank).2 then (ZP (setS m who.toNat (XH (Z8 m.sm who.toNat) rank).1),0) else (m,3)) else (m,1)) else (Yc,3)
theorem EW {m:Z6} (h:ZF m=true) (who:Int):ZF (RI m who).1=true:=by
 unfold RI;rw [h];simp only [if_true]
 split
 ·rename_i hw
  obtain ⟨k,rfl,hk,hs⟩:=Wr hw;rw [show ((k:Int)).toNat=k by simp]
  split
  ·rename_i hp
   exact YE (B7 (ZM h) hk hp)
  ·exact h
 ·exact h
theorem Gw {m:Z6} (h:ZF m=true) (who:Int):ZF (TD m who).1=true:=by
 unfold TD;rw [h];simp only [if_true]
 split
 ·rename_i hw
  obtain ⟨k,rfl,hk,hs⟩:=Wr hw;rw [show ((k:Int)).toNat=k by simp];exact YE (Em (ZM h) hk)
 ·exact h
theorem GB {m:Z6} (h:ZF m=true) (who lo hi:Int):ZF (Uj m who lo hi).1=true:=by
 unfold Uj;rw [h];simp only [if_true]
 split
 ·rename_i hw
  obtain ⟨k,rfl,hk,hs⟩:=Wr hw;rw [show ((k:Int)).toNat=k by simp]
  split
  ·rename_i hp
   exact YE (Ah (ZM h) hk hs hp)
  ·exact h
 ·exact h
theorem EU {m:Z6} (h:ZF m=true) (who rank:Int):ZF (Uo m who rank).1=true:=by
 unfold Uo;rw [h];simp only [if_true]
 split
 ·rename_i hw
  obtain ⟨k,rfl,hk,hs⟩:=Wr hw;rw [show ((k:Int)).toNat=k by simp]
  split
  ·rename_i hp
   exact YE (BZ (ZM h) hk (Prod.ext rfl hp))
  ·exact h
 ·exact h
theorem FullSmy.set_off {n₀:Nat} {w:World} {v0 v1 v2 v3 v4:Value} {m:Z6} {qs:List (ZZ × Value)} (h:FullSmy n₀ w v0 v1 v2 v3 v4 m qs) {g:Nat} (ho:∀ k,(v0.ownBlock=some k\/(∃ q ∈ qs,q.2.ownBlock=some k)\/v1.ownBlock=some k\/v2.ownBlock=some k\/v3.ownBlock=some k\/v4.ownBlock=some k)->k ≠ g) (o:Nat) (u:Value):FullSmy n₀ (w.setCell ⟨g,o,none⟩ u) v0 v1 v2 v3 v4 m qs:=by
 have hne:∀ k,k ≠ g->(w.setCell ⟨g,o,none⟩ u).heap[k]?=w.heap[k]?:=fun k hk=>heap_setCell_other w _ k u hk;exact ⟨h.hall.same2 fun k e=>hne k (ho k (by rcases e with e | e;exact .inl e;exact .inr (.inl e))),h.rm,RecAt.same h.gd fun k e=>hne k (ho k (.inr (.inr (.inl e)))),RecAt.same h.sm fun k e=>hne k (ho k (.inr (.inr (.inr (.inl e))))),RecAt.same h.dk fun k e=>hne k (ho k (.inr (.inr (.inr (.inr (.inl e)))))),RecAt.same h.pc fun k e=>hne k (ho k (.inr (.inr (.inr (.inr (.inr e)))))),h.h1,h.h2,h.h3,h.h4,h.a12,h.a13,h.a14,h.a23,h.a24,h.a34⟩
theorem Yq (n₀:Nat) (w:World):FullSmy n₀ w (.slice none 0 0) (.slice none 0 0) (.slice none 0 0) (.slice none 0 0) (.slice none 0 0) Yc []:=by
 have hz:Ls (.slice none 0 0) (.slice none 0 0):=fun b e=>by cases e
 exact ⟨OwnHall.nil _ _,rfl,World.ownsRow_nil _ _ _ _,World.ownsRow_nil _ _ _ _,World.ownsRow_nil _ _ _ _,World.ownsRow_nil _ _ _ _,⟨hz,fun q hq=>by cases hq⟩,⟨hz,fun q hq=>by cases hq⟩,⟨hz,fun q hq=>by cases hq⟩,⟨hz,fun q hq=>by cases hq⟩,hz,hz,hz,hz,hz,hz⟩
def LH (m:Z6) (s:Z3):Int:=Y1 (pushS m s) (m.sm.length:Int)
def SZ (m:Z6) (rank may guild:Int):Z6 × Int:=
 if ZF m then (if Zs (Yd rank may guild) && decide (guild<m.gd.length) then (if m.sm.length=12 then (m,4) else (if LH m (Yd rank may guild)<0 then (m,2) else
  (ZP (setS (pushS m (Yd rank may guild)) m.sm.length (QE (Yd rank may guild) (LH m (Yd rank may guild)) (YJ m (LH m (Yd rank may guild))))),0))) else (m,3)) else (Yc,3)
theorem GL {rank may guild:Int} (h:Zs (Yd rank may guild)=true):YY (Yd rank may guild)=true:=by
 unfold Zs at h;rw [Rk (by show (1:Int) ≠ 0;omega),Bool.false_or] at h;exact h
theorem GK {m:Z6} (h:Loose m) {rank may guild:Int} (hs:Zs (Yd rank may guild)=true) (hg:guild<m.gd.length):Loose (pushS m (Yd rank may guild))\/m.sm.length>=12:=by
 by_cases hl:m.sm.length<12
 ·left
  obtain ⟨j,hj,_⟩:=h.openD;exact h.pushS hl (XP.2 (.inr ⟨GL hs,hg,by show (0:Int)<_;omega⟩)) (Uy rfl)
 ·right;omega
theorem Cd {m:Z6} (h:Loose m) {b:Nat} (hb:b<m.dk.length):WE (YJ m (b:Int)) (Z8 m.dk b).2.2=true:=by
 have hmk:YJ m (b:Int)=(Z8 m.dk b).2.2:=by unfold YJ;simp
 obtain ⟨k0,k1⟩:=Rh (h.desk b hb);rw [hmk];exact Nq (by omega) (by omega) (by omega) (by omega) (by omega) (by omega)
theorem YO {m:Z6} (h:Loose m):m.sm.length<=12:=by
 have hd:=h.head;unfold YG at hd;simp only [ZL,YZ] at hd;exact hd.2.2.1
theorem D2 {m:Z6} (h:ZF m=true) (rank may guild:Int):ZF (SZ m rank may guild).1=true:=by
 unfold SZ;rw [h];simp only [if_true]
 split
 ·rename_i hs
  simp only [ZL,YZ] at hs
  split
  ·exact h
  ·rename_i hl
   split
   ·exact h
   ·rename_i hb
    have hlo:=ZM h;have h12:=YO hlo
    have hx:Loose (pushS m (Yd rank may guild)):=by
     rcases GK hlo hs.1 hs.2 with e | e
     ·exact e
     ·omega
    rcases VR (pushS m (Yd rank may guild)) (m.sm.length:Int) with ⟨e,_⟩ | ⟨b,hbl,e,hm⟩
    ·exact absurd (show LH m (Yd rank may guild)<0 by unfold LH;rw [e];omega) hb
    ·have ec:LH m (Yd rank may guild)=(b:Int):=e
     rw [ec];unfold YK at hm;simp only [ZL,Zy] at hm
     have hat:Z8 (pushS m (Yd rank may guild)).sm m.sm.length=Yd rank may guild:=by
      show Z8 (m.sm++[Yd rank may guild]) m.sm.length=_;rw [Vu,if_pos rfl]
     rw [hat] at hm;obtain ⟨k1,k2⟩:=Aj (m:=pushS m (Yd rank may guild)) (s:=Yd rank may guild) (b:=b) (had:=YJ m (b:Int)) hx (GL hs.1) hs.2 hbl hm.1 hm.2 (Cd hlo hbl);exact YE (hx.setS (by unfold pushS;simp) k1 k2)
 ·exact h
def DL (m:Z6) (s:Z3) (b:Int):Int:=YH (Zr (Yn s) (YJ m s.2.1) (YJ m b)) (YJ m b)
def RT (m:Z6) (k:Nat) (b:Int):Z6:=setS m k (QE (Z8 m.sm k) b (DL m (Z8 m.sm k) b))
def Tv (m:Z6) (who:Int):Z6 × Int:=
 if ZF m then (if TJ m who then (if (Z8 m.sm who.toNat).1=1 then (if Y1 m who<0 then (m,2) else (if Yy (RT m who.toNat (Y1 m who)) then (ZP (RT m who.toNat (Y1 m who)),0) else (m,4))) else (m,2)) else (m,1)) else (Yc,3)
theorem Fw {m:Z6} (h:ZF m=true) (who:Int):ZF (Tv m who).1=true:=by
 unfold Tv;rw [h];simp only [if_true]
 split
 ·split
  ·split
   ·exact h
   ·split
    ·rename_i hl
     exact YE (Py hl)
    ·exact h
  ·exact h
 ·exact h
theorem Kp (m:Z6) (k:Nat) (s t:Z3):setS (setS m k s) k t=setS m k t:=by unfold setS;simp
def XU (m:Z6) (k:Nat) (may:Int):Z6:=setS m k (U7 (Z8 m.sm k) may)
def Vz (m:Z6) (who may:Int):Z6 × Int:=
 if ZF m then (if TJ m who then (if inB may 1 255 then (if ZR (Z8 m.sm who.toNat) && !V0 may (Z8 m.sm who.toNat).2.1 then
  (if Y1 (XU m who.toNat may) who<0 then (m,2) else (ZP (setS (XU m who.toNat may) who.toNat (putS (XU m who.toNat may) (U7 (Z8 m.sm who.toNat) may) (Y1 (XU m who.toNat may) who))),0))
  else (ZP (XU m who.toNat may),0)) else (m,3)) else (m,1)) else (Yc,3)
theorem Kg {s:Z3} {may:Int} (h:YY s=true) (m0:1<=may) (m1:may<=255):YY (U7 s may)=true:=by
 obtain ⟨st,be,rk,my,gu,lo',hi',hd,ca,ut,wk⟩:=s;obtain ⟨x0,x1,x2,x3,x4,x5,x6,x7,x8,x9⟩:=Zj h;exact Tn x0 x1 x2 ⟨m0,m1⟩ x4 x5 x6 x7 x8 x9
theorem FD {m:Z6} (h:ZF m=true) (who may:Int):ZF (Vz m who may).1=true:=by
 unfold Vz;rw [h];simp only [if_true]
 split
 ·rename_i hw
  obtain ⟨k,rfl,hk,hs⟩:=Wr hw;rw [show ((k:Int)).toNat=k by simp];have hlo:=ZM h
  split
  ·rename_i hm
   obtain ⟨m0,m1⟩:=ZJ hm
   split
   ·rename_i hp
    simp only [ZL,Bool.not_eq_true'] at hp
    split
    ·exact h
    ·rename_i hb
     rcases VR (XU m k may) (k:Int) with ⟨e,_⟩ | ⟨b,hbl,e,hma⟩
     ·exact absurd (show Y1 (XU m k may) (k:Int)<0 by rw [e];omega) hb
     ·rw [e]
      obtain ⟨p,g1,b1⟩:=hlo.limits hk hs;obtain ⟨a0,a1,a2,a3,a4⟩:=hlo.at hk hp.1;unfold YK at hma;simp only [ZL,Zy] at hma
      have hat:Z8 (XU m k may).sm k=U7 (Z8 m.sm k) may:=by
       show Z8 (m.sm.set k _) k=_;rw [ZI hk,if_pos rfl]
      rw [hat] at hma;have:=Mo (m:=m) hlo (s:=U7 (Z8 m.sm k) may) (b:=b) (Kg p m0 m1) hp.1 g1 a0 a1 a4 hbl hma.1 hma.2;unfold XU;rw [Kp];exact YE (hlo.setS hk this.1 this.2)
   ·rename_i hp
    refine YE (Ai hlo hk hs m0 m1 ?_);cases h1:ZR (Z8 m.sm k)
    ·exact .inl rfl
    ·right
     cases h2:V0 may (Z8 m.sm k).2.1
     ·rw [h1,h2] at hp;exact absurd rfl hp
     ·rfl
  ·exact h
 ·exact h
def Qs (m:Z6) (who g:Int):Z6 × Int:=
 if TJ m who then (if inB g (-1) ((m.gd.length:Int)-1) then (ZP (setS m who.toNat (OJ (Z8 m.sm who.toNat) g)),0) else (m,3)) else (m,1)
theorem El {m:Z6} (h:ZF m=true) (who g:Int):ZF (Qs m who g).1=true:=by
 unfold Qs
 split
 ·rename_i hw
  obtain ⟨k,rfl,hk,hs⟩:=Wr hw;rw [show ((k:Int)).toNat=k by simp]
  split
  ·rename_i hg
   have:=ZJ hg;exact YE (BY (ZM h) hk hs this.1 (by omega))
  ·exact h
 ·exact h
def SR (m:Z6) (r:Nat):Int:=Xf (ZN m.rm r) (usedIn m r m.dk.length).1
theorem CV {m:Z6} (h:Loose m) {r:Nat} (hr:r<m.rm.length):0<=SR m r/\SR m r<(ZN m.rm r).2.length:=by
 have hd:=h.head;unfold YG at hd;simp only [ZL,YZ] at hd;obtain ⟨r1,r2,r3,r4⟩:=Zq hd.1;have hmem:ZN m.rm r ∈ m.rm:=by unfold ZN;simp [List.getD,hr]
 have hrb:=List.all_eq_true.1 r3 _ hmem;have hu:=Pd m r (YO h) m.dk.length
 have hlen:1<=(ZN m.rm r).2.length:=by
  have hx:=hrb;unfold Zc at hx;simp only [ZL] at hx;have:=ZJ hx.2.1;omega
 have hn:=GV (usedIn m r m.dk.length).1 (ZN m.rm r).2 hlen;unfold SR Xf;rw [hrb,Zp (by omega) (by omega)];simp only [Bool.and_self,if_true];omega
def Pj (m:Z6):Nat->Z6
 | 0=>m
 | k+1=>TH (Pj m k) k (SR m k)
theorem QK (m:Z6):∀ k,(Pj m k).rm=m.rm/\(Pj m k).gd=m.gd/\(Pj m k).sm=m.sm/\(Pj m k).dk=m.dk/\(Pj m k).now=m.now/\(Pj m k).pc.length=m.pc.length
 | 0=>⟨rfl,rfl,rfl,rfl,rfl,rfl⟩
 | k+1=>by
  obtain ⟨a,b,c,d,e,f⟩:=QK m k;refine ⟨a,b,c,d,e,?_⟩;show ((Pj m k).pc.set k _).length=_;rw [V5,f]
theorem JJ {m:Z6} (h:Loose m):∀ k,k<=m.pc.length->Loose (Pj m k)
 | 0,_=>h
 | k+1,hk=>by
  have ih:=JJ h k (by omega);have hd:=h.head;unfold YG at hd;simp only [ZL,YZ] at hd;have hr:k<m.rm.length:=by have:=hd.2.2.2.2.1;omega
  have hw:=CV h hr;have hs:=(QK m k).1;exact J2 ih (by rw [hs];exact hr) hw.1 (by rw [hs];exact hw.2)
def DN (m:Z6):Z6:=ZP (Pj m m.pc.length)
theorem Bu {m:Z6} (h:ZF m=true):ZF (DN m)=true:=YE (JJ (ZM h) _ (Z2 _))
def S7 (m:Z6) (b:Int):Int:=(Z7 (ZN m.rm (Xg m.rm b)).2 (Z8 m.pc (Xg m.rm b)).toNat).1
def yJ (s:Z3) (u:Int):Z3:=(s.1,s.2.1,s.2.2.1,s.2.2.2.1,s.2.2.2.2.1,s.2.2.2.2.2.1,s.2.2.2.2.2.2.1,s.2.2.2.2.2.2.2.1,s.2.2.2.2.2.2.2.2.1,u,s.2.2.2.2.2.2.2.2.2.2)
def Bl (s:Z3):Int:=s.2.2.2.2.2.2.2.2.2.1
def PT (m:Z6) (n:Int) (s:Z3):Option Z3:=
 if s.1=0 then some s else if s.1=3 then (if (WO s (n*S7 m s.2.1)).2 then some (yJ (WO s (n*S7 m s.2.1)).1 (ZD (Bl (WO s (n*S7 m s.2.1)).1) (S7 m s.2.1) n)) else none) else some (yJ s (ZD (Bl s) 0 n))
def Xm (m:Z6) (n:Int):Nat->Option (List Z3)
 | 0=>some m.sm
 | k+1=>match Xm m n k with
  | none=>none
  | some ss=>match PT m n (Z8 m.sm k) with
   | none=>none
   | some t=>some (ss.set k t)
theorem Oo {m:Z6} {n:Int} : ∀ {k:Nat} {ss:List Z3},Xm m n k=some ss->ss.length=m.sm.length/\ ∀ j,k<=j->Z8 ss j=Z8 m.sm j
 | 0,ss,h=>by cases h;exact ⟨rfl,fun _ _=>rfl⟩
 | k+1,ss,h=>by
  unfold Xm at h;cases ht:Xm m n k with
  | none=>rw [ht] at h;cases h
  | some s0=>
   rw [ht] at h;simp only at h;cases h1:PT m n (Z8 m.sm k) with
   | none=>rw [h1] at h;cases h
   | some t=>
    rw [h1] at h;cases h;obtain ⟨e1,e2⟩:=Oo ht;refine ⟨by simpa using e1,fun j hj=> ?_⟩;rw [<-e2 j (by omega)];unfold Z8;simp [List.getD,List.getElem?_set_ne (show k ≠ j by omega)]
theorem On {m:Z6} {n:Int} {k:Nat} : ∀ d,Xm m n k=none->Xm m n (k+d)=none
 | 0,h=>h
 | d+1,h=>by
  have:=On d h;show Xm m n (k+d+1)=none;unfold Xm;rw [this]
def Sa (m:Z6) (n:Int) (ss:List Z3):Z6:={ m with sm:=ss,now:=m.now+n }
def R8 (m:Z6) (n:Int):Z6 × Int:=
 if ZF m then (if inB n 1 20 then (match Xm m n m.sm.length with
  | none=>(m,4)
  | some ss=>if Yy (Sa m n ss) then (ZP (Sa m n ss),0) else (m,4)) else (m,3)) else (Yc,3)
theorem Fh {m:Z6} (h:ZF m=true) (n:Int):ZF (R8 m n).1=true:=by
 unfold R8;rw [h];simp only [if_true]
 split
 ·split
  ·exact h
  ·split
   ·rename_i hl
    exact YE (Py hl)
   ·exact h
 ·exact h
theorem Iw {m:Z6} (h:Loose m) (k:Nat) (hk:k<=m.dk.length):Loose (Zf m k):=by
 obtain ⟨e1,e2,e3,e4,e5,e6⟩:=ZG m k;have hd:=fun j=>V1 m j k hk
 have hopen:∀ j,(Z8 (Zf m k).dk j).1=(Z8 m.dk j).1:=by
  intro j;rw [hd j]
  split
  ·unfold WI;split<;>rfl
  ·rfl
 have hmark:∀ j,j<m.dk.length->(-900000000000<=(Z8 (Zf m k).dk j).2.2/\(Z8 (Zf m k).dk j).2.2<=900000000000)/\(Z8 m.dk j).2.2<=(Z8 (Zf m k).dk j).2.2/\((Z8 (Zf m k).dk j).2.2<=(Z8 m.dk j).2.2\/ ∀ i,i<m.sm.length->(Z8 m.sm i).2.1=(j:Int)->ZR (Z8 m.sm i)=true->(Z8 (Zf m k).dk j).2.2<=Yn (Z8 m.sm i)):=by
  intro j hj;obtain ⟨k0,k1⟩:=Rh (h.desk j hj);rw [hd j]
  split
  ·unfold WI
   split
   ·exact ⟨⟨k0,k1⟩,Int.le_refl _,.inl (Int.le_refl _)⟩
   ·rename_i e t hq
    obtain ⟨_,i,hi,hib,hip,rfl⟩:=Sh hq;obtain ⟨_,_,_,_,hband⟩:=h.at hi hip;obtain ⟨a0,a1,_⟩:=TY hband;have hm:=J8 (m:=(Z8 m.dk j).2.2) (f:=Yn (Z8 m.sm i)) (by omega) (by omega) a0 a1;show (-900000000000<=Zv _ _/\Zv _ _<=900000000000)/\_<=Zv _ _/\(Zv _ _<=_\/_)
    rw [hm];refine ⟨by omega,by omega,?_⟩;by_cases hc:Yn (Z8 m.sm i)<=(Z8 m.dk j).2.2
    ·left;omega
    ·right
     intro i' hi' hb' hp';have:=N6 hq hi' hb' hp';simp only at this;show min (max (Z8 m.dk j).2.2 (Yn (Z8 m.sm i))) 900000000000<=_;omega
  ·exact ⟨⟨k0,k1⟩,Int.le_refl _,.inl (Int.le_refl _)⟩
 refine ⟨?_,?_,?_,?_,?_,?_⟩
 ·have:=h.head
  unfold YG at this ⊢;rw [e1,e2,e3,e4,e5,e6];exact this
 ·intro j hj
  have hj':j<m.dk.length:=by omega
  exact Zp (hmark j hj').1.1 (hmark j hj').1.2
 ·intro j hj
  have hj':j<m.pc.length:=by rw [e3] at hj;exact hj
  have:=h.pace j hj';unfold Wm at this ⊢;rw [e1,e3];exact this
 ·intro i hi
  have hi':i<m.sm.length:=by omega
  rw [Wx (m:=m) (by rw [e2]) (by rw [e6])];rw [Xr m hi']
  split
  ·rename_i hp
   exact Mb (h.here i hi') hp.2 (by split<;>omega) (by split<;>omega)
  ·exact h.here i hi'
 ·intro i hi
  have hi':i<m.sm.length:=by omega
  have ha:=WD m k i hi';unfold XQ;show (!ZR (Z8 (Zf m k).sm i) || _)=true;rw [ha.2.1];cases hp:ZR (Z8 m.sm i)
  ·rfl
  ·obtain ⟨b0,b1,ho,hm,hband⟩:=h.at hi' hp
   obtain ⟨a0,a1,a2,a3,a4,a5⟩:=TY hband;obtain ⟨⟨q0,q1⟩,q2,q3⟩:=hmark (Z8 m.sm i).2.1.toNat (by omega)
   have hmay:(Z8 (Zf m k).sm i).2.2.2.1=(Z8 m.sm i).2.2.2.1:=by
    rw [Xr m hi'];split<;>rfl
   show (!true || ((Z8 (Zf m k).dk (Z8 (Zf m k).sm i).2.1.toNat).1 && (V0 (Z8 (Zf m k).sm i).2.2.2.1 (Z8 (Zf m k).sm i).2.1 && WE (Yn (Z8 (Zf m k).sm i)) (Z8 (Zf m k).dk (Z8 (Zf m k).sm i).2.1.toNat).2.2)))=true;rw [ha.1,ha.2.2,hmay,hopen,ho,hm];rw [Nq a0 a1 (by omega) (by omega) ?_ (by omega)]
   ·rfl
   ·rcases q3 with q3 | q3
    ·omega
    ·have:=q3 i hi' (by omega) hp
     omega
 ·obtain ⟨j,hj,ho⟩:=h.openD
  exact ⟨j,by omega,by rw [hopen];exact ho⟩
theorem RH {α:Type} [Inhabited α] {xs ys:List α} (hl:xs.length=ys.length) (h:∀ i,i<xs.length->Z8 xs i=Z8 ys i):xs=ys:=by
 apply List.ext_getElem hl;intro i h1 h2;have:=h i h1;unfold Z8 at this
 rwa [List.getD_eq_getElem?_getD,List.getD_eq_getElem?_getD,List.getElem?_eq_getElem h1,List.getElem?_eq_getElem h2] at this
theorem Bi {ss:List Z3} {b:Int} {e:Z4} {t:List Z4} (h:atV ss b ss.length=e::t):(ZB ss (e::t)).set e.2.toNat (stS (Z8 (ZB ss (e::t)) e.2.toNat) 3)=ZB (ss.set e.2.toNat (stS (Z8 ss e.2.toNat) 3)) t:=by
 have hmem:∀ x ∈ e::t,0<=x.2/\x.2<ss.length:=fun x hx=>by
  rw [<-h] at hx;obtain ⟨i,hi,_,_,rfl⟩:=(Yi ss b x ss.length).1 hx;exact ⟨by show (0:Int)<=(i:Int);omega,by show (i:Int)<_;omega⟩
 have hw:=SW ss b ss.length;rw [h,List.pairwise_cons] at hw;obtain ⟨he0,he1⟩:=hmem e (List.mem_cons_self ..);have hel:e.2.toNat<ss.length:=by omega
 have hse:∀ x ∈ t,0<=x.2/\x.2<(ss.set e.2.toNat (stS (Z8 ss e.2.toNat) 3)).length:=fun x hx=>by rw [V5];exact hmem x (List.mem_cons_of_mem _ hx)
 refine RH (by rw [V5,Xs,Xs,V5]) fun i hi=> ?_;rw [V5,Xs] at hi;rw [ZI (by rw [Xs];exact hel)];obtain ⟨p1,p2⟩:=Qn (e::t) ss i hmem;obtain ⟨r1,r2⟩:=Qn t (ss.set e.2.toNat (stS (Z8 ss e.2.toNat) 3)) i hse;by_cases hie:i=e.2.toNat
 ·subst hie
  have hn:∀ x ∈ t,x.2 ≠ ((e.2.toNat:Nat):Int):=fun x hx e9=>hw.1 x hx (by omega);rw [if_pos rfl,r2 hn,ZI hel,if_pos rfl,p1 ⟨e,List.mem_cons_self ..,by omega⟩];rfl
 ·rw [if_neg hie]
  by_cases hx:∃ x ∈ t,x.2=(i:Int)
  ·obtain ⟨x,hx,hxi⟩:=hx
   rw [p1 ⟨x,List.mem_cons_of_mem _ hx,hxi⟩,r1 ⟨x,hx,hxi⟩,ZI hel,if_neg hie]
  ·have hn:∀ x ∈ t,x.2 ≠ (i:Int):=fun x hx' e9=>hx ⟨x,hx',e9⟩
   rw [p2 (fun x hx'=>by
    rcases List.mem_cons.1 hx' with rfl | hx'
    ·omega
    ·exact hn x hx'),r2 hn,ZI hel,if_neg hie]
def YU (m:Z6):Z6:=if Yy m then ZP m else Yc
def Sp (m:Z6) (b:Int):Bool:=ZF m && (YP m b && ((Z8 m.dk b.toNat).1 && decide ((atV m.sm b m.sm.length).length=0)))
theorem Ij {ss:List Z3} {k:Nat} (hk:k<ss.length):ss.set k (Z8 ss k)=ss:=by
 refine RH (by simp) fun i hi=> ?_;rw [ZI hk]
 split
 ·rename_i e;rw [e]
 ·rfl
theorem SmithsAt.put {B n c g k i:Nat} {W:World} {ss:List Z3} {x:Z3} (h:SmithsAt B W (.slice (some ⟨g,0,none⟩) n c) (ss.set k x)) (hn:n=ss.length) (hk:k<ss.length) (hi:i<11) (u:Value) (y:Z3) (hy:ZV y=(ZV x).set i u):SmithsAt B (W.setCell ⟨g,k*11+i,none⟩ u) (.slice (some ⟨g,0,none⟩) n c) (ss.set k y):=by
 have h1:=(RecAt.put1 ZT (by omega) h (by simpa using hn) (j:=k) (i:=i) (by simpa using hk) hi u y (by rw [ZI hk,if_pos rfl];exact hy)).1
 rwa [List.set_set] at h1
theorem Smy.other {w W:World} {v0 v1 v2 v3 v4 u:Value} {m:Z6} {B:Nat} {ss:List Z3} (h:Smy w v0 v1 v2 v3 v4 m) (hb:Below w.heap.size w W) (hs:SmithsAt B W u ss):Smy W v0 v1 u v3 v4 { m with sm:=ss }:=⟨h.rm.below hb,h.gd.below hb,hs.list,h.dk.below hb,h.pc.below hb⟩
theorem Below.put6 {n:Nat} {w W:World} {R:Nat} (v0 v1 v2 v3 v4 v5:Value) (h:Below n w W) (hR:n<=R):Below n w ((((((W.setCell ⟨R,0,none⟩ v0).setCell ⟨R,1,none⟩ v1).setCell ⟨R,2,none⟩ v2).setCell ⟨R,3,none⟩ v3).setCell ⟨R,4,none⟩ v4).setCell ⟨R,5,none⟩ v5):=by
 iterate 6 (refine YF ?_ hR _)
 exact h
theorem RecAt.off6 {α:Type} [Inhabited α] {t k B:Nat} {enc:α->List Value} {W:World} {R:Nat} {v:Value} {xs:List α} (v0 v1 v2 v3 v4 v5:Value) (h:RecAt t k enc B W v xs) (hR:∀ i,v.ownBlock=some i->i ≠ R):RecAt t k enc B ((((((W.setCell ⟨R,0,none⟩ v0).setCell ⟨R,1,none⟩ v1).setCell ⟨R,2,none⟩ v2).setCell ⟨R,3,none⟩ v3).setCell ⟨R,4,none⟩ v4).setCell ⟨R,5,none⟩ v5) v xs:=
 RecAt.same h fun i hi=>by rw [heap_setCell_other _ _ _ _ (hR i hi),heap_setCell_other _ _ _ _ (hR i hi),heap_setCell_other _ _ _ _ (hR i hi),heap_setCell_other _ _ _ _ (hR i hi),heap_setCell_other _ _ _ _ (hR i hi),heap_setCell_other _ _ _ _ (hR i hi)]
def Ck (rs:List ZZ):Z6:=if Y0 rs then TX rs else Yc
def xo (n₀:Nat) (M:Z6) (q:Bool) (e:Ending) (w':World):Prop:=
 ∃ u0 u1 u2 u3 u4 qs,e= .returned (.tuple #[.agg #[u0,u1,u2,u3,u4,.int .i64 M.now],.bool q])/\FullSmy n₀ w' u0 u1 u2 u3 u4 M qs
theorem DH:∀ rs:List ZZ,rs.all Zc=true->0<=ZW rs
 | [],_=>by simp [ZW]
 | r::rs,h=>by
  simp only [List.all_cons,ZL] at h;have ih:=DH rs h.2;have h1:=h.1;unfold Zc at h1;simp only [ZL] at h1;have:=ZJ h1.1;simp only [ZW,List.map_cons,List.sum_cons] at ih ⊢;omega
theorem OA {rs:List ZZ} (h:Y0 rs=true):1<=ZW rs:=by
 obtain ⟨r1,r2,r3,r4⟩:=Zq h
 match rs,r1,r3 with
 | r::rs,_,h3=>
  simp only [List.all_cons,ZL] at h3;have ih:=DH rs h3.2;have h1:=h3.1;unfold Zc at h1;simp only [ZL] at h1;have:=ZJ h1.1;simp only [ZW,List.map_cons,List.sum_cons] at ih ⊢;omega
theorem Cc {B n:Nat} {w:World} (hg:B<=w.heap.size) (hn:n<=1000):NumsAt B (w.alloc (.cells (madeCells #[.int .i64 0] n) 2)) (.slice (some ⟨w.heap.size,0,none⟩) n n) (List.replicate n 0):=by
 have hl:(madeCells #[Value.int .i64 0] n).toList=UF Sf (List.replicate n 0):=by
  have:=Cb YC (by omega) (0:Int) #[Value.int .i64 0] rfl n;rw [Nat.mul_one] at this;exact this
 have hsz:(madeCells #[Value.int .i64 0] n).size=n:=by simp [madeCells]
 show (w.alloc _).ownsRow B 2 1 _ (List.replicate n (0:Int)).length _;rw [List.length_replicate];refine ⟨by rw [V7 YC,List.length_replicate],.inr ⟨_,n,madeCells #[.int .i64 0] n,rfl,hg,heap_alloc_new w _,Z2 _,(by unfold maxLen;omega),(by simp [hsz]),?_⟩⟩;rw [<-hl,Nat.mul_one];exact List.take_of_length_le (by rw [Array.length_toList,hsz];exact Z2 _)
theorem AM (B:Nat) (w:World):DesksAt B w (.slice none 0 0) []:=World.ownsRow_nil _ _ _ _
structure NewOff (n₀:Nat) (rs:List ZZ) (w:World) (R:Nat) (v0 v4 v3:Value) (qs:List (ZZ × Value)):Prop where
 hall:OwnHall (n₀+2) w v0 qs
 rm:qs.map (·.1)=rs
 nums:NumsAt (n₀+2) w v4 (List.replicate rs.length 0)
 rlo:n₀+2<=R
 rh:∀ k,(v0.ownBlock=some k\/ ∃ q ∈ qs,q.2.ownBlock=some k)->k ≠ R
 rp:v4.ownBlock ≠ some R
 rd:v3.ownBlock ≠ some R
 hp:∀ k,(v0.ownBlock=some k\/ ∃ q ∈ qs,q.2.ownBlock=some k)->v4.ownBlock ≠ some k
 hd:∀ k,(v0.ownBlock=some k\/ ∃ q ∈ qs,q.2.ownBlock=some k)->v3.ownBlock ≠ some k
 pd:∀ k,v4.ownBlock=some k->v3.ownBlock ≠ some k
 rlt:R<w.heap.size
structure NewCut (n₀:Nat) (w:World) (a:Option Addr) (rs:List ZZ) (cap:Nat) (wc:World) (R:Nat) (hv pv:Value) (qs:List (ZZ × Value)):Prop where
 off:NewOff n₀ rs wc R hv pv (.slice none 0 0) qs
 km:Blk wc R 32 #[hv,.slice none 0 0,.slice none 0 0,.slice none 0 0,pv,.int .i64 0]
 kb:Blk wc n₀ 26 #[.slice a rs.length cap]
 kr:Blk wc (n₀+1) 32 E6
 bel:Below w.heap.size w wc
 hshape:∃ ua uc,hv= .slice ua rs.length uc
 pshape:∃ pa pc,pv= .slice pa rs.length pc
theorem NewOff.below {n₀:Nat} {rs:List ZZ} {w w':World} {R:Nat} {v0 v4 v3:Value} {qs:List (ZZ × Value)} (h:NewOff n₀ rs w R v0 v4 v3 qs) (hb:Below w.heap.size w w'):NewOff n₀ rs w' R v0 v4 v3 qs:=
 ⟨h.hall.later hb,h.rm,RecAt.later h.nums hb,h.rlo,h.rh,h.rp,h.rd,h.hp,h.hd,h.pd,Zd h.rlt hb.size⟩
theorem NewCut.below {n₀:Nat} {w:World} {a:Option Addr} {rs:List ZZ} {cap:Nat} {wc w':World} {R:Nat} {hv pv:Value} {qs:List (ZZ × Value)} (h:NewCut n₀ w a rs cap wc R hv pv qs) (hb:Below wc.heap.size wc w'):NewCut n₀ w a rs cap w' R hv pv qs:=
 ⟨h.off.below hb,h.km.below hb h.km.lt,h.kb.below hb h.kb.lt,h.kr.below hb h.kr.lt,h.bel.trans (hb.mono h.bel.size),h.hshape,h.pshape⟩
theorem NewOff.set_R {n₀:Nat} {rs:List ZZ} {w:World} {R:Nat} {v0 v4 v3:Value} {qs:List (ZZ × Value)} (h:NewOff n₀ rs w R v0 v4 v3 qs) (o:Nat) (u:Value):NewOff n₀ rs (w.setCell ⟨R,o,none⟩ u) R v0 v4 v3 qs:=
 ⟨h.hall.same2 fun k e=>heap_setCell_other _ _ _ _ (h.rh k e),h.rm,RecAt.same h.nums fun k e=>heap_setCell_other _ _ _ _ (fun e'=>h.rp (by rw [e];exact congrArg some e')),h.rlo,h.rh,h.rp,h.rd,h.hp,h.hd,h.pd,by simpa using h.rlt⟩
theorem NewOff.grow {n₀:Nat} {rs:List ZZ} {w w':World} {R:Nat} {v0 v4 v3 v':Value} {qs:List (ZZ × Value)} {o:Obj} (h:NewOff n₀ rs w R v0 v4 v3 qs) (hg:(w.alloc o).grownBy w' v3.ownBlock) (hat:v'.ownBlock=v3.ownBlock\/v'.ownBlock=some (w.alloc o).heap.size):NewOff n₀ rs w' R v0 v4 v' qs:=by
 have hk:∀ k,k<w.heap.size->v3.ownBlock ≠ some k->w'.heap[k]?=w.heap[k]?:=fun k hk hn=>(hg.block k (by simp;omega) (fun e=>hn e.symm)).trans (Below.heap_alloc w o k hk)
 have hv:∀ k,k<w.heap.size->v3.ownBlock ≠ some k->v'.ownBlock ≠ some k:=fun k hlt hn e=>by
  rcases hat with e' | e'
  ·exact hn (by rw [<-e'];exact e)
  ·rw [e'] at e
   simp at e;omega
 have hs:w.heap.size<=w'.heap.size:=by have:=hg.size;simp at this;omega
 refine ⟨h.hall.same2 fun k e=>hk k (h.hall.lt e).2 (h.hd k e),h.rm,RecAt.same h.nums fun k e=>hk k (RecAt.lt h.nums e).2 (h.pd k e),h.rlo,h.rh,h.rp,hv R h.rlt h.rd,h.hp,fun k e=>hv k (h.hall.lt e).2 (h.hd k e),fun k e=>hv k (RecAt.lt h.nums e).2 (h.pd k e),by have:=h.rlt;omega⟩
theorem NewOff.full {n₀:Nat} {rs:List ZZ} {w:World} {R:Nat} {v0 v4 v3:Value} {qs:List (ZZ × Value)} {ds:List XW} (h:NewOff n₀ rs w R v0 v4 v3 qs) (hd:DesksAt (n₀+2) w v3 ds):FullSmy (n₀+2) w v0 (.slice none 0 0) (.slice none 0 0) v3 v4 ⟨rs,[],[],ds,List.replicate rs.length 0,0⟩ qs:=by
 have hz:∀ u:Value,Ls (.slice none 0 0) u:=fun u b e=>by cases e
 have hz2:∀ u:Value,Ls u (.slice none 0 0):=fun u b e e'=>by cases e'
 exact ⟨h.hall,h.rm,World.ownsRow_nil _ _ _ _,World.ownsRow_nil _ _ _ _,hd,h.nums,⟨hz _,fun q hq=>hz _⟩,⟨hz _,fun q hq=>hz _⟩,⟨fun b e e'=>h.hd b (.inl e') e,fun q hq b e e'=>h.hd b (.inr ⟨q,hq,e'⟩) e⟩,⟨fun b e e'=>h.hp b (.inl e') e,fun q hq b e e'=>h.hp b (.inr ⟨q,hq,e'⟩) e⟩,hz _,hz _,hz _,hz _,hz _,fun b e e'=>h.pd b e' e⟩
theorem zc {w X:World} {a:Option Addr} {rs:List ZZ} {cap R g uc:Nat} {ua:Option Addr} {qs:List (ZZ × Value)} (hlo:w.heap.size+2<=R) (bel:Below w.heap.size w X) (kb:Blk X w.heap.size 26 #[.slice a rs.length cap]) (kr:Blk X (w.heap.size+1) 32 E6)
  (hh:OwnHall (w.heap.size+2) X (.slice ua rs.length uc) qs) (hn:NumsAt (w.heap.size+2) X (.slice (some ⟨g,0,none⟩) rs.length rs.length) (List.replicate rs.length 0)) (km:Blk X R 32 E6) (hgl:w.heap.size+2<=g)
  (h15:∀ k,((Value.slice ua rs.length uc).ownBlock=some k\/ ∃ q ∈ qs,q.2.ownBlock=some k)->k ≠ g) (h17:∀ k,((Value.slice ua rs.length uc).ownBlock=some k\/ ∃ q ∈ qs,q.2.ownBlock=some k)->k ≠ R) (h57:R ≠ g) (hq:qs.map (·.1)=rs) :
  ∃ R' hv pv qs',Value.pointer (some ⟨R,0,none⟩)= .pointer (some ⟨R',0,none⟩)/\NewCut w.heap.size w a rs cap ((((((X.setCell ⟨R,0,none⟩ (.slice ua rs.length uc)).setCell ⟨R,1,none⟩ (.slice none 0 0)).setCell ⟨R,2,none⟩ (.slice none 0 0)).setCell ⟨R,3,none⟩ (.slice none 0 0)).setCell ⟨R,4,none⟩ (.slice (some ⟨g,0,none⟩) rs.length rs.length)).setCell ⟨R,5,none⟩ (.int .i64 0)) R' hv pv qs':=by
 refine ⟨R,.slice ua rs.length uc,.slice (some ⟨g,0,none⟩) rs.length rs.length,qs,rfl,?_⟩;have ho:NewOff w.heap.size rs X R (.slice ua rs.length uc) (.slice (some ⟨g,0,none⟩) rs.length rs.length) (.slice none 0 0) qs:=⟨hh,hq,hn,hlo,h17,fun e=>(by cases e;exact h57 rfl),fun e=>(by cases e),fun k e e'=>(by cases e';exact h15 _ e rfl),fun k e e'=>(by cases e'),fun k e e'=>(by cases e'),km.lt⟩
 have k1:=((((((km.set 0 (.slice ua rs.length uc)).set 1 (.slice none 0 0)).set 2 (.slice none 0 0)).set 3 (.slice none 0 0)).set 4 (.slice (some ⟨g,0,none⟩) rs.length rs.length)).set 5 (.int .i64 0))
 refine ⟨(((((ho.set_R _ _).set_R _ _).set_R _ _).set_R _ _).set_R _ _).set_R _ _,k1,?_,?_,?_,⟨_,_,rfl⟩,⟨_,_,rfl⟩⟩
 ·iterate 6 (refine Blk.other ?_ (by show w.heap.size ≠ R;omega) _)
  exact kb
 ·iterate 6 (refine Blk.other ?_ (by show w.heap.size+1 ≠ R;omega) _)
  exact kr
 ·iterate 6 (refine YF ?_ (by show _<=R;omega) _)
  exact bel
theorem PY {w:World} {ops:Array Oper} {rest:List Oper} {o:Oper} {a:Act} {Q:Exit->Act->World->Prop} (hgd:o.guard=none) (s x:Operand) (t:TypeId)
  (ho:o.op= .call { callee:= .builtin .append,args:=#[s,x],argTypes:=#[t,t] }) {v u v':Value} {w':World} (hs:a.eval s=v) (hx:a.eval x=u) (hrun:(Builtin.append_ #[t,t] o.type #[v,u]).run Tryz.prog w= .ok v' w')
  (h:wpList Tryz.prog ops Q rest (a.put o.dst v') w'):wpList Tryz.prog ops Q (o::rest) a w:=by
 refine wpList_plain hgd fun K hK=> ?_;unfold Oper.wp execOp;simp only [ho,resolve,invoke,builtin,Sem.run_bind,Sem.run_pure,Result.andThen_ok,List.map_toArray,List.map_cons,List.map_nil,hs,hx,hrun];exact hK _ _ h
set_option linter.unusedSimpArgs false
set_option maxRecDepth 100000
structure Nw (w X:World) (a:Option Addr) (rs:List ZZ) (cap:Nat) (c1:Option (Option Addr × Nat × List (ZZ × Value))) (c5 c7:Option Nat):Prop where
 sz:w.heap.size+2<=X.heap.size
 v:IsRooms X (.slice a rs.length cap) rs
 kb:Blk X w.heap.size 26 #[.slice a rs.length cap]
 kr:Blk X (w.heap.size+1) 32 E6
 bb:Below w.heap.size w X
 h1:∀ ua uc qs,c1=some (ua,uc,qs)->OwnHall (w.heap.size+2) X (.slice ua rs.length uc) qs/\qs.map (·.1)=rs
 h5:∀ g,c5=some g->w.heap.size+2<=g/\g<X.heap.size/\NumsAt (w.heap.size+2) X (.slice (some ⟨g,0,none⟩) rs.length rs.length) (List.replicate rs.length 0)
 h7:∀ R,c7=some R->w.heap.size+2<=R/\Blk X R 32 E6
 d15:∀ ua uc qs g,c1=some (ua,uc,qs)->c5=some g-> ∀ k,((Value.slice ua rs.length uc).ownBlock=some k\/ ∃ q ∈ qs,q.2.ownBlock=some k)->k ≠ g
 d17:∀ ua uc qs R,c1=some (ua,uc,qs)->c7=some R-> ∀ k,((Value.slice ua rs.length uc).ownBlock=some k\/ ∃ q ∈ qs,q.2.ownBlock=some k)->k ≠ R
 d57:∀ g R,c5=some g->c7=some R->R ≠ g
section
variable {w X X' : World} {a : Option Addr} {rs : List ZZ} {cap : Nat} {c1 : Option (Option Addr × Nat × List (ZZ × Value))} {c5 c7 : Option Nat}
theorem Nw.next (h:Nw w X a rs cap c1 c5 c7) (hb:Below X.heap.size X X'):Nw w X' a rs cap c1 c5 c7:=
 ⟨XA h.sz hb.size,h.v.below hb,h.kb.below hb h.kb.lt,h.kr.below hb h.kr.lt,h.bb.trans (hb.mono h.bb.size),fun ua uc qs e=>⟨(h.h1 ua uc qs e).1.later hb,(h.h1 ua uc qs e).2⟩,fun g e=>⟨(h.h5 g e).1,Zd (h.h5 g e).2.1 hb.size,RecAt.later (h.h5 g e).2.2 hb⟩,fun R e=>⟨(h.h7 R e).1,(h.h7 R e).2.below hb (h.h7 R e).2.lt⟩,h.d15,h.d17,h.d57⟩
theorem Nw.make (h:Nw w X a rs cap c1 none c7) (hn:rs.length<=1000):Nw w (X.alloc (.cells (madeCells #[.int .i64 0] rs.length) 2)) a rs cap c1 (some X.heap.size) c7:=by
 have k:=h.next ((Z1 _ _).alloc (Z2 _) (.cells (madeCells #[.int .i64 0] rs.length) 2));have hs:=h.sz;refine ⟨k.sz,k.v,k.kb,k.kr,k.bb,k.h1,fun g e=> ?_,k.h7,fun ua uc qs g e1 e k' ho=> ?_,k.d17,fun g R e e7=> ?_⟩
 ·cases e;exact ⟨hs,by simp,Cc hs hn⟩
 ·cases e;have:=((h.h1 ua uc qs e1).1.lt ho).2;omega
 ·cases e;have:=(h.h7 R e7).2.lt;omega
theorem Nw.box (h:Nw w X a rs cap c1 c5 none):Nw w (X.alloc (.cells E6 32)) a rs cap c1 c5 (some X.heap.size):=by
 have k:=h.next ((Z1 _ _).alloc (Z2 _) (.cells E6 32));have hs:=h.sz;refine ⟨k.sz,k.v,k.kb,k.kr,k.bb,k.h1,k.h5,fun R e=> ?_,k.d15,fun ua uc qs R e1 e k' ho=> ?_,fun g R e5 e=> ?_⟩
 ·cases e;exact ⟨hs,Blk.new _ _ _⟩
 ·cases e;have:=((h.h1 ua uc qs e1).1.lt ho).2;omega
 ·cases e;have:=(h.h5 g e5).2.1;omega
end
theorem Nw.copy {w X:World} {a:Option Addr} {rs:List ZZ} {cap:Nat} {c5 c7:Option Nat} (h:Nw w X a rs cap none c5 c7) (hn:rs.length<=1000) (hp:∀ r ∈ rs,r.2.length<=1000):Calls Tryz.prog 100 #[.agg #[.slice a rs.length cap]] X fun e X'=> ∃ ua uc qs,e= .returned (.agg #[.slice ua rs.length uc])/\Hid (Nw w X' a rs cap (some (ua,uc,qs)) c5 c7):=by
 refine (Mr h.v hn hp).mono ?_;rintro e X1 ⟨v4,qs,rfl,hq4,ho4,hb4⟩;obtain ⟨ua,uc,e9⟩:=ho4.shape;have hql:qs.length=rs.length:=by have:=congrArg List.length hq4;simpa using this
 rw [hql] at e9;subst e9;have k:=h.next hb4;have hs:=h.sz;refine ⟨ua,uc,qs,rfl,Z9 ⟨k.sz,k.v,k.kb,k.kr,k.bb,fun _ _ _ e=> ?_,k.h5,k.h7,fun _ _ _ g e e5 k' ho=> ?_,fun _ _ _ R e e7 k' ho=> ?_,k.d57⟩⟩
 ·cases e;exact ⟨ho4.mono hs,hq4⟩
 ·cases e;have:=(ho4.lt ho).1;have:=(h.h5 g e5).2.1;omega
 ·cases e;have:=(ho4.lt ho).1;have:=(h.h7 R e7).2.lt;omega
theorem OS {w X:World} {a:Option Addr} {rs:List ZZ} {cap R g uc:Nat} {ua:Option Addr} {qs:List (ZZ × Value)} (h:Nw w X a rs cap (some (ua,uc,qs)) (some g) (some R)):∃ R' hv pv qs',Value.pointer (some ⟨R,0,none⟩)= .pointer (some ⟨R',0,none⟩)/\NewCut w.heap.size w a rs cap ((((((X.setCell ⟨R,0,none⟩ (.slice ua rs.length uc)).setCell ⟨R,1,none⟩ (.slice none 0 0)).setCell ⟨R,2,none⟩ (.slice none 0 0)).setCell ⟨R,3,none⟩ (.slice none 0 0)).setCell ⟨R,4,none⟩ (.slice (some ⟨g,0,none⟩) rs.length rs.length)).setCell ⟨R,5,none⟩ (.int .i64 0)) R' hv pv qs':=zc (h.h7 _ rfl).1 h.bb h.kb h.kr (h.h1 _ _ _ rfl).1 (h.h5 _ rfl).2.2 (h.h7 _ rfl).2 (h.h5 _ rfl).1 (h.d15 _ _ _ _ rfl rfl) (h.d17 _ _ _ _ rfl rfl) (h.d57 _ _ rfl rfl) (h.h1 _ _ _ rfl).2
set_option maxHeartbeats 16000000 in
theorem PQ {w:World} {v:Value} {rs:List ZZ} (h:IsRooms w v rs) :
  Calls Tryz.prog 147 #[.agg #[v]] w fun e w'=>xo w.heap.size (Ck rs) (Y0 rs) e w'/\Below w.heap.size w w':=by
 have Hv0:=Z9 h;obtain ⟨a,cap,rfl,hc,hm,hr⟩:=h;clear hr;obtain ⟨ok,hok⟩:∃ q,Y0 rs=q:=⟨_,rfl⟩
 have Hok:=Z9 hok;obtain ⟨M,hM⟩:∃ M,Ck rs=M:=⟨_,rfl⟩
 rw [hok,hM];have HM:=Z9 hM;clear hok hM;have kb:Hid (Blk ((w.alloc (.cells #[.slice a rs.length cap] 26)).alloc (.cells E6 32)) w.heap.size 26 #[.slice a rs.length cap]):=Z9 ((Blk.new w _ _).alloc _)
 have kr:Hid (Blk ((w.alloc (.cells #[.slice a rs.length cap] 26)).alloc (.cells E6 32)) (w.heap.size+1) 32 E6):=Z9 (by
  have k:=Blk.new (w.alloc (.cells #[.slice a rs.length cap] 26)) 32 E6;rw [Y8] at k
  exact k)
 have BB:Hid (Below w.heap.size w ((w.alloc (.cells #[.slice a rs.length cap] 26)).alloc (.cells E6 32))):=Z9 (((ba _ _)).alloc (by simp) _);have Hv:=Z9 ((uh Hv0).below (uh BB));go_enter Tryz.func147,Tryz.ntmps147;go_wp2_with fail;generalize (w.alloc (.cells #[.slice a rs.length cap] 26)).alloc (.cells E6 32)=W at *;refine (Uq (uh Hv)).mono ?_;rw [uh Hok];rintro e w1 ⟨rfl,hb⟩;replace Hv:=Z9 ((uh Hv).below hb);replace kb:=bl kb hb;replace kr:=bl kr hb;replace BB:=bt BB hb;clear hb;cases ok
 ·obtain rfl:M=Yc:=by rw [<-uh HM];unfold Ck;rw [uh Hok];rfl
  obtain ⟨o0,o1,o2,o3,o4,o5⟩:=(uh kr).c6;obtain ⟨f0,f1,f2,f3,f4,f5⟩:=(uh kr).f6;go_wp2_with fail;refine ZQ (v:= .tuple #[.agg E6,.bool false]) (by simp [results,Tryz.results147,go_sem, *]) rfl ⟨⟨_,_,_,_,_,[],rfl,Yq _ _⟩,?_⟩
  iterate 6 (refine YF ?_ (by show _<=w.heap.size+1;omega) _)
  exact uh BB
 obtain rfl:M=TX rs:=by rw [<-uh HM];unfold Ck;rw [uh Hok];rfl
 obtain ⟨r1,r2,r3,r4⟩:=Zq (uh Hok)
 have HP:Hid (∀ r ∈ rs,r.2.length<=1000):=Z9 (fun r hr=>by
  have hrb:=List.all_eq_true.1 r3 r hr;unfold Zc at hrb;simp only [ZL] at hrb;have:=ZJ hrb.2.1
  omega)
 have hmk:∀ X:World,(Instr.makeSlice 30 (.int .i64 (rs.length:Int)) (.int .i64 (rs.length:Int))).run Tryz.prog X= .ok (.slice (some ⟨X.heap.size,0,none⟩) rs.length rs.length) (X.alloc (.cells (madeCells #[.int .i64 0] rs.length) 2)):=fun X=>run_make_row' 30 2 (.int .i64 0) 8 Tryz.underlying30 (by kernel_rfl) rfl .i64 .i64 rs.length (by omega) (by omega) X;have Hb12:Hid (1<=ZW rs/\ZW rs<=8):=Z9 ⟨OA (uh Hok),r4⟩;clear r3 r4;have c0:=(uh kb).cell (i:=0) (v:= .slice a rs.length cap) rfl;go_wp2_with fail
 go_cut [4] (fun s wc=> ∃ R hv pv qs,s= .pointer (some ⟨R,0,none⟩)/\NewCut w.heap.size w a rs cap wc R hv pv qs)
 case first=>
  have H:Hid (Nw w w1.drew a rs cap none none none):=Z9 ⟨by have:=(uh kr).lt;show _<=w1.heap.size;omega,(uh Hv).below (Z1 _ _).drew,(uh kb).below (Z1 _ _).drew (uh kb).lt,(uh kr).below (Z1 _ _).drew (uh kr).lt,(uh BB).drew,fun _ _ _ e=>(by cases e),fun _ e=>(by cases e),fun _ e=>(by cases e),fun _ _ _ _ e=>(by cases e),fun _ _ _ _ e=>(by cases e),fun _ _ e=>(by cases e)⟩;refine ZS (S:=(fun w'=>w'.cell? ⟨w.heap.size,0,none⟩=some (.slice a rs.length cap))) (by kernel_rfl) (XM _ _) (by kernel_rfl) c0 (fun hHeld=> ?_);simp only [XN,XO,Y4,YQ,Nat.zero_add,Nat.reduceAdd];clear c0 kb kr Hv BB;generalize w1.drew=X0 at *;refine tp 0 ?_;refine tp 2 ?_;refine tp 3 ?_;refine tp 4 ?_;refine wpAnyH_ready (rs:=[1,5,7]) (by kernel_rfl) (by simp) ?_;refine AllReadyH.cons rfl (fun K hK=> ?_) (AllReadyH.cons rfl (fun K hK=> ?_) (AllReadyH.cons rfl (fun K hK=> ?_) (AllReadyH.nil)))
  ·go_simp
   refine ((uh H).copy (by omega) (uh HP)).mono ?_;rintro e9 X1 ⟨ua,uc,qs,rfl,H⟩;refine hK.out _ _ ((uh H).kb.cell (i:=0) rfl) (fun hHeld=> ?_);clear hK K
   (try simp only [Act.put,sA,sZ,sS])
   refine wpAnyH_ready (rs:=[5,7]) (by kernel_rfl) (by simp) ?_;refine AllReadyH.cons rfl (fun K hK=> ?_) (AllReadyH.cons rfl (fun K hK=> ?_) (AllReadyH.nil))
   ·go_simp
    replace H:=Z9 ((uh H).make (by omega));refine hK.out _ _ ((uh H).kb.cell (i:=0) rfl) (fun hHeld=> ?_);clear hK K;generalize X1.alloc (.cells (madeCells #[.int .i64 0] rs.length) 2)=X2 at *;generalize X1.heap.size=g5 at *
    (try simp only [Act.put,sA,sZ,sS])
    refine tp 6 ?_;refine wpAnyH_ready (rs:=[7]) (by kernel_rfl) (by simp) ?_;refine AllReadyH.cons rfl (fun K hK=> ?_) (AllReadyH.nil)
    ·go_simp
     replace H:=Z9 ((uh H).box);refine hK.out _ _ ((uh H).kb.cell (i:=0) rfl) (fun hHeld=> ?_);clear hK K;generalize X2.alloc (.cells E6 32)=X3 at *;generalize X2.heap.size=g7 at *
     (try simp only [Act.put,sA,sZ,sS])
     refine wpAnyH_done (by kernel_rfl) ?_ _;refine ZK rfl rfl ?_;go_simp;have m0:=((uh H).h7 _ rfl).2.cell (i:=0) (v:= .slice none 0 0) rfl;have n0:=((uh H).h7 _ rfl).2.free 0;have m1:=((uh H).h7 _ rfl).2.cell (i:=1) (v:= .slice none 0 0) rfl;have n1:=((uh H).h7 _ rfl).2.free 1;have m2:=((uh H).h7 _ rfl).2.cell (i:=2) (v:= .slice none 0 0) rfl;have n2:=((uh H).h7 _ rfl).2.free 2;have m3:=((uh H).h7 _ rfl).2.cell (i:=3) (v:= .slice none 0 0) rfl;have n3:=((uh H).h7 _ rfl).2.free 3;have m4:=((uh H).h7 _ rfl).2.cell (i:=4) (v:= .slice none 0 0) rfl;have n4:=((uh H).h7 _ rfl).2.free 4;have m5:=((uh H).h7 _ rfl).2.cell (i:=5) (v:= .int .i64 0) rfl;have n5:=((uh H).h7 _ rfl).2.free 5;go_wp2_with fail
     all_goals
      go_meet;exact OS (uh H)
   ·go_simp
    replace H:=Z9 ((uh H).box);refine hK.out _ _ ((uh H).kb.cell (i:=0) rfl) (fun hHeld=> ?_);clear hK K;generalize X1.alloc (.cells E6 32)=X2 at *;generalize X1.heap.size=g7 at *
    (try simp only [Act.put,sA,sZ,sS])
    refine wpAnyH_ready (rs:=[5]) (by kernel_rfl) (by simp) ?_;refine AllReadyH.cons rfl (fun K hK=> ?_) (AllReadyH.nil)
    ·go_simp
     replace H:=Z9 ((uh H).make (by omega));refine hK.out _ _ ((uh H).kb.cell (i:=0) rfl) (fun hHeld=> ?_);clear hK K;generalize X2.alloc (.cells (madeCells #[.int .i64 0] rs.length) 2)=X3 at *;generalize X2.heap.size=g5 at *
     (try simp only [Act.put,sA,sZ,sS])
     refine tp 6 ?_;refine wpAnyH_done (by kernel_rfl) ?_ _;refine ZK rfl rfl ?_;go_simp;have m0:=((uh H).h7 _ rfl).2.cell (i:=0) (v:= .slice none 0 0) rfl;have n0:=((uh H).h7 _ rfl).2.free 0;have m1:=((uh H).h7 _ rfl).2.cell (i:=1) (v:= .slice none 0 0) rfl;have n1:=((uh H).h7 _ rfl).2.free 1;have m2:=((uh H).h7 _ rfl).2.cell (i:=2) (v:= .slice none 0 0) rfl;have n2:=((uh H).h7 _ rfl).2.free 2;have m3:=((uh H).h7 _ rfl).2.cell (i:=3) (v:= .slice none 0 0) rfl;have n3:=((uh H).h7 _ rfl).2.free 3;have m4:=((uh H).h7 _ rfl).2.cell (i:=4) (v:= .slice none 0 0) rfl;have n4:=((uh H).h7 _ rfl).2.free 4;have m5:=((uh H).h7 _ rfl).2.cell (i:=5) (v:= .int .i64 0) rfl;have n5:=((uh H).h7 _ rfl).2.free 5;go_wp2_with fail
     all_goals
      go_meet;exact OS (uh H)
  ·go_simp
   replace H:=Z9 ((uh H).make (by omega));refine hK.out _ _ ((uh H).kb.cell (i:=0) rfl) (fun hHeld=> ?_);clear hK K;generalize X0.alloc (.cells (madeCells #[.int .i64 0] rs.length) 2)=X1 at *;generalize X0.heap.size=g5 at *
   (try simp only [Act.put,sA,sZ,sS])
   refine wpAnyH_ready (rs:=[1,7]) (by kernel_rfl) (by simp) ?_;refine AllReadyH.cons rfl (fun K hK=> ?_) (AllReadyH.cons rfl (fun K hK=> ?_) (AllReadyH.nil))
   ·go_simp
    refine ((uh H).copy (by omega) (uh HP)).mono ?_;rintro e9 X2 ⟨ua,uc,qs,rfl,H⟩;refine hK.out _ _ ((uh H).kb.cell (i:=0) rfl) (fun hHeld=> ?_);clear hK K
    (try simp only [Act.put,sA,sZ,sS])
    refine tp 6 ?_;refine wpAnyH_ready (rs:=[7]) (by kernel_rfl) (by simp) ?_;refine AllReadyH.cons rfl (fun K hK=> ?_) (AllReadyH.nil)
    ·go_simp
     replace H:=Z9 ((uh H).box);refine hK.out _ _ ((uh H).kb.cell (i:=0) rfl) (fun hHeld=> ?_);clear hK K;generalize X2.alloc (.cells E6 32)=X3 at *;generalize X2.heap.size=g7 at *
     (try simp only [Act.put,sA,sZ,sS])
     refine wpAnyH_done (by kernel_rfl) ?_ _;refine ZK rfl rfl ?_;go_simp;have m0:=((uh H).h7 _ rfl).2.cell (i:=0) (v:= .slice none 0 0) rfl;have n0:=((uh H).h7 _ rfl).2.free 0;have m1:=((uh H).h7 _ rfl).2.cell (i:=1) (v:= .slice none 0 0) rfl;have n1:=((uh H).h7 _ rfl).2.free 1;have m2:=((uh H).h7 _ rfl).2.cell (i:=2) (v:= .slice none 0 0) rfl;have n2:=((uh H).h7 _ rfl).2.free 2;have m3:=((uh H).h7 _ rfl).2.cell (i:=3) (v:= .slice none 0 0) rfl;have n3:=((uh H).h7 _ rfl).2.free 3;have m4:=((uh H).h7 _ rfl).2.cell (i:=4) (v:= .slice none 0 0) rfl;have n4:=((uh H).h7 _ rfl).2.free 4;have m5:=((uh H).h7 _ rfl).2.cell (i:=5) (v:= .int .i64 0) rfl;have n5:=((uh H).h7 _ rfl).2.free 5;go_wp2_with fail
     all_goals
      go_meet;exact OS (uh H)
   ·go_simp
    replace H:=Z9 ((uh H).box);refine hK.out _ _ ((uh H).kb.cell (i:=0) rfl) (fun hHeld=> ?_);clear hK K;generalize X1.alloc (.cells E6 32)=X2 at *;generalize X1.heap.size=g7 at *
    (try simp only [Act.put,sA,sZ,sS])
    refine wpAnyH_ready (rs:=[1]) (by kernel_rfl) (by simp) ?_;refine AllReadyH.cons rfl (fun K hK=> ?_) (AllReadyH.nil)
    ·go_simp
     refine ((uh H).copy (by omega) (uh HP)).mono ?_;rintro e9 X3 ⟨ua,uc,qs,rfl,H⟩;refine hK.out _ _ ((uh H).kb.cell (i:=0) rfl) (fun hHeld=> ?_);clear hK K
     (try simp only [Act.put,sA,sZ,sS])
     refine tp 6 ?_;refine wpAnyH_done (by kernel_rfl) ?_ _;refine ZK rfl rfl ?_;go_simp;have m0:=((uh H).h7 _ rfl).2.cell (i:=0) (v:= .slice none 0 0) rfl;have n0:=((uh H).h7 _ rfl).2.free 0;have m1:=((uh H).h7 _ rfl).2.cell (i:=1) (v:= .slice none 0 0) rfl;have n1:=((uh H).h7 _ rfl).2.free 1;have m2:=((uh H).h7 _ rfl).2.cell (i:=2) (v:= .slice none 0 0) rfl;have n2:=((uh H).h7 _ rfl).2.free 2;have m3:=((uh H).h7 _ rfl).2.cell (i:=3) (v:= .slice none 0 0) rfl;have n3:=((uh H).h7 _ rfl).2.free 3;have m4:=((uh H).h7 _ rfl).2.cell (i:=4) (v:= .slice none 0 0) rfl;have n4:=((uh H).h7 _ rfl).2.free 4;have m5:=((uh H).h7 _ rfl).2.cell (i:=5) (v:= .int .i64 0) rfl;have n5:=((uh H).h7 _ rfl).2.free 5;go_wp2_with fail
     all_goals
      go_meet;exact OS (uh H)
  ·go_simp
   replace H:=Z9 ((uh H).box);refine hK.out _ _ ((uh H).kb.cell (i:=0) rfl) (fun hHeld=> ?_);clear hK K;generalize X0.alloc (.cells E6 32)=X1 at *;generalize X0.heap.size=g7 at *
   (try simp only [Act.put,sA,sZ,sS])
   refine wpAnyH_ready (rs:=[1,5]) (by kernel_rfl) (by simp) ?_;refine AllReadyH.cons rfl (fun K hK=> ?_) (AllReadyH.cons rfl (fun K hK=> ?_) (AllReadyH.nil))
   ·go_simp
    refine ((uh H).copy (by omega) (uh HP)).mono ?_;rintro e9 X2 ⟨ua,uc,qs,rfl,H⟩;refine hK.out _ _ ((uh H).kb.cell (i:=0) rfl) (fun hHeld=> ?_);clear hK K
    (try simp only [Act.put,sA,sZ,sS])
    refine wpAnyH_ready (rs:=[5]) (by kernel_rfl) (by simp) ?_;refine AllReadyH.cons rfl (fun K hK=> ?_) (AllReadyH.nil)
    ·go_simp
     replace H:=Z9 ((uh H).make (by omega));refine hK.out _ _ ((uh H).kb.cell (i:=0) rfl) (fun hHeld=> ?_);clear hK K;generalize X2.alloc (.cells (madeCells #[.int .i64 0] rs.length) 2)=X3 at *;generalize X2.heap.size=g5 at *
     (try simp only [Act.put,sA,sZ,sS])
     refine tp 6 ?_;refine wpAnyH_done (by kernel_rfl) ?_ _;refine ZK rfl rfl ?_;go_simp;have m0:=((uh H).h7 _ rfl).2.cell (i:=0) (v:= .slice none 0 0) rfl;have n0:=((uh H).h7 _ rfl).2.free 0;have m1:=((uh H).h7 _ rfl).2.cell (i:=1) (v:= .slice none 0 0) rfl;have n1:=((uh H).h7 _ rfl).2.free 1;have m2:=((uh H).h7 _ rfl).2.cell (i:=2) (v:= .slice none 0 0) rfl;have n2:=((uh H).h7 _ rfl).2.free 2;have m3:=((uh H).h7 _ rfl).2.cell (i:=3) (v:= .slice none 0 0) rfl;have n3:=((uh H).h7 _ rfl).2.free 3;have m4:=((uh H).h7 _ rfl).2.cell (i:=4) (v:= .slice none 0 0) rfl;have n4:=((uh H).h7 _ rfl).2.free 4;have m5:=((uh H).h7 _ rfl).2.cell (i:=5) (v:= .int .i64 0) rfl;have n5:=((uh H).h7 _ rfl).2.free 5;go_wp2_with fail
     all_goals
      go_meet;exact OS (uh H)
   ·go_simp
    replace H:=Z9 ((uh H).make (by omega));refine hK.out _ _ ((uh H).kb.cell (i:=0) rfl) (fun hHeld=> ?_);clear hK K;generalize X1.alloc (.cells (madeCells #[.int .i64 0] rs.length) 2)=X2 at *;generalize X1.heap.size=g5 at *
    (try simp only [Act.put,sA,sZ,sS])
    refine wpAnyH_ready (rs:=[1]) (by kernel_rfl) (by simp) ?_;refine AllReadyH.cons rfl (fun K hK=> ?_) (AllReadyH.nil)
    ·go_simp
     refine ((uh H).copy (by omega) (uh HP)).mono ?_;rintro e9 X3 ⟨ua,uc,qs,rfl,H⟩;refine hK.out _ _ ((uh H).kb.cell (i:=0) rfl) (fun hHeld=> ?_);clear hK K
     (try simp only [Act.put,sA,sZ,sS])
     refine tp 6 ?_;refine wpAnyH_done (by kernel_rfl) ?_ _;refine ZK rfl rfl ?_;go_simp;have m0:=((uh H).h7 _ rfl).2.cell (i:=0) (v:= .slice none 0 0) rfl;have n0:=((uh H).h7 _ rfl).2.free 0;have m1:=((uh H).h7 _ rfl).2.cell (i:=1) (v:= .slice none 0 0) rfl;have n1:=((uh H).h7 _ rfl).2.free 1;have m2:=((uh H).h7 _ rfl).2.cell (i:=2) (v:= .slice none 0 0) rfl;have n2:=((uh H).h7 _ rfl).2.free 2;have m3:=((uh H).h7 _ rfl).2.cell (i:=3) (v:= .slice none 0 0) rfl;have n3:=((uh H).h7 _ rfl).2.free 3;have m4:=((uh H).h7 _ rfl).2.cell (i:=4) (v:= .slice none 0 0) rfl;have n4:=((uh H).h7 _ rfl).2.free 4;have m5:=((uh H).h7 _ rfl).2.cell (i:=5) (v:= .int .i64 0) rfl;have n5:=((uh H).h7 _ rfl).2.free 5;go_wp2_with fail
     all_goals
      go_meet;exact OS (uh H)
 case rest=>
  obtain ⟨R,hv,pv,qs,rfl,hcut⟩:=hcut;obtain ⟨w2,rfl⟩:∃ x,x=wc:=⟨wc,rfl⟩
  obtain ⟨ua,uc,rfl⟩:=hcut.hshape;obtain ⟨pa,pc,rfl⟩:=hcut.pshape;have HC:=Z9 hcut;clear hcut c0 kb kr BB Hv;have Hv:=Z9 ((uh Hv0).below (uh HC).bel);have c0:=(uh HC).kb.cell (i:=0) (v:= .slice a rs.length cap) rfl;go_wp2_with fail;refine ck (RA (uh Hv) (SV (uh Hok))) fun w3 hb=> ?_;replace HC:=Z9 ((uh HC).below hb);clear hb c0;obtain ⟨n,hn⟩:∃ n:Nat,ZW rs=(n:Int):=⟨(ZW rs).toNat,by have:=(uh Hb12).1;omega⟩
  have hn8:n<=8:=by have:=(uh Hb12).2;omega
  have HnM:Hid (TX rs=⟨rs,[],[],List.replicate n (true,-1,0),List.replicate rs.length 0,0⟩):=Z9 (by unfold TX;rw [hn];rfl);rw [hn];clear hn;go_wp2_with fail
  go_loopw [5] (fun i wr=> ∃ (k:Nat) (u:Value),k<=n/\i= .int .i64 ((n:Int)-(k:Int))/\Blk wr R 32 #[.slice ua rs.length uc,.slice none 0 0,.slice none 0 0,u,.slice pa rs.length pc,.int .i64 0]/\DesksAt (w.heap.size+2) wr u (List.replicate k (true,-1,0))/\NewOff w.heap.size rs wr R (.slice ua rs.length uc) (.slice pa rs.length pc) u qs/\Blk wr (w.heap.size+1) 32 E6/\Below w.heap.size w wr) (fun i _=>(intOf i).toNat)
  case atStart=>exact ⟨0,.slice none 0 0,Zz _,by simp,(uh HC).km,AM _ _,(uh HC).off,(uh HC).kr,(uh HC).bel⟩
  case round=>
   obtain ⟨k,u,hk,rfl,km,hd,hoff,hkr,hbb⟩:=hrel;obtain ⟨da,dc,rfl⟩:=RecAt.shape hd;rw [List.length_replicate] at km hd hoff;have KM:=Z9 km;have HD:=Z9 hd;have HF:=Z9 hoff;have kr:=Z9 hkr;have BB:=Z9 hbb;clear km hd hoff hkr hbb HC;have m3:=(uh KM).cell (i:=3) (v:= .slice da k dc) rfl;have n3:=(uh KM).free 3;have hRlt:=(uh KM).lt;have hRo:=(uh HF).rlo;by_cases hlt:k<n
   ·have hsx:=(uh BB).size
    have hkn:((k:Int)<(n:Int)):=by omega
    have hpos:(0:Int)<(n:Int)-(k:Int):=by omega
    have hbase:w.heap.size+2<=wr.heap.size:=by omega
    obtain ⟨u9,w9,hrun9,hown9,hg9,hat9⟩:=V3 tyD (w:=wr.alloc (.cells #[.bool true,.int .i64 (-1),.int .i64 0] 43)) (t:=29) (ty:=29) (base:=w.heap.size+2) Tryz.underlying29 (RecAt.later (uh HD) ((ba _ _))) (WB (w:=wr) (g:=wr.heap.size) (c:=1) ((true,-1,0):XW) rfl (Z2 _) (by omega)) (by simp;omega) (by simp;omega);obtain ⟨da9,dc9,rfl⟩:=RecAt.shape hown9;have hlen9:(List.replicate k ((true,-1,0):XW)++[(true,-1,0)]).length=k+1:=by simp
    rw [hlen9] at hrun9 hown9 hat9;have hrep:List.replicate k ((true,-1,0):XW)++[(true,-1,0)]=List.replicate (k+1) (true,-1,0):=by rw [List.replicate_succ']
    rw [hrep] at hown9;have HR9:=Z9 hrun9;have HO9:=Z9 hown9;have hRd:(Value.slice da k dc).ownBlock ≠ some R:=(uh HF).rd;have hgo:∀ i,(Value.slice da k dc).ownBlock=some i->w.heap.size+2<=i:=fun i e=>(RecAt.lt (uh HD) e).1;have hb9:Below (w.heap.size+2) wr w9:=((Z1 _ _).alloc hbase _).trans ((Z1 _ _).grown hg9 (by simp;omega) hgo);have KM9:=(((uh KM).alloc (.cells #[.bool true,.int .i64 (-1),.int .i64 0] 43)).same (hg9.block R (by simp;omega) (fun e=>hRd e.symm)))
    have t3:=KM9.cell (i:=3) (v:= .slice da k dc) rfl;have s3:=KM9.free 3;have HF9:=Z9 ((uh HF).grow hg9 hat9);have HKM9:=Z9 (KM9.set 3 (.slice da9 (k+1) dc9));have Hb9:=Z9 hb9;clear hrun9 hown9 hg9 hat9 KM9 hrep hlen9 hgo;go_wp2_with (at_builtin;refine PY rfl (.tmp 24) (.tmp 26) 29 rfl rfl rfl (uh HR9) ?_)
    go_wp2_with fail;go_roundw
    case rel=>
     refine ⟨k+1,.slice da9 (k+1) dc9,by omega,by go_num,uh HKM9,?_,(uh HF9).set_R _ _,?_,?_⟩
     ·exact RecAt.same (uh HO9) fun i hi=>heap_setCell_other _ _ _ _ (fun e=>by have:=(uh HF9).rd;rw [hi] at this;exact this (by rw [e]))
     ·exact ((uh kr).below (uh Hb9) (by omega)).other (by show w.heap.size+1 ≠ R;omega) _
     ·exact ((uh BB).trans ((uh Hb9).mono (by omega))).setCell (by show _<=R;omega) _
    case measure=>exact ms
   ·obtain rfl:k=n:=by omega
    have hpos:¬ ((0:Int)<(k:Int)-(k:Int)):=by omega
    have m0:=(uh KM).cell (i:=0) (v:= .slice ua rs.length uc) rfl;have m1:=(uh KM).cell (i:=1) (v:= .slice none 0 0) rfl;have m2:=(uh KM).cell (i:=2) (v:= .slice none 0 0) rfl;have m4:=(uh KM).cell (i:=4) (v:= .slice pa rs.length pc) rfl;have m5:=(uh KM).cell (i:=5) (v:= .int .i64 0) rfl;obtain ⟨o0,o1,o2,o3,o4,o5⟩:=(uh kr).c6;obtain ⟨f0,f1,f2,f3,f4,f5⟩:=(uh kr).f6;go_wp2_with fail;refine ZQ (v:= .tuple #[.agg #[.slice ua rs.length uc,.slice none 0 0,.slice none 0 0,.slice da k dc,.slice pa rs.length pc,.int .i64 0],.bool true]) (by simp [results,Tryz.results147,go_sem, *]) rfl ⟨?_,?_⟩
    ·rw [uh HnM]
     refine ⟨_,_,_,_,_,qs,rfl,?_⟩
     iterate 6 (refine FullSmy.set_off ?_ (fun i e=>by have:=((uh HF).full (uh HD)).own e;omega) _ _)
     exact ((uh HF).full (uh HD)).mono (by omega)
    ·iterate 6 (refine YF ?_ (by show _<=w.heap.size+1;omega) _)
     exact uh BB
end Go.Proofs.YtamgfpdahadnfaaGreatDoor
namespace Go.Proofs.YtamgfpdahadnfaaGreatDoor
open Go.ChangeShapes Go.WideShapes Go.ChangeAt Go.RowKit Go.Sort
set_option linter.unusedVariables false
theorem Kh {α:Type} [Inhabited α] {n j:Nat} (x:α) (h:j<n):Z8 (List.replicate n x) j=x:=by
 unfold Z8;simp [List.getD,h]
theorem Cl {rs:List ZZ} (h:Y0 rs=true):((TX rs).dk.length:Int)=ZW rs:=by
 have:=OA h;show (((List.replicate (ZW rs).toNat ((true,-1,0):XW)).length:Nat):Int)=_;rw [List.length_replicate];omega
theorem GJ {rs:List ZZ} (gs:List Zt) (h:Y0 rs=true) (hg:Zg gs=true):ZF { TX rs with gd:=gs }=true:=by
 have hb:=OA h;have hd:=Cl h;obtain ⟨r1,r2,r3,r4⟩:=Zq h
 have hdk:∀ j,j<(TX rs).dk.length->Z8 (TX rs).dk j=(true,-1,0):=fun j hj=>Kh _ (by
  have:(TX rs).dk.length=(ZW rs).toNat:=by show (List.replicate _ _).length=_;rw [List.length_replicate]
  omega)
 have hlo:Loose { TX rs with gd:=gs }:=by
  refine ⟨?_,?_,?_,fun i hi=>absurd hi (Nat.not_lt_zero _),fun i hi=>absurd hi (Nat.not_lt_zero _),0,?_,?_⟩
  ·unfold YG
   simp only [ZL,YZ];exact ⟨h,hg,Zz _,hd,by show (List.replicate _ _).length=_;rw [List.length_replicate];rfl,rfl⟩
  ·intro j hj
   show VB (Z8 (TX rs).dk j)=true;rw [hdk j hj];rfl
  ·intro j hj
   have hj':j<rs.length:=by
    have:(List.replicate rs.length (0:Int)).length=rs.length:=List.length_replicate ..;have hj2:j<(List.replicate rs.length (0:Int)).length:=hj;omega
   show inB (Z8 (List.replicate rs.length (0:Int)) j) 0 (((ZN rs j).2.length:Int)-1)=true;rw [Kh _ hj'];have hmem:ZN rs j ∈ rs:=by unfold ZN;simp [List.getD,hj']
   have hrb:=List.all_eq_true.1 r3 _ hmem;unfold Zc at hrb;simp only [ZL] at hrb;have:=ZJ hrb.2.1;exact Zp (by omega) (by omega)
  ·show 0<(TX rs).dk.length
   omega
  ·show (Z8 (TX rs).dk 0).1=true
   rw [hdk 0 (by omega)]
 unfold ZF;rw [hlo.mk',Bool.true_and];refine List.all_eq_true.2 fun b hb2=> ?_;have hb3:b<(TX rs).dk.length:=List.mem_range.1 hb2;unfold XZ;show (match Xq [] (b:Int) 0 with | none=>false | some (wk,wt)=>(Z8 (TX rs).dk b).2.1 ==wk && !(wt && decide (wk<0)))=true;rw [hdk b hb3];rfl
theorem CO {A B:Z6} (h1:B.rm=A.rm) (h2:B.gd=A.gd) (h3:B.dk=A.dk) (h4:B.pc=A.pc) (h5:B.now=A.now) (hl:B.sm.length=A.sm.length)
  (ha:∀ i,i<A.sm.length->Z8 B.sm i=Z8 A.sm i\/((Z8 B.sm i).2=(Z8 A.sm i).2/\ZR (Z8 B.sm i)=true/\ZR (Z8 A.sm i)=true/\0<=(Z8 A.sm i).2.1/\(Z8 A.sm i).2.1<(A.dk.length:Int))):ZP B=ZP A:=by
 have hal:Alike A.sm B.sm A.sm.length:=fun i hi=>by
  rcases ha i hi with e | ⟨e,p,p',_⟩
  ·rw [e];exact ⟨rfl,rfl,rfl⟩
  ·unfold Yn;rw [e,p,p'];exact ⟨rfl,rfl,rfl⟩
 have hat:∀ b:Int,atV B.sm b B.sm.length=atV A.sm b A.sm.length:=fun b=>by rw [hl];exact QM b _ hal
 have hf:∀ b:Int,WS B.sm b=WS A.sm b:=fun b=>by unfold WS;rw [hat]
 obtain ⟨a1,a2,a3,a4,a5,a6⟩:=ZG A A.dk.length;obtain ⟨b1,b2,b3,b4,b5,b6⟩:=ZG B B.dk.length
 have hsm:(ZP B).sm=(ZP A).sm:=by
  refine RH ((b5.trans hl).trans a5.symm) fun i hi=> ?_;have hi':i<(Zf B B.dk.length).sm.length:=hi;have hiB:i<B.sm.length:=by omega
  have hiA:i<A.sm.length:=by omega
  show Z8 (Zf B B.dk.length).sm i=Z8 (Zf A A.dk.length).sm i;rw [Xr B hiB,Xr A hiA,hf,h3]
  rcases ha i hiA with e | ⟨e,p,p',q0,q1⟩
  ·rw [e]
  ·rw [p,p',e]
   have hc:(0<=(Z8 A.sm i).2.1/\(Z8 A.sm i).2.1<(A.dk.length:Int))/\true=true:=⟨⟨q0,q1⟩,rfl⟩
   rw [if_pos hc,if_pos hc];unfold stS;rw [e]
 have hds:(ZP B).dk=(ZP A).dk:=by
  refine RH ((b6.trans (by rw [h3])).trans a6.symm) fun j hj=> ?_;have hj':j<(Zf B B.dk.length).dk.length:=hj;show Z8 (Zf B B.dk.length).dk j=Z8 (Zf A A.dk.length).dk j;rw [V1 B j _ (Nat.le_refl _),V1 A j _ (Nat.le_refl _),h3];unfold WI;rw [hat]
 have key:∀ x y:Z6,x.rm=y.rm->x.gd=y.gd->x.sm=y.sm->x.dk=y.dk->x.pc=y.pc->x.now=y.now->x=y:=by
  rintro ⟨_,_,_,_,_,_⟩ ⟨_,_,_,_,_,_⟩ rfl rfl rfl rfl rfl rfl;rfl
 exact key _ _ ((b1.trans h1).trans a1.symm) ((b2.trans h2).trans a2.symm) hsm hds ((b3.trans h4).trans a3.symm) ((b4.trans h5).trans a4.symm)
end Go.Proofs.YtamgfpdahadnfaaGreatDoor
