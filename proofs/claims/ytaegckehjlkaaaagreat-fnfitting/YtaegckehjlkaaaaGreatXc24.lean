/- Part 24 of what the proof rests on. No condition but those that a theorem names. -/
import Derived.Test.YtaegckehjlkaaaaGreatXc23
namespace Go.Proofs.YtaegckehjlkaaaaGreat
open Go.ChangeShapes Go.WideShapes Go.ChangeAt Go.RowKit Go.Sort
set_option linter.unusedVariables false
variable {m : Z6}
def Od (m:Z6) (s:Z5):Int:=Zr (pushS m s) (m.smiths.length:Int)
def Vu (m:Z6) (rank may guild:Int):Z6 × Int:=
 if ZS m then (if ZD (Yu rank may guild) && decide (guild<m.guilds.length) then (if m.smiths.length=12 then (m,4) else (if Od m (Yu rank may guild)<0 then (m,2) else
  (ZO (setS (pushS m (Yu rank may guild)) m.smiths.length (O3 (Yu rank may guild) (Od m (Yu rank may guild)) (Xw m (Od m (Yu rank may guild))))),0))) else (m,3)) else (X9,3)
theorem KR {rank may guild:Int} (h:ZD (Yu rank may guild)=true):YY (Yu rank may guild)=true:=by
 unfold ZD at h
 rw [SG (by show (1:Int) ≠ 0;omega),Bool.false_or] at h
 exact h
theorem KQ (h:Loose m) {rank may guild:Int} (hs:ZD (Yu rank may guild)=true) (hg:guild<m.guilds.length):Loose (pushS m (Yu rank may guild))\/m.smiths.length>=12:=by
 by_cases hl:m.smiths.length<12
 ·left
  obtain ⟨j,hj,_⟩:=h.openD
  exact h.pushS hl (XF.2 (.inr ⟨KR hs,hg,by show (0:Int)<_;omega⟩)) (Vf rfl)
 ·right;omega
theorem FG (h:Loose m) {b:Nat} (hb:b<m.desks.length):WV (Xw m (b:Int)) (Z8 m.desks b).2.2=true:=by
 have hmk:Xw m (b:Int)=(Z8 m.desks b).2.2:=by unfold Xw;simp
 obtain ⟨k0,k1⟩:=Rj (h.desk b hb)
 rw [hmk]
 exact L1 (by omega) (by omega) (by omega) (by omega) (by omega) (by omega)
theorem Yv (h:Loose m):m.smiths.length<=12:=by
 have hd:=h.head
 unfold YG at hd
 simp only [Bool.and_eq_true,decide_eq_true_eq] at hd
 exact hd.2.2.1
theorem Ir (h:ZS m=true) (rank may guild:Int):ZS (Vu m rank may guild).1=true:=by
 unfold Vu
 rw [h]
 simp only [if_true]
 split
 ·rename_i hs
  simp only [Bool.and_eq_true,decide_eq_true_eq] at hs
  split
  ·exact h
  ·rename_i hl
   split
   ·exact h
   ·rename_i hb
    have hlo:=ZZ h
    have h12:=Yv hlo
    have hx:Loose (pushS m (Yu rank may guild)):=by
     rcases KQ hlo hs.1 hs.2 with e | e
     ·exact e
     ·omega
    rcases Vd (pushS m (Yu rank may guild)) (m.smiths.length:Int) with ⟨e,_⟩ | ⟨b,hbl,e,hm⟩
    ·exact absurd (show Od m (Yu rank may guild)<0 by unfold Od;rw [e];omega) hb
    ·have ec:Od m (Yu rank may guild)=(b:Int):=e
     rw [ec]
     unfold Zw at hm
     simp only [Bool.and_eq_true,Int.toNat_natCast] at hm
     have hat:Z8 (pushS m (Yu rank may guild)).smiths m.smiths.length=Yu rank may guild:=by
      show Z8 (m.smiths++[Yu rank may guild]) m.smiths.length=_
      rw [V4,if_pos rfl]
     rw [hat] at hm
     obtain ⟨k1,k2⟩:=DT (m:=pushS m (Yu rank may guild)) (s:=Yu rank may guild) (b:=b) (had:=Xw m (b:Int)) hx (KR hs.1) hs.2 hbl hm.1 hm.2 (FG hlo hbl)
     exact YM (hx.setS (by unfold pushS;simp) k1 k2)
 ·exact h
def Ig (m:Z6) (s:Z5) (b:Int):Int:=YO (Zh (V7 s) (Xw m s.2.1) (Xw m b)) (Xw m b)
def S9 (m:Z6) (k:Nat) (b:Int):Z6:=setS m k (O3 (Z8 m.smiths k) b (Ig m (Z8 m.smiths k) b))
def Vw (m:Z6) (who:Int):Z6 × Int:=
 if ZS m then (if Yg m who then (if (Z8 m.smiths who.toNat).1=1 then (if Zr m who<0 then (m,2) else (if YB (S9 m who.toNat (Zr m who)) then (ZO (S9 m who.toNat (Zr m who)),0) else (m,4))) else (m,2)) else (m,1)) else (X9,3)
theorem JC (h:ZS m=true) (who:Int):ZS (Vw m who).1=true:=by
 unfold Vw
 rw [h]
 simp only [if_true]
 split
 ·split
  ·split
   ·exact h
   ·split
    ·rename_i hl
     exact YM (OM hl)
    ·exact h
  ·exact h
 ·exact h
theorem Nk (m:Z6) (k:Nat) (s t:Z5):setS (setS m k s) k t=setS m k t:=by unfold setS;simp
def XM (m:Z6) (k:Nat) (may:Int):Z6:=setS m k (TD (Z8 m.smiths k) may)
def WU (m:Z6) (who may:Int):Z6 × Int:=
 if ZS m then (if Yg m who then (if inB may 1 255 then (if ZP (Z8 m.smiths who.toNat) && !Wu may (Z8 m.smiths who.toNat).2.1 then
  (if Zr (XM m who.toNat may) who<0 then (m,2) else (ZO (setS (XM m who.toNat may) who.toNat (putS (XM m who.toNat may) (TD (Z8 m.smiths who.toNat) may) (Zr (XM m who.toNat may) who))),0))
  else (ZO (XM m who.toNat may),0)) else (m,3)) else (m,1)) else (X9,3)
theorem Nc {s:Z5} {may:Int} (h:YY s=true) (m0:1<=may) (m1:may<=255):YY (TD s may)=true:=by
 obtain ⟨st,be,rk,my,gu,lo',hi',hd,ca,ut,wk⟩:=s
 obtain ⟨x0,x1,x2,x3,x4,x5,x6,x7,x8,x9⟩:=Zc h
 exact Uj x0 x1 x2 ⟨m0,m1⟩ x4 x5 x6 x7 x8 x9
theorem JJ (h:ZS m=true) (who may:Int):ZS (WU m who may).1=true:=by
 unfold WU
 rw [h]
 simp only [if_true]
 split
 ·rename_i hw
  obtain ⟨k,rfl,hk,hs⟩:=Yz hw
  rw [show ((k:Int)).toNat=k by simp]
  have hlo:=ZZ h
  split
  ·rename_i hm
   obtain ⟨m0,m1⟩:=ZV hm
   split
   ·rename_i hp
    simp only [Bool.and_eq_true,Bool.not_eq_true'] at hp
    split
    ·exact h
    ·rename_i hb
     rcases Vd (XM m k may) (k:Int) with ⟨e,_⟩ | ⟨b,hbl,e,hma⟩
     ·exact absurd (show Zr (XM m k may) (k:Int)<0 by rw [e];omega) hb
     ·rw [e]
      obtain ⟨p,g1,b1⟩:=hlo.limits hk hs
      obtain ⟨a0,a1,a2,a3,a4⟩:=hlo.at hk hp.1
      unfold Zw at hma
      simp only [Bool.and_eq_true,Int.toNat_natCast] at hma
      have hat:Z8 (XM m k may).smiths k=TD (Z8 m.smiths k) may:=by
       show Z8 (m.smiths.set k _) k=_
       rw [ZF hk,if_pos rfl]
      rw [hat] at hma
      have:=OE (m:=m) hlo (s:=TD (Z8 m.smiths k) may) (b:=b) (Nc p m0 m1) hp.1 g1 a0 a1 a4 hbl hma.1 hma.2
      unfold XM
      rw [Nk]
      exact YM (hlo.setS hk this.1 this.2)
   ·rename_i hp
    refine YM (DS hlo hk hs m0 m1 ?_)
    cases h1:ZP (Z8 m.smiths k)
    ·exact .inl rfl
    ·right
     cases h2:Wu may (Z8 m.smiths k).2.1
     ·rw [h1,h2] at hp;exact absurd rfl hp
     ·rfl
  ·exact h
 ·exact h
def T3 (m:Z6) (who g:Int):Z6 × Int:=
 if Yg m who then (if inB g (-1) ((m.guilds.length:Int)-1) then (ZO (setS m who.toNat (Qv (Z8 m.smiths who.toNat) g)),0) else (m,3)) else (m,1)
theorem IH (h:ZS m=true) (who g:Int):ZS (T3 m who g).1=true:=by
 unfold T3
 split
 ·rename_i hw
  obtain ⟨k,rfl,hk,hs⟩:=Yz hw
  rw [show ((k:Int)).toNat=k by simp]
  split
  ·rename_i hg
   have:=ZV hg
   exact YM (Fz (ZZ h) hk hs this.1 (by omega))
  ·exact h
 ·exact h
def TU (m:Z6) (r:Nat):Int:=XI (ZU m.rooms r) (Y1 m r m.desks.length).1
theorem Gm (h:Loose m) {r:Nat} (hr:r<m.rooms.length):0<=TU m r/\TU m r<(ZU m.rooms r).2.length:=by
 have hd:=h.head
 unfold YG at hd
 simp only [Bool.and_eq_true,decide_eq_true_eq] at hd
 obtain ⟨r1,r2,r3,r4⟩:=Zs hd.1
 have hmem:ZU m.rooms r ∈ m.rooms:=by unfold ZU;simp [List.getD,hr]
 have hrb:=List.all_eq_true.1 r3 _ hmem
 have hu:=Q4 m r (Yv h) m.desks.length
 have hlen:1<=(ZU m.rooms r).2.length:=by
  have hx:=hrb
  unfold Zj at hx
  simp only [Bool.and_eq_true] at hx
  have:=ZV hx.2.1
  omega
 have hn:=K6 (Y1 m r m.desks.length).1 (ZU m.rooms r).2 hlen
 unfold TU XI
 rw [hrb,Zq (by omega) (by omega)]
 simp only [Bool.and_self,if_true]
 omega
def Ra (m:Z6):Nat->Z6
 | 0=>m
 | k+1=>Ux (Ra m k) k (TU m k)
theorem Sj (m:Z6):∀ k,(Ra m k).rooms=m.rooms/\(Ra m k).guilds=m.guilds/\(Ra m k).smiths=m.smiths/\(Ra m k).desks=m.desks/\(Ra m k).now=m.now/\(Ra m k).paces.length=m.paces.length
 | 0=>⟨rfl,rfl,rfl,rfl,rfl,rfl⟩
 | k+1=>by
  obtain ⟨a,b,c,d,e,f⟩:=Sj m k
  refine ⟨a,b,c,d,e,?_⟩
  show ((Ra m k).paces.set k _).length=_
  rw [List.length_set,f]
theorem ML (h:Loose m):∀ k,k<=m.paces.length->Loose (Ra m k)
 | 0,_=>h
 | k+1,hk=>by
  have ih:=ML h k (by omega)
  have hd:=h.head
  unfold YG at hd
  simp only [Bool.and_eq_true,decide_eq_true_eq] at hd
  have hr:k<m.rooms.length:=by have:=hd.2.2.2.2.1;omega
  have hw:=Gm h hr
  have hs:=(Sj m k).1
  exact MZ ih (by rw [hs];exact hr) hw.1 (by rw [hs];exact hw.2)
def LW (m:Z6):Z6:=ZO (Ra m m.paces.length)
theorem EX (h:ZS m=true):ZS (LW m)=true:=YM (ML (ZZ h) _ (Nat.le_refl _))
def TY (m:Z6) (b:Int):Int:=(ZY (ZU m.rooms (XJ m.rooms b)).2 (Z8 m.paces (XJ m.rooms b)).toNat).1
def CX (s:Z5) (u:Int):Z5:=(s.1,s.2.1,s.2.2.1,s.2.2.2.1,s.2.2.2.2.1,s.2.2.2.2.2.1,s.2.2.2.2.2.2.1,s.2.2.2.2.2.2.2.1,s.2.2.2.2.2.2.2.2.1,u,s.2.2.2.2.2.2.2.2.2.2)
def EO (s:Z5):Int:=s.2.2.2.2.2.2.2.2.2.1
def RG (m:Z6) (n:Int) (s:Z5):Option Z5:=
 if s.1=0 then some s else if s.1=3 then (if (Xq s (n*TY m s.2.1)).2 then some (CX (Xq s (n*TY m s.2.1)).1 (ZN (EO (Xq s (n*TY m s.2.1)).1) (TY m s.2.1) n)) else none) else some (CX s (ZN (EO s) 0 n))
def XO (m:Z6) (n:Int):Nat->Option (List Z5)
 | 0=>some m.smiths
 | k+1=>match XO m n k with
  | none=>none
  | some ss=>match RG m n (Z8 m.smiths k) with
   | none=>none
   | some t=>some (ss.set k t)
theorem Qg {n:Int} : ∀ {k:Nat} {ss:List Z5},XO m n k=some ss->ss.length=m.smiths.length/\ ∀ j,k<=j->Z8 ss j=Z8 m.smiths j
 | 0,ss,h=>by cases h;exact ⟨rfl,fun _ _=>rfl⟩
 | k+1,ss,h=>by
  unfold XO at h
  cases ht:XO m n k with
  | none=>rw [ht] at h;cases h
  | some s0=>
   rw [ht] at h
   simp only at h
   cases h1:RG m n (Z8 m.smiths k) with
   | none=>rw [h1] at h;cases h
   | some t=>
    rw [h1] at h
    cases h
    obtain ⟨e1,e2⟩:=Qg ht
    refine ⟨by simpa using e1,fun j hj=> ?_⟩
    rw [<-e2 j (by omega)]
    unfold Z8
    simp [List.getD,List.getElem?_set_ne (show k ≠ j by omega)]
theorem Qf {n:Int} {k:Nat} : ∀ d,XO m n k=none->XO m n (k+d)=none
 | 0,h=>h
 | d+1,h=>by
  have:=Qf d h
  show XO m n (k+d+1)=none
  unfold XO
  rw [this]
def To (m:Z6) (n:Int) (ss:List Z5):Z6:={ m with smiths:=ss,now:=m.now+n }
def U9 (m:Z6) (n:Int):Z6 × Int:=
 if ZS m then (if inB n 1 20 then (match XO m n m.smiths.length with
  | none=>(m,4)
  | some ss=>if YB (To m n ss) then (ZO (To m n ss),0) else (m,4)) else (m,3)) else (X9,3)
theorem Jn (h:ZS m=true) (n:Int):ZS (U9 m n).1=true:=by
 unfold U9
 rw [h]
 simp only [if_true]
 split
 ·split
  ·exact h
  ·split
   ·rename_i hl
    exact YM (OM hl)
   ·exact h
 ·exact h
def Za (m:Z6) (b:Nat):Nat->Nat
 | 0=>0
 | k+1=>if (Z8 m.desks k).1 && !(k ==b) then Za m b k ||| 2 ^ k else Za m b k
theorem Ss (m:Z6) (b:Nat):∀ k j:Nat,(Za m b k).testBit j=(decide (j<k) && ((Z8 m.desks j).1 && !(j ==b)))
 | 0,j=>by simp [Za]
 | k+1,j=>by
  have ih:=Ss m b k j
  unfold Za
  by_cases e:j=k
  ·subst e
   have hj:(Za m b j).testBit j=false:=by rw [ih];simp
   split
   ·rename_i h
    rw [Nat.testBit_or,hj,Nat.testBit_two_pow_self,h];simp
   ·rename_i h
    rw [hj]
    have:((Z8 m.desks j).1 && !(j ==b))=false:=by simpa using h
    rw [this];simp
  ·have hd:decide (j<k+1)=decide (j<k):=by
    by_cases h:j<k
    ·rw [decide_eq_true h,decide_eq_true (by omega)]
    ·rw [decide_eq_false h,decide_eq_false (by omega)]
   rw [hd]
   split
   ·rw [Nat.testBit_or,ih,Nat.testBit_two_pow_of_ne (by omega),Bool.or_false]
   ·exact ih
theorem OP (m:Z6) (b:Nat):∀ k:Nat,Za m b k<2 ^ k
 | 0=>by simp [Za]
 | k+1=>by
  have ih:=OP m b k
  have hp:2 ^ (k+1)=2*2 ^ k:=by rw [Nat.pow_succ];omega
  unfold Za
  split
  ·exact Nat.or_lt_two_pow (by omega) (by omega)
  ·omega
theorem N9 {x:Nat} (h:x ≠ 0):∃ j,x.testBit j=true:=by
 refine Classical.byContradiction fun hn=>h ?_
 apply Nat.eq_of_testBit_eq
 intro i
 rw [Nat.zero_testBit]
 cases hi:x.testBit i
 ·rfl
 ·exact absurd ⟨i,hi⟩ hn
theorem JR {s:Int} (h:0<=s) (j:Nat):Wu s (j:Int)=s.toNat.testBit j:=by
 obtain ⟨n,rfl⟩:=Int.eq_ofNat_of_zero_le h
 unfold Wu
 rw [Nat.testBit_eq_decide_div_mod_eq]
 simp only [Int.toNat_natCast]
 congr 1
 apply propext
 constructor
 ·intro h
  exact_mod_cast h
 ·intro h
  exact_mod_cast h
def YF (n:Nat):Int:=(2:Int) ^ n-1
theorem PY (n:Nat):YF n=((2 ^ n-1:Nat):Int):=by
 have h:1<=2 ^ n:=Nat.one_le_two_pow
 unfold YF
 rw [Int.natCast_sub h]
 push_cast
 rfl
theorem JG {n j:Nat} (h:j<n):Wu (YF n) (j:Int)=true:=by
 rw [JR (by rw [PY];omega),PY,Int.toNat_natCast,Nat.testBit_two_pow_sub_one]
 exact decide_eq_true h
theorem N2 {n:Nat} (h1:1<=n) (h8:n<=8):1<=YF n/\YF n<=255:=by
 have key:∀ k:Fin 8,1<=YF (k.val+1)/\YF (k.val+1)<=255:=by unfold YF;decide
 have:=key ⟨n-1,by omega⟩
 rwa [show n-1+1=n by omega] at this
def SU (op n:Nat) (may:Int):Int:=if may.toNat &&& op=0 then YF n else may
theorem IY {op n:Nat} {may:Int} (h0:0<=may) (hop:op ≠ 0) (hn:∀ j,op.testBit j=true->j<n):∃ j,op.testBit j=true/\Wu (SU op n may) (j:Int)=true:=by
 unfold SU
 split
 ·obtain ⟨j,hj⟩:=N9 hop
  exact ⟨j,hj,JG (hn j hj)⟩
 ·rename_i h
  obtain ⟨j,hj⟩:=N9 h
  rw [Nat.testBit_and] at hj
  simp only [Bool.and_eq_true] at hj
  exact ⟨j,hj.2,by rw [JR h0];exact hj.1⟩
theorem D3 {op n:Nat} {may:Int} (h1:1<=n) (h8:n<=8) (m0:1<=may) (m1:may<=255):1<=SU op n may/\SU op n may<=255:=by
 unfold SU
 split
 ·exact N2 h1 h8
 ·exact ⟨m0,m1⟩
def closeX (op:Nat) (m:Z6) (w:Nat):Z6:=XM m w (SU op m.desks.length (Z8 m.smiths w).2.2.2.1)
def Ma (op:Nat) (m:Z6) (w:Nat):Int:=Zr (closeX op m w) (w:Int)
def VW (op:Nat) (m:Z6) (w:Nat):Z6:=setS (closeX op m w) w (putS (closeX op m w) (Z8 (closeX op m w).smiths w) (Ma op m w))
def Yt (op:Nat) (m:Z6) (q:List Z1):Nat->Z6
 | 0=>m
 | k+1=>VW op (Yt op m q k) (ZY q k).2.toNat
structure Shut (m0:Z6) (b:Nat) (P:Nat->Prop) (m:Z6):Prop where
 rooms:m.rooms=m0.rooms
 guilds:m.guilds=m0.guilds
 paces:m.paces=m0.paces
 now:m.now=m0.now
 desks:m.desks=(Ys m0 b false).desks
 len:m.smiths.length=m0.smiths.length
 here:∀ i,i<m.smiths.length->Yf m (Z8 m.smiths i)=true
 seat:∀ i,i<m.smiths.length-> ¬ P i->XX m (Z8 m.smiths i)=true
 left:∀ i,P i->i<m.smiths.length/\ZP (Z8 m.smiths i)=true/\(Z8 m.smiths i).2.1=(b:Int)/\WV (V7 (Z8 m.smiths i)) (Xw m (b:Int))=true
theorem Px {b:Nat} (hb:b<m.desks.length) (o:Bool) (j:Nat):Z8 (Ys m b o).desks j=if j=b then (o,(Z8 m.desks b).2) else Z8 m.desks j:=ZF hb j
theorem U6 (m:Z6) (b:Nat) (o:Bool):(Ys m b o).desks.length=m.desks.length:=by unfold Ys;simp
theorem QT {b:Nat} (hb:b<m.desks.length) (o:Bool) (j:Nat):(Z8 (Ys m b o).desks j).2=(Z8 m.desks j).2:=by
 rw [Px hb]
 by_cases e:j=b
 ·rw [if_pos e,e]
 ·rw [if_neg e]
theorem Jg {m0:Z6} (h:Loose m0) {b:Nat} (hb:b<m0.desks.length):Shut m0 b (fun i=>i<m0.smiths.length/\(Z8 m0.smiths i).2.1=(b:Int)/\ZP (Z8 m0.smiths i)=true) (Ys m0 b false):=by
 refine ⟨rfl,rfl,rfl,rfl,rfl,rfl,fun i hi=> ?_,fun i hi hn=> ?_,fun i hp=> ?_⟩
 ·rw [WC (m:=m0) (m':=Ys m0 b false) rfl (U6 _ _ _)]
  exact h.here i hi
 ·cases hp:ZP (Z8 m0.smiths i)
  ·exact Vf hp
  ·obtain ⟨a0,a1,a2,a3,a4⟩:=h.at (i:=i) hi hp
   have hne:(Z8 m0.smiths i).2.1.toNat ≠ b:=by
    intro e
    exact hn ⟨hi,by omega,hp⟩
   refine Pw (m:=Ys m0 b false) (s:=Z8 m0.smiths i) ?_ a3 ?_
   ·rw [Px hb,if_neg hne];exact a2
   ·rw [QT hb];exact a4
 ·obtain ⟨hi,e,hp⟩:=hp
  obtain ⟨a0,a1,a2,a3,a4⟩:=h.at (i:=i) hi hp
  refine ⟨hi,hp,e,?_⟩
  rw [e] at a4
  show WV _ (Z8 (Ys m0 b false).desks ((b:Int)).toNat).2.2=true
  rw [QT hb]
  exact a4
theorem Shut.bare {m0 m:Z6} {b:Nat} {P:Nat->Prop} (h:Shut m0 b P m) (h0:Loose m0) (hb:b<m0.desks.length) (hop:Za m0 b m0.desks.length ≠ 0):Loose { m with smiths:=[] }:=by
 have hl:m.desks.length=m0.desks.length:=by rw [h.desks,U6]
 refine ⟨?_,?_,?_,fun i hi=>absurd hi (Nat.not_lt_zero _),fun i hi=>absurd hi (Nat.not_lt_zero _),?_⟩
 ·have:=h0.head
  unfold YG at this ⊢
  simp only [Bool.and_eq_true,decide_eq_true_eq] at this ⊢
  rw [h.rooms,h.guilds,h.paces,h.now,hl]
  exact ⟨this.1,this.2.1,by simp,this.2.2.2⟩
 ·intro j hj
  show V6 (Z8 m.desks j)=true
  have hj':j<m.desks.length:=hj
  have:=h0.desk j (by omega)
  unfold V6 at this ⊢
  rw [h.desks,QT hb]
  exact this
 ·intro j hj
  have:=h0.pace j (by rw [<-h.paces];exact hj)
  unfold Wj at this ⊢
  simp only
  rw [h.paces,h.rooms]
  exact this
 ·obtain ⟨j,hj⟩:=N9 hop
  rw [Ss] at hj
  simp only [Bool.and_eq_true,decide_eq_true_eq,Bool.not_eq_true',beq_eq_false_iff_ne] at hj
  refine ⟨j,(by show j<m.desks.length;omega),?_⟩
  show (Z8 m.desks j).1=true
  rw [h.desks,Px hb,if_neg hj.2.2]
  exact hj.2.1
theorem Shut.pres {m0 m:Z6} {b:Nat} {P:Nat->Prop} (h:Shut m0 b P m) {i:Nat} (hp:P i):YY (Z8 m.smiths i)=true/\(Z8 m.smiths i).2.2.2.2.1<m.guilds.length:=by
 obtain ⟨hi,hp1,_⟩:=h.left i hp
 rcases XF.1 (h.here i hi) with e | e
 ·rw [e] at hp1;cases hp1
 ·exact ⟨e.1,e.2.1⟩
theorem Shut.sane {m0 m:Z6} {b:Nat} {P:Nat->Prop} (h:Shut m0 b P m) (h0:Loose m0):Sane m:=by
 have s0:=h0.sane
 have lim:∀ i,i<m.smiths.length->(Z8 m.smiths i).1 ≠ 0->YY (Z8 m.smiths i)=true/\(Z8 m.smiths i).2.2.2.2.1<m.guilds.length:=fun i hi hs=>by
  rcases XF.1 (h.here i hi) with e | e
  ·rw [e] at hs;exact absurd rfl hs
  ·exact ⟨e.1,e.2.1⟩
 refine ⟨by rw [h.rooms];exact s0.hall,by rw [h.rooms,h.desks,U6];exact s0.desks,⟨by rw [h.guilds];exact s0.guilded.guilds,fun i hi hs=> ?_,fun i hi hs=>(lim i hi hs).2⟩,by rw [h.len];exact s0.few⟩
 have hp:=(lim i hi hs).1
 generalize Z8 m.smiths i=s at *
 obtain ⟨st,be,rk,my,gu,lo',hi',hd,ca,ut,wk⟩:=s
 exact (Zc hp).2.2.2.2.1.1
theorem Pv {k:Nat} (hk:k<m.smiths.length) (may:Int) (i:Nat):Z8 (XM m k may).smiths i=if i=k then TD (Z8 m.smiths k) may else Z8 m.smiths i:=ZF hk i
theorem Shut.may {m0 m:Z6} {b:Nat} {P:Nat->Prop} (h:Shut m0 b P m) {w:Nat} (hw:P w) {may:Int} (y0:1<=may) (y1:may<=255):Shut m0 b P (XM m w may):=by
 obtain ⟨hwl,hp,hbe,hba⟩:=h.left w hw
 obtain ⟨hpb,hg⟩:=h.pres hw
 have hlen:(XM m w may).smiths.length=m.smiths.length:=by unfold XM setS;simp
 refine ⟨h.rooms,h.guilds,h.paces,h.now,h.desks,by rw [hlen];exact h.len,fun i hi=> ?_,fun i hi hn=> ?_,fun i hi=> ?_⟩
 ·rw [WC (m:=m) (m':=XM m w may) rfl rfl,Pv hwl]
  split
  ·refine XF.2 (.inr ⟨Nc hpb y0 y1,hg,?_⟩)
   rcases XF.1 (h.here w hwl) with e | e
   ·rw [e] at hp;cases hp
   ·exact e.2.2
  ·exact h.here i (by omega)
 ·rw [Pv hwl,if_neg (fun e=>hn (by rw [e];exact hw))]
  exact h.seat i (by omega) hn
 ·obtain ⟨a,b1,c,d⟩:=h.left i hi
  refine ⟨by omega,?_⟩
  rw [Pv hwl]
  split
  ·rename_i e
   subst e
   exact ⟨b1,c,d⟩
  ·exact ⟨b1,c,d⟩
theorem Shut.chosen {m0 m:Z6} {b:Nat} {P:Nat->Prop} (h:Shut m0 b P m) (h0:Loose m0) (hb:b<m0.desks.length) (hop:Za m0 b m0.desks.length ≠ 0) {w:Nat} (hw:P w):∃ j:Nat,j<m.desks.length/\Ma (Za m0 b m0.desks.length) m w=(j:Int)/\Zw (closeX (Za m0 b m0.desks.length) m w) (w:Int) j=true:=by
 obtain ⟨hwl,hp,hbe,hba⟩:=h.left w hw
 obtain ⟨hpb,hg⟩:=h.pres hw
 have hl:m.desks.length=m0.desks.length:=by rw [h.desks,U6]
 rcases Vd (closeX (Za m0 b m0.desks.length) m w) (w:Int) with ⟨_,hn⟩ | ⟨j,hj,e,hm⟩
 ·exfalso
  have hy:0<=(Z8 m.smiths w).2.2.2.1:=by
   generalize Z8 m.smiths w=s at *
   obtain ⟨st,be,rk,my,gu,lo',hi',hd,ca,ut,wk⟩:=s
   have:=(Zc hpb).2.2.2.1.1
   show 0<=my
   omega
  obtain ⟨j,hj,hbit⟩:=IY (op:=Za m0 b m0.desks.length) (n:=m.desks.length) hy hop (fun j hj=>by
   rw [Ss] at hj
   simp only [Bool.and_eq_true,decide_eq_true_eq] at hj
   omega)
  rw [Ss] at hj
  simp only [Bool.and_eq_true,decide_eq_true_eq,Bool.not_eq_true',beq_eq_false_iff_ne] at hj
  have:=hn j (by show j<m.desks.length;omega)
  unfold Zw at this
  rw [show (Z8 (closeX (Za m0 b m0.desks.length) m w).desks j).1=true from by
   show (Z8 m.desks j).1=true
   rw [h.desks,Px hb,if_neg hj.2.2]
   exact hj.2.1,Int.toNat_natCast,show Z8 (closeX (Za m0 b m0.desks.length) m w).smiths w=TD (Z8 m.smiths w) (SU (Za m0 b m0.desks.length) m.desks.length (Z8 m.smiths w).2.2.2.1) from by
    unfold closeX
    rw [Pv hwl,if_pos rfl]] at this
  rw [show (TD (Z8 m.smiths w) (SU (Za m0 b m0.desks.length) m.desks.length (Z8 m.smiths w).2.2.2.1)).2.2.2.1=SU (Za m0 b m0.desks.length) m.desks.length (Z8 m.smiths w).2.2.2.1 from rfl,hbit] at this
  cases this
 ·exact ⟨j,hj,e,hm⟩
theorem Shut.closeX {m0 m:Z6} {b:Nat} {P:Nat->Prop} (h:Shut m0 b P m) (h0:Loose m0) {w:Nat} (hw:P w) (op:Nat):Shut m0 b P (closeX op m w):=by
 obtain ⟨hpb,hg⟩:=h.pres hw
 have hl:m.desks.length=m0.desks.length:=by rw [h.desks,U6]
 have h8:=Ww h0
 obtain ⟨j,hj,_⟩:=h0.openD
 have hy:1<=(Z8 m.smiths w).2.2.2.1/\(Z8 m.smiths w).2.2.2.1<=255:=by
  generalize Z8 m.smiths w=s at *
  obtain ⟨st,be,rk,my,gu,lo',hi',hd,ca,ut,wk⟩:=s
  exact (Zc hpb).2.2.2.1
 obtain ⟨y0,y1⟩:=D3 (op:=op) (n:=m.desks.length) (by omega) (by omega) hy.1 hy.2
 exact h.may hw y0 y1
theorem Shut.step {m0 m:Z6} {b:Nat} {P:Nat->Prop} (h:Shut m0 b P m) (h0:Loose m0) (hb:b<m0.desks.length) (hop:Za m0 b m0.desks.length ≠ 0) {w:Nat} (hw:P w) :
  Shut m0 b (fun i=>P i/\i ≠ w) (VW (Za m0 b m0.desks.length) m w):=by
 obtain ⟨j,hj,ej,hm⟩:=h.chosen h0 hb hop hw
 have hx:=h.closeX h0 hw (Za m0 b m0.desks.length)
 unfold VW
 rw [ej]
 generalize Go.Proofs.YtaegckehjlkaaaaGreat.closeX (Za m0 b m0.desks.length) m w=x at *
 have hjx:j<x.desks.length:=by rw [hx.desks,<-h.desks];exact hj
 obtain ⟨hwl,hp,hbe,hba⟩:=hx.left w hw
 obtain ⟨hpb,hg⟩:=hx.pres hw
 unfold Zw at hm
 simp only [Bool.and_eq_true,Int.toNat_natCast] at hm
 have hbl:b<x.desks.length:=by rw [hx.desks,U6];exact hb
 have hk:=OE (m:={ x with smiths:=[] }) (hx.bare h0 hb hop) (s:=Z8 x.smiths w) (b:=j) hpb hp hg (by omega) (by rw [hbe];show (b:Int)<x.desks.length;omega) (by rw [hbe];exact hba) hjx hm.1 hm.2
 have k1:Yf x (putS x (Z8 x.smiths w) (j:Int))=true:=hk.1
 have k2:XX x (putS x (Z8 x.smiths w) (j:Int))=true:=hk.2
 have hat:∀ i,Z8 (setS x w (putS x (Z8 x.smiths w) (j:Int))).smiths i=if i=w then putS x (Z8 x.smiths w) (j:Int) else Z8 x.smiths i:=fun i=>ZF hwl i
 have hlen:(setS x w (putS x (Z8 x.smiths w) (j:Int))).smiths.length=x.smiths.length:=by unfold setS;simp
 refine ⟨hx.rooms,hx.guilds,hx.paces,hx.now,hx.desks,by rw [hlen];exact hx.len,fun i hi=> ?_,fun i hi hn=> ?_,fun i hi=> ?_⟩
 ·rw [WC (m:=x) (m':=setS x w (putS x (Z8 x.smiths w) (j:Int))) rfl rfl,hat]
  split
  ·exact k1
  ·exact hx.here i (by omega)
 ·show XX x (Z8 (setS x w (putS x (Z8 x.smiths w) (j:Int))).smiths i)=true
  rw [hat]
  split
  ·exact k2
  ·rename_i e
   exact hx.seat i (by omega) (fun hpi=>hn ⟨hpi,e⟩)
 ·obtain ⟨hpi,e⟩:=hi
  obtain ⟨a,b1,c,d⟩:=hx.left i hpi
  refine ⟨by omega,?_⟩
  rw [hat,if_neg e]
  exact ⟨b1,c,d⟩
theorem Shut.weak {m0 m:Z6} {b:Nat} {P Q:Nat->Prop} (h:Shut m0 b P m) (h1:∀ i,P i->Q i) (h2:∀ i,Q i->P i):Shut m0 b Q m:=
 ⟨h.rooms,h.guilds,h.paces,h.now,h.desks,h.len,h.here,fun i hi hn=>h.seat i hi (fun hp=>hn (h1 i hp)),fun i hi=>h.left i (h2 i hi)⟩
def LM (q:List Z1) (k:Nat) (i:Nat):Prop:= ∃ j,k<=j/\j<q.length/\(ZY q j).2=(i:Int)
theorem Mx {m0:Z6} (h0:Loose m0) {b:Nat} (hb:b<m0.desks.length) (hop:Za m0 b m0.desks.length ≠ 0):∀ k,k<=(atV m0.smiths b m0.smiths.length).length->
  Shut m0 b (LM (atV m0.smiths b m0.smiths.length) k) (Yt (Za m0 b m0.desks.length) (Ys m0 b false) (atV m0.smiths b m0.smiths.length) k)
 | 0,_=>by
  refine (Jg h0 hb).weak (fun i hi=> ?_) (fun i hi=> ?_)
  ·have hm:(V7 (Z8 m0.smiths i),(i:Int)) ∈ atV m0.smiths b m0.smiths.length:=(Xs m0.smiths b _ m0.smiths.length).2 ⟨i,hi.1,hi.2.1,hi.2.2,rfl⟩
   obtain ⟨j,hj,e⟩:=I0 hm
   exact ⟨j,Nat.zero_le _,hj,by rw [e]⟩
  ·obtain ⟨j,_,hj,e⟩:=hi
   obtain ⟨i',hi',h1,h2,e2⟩:=(Xs m0.smiths b _ m0.smiths.length).1 (U4 hj)
   rw [e2] at e
   have:i'=i:=by
    have e3:(i':Int)=(i:Int):=e
    omega
   subst this
   exact ⟨hi',h1,h2⟩
 | k+1,hk=>by
  have ih:=Mx h0 hb hop k (by omega)
  obtain ⟨i',hi',h1,h2,e2⟩:=(Xs m0.smiths b _ m0.smiths.length).1 (U4 (show k<(atV m0.smiths b m0.smiths.length).length by omega))
  have hw:LM (atV m0.smiths b m0.smiths.length) k i':=⟨k,Nat.le_refl _,by omega,by rw [e2]⟩
  have:=ih.step h0 hb hop hw
  unfold Yt
  rw [e2]
  show Shut m0 b _ (VW _ _ ((i':Int)).toNat)
  rw [Int.toNat_natCast]
  refine this.weak (fun i hi=> ?_) (fun i hi=> ?_)
  ·obtain ⟨⟨j,hj,hjl,e⟩,hne⟩:=hi
   refine ⟨j,?_,hjl,e⟩
   rcases Nat.lt_or_ge k j with hlt | hge
   ·omega
   ·exfalso
    have:j=k:=by omega
    subst this
    rw [e2] at e
    apply hne
    have:(i':Int)=(i:Int):=e
    omega
  ·obtain ⟨j,hj,hjl,e⟩:=hi
   refine ⟨⟨j,by omega,hjl,e⟩,fun hii=> ?_⟩
   subst hii
   have hpw:=N6 m0.smiths b m0.smiths.length
   have hat:∀ n (hn:n<(atV m0.smiths b m0.smiths.length).length),ZY (atV m0.smiths b m0.smiths.length) n=(atV m0.smiths b m0.smiths.length)[n]:=fun n hn=>by unfold ZY;simp [List.getD,hn]
   have:=List.pairwise_iff_getElem.1 hpw k j (by omega) hjl (by omega)
   rw [<-hat k (by omega),<-hat j hjl] at this
   apply this
   rw [e2,e]
theorem Jf {m0:Z6} (h0:Loose m0) {b:Nat} (hb:b<m0.desks.length) (hop:Za m0 b m0.desks.length ≠ 0):Loose (Yt (Za m0 b m0.desks.length) (Ys m0 b false) (atV m0.smiths b m0.smiths.length) (atV m0.smiths b m0.smiths.length).length):=by
 have h:=Mx h0 hb hop _ (Nat.le_refl _)
 have hno:∀ i,¬ LM (atV m0.smiths b m0.smiths.length) (atV m0.smiths b m0.smiths.length).length i:=fun i hi=>by
  obtain ⟨j,h1,h2,_⟩:=hi
  omega
 generalize Yt (Za m0 b m0.desks.length) (Ys m0 b false) (atV m0.smiths b m0.smiths.length) (atV m0.smiths b m0.smiths.length).length=x at *
 have hb':=h.bare h0 hb hop
 refine ⟨?_,hb'.desk,hb'.pace,h.here,fun i hi=>h.seat i hi (hno i),hb'.openD⟩
 have:=hb'.head
 unfold YG at this ⊢
 simp only [Bool.and_eq_true,decide_eq_true_eq] at this ⊢
 exact ⟨this.1,this.2.1,by rw [h.len];exact Yv h0,this.2.2.2⟩
def Xt (m:Z6) (b:Int):Z6 × Int:=
 if ZS m then (if Yq m b then (if (Z8 m.desks b.toNat).1 then (if Za m b.toNat m.desks.length=0 then (m,5) else
  (ZO (Yt (Za m b.toNat m.desks.length) (Ys m b.toNat false) (atV m.smiths b m.smiths.length) (atV m.smiths b m.smiths.length).length),0)) else (m,2)) else (m,1)) else (X9,3)
theorem JO {b:Int} (h:Yq m b=true):∃ k:Nat,b=(k:Int)/\k<m.desks.length:=by
 have:=ZV (show inB b 0 ((m.desks.length:Int)-1)=true from h)
 exact ⟨b.toNat,by omega,by omega⟩
theorem Mb (h:ZS m=true) (b:Int):ZS (Xt m b).1=true:=by
 unfold Xt
 rw [h]
 simp only [if_true]
 split
 ·rename_i hb
  obtain ⟨k,rfl,hk⟩:=JO hb
  rw [Int.toNat_natCast]
  split
  ·split
   ·exact h
   ·rename_i hop
    exact YM (Jf (ZZ h) hk hop)
  ·exact h
 ·exact h
end Go.Proofs.YtaegckehjlkaaaaGreat
