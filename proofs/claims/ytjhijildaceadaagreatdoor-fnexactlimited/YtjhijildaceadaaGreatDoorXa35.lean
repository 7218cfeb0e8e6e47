/- Part 35 of what the proof rests on. No condition but those that a theorem names. -/
import Derived.Test.YtjhijildaceadaaGreatDoorXa34
namespace Go.Proofs.YtjhijildaceadaaGreatDoor
open Go.ChangeShapes Go.WideShapes Go.ChangeAt Go.RowKit Go.Sort
set_option linter.unusedVariables false
def ZJ (m:Z4) (b:Nat):Nat->Nat
 | 0=>0
 | k+1=>if (Z8 m.desks k).1 && !(k ==b) then ZJ m b k ||| 2 ^ k else ZJ m b k
theorem Wx (m:Z4) (b:Nat):∀ k j:Nat,(ZJ m b k).testBit j=(decide (j<k) && ((Z8 m.desks j).1 && !(j ==b)))
 | 0,j=>by simp [ZJ]
 | k+1,j=>by
  have ih:=Wx m b k j
  unfold ZJ
  by_cases e:j=k
  ·subst e
   have hj:(ZJ m b j).testBit j=false:=by rw [ih];simp
   split
   ·rename_i h
    rw [Nat.testBit_or,hj,Nat.testBit_two_pow_self,h];simp
   ·rename_i h
    rw [hj]
    have:((Z8 m.desks j).1 && !(j ==b))=false:=by simpa using h
    rw [this];simp
  ·have hd:decide (j<k+1)=decide (j<k):=by
    by_cases h:j<k
    ·rw [decide_eq_true h,decide_eq_true (by omega)]
    ·rw [decide_eq_false h,decide_eq_false (by omega)]
   rw [hd]
   split
   ·rw [Nat.testBit_or,ih,Nat.testBit_two_pow_of_ne (by omega),Bool.or_false]
   ·exact ih
theorem Of (m:Z4) (b:Nat):∀ k:Nat,ZJ m b k<2 ^ k
 | 0=>by simp [ZJ]
 | k+1=>by
  have ih:=Of m b k
  have hp:2 ^ (k+1)=2*2 ^ k:=by rw [Nat.pow_succ];omega
  unfold ZJ
  split
  ·exact Nat.or_lt_two_pow (by omega) (by omega)
  ·omega
theorem SE {x:Nat} (h:x ≠ 0):∃ j,x.testBit j=true:=by
 refine Classical.byContradiction fun hn=>h ?_
 apply Nat.eq_of_testBit_eq
 intro i
 rw [Nat.zero_testBit]
 cases hi:x.testBit i
 ·rfl
 ·exact absurd ⟨i,hi⟩ hn
theorem Nh {s:Int} (h:0<=s) (j:Nat):Xp s (j:Int)=s.toNat.testBit j:=by
 obtain ⟨n,rfl⟩:=Int.eq_ofNat_of_zero_le h
 unfold Xp
 rw [Nat.testBit_eq_decide_div_mod_eq]
 simp only [Int.toNat_natCast]
 congr 1
 apply propext
 constructor
 ·intro h
  exact_mod_cast h
 ·intro h
  exact_mod_cast h
def ZG (n:Nat):Int:=(2:Int) ^ n-1
theorem Pt (n:Nat):ZG n=((2 ^ n-1:Nat):Int):=by
 have h:1<=2 ^ n:=Nat.one_le_two_pow
 unfold ZG
 rw [Int.natCast_sub h]
 push_cast
 rfl
theorem Io {n j:Nat} (h:j<n):Xp (ZG n) (j:Int)=true:=by
 rw [Nh (by rw [Pt];omega),Pt,Int.toNat_natCast,Nat.testBit_two_pow_sub_one]
 exact decide_eq_true h
theorem Rw {n:Nat} (h1:1<=n) (h8:n<=8):1<=ZG n/\ZG n<=255:=by
 have key:∀ k:Fin 8,1<=ZG (k.val+1)/\ZG (k.val+1)<=255:=by unfold ZG;decide
 have:=key ⟨n-1,by omega⟩
 rwa [show n-1+1=n by omega] at this
def Tq (op n:Nat) (may:Int):Int:=if may.toNat &&& op=0 then ZG n else may
theorem Gy {op n:Nat} {may:Int} (h0:0<=may) (hop:op ≠ 0) (hn:∀ j,op.testBit j=true->j<n):∃ j,op.testBit j=true/\Xp (Tq op n may) (j:Int)=true:=by
 unfold Tq
 split
 ·obtain ⟨j,hj⟩:=SE hop
  exact ⟨j,hj,Io (hn j hj)⟩
 ·rename_i h
  obtain ⟨j,hj⟩:=SE h
  rw [Nat.testBit_and] at hj
  simp only [Bool.and_eq_true] at hj
  exact ⟨j,hj.2,by rw [Nh h0];exact hj.1⟩
theorem Dc {op n:Nat} {may:Int} (h1:1<=n) (h8:n<=8) (m0:1<=may) (m1:may<=255):1<=Tq op n may/\Tq op n may<=255:=by
 unfold Tq
 split
 ·exact Rw h1 h8
 ·exact ⟨m0,m1⟩
def closeX (op:Nat) (m:Z4) (w:Nat):Z4:=Zx m w (Tq op m.desks.length (Z8 m.smiths w).2.2.2.1)
def PY (op:Nat) (m:Z4) (w:Nat):Int:=Zn (closeX op m w) (w:Int)
def Xt (op:Nat) (m:Z4) (w:Nat):Z4:=setS (closeX op m w) w (putS (closeX op m w) (Z8 (closeX op m w).smiths w) (PY op m w))
def Y7 (op:Nat) (m:Z4) (q:List Z6):Nat->Z4
 | 0=>m
 | k+1=>Xt op (Y7 op m q k) (Z7 q k).2.toNat
structure Shut (m0:Z4) (b:Nat) (P:Nat->Prop) (m:Z4):Prop where
 rooms:m.rooms=m0.rooms
 guilds:m.guilds=m0.guilds
 paces:m.paces=m0.paces
 now:m.now=m0.now
 desks:m.desks=(Zt m0 b false).desks
 len:m.smiths.length=m0.smiths.length
 here:∀ i,i<m.smiths.length->YJ m (Z8 m.smiths i)=true
 seat:∀ i,i<m.smiths.length-> ¬ P i->Ye m (Z8 m.smiths i)=true
 left:∀ i,P i->i<m.smiths.length/\ZW (Z8 m.smiths i)=true/\(Z8 m.smiths i).2.1=(b:Int)/\Xe (XS (Z8 m.smiths i)) (Xb m (b:Int))=true
theorem Sx {m:Z4} {b:Nat} (hb:b<m.desks.length) (o:Bool) (j:Nat):Z8 (Zt m b o).desks j=if j=b then (o,(Z8 m.desks b).2) else Z8 m.desks j:=ZV hb j
theorem Xv (m:Z4) (b:Nat) (o:Bool):(Zt m b o).desks.length=m.desks.length:=by unfold Zt;simp
theorem Qs {m:Z4} {b:Nat} (hb:b<m.desks.length) (o:Bool) (j:Nat):(Z8 (Zt m b o).desks j).2=(Z8 m.desks j).2:=by
 rw [Sx hb]
 by_cases e:j=b
 ·rw [if_pos e,e]
 ·rw [if_neg e]
theorem G6 {m0:Z4} (h:Loose m0) {b:Nat} (hb:b<m0.desks.length):Shut m0 b (fun i=>i<m0.smiths.length/\(Z8 m0.smiths i).2.1=(b:Int)/\ZW (Z8 m0.smiths i)=true) (Zt m0 b false):=by
 refine ⟨rfl,rfl,rfl,rfl,rfl,rfl,fun i hi=> ?_,fun i hi hn=> ?_,fun i hp=> ?_⟩
 ·rw [WD (m:=m0) (m':=Zt m0 b false) rfl (Xv _ _ _)]
  exact h.here i hi
 ·cases hp:ZW (Z8 m0.smiths i)
  ·exact Qr hp
  ·obtain ⟨a0,a1,a2,a3,a4⟩:=h.at (i:=i) hi hp
   have hne:(Z8 m0.smiths i).2.1.toNat ≠ b:=by
    intro e
    exact hn ⟨hi,by omega,hp⟩
   refine O0 (m:=Zt m0 b false) (s:=Z8 m0.smiths i) ?_ a3 ?_
   ·rw [Sx hb,if_neg hne];exact a2
   ·rw [Qs hb];exact a4
 ·obtain ⟨hi,e,hp⟩:=hp
  obtain ⟨a0,a1,a2,a3,a4⟩:=h.at (i:=i) hi hp
  refine ⟨hi,hp,e,?_⟩
  rw [e] at a4
  show Xe _ (Z8 (Zt m0 b false).desks ((b:Int)).toNat).2.2=true
  rw [Qs hb]
  exact a4
theorem Shut.bare {m0 m:Z4} {b:Nat} {P:Nat->Prop} (h:Shut m0 b P m) (h0:Loose m0) (hb:b<m0.desks.length) (hop:ZJ m0 b m0.desks.length ≠ 0):Loose { m with smiths:=[] }:=by
 have hl:m.desks.length=m0.desks.length:=by rw [h.desks,Xv]
 refine ⟨?_,?_,?_,fun i hi=>absurd hi (Nat.not_lt_zero _),fun i hi=>absurd hi (Nat.not_lt_zero _),?_⟩
 ·have:=h0.head
  unfold Yc at this ⊢
  simp only [Bool.and_eq_true,decide_eq_true_eq] at this ⊢
  rw [h.rooms,h.guilds,h.paces,h.now,hl]
  exact ⟨this.1,this.2.1,by simp,this.2.2.2⟩
 ·intro j hj
  show Vw (Z8 m.desks j)=true
  have hj':j<m.desks.length:=hj
  have:=h0.desk j (by omega)
  unfold Vw at this ⊢
  rw [h.desks,Qs hb]
  exact this
 ·intro j hj
  have:=h0.pace j (by rw [<-h.paces];exact hj)
  unfold Wl at this ⊢
  simp only
  rw [h.paces,h.rooms]
  exact this
 ·obtain ⟨j,hj⟩:=SE hop
  rw [Wx] at hj
  simp only [Bool.and_eq_true,decide_eq_true_eq,Bool.not_eq_true',beq_eq_false_iff_ne] at hj
  refine ⟨j,(by show j<m.desks.length;omega),?_⟩
  show (Z8 m.desks j).1=true
  rw [h.desks,Sx hb,if_neg hj.2.2]
  exact hj.2.1
theorem Shut.pres {m0 m:Z4} {b:Nat} {P:Nat->Prop} (h:Shut m0 b P m) {i:Nat} (hp:P i):Zg (Z8 m.smiths i)=true/\(Z8 m.smiths i).2.2.2.2.1<m.guilds.length:=by
 obtain ⟨hi,hp1,_⟩:=h.left i hp
 rcases XT.1 (h.here i hi) with e | e
 ·rw [e] at hp1;cases hp1
 ·exact ⟨e.1,e.2.1⟩
theorem Shut.sane {m0 m:Z4} {b:Nat} {P:Nat->Prop} (h:Shut m0 b P m) (h0:Loose m0):Sane m:=by
 have s0:=h0.sane
 have lim:∀ i,i<m.smiths.length->(Z8 m.smiths i).1 ≠ 0->Zg (Z8 m.smiths i)=true/\(Z8 m.smiths i).2.2.2.2.1<m.guilds.length:=fun i hi hs=>by
  rcases XT.1 (h.here i hi) with e | e
  ·rw [e] at hs;exact absurd rfl hs
  ·exact ⟨e.1,e.2.1⟩
 refine ⟨by rw [h.rooms];exact s0.hall,by rw [h.rooms,h.desks,Xv];exact s0.desks,⟨by rw [h.guilds];exact s0.guilded.guilds,fun i hi hs=> ?_,fun i hi hs=>(lim i hi hs).2⟩,by rw [h.len];exact s0.few⟩
 have hp:=(lim i hi hs).1
 generalize Z8 m.smiths i=s at *
 obtain ⟨st,be,rk,my,gu,lo',hi',hd,ca,ut,wk⟩:=s
 exact (Zk hp).2.2.2.2.1.1
theorem Q6 {m:Z4} {k:Nat} (hk:k<m.smiths.length) (may:Int) (i:Nat):Z8 (Zx m k may).smiths i=if i=k then XE (Z8 m.smiths k) may else Z8 m.smiths i:=ZV hk i
theorem Shut.may {m0 m:Z4} {b:Nat} {P:Nat->Prop} (h:Shut m0 b P m) {w:Nat} (hw:P w) {may:Int} (y0:1<=may) (y1:may<=255):Shut m0 b P (Zx m w may):=by
 obtain ⟨hwl,hp,hbe,hba⟩:=h.left w hw
 obtain ⟨hpb,hg⟩:=h.pres hw
 have hlen:(Zx m w may).smiths.length=m.smiths.length:=by unfold Zx setS;simp
 refine ⟨h.rooms,h.guilds,h.paces,h.now,h.desks,by rw [hlen];exact h.len,fun i hi=> ?_,fun i hi hn=> ?_,fun i hi=> ?_⟩
 ·rw [WD (m:=m) (m':=Zx m w may) rfl rfl,Q6 hwl]
  split
  ·refine XT.2 (.inr ⟨Sv hpb y0 y1,hg,?_⟩)
   rcases XT.1 (h.here w hwl) with e | e
   ·rw [e] at hp;cases hp
   ·exact e.2.2
  ·exact h.here i (by omega)
 ·rw [Q6 hwl,if_neg (fun e=>hn (by rw [e];exact hw))]
  exact h.seat i (by omega) hn
 ·obtain ⟨a,b1,c,d⟩:=h.left i hi
  refine ⟨by omega,?_⟩
  rw [Q6 hwl]
  split
  ·rename_i e
   subst e
   exact ⟨b1,c,d⟩
  ·exact ⟨b1,c,d⟩
theorem Shut.chosen {m0 m:Z4} {b:Nat} {P:Nat->Prop} (h:Shut m0 b P m) (h0:Loose m0) (hb:b<m0.desks.length) (hop:ZJ m0 b m0.desks.length ≠ 0) {w:Nat} (hw:P w):∃ j:Nat,j<m.desks.length/\PY (ZJ m0 b m0.desks.length) m w=(j:Int)/\YO (closeX (ZJ m0 b m0.desks.length) m w) (w:Int) j=true:=by
 obtain ⟨hwl,hp,hbe,hba⟩:=h.left w hw
 obtain ⟨hpb,hg⟩:=h.pres hw
 have hl:m.desks.length=m0.desks.length:=by rw [h.desks,Xv]
 rcases VQ (closeX (ZJ m0 b m0.desks.length) m w) (w:Int) with ⟨_,hn⟩ | ⟨j,hj,e,hm⟩
 ·exfalso
  have hy:0<=(Z8 m.smiths w).2.2.2.1:=by
   generalize Z8 m.smiths w=s at *
   obtain ⟨st,be,rk,my,gu,lo',hi',hd,ca,ut,wk⟩:=s
   have:=(Zk hpb).2.2.2.1.1
   show 0<=my
   omega
  obtain ⟨j,hj,hbit⟩:=Gy (op:=ZJ m0 b m0.desks.length) (n:=m.desks.length) hy hop (fun j hj=>by
   rw [Wx] at hj
   simp only [Bool.and_eq_true,decide_eq_true_eq] at hj
   omega)
  rw [Wx] at hj
  simp only [Bool.and_eq_true,decide_eq_true_eq,Bool.not_eq_true',beq_eq_false_iff_ne] at hj
  have:=hn j (by show j<m.desks.length;omega)
  unfold YO at this
  rw [show (Z8 (closeX (ZJ m0 b m0.desks.length) m w).desks j).1=true from by
   show (Z8 m.desks j).1=true
   rw [h.desks,Sx hb,if_neg hj.2.2]
   exact hj.2.1,Int.toNat_natCast,show Z8 (closeX (ZJ m0 b m0.desks.length) m w).smiths w=XE (Z8 m.smiths w) (Tq (ZJ m0 b m0.desks.length) m.desks.length (Z8 m.smiths w).2.2.2.1) from by
    unfold closeX
    rw [Q6 hwl,if_pos rfl]] at this
  rw [show (XE (Z8 m.smiths w) (Tq (ZJ m0 b m0.desks.length) m.desks.length (Z8 m.smiths w).2.2.2.1)).2.2.2.1=Tq (ZJ m0 b m0.desks.length) m.desks.length (Z8 m.smiths w).2.2.2.1 from rfl,hbit] at this
  cases this
 ·exact ⟨j,hj,e,hm⟩
theorem Shut.closeX {m0 m:Z4} {b:Nat} {P:Nat->Prop} (h:Shut m0 b P m) (h0:Loose m0) {w:Nat} (hw:P w) (op:Nat):Shut m0 b P (closeX op m w):=by
 obtain ⟨hpb,hg⟩:=h.pres hw
 have hl:m.desks.length=m0.desks.length:=by rw [h.desks,Xv]
 have h8:=Sf h0
 obtain ⟨j,hj,_⟩:=h0.openD
 have hy:1<=(Z8 m.smiths w).2.2.2.1/\(Z8 m.smiths w).2.2.2.1<=255:=by
  generalize Z8 m.smiths w=s at *
  obtain ⟨st,be,rk,my,gu,lo',hi',hd,ca,ut,wk⟩:=s
  exact (Zk hpb).2.2.2.1
 obtain ⟨y0,y1⟩:=Dc (op:=op) (n:=m.desks.length) (by omega) (by omega) hy.1 hy.2
 exact h.may hw y0 y1
theorem Shut.step {m0 m:Z4} {b:Nat} {P:Nat->Prop} (h:Shut m0 b P m) (h0:Loose m0) (hb:b<m0.desks.length) (hop:ZJ m0 b m0.desks.length ≠ 0) {w:Nat} (hw:P w) :
  Shut m0 b (fun i=>P i/\i ≠ w) (Xt (ZJ m0 b m0.desks.length) m w):=by
 obtain ⟨j,hj,ej,hm⟩:=h.chosen h0 hb hop hw
 have hx:=h.closeX h0 hw (ZJ m0 b m0.desks.length)
 unfold Xt
 rw [ej]
 generalize Go.Proofs.YtjhijildaceadaaGreatDoor.closeX (ZJ m0 b m0.desks.length) m w=x at *
 have hjx:j<x.desks.length:=by rw [hx.desks,<-h.desks];exact hj
 obtain ⟨hwl,hp,hbe,hba⟩:=hx.left w hw
 obtain ⟨hpb,hg⟩:=hx.pres hw
 unfold YO at hm
 simp only [Bool.and_eq_true,Int.toNat_natCast] at hm
 have hbl:b<x.desks.length:=by rw [hx.desks,Xv];exact hb
 have hk:=NU (m:={ x with smiths:=[] }) (hx.bare h0 hb hop) (s:=Z8 x.smiths w) (b:=j) hpb hp hg (by omega) (by rw [hbe];show (b:Int)<x.desks.length;omega) (by rw [hbe];exact hba) hjx hm.1 hm.2
 have k1:YJ x (putS x (Z8 x.smiths w) (j:Int))=true:=hk.1
 have k2:Ye x (putS x (Z8 x.smiths w) (j:Int))=true:=hk.2
 have hat:∀ i,Z8 (setS x w (putS x (Z8 x.smiths w) (j:Int))).smiths i=if i=w then putS x (Z8 x.smiths w) (j:Int) else Z8 x.smiths i:=fun i=>ZV hwl i
 have hlen:(setS x w (putS x (Z8 x.smiths w) (j:Int))).smiths.length=x.smiths.length:=by unfold setS;simp
 refine ⟨hx.rooms,hx.guilds,hx.paces,hx.now,hx.desks,by rw [hlen];exact hx.len,fun i hi=> ?_,fun i hi hn=> ?_,fun i hi=> ?_⟩
 ·rw [WD (m:=x) (m':=setS x w (putS x (Z8 x.smiths w) (j:Int))) rfl rfl,hat]
  split
  ·exact k1
  ·exact hx.here i (by omega)
 ·show Ye x (Z8 (setS x w (putS x (Z8 x.smiths w) (j:Int))).smiths i)=true
  rw [hat]
  split
  ·exact k2
  ·rename_i e
   exact hx.seat i (by omega) (fun hpi=>hn ⟨hpi,e⟩)
 ·obtain ⟨hpi,e⟩:=hi
  obtain ⟨a,b1,c,d⟩:=hx.left i hpi
  refine ⟨by omega,?_⟩
  rw [hat,if_neg e]
  exact ⟨b1,c,d⟩
theorem Shut.weak {m0 m:Z4} {b:Nat} {P Q:Nat->Prop} (h:Shut m0 b P m) (h1:∀ i,P i->Q i) (h2:∀ i,Q i->P i):Shut m0 b Q m:=
 ⟨h.rooms,h.guilds,h.paces,h.now,h.desks,h.len,h.here,fun i hi hn=>h.seat i hi (fun hp=>hn (h1 i hp)),fun i hi=>h.left i (h2 i hi)⟩
def PT (q:List Z6) (k:Nat) (i:Nat):Prop:= ∃ j,k<=j/\j<q.length/\(Z7 q j).2=(i:Int)
theorem Rg {m0:Z4} (h0:Loose m0) {b:Nat} (hb:b<m0.desks.length) (hop:ZJ m0 b m0.desks.length ≠ 0):∀ k,k<=(atV m0.smiths b m0.smiths.length).length->
  Shut m0 b (PT (atV m0.smiths b m0.smiths.length) k) (Y7 (ZJ m0 b m0.desks.length) (Zt m0 b false) (atV m0.smiths b m0.smiths.length) k)
 | 0,_=>by
  refine (G6 h0 hb).weak (fun i hi=> ?_) (fun i hi=> ?_)
  ·have hm:(XS (Z8 m0.smiths i),(i:Int)) ∈ atV m0.smiths b m0.smiths.length:=(Yl m0.smiths b _ m0.smiths.length).2 ⟨i,hi.1,hi.2.1,hi.2.2,rfl⟩
   obtain ⟨j,hj,e⟩:=TQ hm
   exact ⟨j,Nat.zero_le _,hj,by rw [e]⟩
  ·obtain ⟨j,_,hj,e⟩:=hi
   obtain ⟨i',hi',h1,h2,e2⟩:=(Yl m0.smiths b _ m0.smiths.length).1 (Ys hj)
   rw [e2] at e
   have:i'=i:=by
    have e3:(i':Int)=(i:Int):=e
    omega
   subst this
   exact ⟨hi',h1,h2⟩
 | k+1,hk=>by
  have ih:=Rg h0 hb hop k (by omega)
  obtain ⟨i',hi',h1,h2,e2⟩:=(Yl m0.smiths b _ m0.smiths.length).1 (Ys (show k<(atV m0.smiths b m0.smiths.length).length by omega))
  have hw:PT (atV m0.smiths b m0.smiths.length) k i':=⟨k,Nat.le_refl _,by omega,by rw [e2]⟩
  have:=ih.step h0 hb hop hw
  unfold Y7
  rw [e2]
  show Shut m0 b _ (Xt _ _ ((i':Int)).toNat)
  rw [Int.toNat_natCast]
  refine this.weak (fun i hi=> ?_) (fun i hi=> ?_)
  ·obtain ⟨⟨j,hj,hjl,e⟩,hne⟩:=hi
   refine ⟨j,?_,hjl,e⟩
   rcases Nat.lt_or_ge k j with hlt | hge
   ·omega
   ·exfalso
    have:j=k:=by omega
    subst this
    rw [e2] at e
    apply hne
    have:(i':Int)=(i:Int):=e
    omega
  ·obtain ⟨j,hj,hjl,e⟩:=hi
   refine ⟨⟨j,by omega,hjl,e⟩,fun hii=> ?_⟩
   subst hii
   have hpw:=Ub m0.smiths b m0.smiths.length
   have hat:∀ n (hn:n<(atV m0.smiths b m0.smiths.length).length),Z7 (atV m0.smiths b m0.smiths.length) n=(atV m0.smiths b m0.smiths.length)[n]:=fun n hn=>by unfold Z7;simp [List.getD,hn]
   have:=List.pairwise_iff_getElem.1 hpw k j (by omega) hjl (by omega)
   rw [<-hat k (by omega),<-hat j hjl] at this
   apply this
   rw [e2,e]
theorem Ox {m0:Z4} (h0:Loose m0) {b:Nat} (hb:b<m0.desks.length) (hop:ZJ m0 b m0.desks.length ≠ 0):Loose (Y7 (ZJ m0 b m0.desks.length) (Zt m0 b false) (atV m0.smiths b m0.smiths.length) (atV m0.smiths b m0.smiths.length).length):=by
 have h:=Rg h0 hb hop _ (Nat.le_refl _)
 have hno:∀ i,¬ PT (atV m0.smiths b m0.smiths.length) (atV m0.smiths b m0.smiths.length).length i:=fun i hi=>by
  obtain ⟨j,h1,h2,_⟩:=hi
  omega
 generalize Y7 (ZJ m0 b m0.desks.length) (Zt m0 b false) (atV m0.smiths b m0.smiths.length) (atV m0.smiths b m0.smiths.length).length=x at *
 have hb':=h.bare h0 hb hop
 refine ⟨?_,hb'.desk,hb'.pace,h.here,fun i hi=>h.seat i hi (hno i),hb'.openD⟩
 have:=hb'.head
 unfold Yc at this ⊢
 simp only [Bool.and_eq_true,decide_eq_true_eq] at this ⊢
 exact ⟨this.1,this.2.1,by rw [h.len];exact RO h0,this.2.2.2⟩
def Y0 (m:Z4) (b:Int):Z4 × Int:=
 if Zo m then (if Yp m b then (if (Z8 m.desks b.toNat).1 then (if ZJ m b.toNat m.desks.length=0 then (m,5) else
  (ZL (Y7 (ZJ m b.toNat m.desks.length) (Zt m b.toNat false) (atV m.smiths b m.smiths.length) (atV m.smiths b m.smiths.length).length),0)) else (m,2)) else (m,1)) else (WV,3)
theorem IA {m:Z4} {b:Int} (h:Yp m b=true):∃ k:Nat,b=(k:Int)/\k<m.desks.length:=by
 have:=ZP (show inB b 0 ((m.desks.length:Int)-1)=true from h)
 exact ⟨b.toNat,by omega,by omega⟩
theorem KM {m:Z4} (h:Zo m=true) (b:Int):Zo (Y0 m b).1=true:=by
 unfold Y0
 rw [h]
 simp only [if_true]
 split
 ·rename_i hb
  obtain ⟨k,rfl,hk⟩:=IA hb
  rw [Int.toNat_natCast]
  split
  ·split
   ·exact h
   ·rename_i hop
    exact V4 (Ox (Ze h) hk hop)
  ·exact h
 ·exact h
structure Lk (A B:Z4):Prop where
 rooms:B.rooms=A.rooms
 guilds:B.guilds=A.guilds
 desks:B.desks=A.desks
 paces:B.paces=A.paces
 now:B.now=A.now
 len:B.smiths.length=A.smiths.length
 each:∀ i,(Z8 B.smiths i).2=(Z8 A.smiths i).2/\ZW (Z8 B.smiths i)=ZW (Z8 A.smiths i)
 same:∀ i,Z8 B.smiths i=Z8 A.smiths i\/ZW (Z8 A.smiths i)=true
section
variable {A B : Z4}
theorem Lk.refl (A:Z4):Lk A A:=⟨rfl,rfl,rfl,rfl,rfl,rfl,fun _=>⟨rfl,rfl⟩,fun _=> .inl rfl⟩
theorem Lk.set (h:Lk A B) {k:Nat} (hk:k<A.smiths.length) {s t:Z2} (e:t.2=s.2) (p:ZW t=ZW s) (q:t=s\/ZW s=true):Lk (setS A k s) (setS B k t):=by
 have hkB:k<B.smiths.length:=by rw [h.len];exact hk
 refine ⟨h.rooms,h.guilds,h.desks,h.paces,h.now,by unfold setS;simp [h.len],fun i=> ?_,fun i=> ?_⟩
 ·show (Z8 (B.smiths.set k t) i).2=(Z8 (A.smiths.set k s) i).2/\ZW (Z8 (B.smiths.set k t) i)=ZW (Z8 (A.smiths.set k s) i)
  rw [ZV hkB,ZV hk]
  by_cases hi:i=k
  ·rw [if_pos hi,if_pos hi];exact ⟨e,p⟩
  ·rw [if_neg hi,if_neg hi];exact h.each i
 ·show Z8 (B.smiths.set k t) i=Z8 (A.smiths.set k s) i\/ZW (Z8 (A.smiths.set k s) i)=true
  rw [ZV hkB,ZV hk]
  by_cases hi:i=k
  ·rw [if_pos hi,if_pos hi];exact q
  ·rw [if_neg hi,if_neg hi];exact h.same i
theorem Lk.want (h:Lk A B) (who:Int):ZC B who=ZC A who:=by
 unfold ZC PO
 rw [h.guilds,(h.each _).1]
theorem Lk.at (h:Lk A B) (b:Int):atV B.smiths b B.smiths.length=atV A.smiths b A.smiths.length:=by
 rw [h.len]
 exact Se b _ (fun i hi=>⟨by rw [(h.each i).1],(h.each i).2,by unfold XS;rw [(h.each i).1]⟩)
theorem Lk.used (h:Lk A B) (b but:Int):ZB B b but=ZB A b but:=by
 unfold ZB VJ
 rw [h.at]
 have e:(fun (n:Int) (e:Z6)=>if e.2=but then n else n+ZC B e.2)=(fun (n:Int) (e:Z6)=>if e.2=but then n else n+ZC A e.2):=by funext n e;rw [h.want]
 rw [e]
theorem Lk.usedIn (h:Lk A B) (r:Int):∀ n,usedIn B r n=usedIn A r n
 | 0=>rfl
 | n+1=>by
  unfold Go.Proofs.YtjhijildaceadaaGreatDoor.usedIn
  rw [Lk.usedIn h r n,h.used,h.desks,h.rooms]
theorem Lk.coalIn (h:Lk A B) (r:Nat):coalIn B r=coalIn A r:=by
 unfold Go.Proofs.YtjhijildaceadaaGreatDoor.coalIn
 rw [h.rooms,h.desks,h.usedIn]
theorem Lk.coalTo (h:Lk A B):∀ n,coalTo B n=coalTo A n
 | 0=>rfl
 | n+1=>by
  unfold Go.Proofs.YtjhijildaceadaaGreatDoor.coalTo
  rw [Lk.coalTo h n,h.coalIn]
theorem R7 {l:List Z2} {k:Nat} (hk:¬ k<l.length) (s:Z2):l.set k s=l:=List.set_eq_of_length_le (by omega)
theorem Lk.with (h:Lk A B) (who b:Int):Lk (Yg A who b) (Yg B who b):=by
 by_cases hk:who.toNat<A.smiths.length
 ·exact h.set (s:=Vd (Z8 A.smiths who.toNat) b) (t:=Vd (Z8 B.smiths who.toNat) b) hk (by unfold Vd;rw [(h.each _).1]) rfl (.inr rfl)
 ·have e1:Yg A who b=A:=by unfold Yg;rw [R7 hk]
  have e2:Yg B who b=B:=by unfold Yg;rw [R7 (by rw [h.len];exact hk)]
  rw [e1,e2];exact h
theorem Lk.cost (h:Lk A B) (who b:Int):ZD B who b=ZD A who b:=by
 unfold ZD Sg
 rw [(h.with who b).coalTo,(h.with who b).rooms]
theorem Lk.may (h:Lk A B) (who:Int) (b:Nat):YO B who b=YO A who b:=by
 unfold YO
 rw [h.desks,(h.each _).1]
theorem Lk.fit (h:Lk A B) (who:Int):∀ n,We B who n=We A who n
 | 0=>rfl
 | n+1=>by
  have e:SK B who n=SK A who n:=by unfold SK;rw [h.may,h.want,h.used,h.rooms]
  unfold We
  rw [Lk.fit h who n,e]
theorem Lk.most (h:Lk A B) (who:Int):∀ n,Zc B who n=Zc A who n
 | 0=>rfl
 | n+1=>by
  unfold Zc
  rw [Lk.most h who n,h.may,h.used,h.rooms]
theorem Lk.crowd (h:Lk A B):XZ B=XZ A:=by
 have e:VL B=VL A:=by funext b;unfold VL;rw [h.desks,h.used,h.rooms]
 unfold XZ
 rw [e,h.desks]
theorem Lk.best (h:Lk A B) (who:Int):Yu B who=Yu A who:=by
 funext a b
 unfold Yu
 rw [h.cost,(h.each _).1]
theorem Lk.chosen (h:Lk A B) (who:Int):Zn B who=Zn A who:=by
 have e:Zp B who=Zp A who:=by unfold Zp;rw [h.desks,h.fit]
 unfold Zn XY
 rw [h.crowd,e,h.best,h.cost,h.desks,h.most]
theorem Fu {s:Z2} (h:ZW s=true):inB s.1 1 3=true:=by
 unfold ZW at h
 simp only [Bool.or_eq_true,beq_iff_eq] at h
 rcases h with e | e<;>rw [e]<;>rfl
theorem GK {s t:Z2} (e:t.2=s.2) (ps:ZW s=true) (pt:ZW t=true) (h:Zg s=true):Zg t=true:=by
 unfold Zg at h ⊢
 rw [Fu ps] at h
 rw [e,Fu pt]
 exact h
theorem Lk.here (h:Lk A B) {i:Nat} (hh:YJ A (Z8 A.smiths i)=true):YJ B (Z8 B.smiths i)=true:=by
 rcases h.same i with e | p
 ·rw [e]
  unfold YJ at hh ⊢
  rw [h.guilds,h.desks]
  exact hh
 ·rcases XT.1 hh with z | ⟨a,b,c⟩
  ·rw [z] at p;cases p
  ·refine XT.2 (.inr ⟨GK (h.each i).1 p (by rw [(h.each i).2];exact p) a,?_,?_⟩)
   ·rw [h.guilds,(h.each i).1];exact b
   ·rw [h.desks,(h.each i).1];exact c
theorem Lk.loose (h:Lk A B) (hA:Loose A):Loose B:=by
 refine ⟨?_,fun j hj=> ?_,fun j hj=> ?_,fun i hi=>h.here (hA.here i (by rw [<-h.len];exact hi)),fun i hi=> ?_,?_⟩
 ·have:=hA.head
  unfold Yc at this ⊢
  rw [h.rooms,h.guilds,h.len,h.desks,h.paces,h.now]
  exact this
 ·rw [h.desks]
  exact hA.desk j (by rw [<-h.desks];exact hj)
 ·have:=hA.pace j (by rw [<-h.paces];exact hj)
  unfold Wl at this ⊢
  rw [h.paces,h.rooms]
  exact this
 ·have:=hA.seat i (by rw [<-h.len];exact hi)
  unfold Ye at this ⊢
  rw [(h.each i).2,h.desks,(h.each i).1]
  exact this
 ·obtain ⟨j,hj,ho⟩:=hA.openD
  exact ⟨j,by rw [h.desks];exact hj,by rw [h.desks];exact ho⟩
theorem Lk.ne0 (h:Lk A B) {i:Nat} (hs:(Z8 B.smiths i).1 ≠ 0):(Z8 A.smiths i).1 ≠ 0:=by
 rcases h.same i with e | p
 ·rw [<-e];exact hs
 ·intro e
  unfold ZW at p
  rw [e] at p
  cases p
end
def WQ (m:Z4) (w:Nat):Z4:=if Zn m (w:Int)= -1 then Zx m w (ZG m.desks.length) else m
def TF (m:Z4) (w:Nat):Z4:=setS (WQ m w) w (putW (WQ m w) (Z8 (WQ m w).smiths w) (Zn (WQ m w) (w:Int)))
def XQ (m:Z4) (q:List Z6):Nat->Z4
 | 0=>m
 | k+1=>TF (XQ m q k) (Z7 q k).2.toNat
theorem Qe (s:Z2):XE s s.2.2.2.1=s:=rfl
theorem DA {m:Z4} {k:Nat} (hk:k<m.smiths.length):setS m k (Z8 m.smiths k)=m:=by
 unfold setS
 have:m.smiths.set k (Z8 m.smiths k)=m.smiths:=by
  refine S9 (by simp) fun i hi=> ?_
  rw [ZV hk]
  by_cases e:i=k
  ·rw [if_pos e,e]
  ·rw [if_neg e]
 rw [this]
theorem Shut.wide {m0 m:Z4} {b:Nat} {P:Nat->Prop} (h:Shut m0 b P m) (hb:b<m0.desks.length) {w:Nat} (hw:P w):Go.Proofs.YtjhijildaceadaaGreatDoor.closeX (ZJ m0 b m0.desks.length) m w=WQ m w:=by
 obtain ⟨hwl,hp,hbe,hba⟩:=h.left w hw
 obtain ⟨hpb,hg⟩:=h.pres hw
 have hl:m.desks.length=m0.desks.length:=by rw [h.desks,Xv]
 have hy:0<=(Z8 m.smiths w).2.2.2.1:=by
  generalize Z8 m.smiths w=s at *
  obtain ⟨st,be,rk,my,gu,lo',hi',hd,ca,ut,wk⟩:=s
  have:=(Zk hpb).2.2.2.1.1
  show 0<=my
  omega
 have hmay:∀ j,YO m (w:Int) j=true ↔ ((Z8 m.smiths w).2.2.2.1.toNat.testBit j=true/\(Z8 m.desks j).1=true):=fun j=>by
  unfold YO
  rw [Int.toNat_natCast,Nh hy,Bool.and_eq_true]
  exact And.comm
 have hdo:∀ j,j<m0.desks.length->((ZJ m0 b m0.desks.length).testBit j=true ↔ (Z8 m.desks j).1=true):=fun j hj=>by
  rw [Wx,h.desks,Sx hb]
  by_cases e:j=b
  ·rw [if_pos e];simp [e]
  ·rw [if_neg e];simp [hj,e]
 unfold Go.Proofs.YtjhijildaceadaaGreatDoor.closeX WQ Tq
 by_cases ha:(Z8 m.smiths w).2.2.2.1.toNat &&& ZJ m0 b m0.desks.length=0
 ·rw [if_pos ha]
  rcases VQ m (w:Int) with ⟨e,_⟩ | ⟨j,hj,e,hm⟩
  ·rw [if_pos e]
  ·exfalso
   obtain ⟨h1,h2⟩:=(hmay j).1 hm
   have:((Z8 m.smiths w).2.2.2.1.toNat &&& ZJ m0 b m0.desks.length).testBit j=true:=by
    rw [Nat.testBit_and,h1,(hdo j (by omega)).2 h2];rfl
   rw [ha,Nat.zero_testBit] at this
   cases this
 ·rw [if_neg ha]
  obtain ⟨j,hj⟩:=SE ha
  rw [Nat.testBit_and,Bool.and_eq_true] at hj
  have hjl:j<m0.desks.length:=by
   have:=hj.2
   rw [Wx] at this
   simp only [Bool.and_eq_true,decide_eq_true_eq] at this
   exact this.1
  rcases VQ m (w:Int) with ⟨e,hn⟩ | ⟨i,hi,e,hm⟩
  ·exfalso
   have:=hn j (by omega)
   rw [(hmay j).2 ⟨hj.1,(hdo j hjl).1 hj.2⟩] at this
   cases this
  ·rw [if_neg (by omega)]
   unfold Zx
   rw [Qe,DA hwl]
theorem Lk.wide {A B:Z4} (h:Lk A B) {w:Nat} (hw:w<A.smiths.length):Lk (WQ A w) (WQ B w):=by
 unfold WQ
 rw [h.chosen,h.desks]
 split
 ·refine h.set hw ?_ ?_ ?_
  ·unfold XE;rw [(h.each w).1]
  ·have:=(h.each w).2
   unfold ZW XE at *
   exact this
  ·rcases h.same w with e | e
   ·exact .inl (by rw [e])
   ·exact .inr e
 ·exact h
theorem Lk.step {m0 A B:Z4} {b:Nat} {P:Nat->Prop} (h:Lk A B) (hs:Shut m0 b P A) (h0:Loose m0) (hb:b<m0.desks.length) {w:Nat} (hw:P w):Lk (Xt (ZJ m0 b m0.desks.length) A w) (TF B w):=by
 obtain ⟨hwl,hp,hbe,hba⟩:=hs.left w hw
 have hx:=hs.closeX h0 hw (ZJ m0 b m0.desks.length)
 obtain ⟨_,hpx,_,_⟩:=hx.left w hw
 unfold Xt PY TF
 rw [hs.wide hb hw] at hpx ⊢
 have hL:=h.wide hwl
 have hlw:w<(WQ A w).smiths.length:=by
  have:=hx.left w hw
  rw [hs.wide hb hw] at this
  exact this.1
 rw [hL.chosen]
 refine hL.set hlw ?_ ?_ (.inr ?_)
 ·unfold putW putS JZ XS Xb
  rw [hL.desks,(hL.each w).1]
 ·show true=ZW (Z8 (WQ A w).smiths w)
  exact hpx.symm
 ·exact hpx
theorem C7 {m0:Z4} (h0:Loose m0) {b:Nat} (hb:b<m0.desks.length) (hop:ZJ m0 b m0.desks.length ≠ 0):∀ k,k<=(atV m0.smiths b m0.smiths.length).length->
  Lk (Y7 (ZJ m0 b m0.desks.length) (Zt m0 b false) (atV m0.smiths b m0.smiths.length) k) (XQ (Zt m0 b false) (atV m0.smiths b m0.smiths.length) k)
 | 0,_=>Lk.refl _
 | k+1,hk=>by
  have ih:=C7 h0 hb hop k (by omega)
  have hsh:=Rg h0 hb hop k (by omega)
  obtain ⟨i',hi',h1,h2,e2⟩:=(Yl m0.smiths b _ m0.smiths.length).1 (Ys (show k<(atV m0.smiths b m0.smiths.length).length by omega))
  have hw:PT (atV m0.smiths b m0.smiths.length) k i':=⟨k,Nat.le_refl _,by omega,by rw [e2]⟩
  unfold Y7 XQ
  rw [e2]
  show Lk (Xt _ _ ((i':Int)).toNat) (TF _ ((i':Int)).toNat)
  rw [Int.toNat_natCast]
  exact ih.step hsh h0 hb hw
def Yi (m:Z4) (b:Int):Int:=if Yp m b then (if (Z8 m.desks b.toNat).1 then (if ZJ m b.toNat m.desks.length=0 then 5 else 0) else 2) else 1
def WW (m:Z4) (b:Int):Z4:=XQ (Zt m b.toNat false) (atV m.smiths b m.smiths.length) (atV m.smiths b m.smiths.length).length
theorem Ef (m:Z4) (b:Int):Y0 m b=Wb m (WW m b) (Yi m b):=by
 cases h:Zo m
 ·rw [Uf h];unfold Y0;rw [h];rfl
 have hlo:=Ze h
 unfold Y0 Yi
 rw [h]
 simp only [if_true]
 by_cases hw:Yp m b=true
 rotate_left
 ·rw [if_neg hw,if_neg hw,WX h _ (by omega)]
 rw [if_pos hw,if_pos hw]
 obtain ⟨k,rfl,hk⟩:=Uc hw
 rw [Int.toNat_natCast]
 by_cases ho:(Z8 m.desks k).1=true
 rotate_left
 ·rw [if_neg ho,if_neg ho,WX h _ (by omega)]
 rw [if_pos ho,if_pos ho]
 by_cases hop:ZJ m k m.desks.length=0
 ·rw [if_pos hop,if_pos hop,WX h _ (by omega)]
 rw [if_neg hop,if_neg hop,UP h]
 have hlk:=C7 hlo hk hop _ (Nat.le_refl _)
 have hL:=Ox hlo hk hop
 unfold WW
 rw [Int.toNat_natCast]
 generalize Y7 (ZJ m k m.desks.length) (Zt m k false) (atV m.smiths (k:Int) m.smiths.length) (atV m.smiths (k:Int) m.smiths.length).length=A at *
 generalize XQ (Zt m k false) (atV m.smiths (k:Int) m.smiths.length) (atV m.smiths (k:Int) m.smiths.length).length=B at *
 have ht:ZL B=ZL A:=Mu hlk.rooms hlk.guilds hlk.desks hlk.paces hlk.now hlk.len (fun i hi=>by
  rcases hlk.same i with e | e
  ·exact .inl e
  ·right
   obtain ⟨a0,a1,_,_,_⟩:=hL.at hi e
   exact ⟨(hlk.each i).1,by rw [(hlk.each i).2,e],e,a0,a1⟩)
 rw [Vb (hlk.loose hL),ht]
end Go.Proofs.YtjhijildaceadaaGreatDoor
