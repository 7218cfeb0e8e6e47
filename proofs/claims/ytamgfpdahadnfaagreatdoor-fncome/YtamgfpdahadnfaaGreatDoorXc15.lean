/- Part 15 of what the proof rests on. No condition but those that a theorem names. -/
import Derived.Test.YtamgfpdahadnfaaGreatDoorXc11
set_option maxHeartbeats 8000000
set_option maxRecDepth 100000
namespace Go.Proofs.YtamgfpdahadnfaaGreatDoor
open Go.ChangeShapes Go.WideShapes Go.ChangeAt Go.RowKit Go.Sort
set_option linter.unusedVariables false
variable {w w' w0 w1 w2 w3 w₀ wr W W' X A B C : World} {v v0 v1 v2 v3 v4 u u0 u1 u2 u3 u4 : Value} {m : Z6}
def YZ (m:Z6) (b:Nat):Nat->Nat
 | 0=>0
 | k+1=>if (Z8 m.dk k).1 && !(k ==b) then YZ m b k ||| 2 ^ k else YZ m b k
theorem Q7 (m:Z6) (b:Nat):∀ k j:Nat,(YZ m b k).testBit j=(decide (j<k) && ((Z8 m.dk j).1 && !(j ==b)))
 | 0,j=>by simp [YZ]
 | k+1,j=>by
  have ih:=Q7 m b k j;unfold YZ;by_cases e:j=k
  ·subst e
   have hj:(YZ m b j).testBit j=false:=by rw [ih];simp
   split
   ·rename_i h
    rw [Nat.testBit_or,hj,Nat.testBit_two_pow_self,h];simp
   ·rename_i h
    rw [hj];have:((Z8 m.dk j).1 && !(j ==b))=false:=by simpa using h
    rw [this];simp
  ·have hd:decide (j<k+1)=decide (j<k):=by
    by_cases h:j<k
    ·rw [decide_eq_true h,decide_eq_true (by omega)]
    ·rw [decide_eq_false h,decide_eq_false (by omega)]
   rw [hd]
   split
   ·rw [Nat.testBit_or,ih,Nat.testBit_two_pow_of_ne (by omega),Bool.or_false]
   ·exact ih
theorem MI (m:Z6) (b:Nat):∀ k:Nat,YZ m b k<2 ^ k
 | 0=>by simp [YZ]
 | k+1=>by
  have ih:=MI m b k;have hp:2 ^ (k+1)=2*2 ^ k:=by rw [Nat.pow_succ];omega
  unfold YZ
  split
  ·exact Nat.or_lt_two_pow (by omega) (by omega)
  ·omega
theorem LQ {x:Nat} (h:x ≠ 0):∃ j,x.testBit j=true:=by
 refine Classical.byContradiction fun hn=>h ?_;apply Nat.eq_of_testBit_eq;intro i;rw [Nat.zero_testBit];cases hi:x.testBit i
 ·rfl
 ·exact absurd ⟨i,hi⟩ hn
theorem FZ {s:Int} (h:0<=s) (j:Nat):VX s (j:Int)=s.toNat.testBit j:=by
 obtain ⟨n,rfl⟩:=Int.eq_ofNat_of_zero_le h;unfold VX;rw [Nat.testBit_eq_decide_div_mod_eq];simp only [Zy]
 congr 1
 apply propext;constructor
 ·intro h
  exact_mod_cast h
 ·intro h
  exact_mod_cast h
def Yt (n:Nat):Int:=(2:Int) ^ n-1
theorem Oc (n:Nat):Yt n=((2 ^ n-1:Nat):Int):=by
 have h:1<=2 ^ n:=Nat.one_le_two_pow;unfold Yt;rw [Int.natCast_sub h]
 push_cast
 rfl
theorem FL {n j:Nat} (h:j<n):VX (Yt n) (j:Int)=true:=by
 rw [FZ (by rw [Oc];omega),Oc,Zy,Nat.testBit_two_pow_sub_one];exact VO h
theorem LF {n:Nat} (h1:1<=n) (h8:n<=8):1<=Yt n/\Yt n<=255:=by
 have key:∀ k:Fin 8,1<=Yt (k.val+1)/\Yt (k.val+1)<=255:=by unfold Yt;decide
 have:=key ⟨n-1,by omega⟩
 rwa [show n-1+1=n by omega] at this
def RK (op n:Nat) (may:Int):Int:=if may.toNat &&& op=0 then Yt n else may
theorem EL {op n:Nat} {may:Int} (h0:0<=may) (hop:op ≠ 0) (hn:∀ j,op.testBit j=true->j<n):∃ j,op.testBit j=true/\VX (RK op n may) (j:Int)=true:=by
 unfold RK
 split
 ·obtain ⟨j,hj⟩:=LQ hop
  exact ⟨j,hj,FL (hn j hj)⟩
 ·rename_i h
  obtain ⟨j,hj⟩:=LQ h;rw [Nat.testBit_and] at hj;simp only [ZP] at hj;exact ⟨j,hj.2,by rw [FZ h0];exact hj.1⟩
theorem AM {op n:Nat} {may:Int} (h1:1<=n) (h8:n<=8) (m0:1<=may) (m1:may<=255):1<=RK op n may/\RK op n may<=255:=by
 unfold RK
 split
 ·exact LF h1 h8
 ·exact ⟨m0,m1⟩
def closeX (op:Nat) (m:Z6) (w:Nat):Z6:=Xv m w (RK op m.dk.length (Z8 m.sm w).2.2.2.1)
def Jd (op:Nat) (m:Z6) (w:Nat):Int:=Y3 (closeX op m w) (w:Int)
def Vl (op:Nat) (m:Z6) (w:Nat):Z6:=setS (closeX op m w) w (putS (closeX op m w) (Z8 (closeX op m w).sm w) (Jd op m w))
def Yc (op:Nat) (m:Z6) (q:List Z4):Nat->Z6
 | 0=>m
 | k+1=>Vl op (Yc op m q k) (Z7 q k).2.toNat
structure Shut (m0:Z6) (b:Nat) (P:Nat->Prop) (m:Z6):Prop where
 rm:m.rm=m0.rm
 gd:m.gd=m0.gd
 pc:m.pc=m0.pc
 now:m.now=m0.now
 dk:m.dk=(Yb m0 b false).dk
 len:m.sm.length=m0.sm.length
 here:∀ i,i<m.sm.length->XY m (Z8 m.sm i)=true
 seat:∀ i,i<m.sm.length-> ¬ P i->XI m (Z8 m.sm i)=true
 left:∀ i,P i->i<m.sm.length/\ZK (Z8 m.sm i)=true/\(Z8 m.sm i).2.1=(b:Int)/\Yd (WN (Z8 m.sm i)) (Yo m (b:Int))=true
theorem NI {b:Nat} (hb:b<m.dk.length) (o:Bool) (j:Nat):Z8 (Yb m b o).dk j=if j=b then (o,(Z8 m.dk b).2) else Z8 m.dk j:=ZF hb j
theorem Up (m:Z6) (b:Nat) (o:Bool):(Yb m b o).dk.length=m.dk.length:=by unfold Yb;simp
theorem Pf {b:Nat} (hb:b<m.dk.length) (o:Bool) (j:Nat):(Z8 (Yb m b o).dk j).2=(Z8 m.dk j).2:=by
 rw [NI hb];by_cases e:j=b
 ·rw [if_pos e,e]
 ·rw [if_neg e]
theorem Fg {m0:Z6} (h:Loose m0) {b:Nat} (hb:b<m0.dk.length):Shut m0 b (fun i=>i<m0.sm.length/\(Z8 m0.sm i).2.1=(b:Int)/\ZK (Z8 m0.sm i)=true) (Yb m0 b false):=by
 refine ⟨rfl,rfl,rfl,rfl,rfl,rfl,fun i hi=> ?_,fun i hi hn=> ?_,fun i hp=> ?_⟩
 ·rw [Wl (m:=m0) (m':=Yb m0 b false) rfl (Up _ _ _)]
  exact h.here i hi
 ·cases hp:ZK (Z8 m0.sm i)
  ·exact Vt hp
  ·obtain ⟨a0,a1,a2,a3,a4⟩:=h.at (i:=i) hi hp
   have hne:(Z8 m0.sm i).2.1.toNat ≠ b:=by
    intro e;exact hn ⟨hi,by omega,hp⟩
   refine Rc (m:=Yb m0 b false) (s:=Z8 m0.sm i) ?_ a3 ?_
   ·rw [NI hb,if_neg hne];exact a2
   ·rw [Pf hb];exact a4
 ·obtain ⟨hi,e,hp⟩:=hp
  obtain ⟨a0,a1,a2,a3,a4⟩:=h.at (i:=i) hi hp;refine ⟨hi,hp,e,?_⟩;rw [e] at a4;show Yd _ (Z8 (Yb m0 b false).dk ((b:Int)).toNat).2.2=true;rw [Pf hb];exact a4
theorem Shut.bare {m0 m:Z6} {b:Nat} {P:Nat->Prop} (h:Shut m0 b P m) (h0:Loose m0) (hb:b<m0.dk.length) (hop:YZ m0 b m0.dk.length ≠ 0):Loose { m with sm:=[] }:=by
 have hl:m.dk.length=m0.dk.length:=by rw [h.dk,Up]
 refine ⟨?_,?_,?_,fun i hi=>absurd hi (Nat.not_lt_zero _),fun i hi=>absurd hi (Nat.not_lt_zero _),?_⟩
 ·have:=h0.head
  unfold YA at this ⊢;simp only [ZP,Y0] at this ⊢;rw [h.rm,h.gd,h.pc,h.now,hl];exact ⟨this.1,this.2.1,by simp,this.2.2.2⟩
 ·intro j hj
  show Vv (Z8 m.dk j)=true;have hj':j<m.dk.length:=hj;have:=h0.desk j (by omega);unfold Vv at this ⊢;rw [h.dk,Pf hb];exact this
 ·intro j hj
  have:=h0.pace j (by rw [<-h.pc];exact hj);unfold V3 at this ⊢;simp only;rw [h.pc,h.rm];exact this
 ·obtain ⟨j,hj⟩:=LQ hop
  rw [Q7] at hj;simp only [ZP,Y0,Bool.not_eq_true',beq_eq_false_iff_ne] at hj;refine ⟨j,(by show j<m.dk.length;omega),?_⟩;show (Z8 m.dk j).1=true;rw [h.dk,NI hb,if_neg hj.2.2];exact hj.2.1
theorem Shut.pres {m0 m:Z6} {b:Nat} {P:Nat->Prop} (h:Shut m0 b P m) {i:Nat} (hp:P i):YR (Z8 m.sm i)=true/\(Z8 m.sm i).2.2.2.2.1<m.gd.length:=by
 obtain ⟨hi,hp1,_⟩:=h.left i hp
 rcases XT.1 (h.here i hi) with e | e
 ·rw [e] at hp1;cases hp1
 ·exact ⟨e.1,e.2.1⟩
theorem Shut.sane {m0 m:Z6} {b:Nat} {P:Nat->Prop} (h:Shut m0 b P m) (h0:Loose m0):Sane m:=by
 have s0:=h0.sane
 have lim:∀ i,i<m.sm.length->(Z8 m.sm i).1 ≠ 0->YR (Z8 m.sm i)=true/\(Z8 m.sm i).2.2.2.2.1<m.gd.length:=fun i hi hs=>by
  rcases XT.1 (h.here i hi) with e | e
  ·rw [e] at hs;exact absurd rfl hs
  ·exact ⟨e.1,e.2.1⟩
 refine ⟨by rw [h.rm];exact s0.hall,by rw [h.rm,h.dk,Up];exact s0.dk,⟨by rw [h.gd];exact s0.guilded.gd,fun i hi hs=> ?_,fun i hi hs=>(lim i hi hs).2⟩,by rw [h.len];exact s0.few⟩;have hp:=(lim i hi hs).1;generalize Z8 m.sm i=s at *;obtain ⟨st,be,rk,my,gu,lo',hi',hd,ca,ut,wk⟩:=s;exact (Zo hp).2.2.2.2.1.1
theorem NH {k:Nat} (hk:k<m.sm.length) (may:Int) (i:Nat):Z8 (Xv m k may).sm i=if i=k then SG (Z8 m.sm k) may else Z8 m.sm i:=ZF hk i
theorem Shut.may {m0 m:Z6} {b:Nat} {P:Nat->Prop} (h:Shut m0 b P m) {w:Nat} (hw:P w) {may:Int} (y0:1<=may) (y1:may<=255):Shut m0 b P (Xv m w may):=by
 obtain ⟨hwl,hp,hbe,hba⟩:=h.left w hw;obtain ⟨hpb,hg⟩:=h.pres hw;have hlen:(Xv m w may).sm.length=m.sm.length:=by unfold Xv setS;simp
 refine ⟨h.rm,h.gd,h.pc,h.now,h.dk,by rw [hlen];exact h.len,fun i hi=> ?_,fun i hi hn=> ?_,fun i hi=> ?_⟩
 ·rw [Wl (m:=m) (m':=Xv m w may) rfl rfl,NH hwl]
  split
  ·refine XT.2 (.inr ⟨Ks hpb y0 y1,hg,?_⟩)
   rcases XT.1 (h.here w hwl) with e | e
   ·rw [e] at hp;cases hp
   ·exact e.2.2
  ·exact h.here i (by omega)
 ·rw [NH hwl,if_neg (fun e=>hn (by rw [e];exact hw))]
  exact h.seat i (by omega) hn
 ·obtain ⟨a,b1,c,d⟩:=h.left i hi
  refine ⟨by omega,?_⟩;rw [NH hwl]
  split
  ·rename_i e
   subst e;exact ⟨b1,c,d⟩
  ·exact ⟨b1,c,d⟩
theorem Shut.chosen {m0 m:Z6} {b:Nat} {P:Nat->Prop} (h:Shut m0 b P m) (h0:Loose m0) (hb:b<m0.dk.length) (hop:YZ m0 b m0.dk.length ≠ 0) {w:Nat} (hw:P w):∃ j:Nat,j<m.dk.length/\Jd (YZ m0 b m0.dk.length) m w=(j:Int)/\YH (closeX (YZ m0 b m0.dk.length) m w) (w:Int) j=true:=by
 obtain ⟨hwl,hp,hbe,hba⟩:=h.left w hw;obtain ⟨hpb,hg⟩:=h.pres hw;have hl:m.dk.length=m0.dk.length:=by rw [h.dk,Up]
 rcases XB (closeX (YZ m0 b m0.dk.length) m w) (w:Int) with ⟨_,hn⟩ | ⟨j,hj,e,hm⟩
 ·exfalso
  have hy:0<=(Z8 m.sm w).2.2.2.1:=by
   generalize Z8 m.sm w=s at *;obtain ⟨st,be,rk,my,gu,lo',hi',hd,ca,ut,wk⟩:=s;have:=(Zo hpb).2.2.2.1.1;show 0<=my;omega
  obtain ⟨j,hj,hbit⟩:=EL (op:=YZ m0 b m0.dk.length) (n:=m.dk.length) hy hop (fun j hj=>by
   rw [Q7] at hj;simp only [ZP,Y0] at hj
   omega)
  rw [Q7] at hj;simp only [ZP,Y0,Bool.not_eq_true',beq_eq_false_iff_ne] at hj;have:=hn j (by show j<m.dk.length;omega);unfold YH at this
  rw [show (Z8 (closeX (YZ m0 b m0.dk.length) m w).dk j).1=true from by
   show (Z8 m.dk j).1=true;rw [h.dk,NI hb,if_neg hj.2.2]
   exact hj.2.1,Zy,show Z8 (closeX (YZ m0 b m0.dk.length) m w).sm w=SG (Z8 m.sm w) (RK (YZ m0 b m0.dk.length) m.dk.length (Z8 m.sm w).2.2.2.1) from by
    unfold closeX
    rw [NH hwl,if_pos rfl]] at this
  rw [show (SG (Z8 m.sm w) (RK (YZ m0 b m0.dk.length) m.dk.length (Z8 m.sm w).2.2.2.1)).2.2.2.1=RK (YZ m0 b m0.dk.length) m.dk.length (Z8 m.sm w).2.2.2.1 from rfl,hbit] at this;cases this
 ·exact ⟨j,hj,e,hm⟩
theorem Shut.closeX {m0 m:Z6} {b:Nat} {P:Nat->Prop} (h:Shut m0 b P m) (h0:Loose m0) {w:Nat} (hw:P w) (op:Nat):Shut m0 b P (closeX op m w):=by
 obtain ⟨hpb,hg⟩:=h.pres hw;have hl:m.dk.length=m0.dk.length:=by rw [h.dk,Up]
 have h8:=Xi h0;obtain ⟨j,hj,_⟩:=h0.openD
 have hy:1<=(Z8 m.sm w).2.2.2.1/\(Z8 m.sm w).2.2.2.1<=255:=by
  generalize Z8 m.sm w=s at *;obtain ⟨st,be,rk,my,gu,lo',hi',hd,ca,ut,wk⟩:=s;exact (Zo hpb).2.2.2.1
 obtain ⟨y0,y1⟩:=AM (op:=op) (n:=m.dk.length) (by omega) (by omega) hy.1 hy.2;exact h.may hw y0 y1
theorem Shut.step {m0 m:Z6} {b:Nat} {P:Nat->Prop} (h:Shut m0 b P m) (h0:Loose m0) (hb:b<m0.dk.length) (hop:YZ m0 b m0.dk.length ≠ 0) {w:Nat} (hw:P w) :
  Shut m0 b (fun i=>P i/\i ≠ w) (Vl (YZ m0 b m0.dk.length) m w):=by
 obtain ⟨j,hj,ej,hm⟩:=h.chosen h0 hb hop hw;have hx:=h.closeX h0 hw (YZ m0 b m0.dk.length);unfold Vl;rw [ej];generalize Go.Proofs.YtamgfpdahadnfaaGreatDoor.closeX (YZ m0 b m0.dk.length) m w=x at *;have hjx:j<x.dk.length:=by rw [hx.dk,<-h.dk];exact hj
 obtain ⟨hwl,hp,hbe,hba⟩:=hx.left w hw;obtain ⟨hpb,hg⟩:=hx.pres hw;unfold YH at hm;simp only [ZP,Zy] at hm;have hbl:b<x.dk.length:=by rw [hx.dk,Up];exact hb
 have hk:=Ms (m:={ x with sm:=[] }) (hx.bare h0 hb hop) (s:=Z8 x.sm w) (b:=j) hpb hp hg (by omega) (by rw [hbe];show (b:Int)<x.dk.length;omega) (by rw [hbe];exact hba) hjx hm.1 hm.2;have k1:XY x (putS x (Z8 x.sm w) (j:Int))=true:=hk.1;have k2:XI x (putS x (Z8 x.sm w) (j:Int))=true:=hk.2;have hat:∀ i,Z8 (setS x w (putS x (Z8 x.sm w) (j:Int))).sm i=if i=w then putS x (Z8 x.sm w) (j:Int) else Z8 x.sm i:=fun i=>ZF hwl i
 have hlen:(setS x w (putS x (Z8 x.sm w) (j:Int))).sm.length=x.sm.length:=by unfold setS;simp
 refine ⟨hx.rm,hx.gd,hx.pc,hx.now,hx.dk,by rw [hlen];exact hx.len,fun i hi=> ?_,fun i hi hn=> ?_,fun i hi=> ?_⟩
 ·rw [Wl (m:=x) (m':=setS x w (putS x (Z8 x.sm w) (j:Int))) rfl rfl,hat]
  split
  ·exact k1
  ·exact hx.here i (by omega)
 ·show XI x (Z8 (setS x w (putS x (Z8 x.sm w) (j:Int))).sm i)=true
  rw [hat]
  split
  ·exact k2
  ·rename_i e
   exact hx.seat i (by omega) (fun hpi=>hn ⟨hpi,e⟩)
 ·obtain ⟨hpi,e⟩:=hi
  obtain ⟨a,b1,c,d⟩:=hx.left i hpi;refine ⟨by omega,?_⟩;rw [hat,if_neg e];exact ⟨b1,c,d⟩
theorem Shut.weak {m0 m:Z6} {b:Nat} {P Q:Nat->Prop} (h:Shut m0 b P m) (h1:∀ i,P i->Q i) (h2:∀ i,Q i->P i):Shut m0 b Q m:=
 ⟨h.rm,h.gd,h.pc,h.now,h.dk,h.len,h.here,fun i hi hn=>h.seat i hi (fun hp=>hn (h1 i hp)),fun i hi=>h.left i (h2 i hi)⟩
def IY (q:List Z4) (k:Nat) (i:Nat):Prop:= ∃ j,k<=j/\j<q.length/\(Z7 q j).2=(i:Int)
theorem JO {m0:Z6} (h0:Loose m0) {b:Nat} (hb:b<m0.dk.length) (hop:YZ m0 b m0.dk.length ≠ 0):∀ k,k<=(atV m0.sm b m0.sm.length).length->
  Shut m0 b (IY (atV m0.sm b m0.sm.length) k) (Yc (YZ m0 b m0.dk.length) (Yb m0 b false) (atV m0.sm b m0.sm.length) k)
 | 0,_=>by
  refine (Fg h0 hb).weak (fun i hi=> ?_) (fun i hi=> ?_)
  ·have hm:(WN (Z8 m0.sm i),(i:Int)) ∈ atV m0.sm b m0.sm.length:=(XC m0.sm b _ m0.sm.length).2 ⟨i,hi.1,hi.2.1,hi.2.2,rfl⟩
   obtain ⟨j,hj,e⟩:=SH hm;exact ⟨j,Zz _,hj,by rw [e]⟩
  ·obtain ⟨j,_,hj,e⟩:=hi
   obtain ⟨i',hi',h1,h2,e2⟩:=(XC m0.sm b _ m0.sm.length).1 (WR hj);rw [e2] at e
   have:i'=i:=by
    have e3:(i':Int)=(i:Int):=e;omega
   subst this;exact ⟨hi',h1,h2⟩
 | k+1,hk=>by
  have ih:=JO h0 hb hop k (by omega);obtain ⟨i',hi',h1,h2,e2⟩:=(XC m0.sm b _ m0.sm.length).1 (WR (show k<(atV m0.sm b m0.sm.length).length by omega));have hw:IY (atV m0.sm b m0.sm.length) k i':=⟨k,Z1 _,by omega,by rw [e2]⟩
  have:=ih.step h0 hb hop hw;unfold Yc;rw [e2];show Shut m0 b _ (Vl _ _ ((i':Int)).toNat);rw [Zy];refine this.weak (fun i hi=> ?_) (fun i hi=> ?_)
  ·obtain ⟨⟨j,hj,hjl,e⟩,hne⟩:=hi
   refine ⟨j,?_,hjl,e⟩
   rcases Nat.lt_or_ge k j with hlt | hge
   ·omega
   ·exfalso
    have:j=k:=by omega
    subst this;rw [e2] at e;apply hne;have:(i':Int)=(i:Int):=e;omega
  ·obtain ⟨j,hj,hjl,e⟩:=hi
   refine ⟨⟨j,by omega,hjl,e⟩,fun hii=> ?_⟩;subst hii;have hpw:=S8 m0.sm b m0.sm.length;have hat:∀ n (hn:n<(atV m0.sm b m0.sm.length).length),Z7 (atV m0.sm b m0.sm.length) n=(atV m0.sm b m0.sm.length)[n]:=fun n hn=>by unfold Z7;simp [List.getD,hn]
   have:=List.pairwise_iff_getElem.1 hpw k j (by omega) hjl (by omega);rw [<-hat k (by omega),<-hat j hjl] at this;apply this;rw [e2,e]
theorem Ff {m0:Z6} (h0:Loose m0) {b:Nat} (hb:b<m0.dk.length) (hop:YZ m0 b m0.dk.length ≠ 0):Loose (Yc (YZ m0 b m0.dk.length) (Yb m0 b false) (atV m0.sm b m0.sm.length) (atV m0.sm b m0.sm.length).length):=by
 have h:=JO h0 hb hop _ (Z1 _)
 have hno:∀ i,¬ IY (atV m0.sm b m0.sm.length) (atV m0.sm b m0.sm.length).length i:=fun i hi=>by
  obtain ⟨j,h1,h2,_⟩:=hi;omega
 generalize Yc (YZ m0 b m0.dk.length) (Yb m0 b false) (atV m0.sm b m0.sm.length) (atV m0.sm b m0.sm.length).length=x at *;have hb':=h.bare h0 hb hop;refine ⟨?_,hb'.desk,hb'.pace,h.here,fun i hi=>h.seat i hi (hno i),hb'.openD⟩;have:=hb'.head;unfold YA at this ⊢;simp only [ZP,Y0] at this ⊢;exact ⟨this.1,this.2.1,by rw [h.len];exact YS h0,this.2.2.2⟩
def V0 (m:Z6) (b:Int):Z6 × Int:=
 if ZJ m then (if Ud m b then (if (Z8 m.dk b.toNat).1 then (if YZ m b.toNat m.dk.length=0 then (m,5) else
  (ZM (Yc (YZ m b.toNat m.dk.length) (Yb m b.toNat false) (atV m.sm b m.sm.length) (atV m.sm b m.sm.length).length),0)) else (m,2)) else (m,1)) else (Ye,3)
theorem FW {b:Int} (h:Ud m b=true):∃ k:Nat,b=(k:Int)/\k<m.dk.length:=by
 have:=ZN (show inB b 0 ((m.dk.length:Int)-1)=true from h);exact ⟨b.toNat,by omega,by omega⟩
theorem Je (h:ZJ m=true) (b:Int):ZJ (V0 m b).1=true:=by
 unfold V0;rw [h];simp only [if_true]
 split
 ·rename_i hb
  obtain ⟨k,rfl,hk⟩:=FW hb;rw [Zy]
  split
  ·split
   ·exact h
   ·rename_i hop
    exact YG (Ff (ZR h) hk hop)
  ·exact h
 ·exact h
def cnt (p:Nat->Bool):Nat->Nat
 | 0=>0
 | n+1=>cnt p n+(if p n then 1 else 0)
theorem Ad (p:Nat->Bool):∀ n,cnt p n<=n
 | 0=>Z1 _
 | n+1=>by
  have:=Ad p n;unfold cnt
  split<;>omega
theorem LU {p q:Nat->Bool} : ∀ n,(∀ i,i<n->p i=true->q i=true)->cnt p n<=cnt q n
 | 0,_=>Z1 _
 | n+1,h=>by
  have ih:=LU n (fun i hi=>h i (by omega));have hn:=h n (by omega);unfold cnt;cases hp:p n
  ·simp;omega
  ·rw [hn hp];simp;exact ih
theorem Pz {p q:Nat->Bool} {x:Nat} (hp:p x=true) (hq:q x=false):∀ n,x<n->(∀ i,i<n->q i=true->p i=true)->cnt q n+1<=cnt p n
 | 0,hx,_=>by omega
 | n+1,hx,h=>by
  unfold cnt;by_cases e:x=n
  ·subst e
   have:=LU (p:=q) (q:=p) x (fun i hi=>h i (by omega));rw [hp,hq];simp;exact this
  ·have ih:=Pz hp hq n (by omega) (fun i hi=>h i (by omega))
   have hn:=h n (by omega);cases hqn:q n
   ·simp;omega
   ·rw [hn hqn];simp;exact ih
theorem Dj (q:Nat->Bool) (y:Nat):∀ n,cnt q n<=cnt (fun i=>q i && !(i ==y)) n+1
 | 0=>by simp [cnt]
 | n+1=>by
  unfold cnt;by_cases e:n=y
  ·subst e
   have:=LU (p:=q) (q:=fun i=>q i && !(i ==n)) n (fun i hi hqi=>by
    simp only [hqi,Bool.true_and,Bool.not_eq_true',beq_eq_false_iff_ne];omega)
   simp only [beq_self_eq_true,Bool.not_true,Bool.and_false]
   split<;>simp<;>omega
  ·have ih:=Dj q y n
   have he:(n ==y)=false:=by simpa using e
   simp only [he,Bool.not_false,Bool.and_true];omega
theorem Ae {p q:Nat->Bool} {x y n:Nat} (hx:x<n) (hp:p x=true) (hq:q x=false) (h:∀ i,i<n->i ≠ y->q i=true->p i=true):cnt q n<=cnt p n:=by
 have h1:=Dj q y n
 have h2:=Pz (p:=p) (q:=fun i=>q i && !(i ==y)) hp (by simp [hq]) n hx (fun i hi hqi=>by
  simp only [ZP,Bool.not_eq_true',beq_eq_false_iff_ne] at hqi
  exact h i hi hqi.2 hqi.1)
 omega
def VG (m:Z6) (b:Nat):Bool:=(Z8 m.dk b).1 && decide ((atV m.sm b m.sm.length).length=0)
def QQ (m:Z6) (i:Nat):Bool:=ZK (Z8 m.sm i) && !Wk (Zs m (i:Int)) 0 (Zd m.rm (Z8 m.sm i).2.1)
def Mb (m:Z6) (w b:Nat):Bool:=VG m b && (YH m (w:Int) b && Wk (Zs m (w:Int)) 0 (Zd m.rm (b:Int)))
def Vn (m:Z6) (w:Nat):Nat->Option Nat
 | 0=>none
 | k+1=>match Vn m w k with
  | some b=>some b
  | none=>if Mb m w k then some k else none
def PM (m:Z6) (w:Nat):Option Nat:=if QQ m w then Vn m w m.dk.length else none
def Tl (m:Z6):Nat->Option (Nat × Nat)
 | 0=>none
 | k+1=>match Tl m k with
  | some r=>some r
  | none=>(PM m k).map fun b=>(k,b)
def UJ (m:Z6):Option (Nat × Nat):=if ZJ m then Tl m m.sm.length else none
def OG (m:Z6) (w b:Nat):Bool:=(Z8 m.sm w).1 ==2 && YH m (w:Int) b
def U2 (m:Z6) (b:Nat):Nat->Option Nat
 | 0=>none
 | k+1=>match U2 m b k with
  | some w=>some w
  | none=>if OG m k b then some k else none
def Pq (m:Z6) (b:Nat):Option Nat:=if VG m b then U2 m b m.sm.length else none
def Wg (m:Z6):Nat->Option (Nat × Nat)
 | 0=>none
 | k+1=>match Wg m k with
  | some r=>some r
  | none=>(Pq m k).map fun w=>(w,k)
def Vg (m:Z6):Option (Nat × Nat):=if ZJ m then Wg m m.dk.length else none
def Uk (m:Z6):Option (Nat × Nat):=match UJ m with
 | some r=>some r
 | none=>Vg m
theorem J2 {w b:Nat} : ∀ {k},Vn m w k=some b->b<k/\Mb m w b=true
 | 0,h=>by cases h
 | k+1,h=>by
  unfold Vn at h;cases hg:Vn m w k with
  | some b'=>
   rw [hg] at h;cases h;have:=J2 hg;exact ⟨by omega,this.2⟩
  | none=>
   rw [hg] at h;simp only at h
   split at h
   ·rename_i hh
    cases h;exact ⟨by omega,hh⟩
   ·cases h
theorem GV {w b:Nat} : ∀ {k},Tl m k=some (w,b)->w<k/\QQ m w=true/\b<m.dk.length/\Mb m w b=true
 | 0,h=>by cases h
 | k+1,h=>by
  unfold Tl at h;cases hg:Tl m k with
  | some r=>
   rw [hg] at h;cases h;have:=GV hg;exact ⟨by omega,this.2⟩
  | none=>
   rw [hg] at h;simp only [Option.map_eq_some_iff,Prod.mk.injEq] at h;obtain ⟨b',hb',rfl,rfl⟩:=h;unfold PM at hb'
   split at hb'
   ·rename_i hh
    have:=J2 hb';exact ⟨by omega,hh,this⟩
   ·cases hb'
theorem KV {w b:Nat} : ∀ {k},U2 m b k=some w->w<k/\OG m w b=true
 | 0,h=>by cases h
 | k+1,h=>by
  unfold U2 at h;cases hg:U2 m b k with
  | some w'=>
   rw [hg] at h;cases h;have:=KV hg;exact ⟨by omega,this.2⟩
  | none=>
   rw [hg] at h;simp only at h
   split at h
   ·rename_i hh
    cases h;exact ⟨by omega,hh⟩
   ·cases h
theorem Np {w b:Nat} : ∀ {k},Wg m k=some (w,b)->b<k/\VG m b=true/\w<m.sm.length/\OG m w b=true
 | 0,h=>by cases h
 | k+1,h=>by
  unfold Wg at h;cases hg:Wg m k with
  | some r=>
   rw [hg] at h;cases h;have:=Np hg;exact ⟨by omega,this.2⟩
  | none=>
   rw [hg] at h;simp only [Option.map_eq_some_iff,Prod.mk.injEq] at h;obtain ⟨b',hb',rfl,rfl⟩:=h;unfold Pq at hb'
   split at hb'
   ·rename_i hh
    have:=KV hb';exact ⟨by omega,hh,this⟩
   ·cases hb'
def TJ (m:Z6) (w b:Nat):Z6:=setS m w (putS m (Z8 m.sm w) (b:Int))
def Ul (m:Z6) (w b:Nat):Z6:=ZM (TJ m w b)
structure Moves (m:Z6) (w b:Nat):Prop where
 right:ZJ m=true
 who:w<m.sm.length
 bench:b<m.dk.length
 pres:ZK (Z8 m.sm w)=true
 may:YH m (w:Int) b=true
 idle:VG m b=true
 why:(QQ m w=true/\Wk (Zs m (w:Int)) 0 (Zd m.rm (b:Int))=true)\/(Z8 m.sm w).1=2
theorem Cu {w b:Nat} (h:UJ m=some (w,b)):Moves m w b:=by
 unfold UJ at h
 split at h
 ·rename_i hr
  obtain ⟨h1,h2,h3,h4⟩:=GV h;unfold Mb at h4;simp only [ZP] at h4;have h2':=h2;unfold QQ at h2';simp only [ZP] at h2';exact ⟨hr,h1,h3,h2'.1,h4.2.1,h4.1,.inl ⟨h2,h4.2.2⟩⟩
 ·cases h
theorem EO {w b:Nat} (h:Vg m=some (w,b)):Moves m w b:=by
 unfold Vg at h
 split at h
 ·rename_i hr
  obtain ⟨h1,h2,h3,h4⟩:=Np h;unfold OG at h4;simp only [ZP,beq_iff_eq] at h4;exact ⟨hr,h3,h1,by unfold ZK;rw [h4.1];rfl,h4.2,h2,.inr h4.1⟩
 ·cases h
theorem RL {w b:Nat} (h:Uk m=some (w,b)):Moves m w b:=by
 unfold Uk at h;cases hm:UJ m with
 | some r=>rw [hm] at h;cases h;exact Cu hm
 | none=>rw [hm] at h;exact EO h
theorem Moves.loose {w b:Nat} (h:Moves m w b):Loose (TJ m w b):=by
 have hlo:=ZR h.right;obtain ⟨p,g1,b1⟩:=hlo.limits h.who (by intro e;have:=h.pres;unfold ZK at this;rw [e] at this;cases this);obtain ⟨a0,a1,a2,a3,a4⟩:=hlo.at h.who h.pres;have hm:=h.may;unfold YH at hm;simp only [ZP,Zy] at hm;have:=Ms (m:=m) hlo (s:=Z8 m.sm w) (b:=b) p h.pres g1 a0 a1 a4 h.bench hm.1 hm.2;exact hlo.setS h.who this.1 this.2
theorem Moves.keeps {w b:Nat} (h:Moves m w b):ZJ (Ul m w b)=true:=YG h.loose
theorem I5 {ss:List Z3} {b:Int} {n:Nat} : (atV ss b n).length=0 ↔ ∀ i,i<n-> ¬ ((Z8 ss i).2.1=b/\ZK (Z8 ss i)=true):=by
 constructor
 ·intro h i hi hp
  have hm:(WN (Z8 ss i),(i:Int)) ∈ atV ss b n:=(XC ss b _ n).2 ⟨i,hi,hp.1,hp.2,rfl⟩;rw [List.length_eq_zero_iff.1 h] at hm;cases hm
 ·intro h
  rw [List.length_eq_zero_iff];refine List.eq_nil_iff_forall_not_mem.2 fun e he=> ?_;obtain ⟨i,hi,h1,h2,_⟩:=(XC ss b e n).1 he;exact h i hi ⟨h1,h2⟩
theorem PS {w b:Nat} (hw:w<m.sm.length) (i:Nat):Z8 (TJ m w b).sm i=if i=w then putS m (Z8 m.sm w) (b:Int) else Z8 m.sm i:=ZF hw i
theorem Un (m:Z6) (w b:Nat):(TJ m w b).sm.length=m.sm.length:=by unfold TJ setS;simp
theorem KR {i:Nat} (hi:i<m.sm.length):(Z8 (ZM m).sm i).2=(Z8 m.sm i).2:=by
 unfold ZM;rw [Xd m hi]
 split<;>rfl
theorem C0 {i:Nat} (hi:i<m.sm.length):ZK (Z8 (ZM m).sm i)=ZK (Z8 m.sm i):=(Xc m m.dk.length i hi).2.1
theorem CY (m:Z6) {b:Nat} (hb:b<m.dk.length):VG (ZM m) b=VG m b:=by
 unfold VG ZM;rw [Po,Uw m b _ (Nat.le_refl _),if_pos hb]
 congr 1
 unfold Wf
 split<;>rfl
theorem By (m:Z6) {i:Nat} (hi:i<m.sm.length):QQ (ZM m) i=QQ m i:=by
 have h1:Zs (ZM m) (i:Int)=Zs m (i:Int):=by
  unfold Zs Qe;rw [Zy,KR hi,show (ZM m).gd=m.gd from (ZH m m.dk.length).2.1]
 unfold QQ;rw [C0 hi,h1,KR hi,show (ZM m).rm=m.rm from (ZH m m.dk.length).1]
def Om (m:Z6):Nat:=cnt (VG m) m.dk.length
def JE (m:Z6):Nat:=cnt (QQ m) m.sm.length
def Sa (m:Z6):Nat:=13*Om m+JE m
theorem Ga {p q:Nat->Bool} (n:Nat) (h:∀ i,i<n->p i=q i):cnt p n=cnt q n:=
 Nat.le_antisymm (LU n fun i hi hp=>by rw [<-h i hi];exact hp) (LU n fun i hi hp=>by rw [h i hi];exact hp)
theorem Fx (m:Z6):Om (ZM m)=Om m:=by
 unfold Om;rw [show (ZM m).dk.length=m.dk.length from (ZH m m.dk.length).2.2.2.2.2];exact Ga _ fun i hi=>CY m hi
theorem CZ (m:Z6):JE (ZM m)=JE m:=by
 unfold JE;rw [show (ZM m).sm.length=m.sm.length from (ZH m m.dk.length).2.2.2.2.1];exact Ga _ fun i hi=>By m hi
theorem A2 {w b:Nat} (hw:w<m.sm.length) (hp:ZK (Z8 m.sm w)=true):VG (TJ m w b) b=false:=by
 unfold VG;rw [decide_eq_false,Bool.and_false];intro h;refine I5.1 h w (by rw [Un];exact hw) ?_;rw [PS hw,if_pos rfl];exact ⟨rfl,hp⟩
theorem Ic {w b j:Nat} (hw:w<m.sm.length) (hj:(Z8 m.sm w).2.1 ≠ (j:Int)) (h:VG (TJ m w b) j=true):VG m j=true:=by
 unfold VG at h ⊢;simp only [ZP,Y0] at h ⊢;refine ⟨h.1,I5.2 fun i hi hp=> ?_⟩;have:=I5.1 h.2 i (by rw [Un];exact hi);rw [PS hw] at this;by_cases e:i=w
 ·subst e;exact hj hp.1
 ·rw [if_neg e] at this;exact this hp
theorem zI {w b i:Nat} (hw:w<m.sm.length) (hi:i ≠ w):QQ (TJ m w b) i=QQ m i:=by
 unfold QQ Zs;rw [Zy,PS hw,if_neg hi];rfl
theorem A3 {w b:Nat} (hw:w<m.sm.length) (h:Wk (Zs m (w:Int)) 0 (Zd m.rm (b:Int))=true):QQ (TJ m w b) w=false:=by
 unfold QQ Zs;rw [Zy,PS hw,if_pos rfl]
 have e:Qe (TJ m w b).gd (putS m (Z8 m.sm w) (b:Int))=Zs m (w:Int):=by
  unfold Zs;rw [Zy];rfl
 rw [e];show (_ && !Wk _ 0 (Zd m.rm (b:Int)))=false;rw [h];simp
theorem FD (h:ZJ m=true) {w:Nat} (hw:w<m.sm.length) (h2:(Z8 m.sm w).1=2):∃ i,i<m.sm.length/\i ≠ w/\(Z8 m.sm i).2.1=(Z8 m.sm w).2.1/\ZK (Z8 m.sm i)=true:=by
 have hlo:=ZR h;have hp:ZK (Z8 m.sm w)=true:=by unfold ZK;rw [h2];rfl
 obtain ⟨a0,a1,_⟩:=hlo.at hw hp;obtain ⟨b,hb⟩:∃ b:Nat,(Z8 m.sm w).2.1=(b:Int):=⟨(Z8 m.sm w).2.1.toNat,by omega⟩
 have hbl:b<m.dk.length:=by omega
 have hok:Yh m b=true:=by
  unfold ZJ at h;simp only [ZP] at h;exact I4 h.2 hbl
 rw [<-KQ] at hok;unfold U1 at hok
 split at hok
 ·simp only [Y0,List.length_eq_zero_iff] at hok
  have:(w:Int) ∈ ZO (atB (b:Int)) m.sm m.sm.length:=(Wu _ _ _ _).2 ⟨w,hw,rfl,by unfold atB;rw [h2,hb];simp⟩;rw [hok] at this;cases this
 ·simp only [ZP,Y0] at hok
  have hx:Z8 (ZO (YY (b:Int)) m.sm m.sm.length) 0 ∈ ZO (YY (b:Int)) m.sm m.sm.length:=Vs (by omega);obtain ⟨i,hi,_,hwk⟩:=(Wu _ _ _ _).1 hx;unfold YY at hwk;simp only [ZP,beq_iff_eq] at hwk;exact ⟨i,hi,fun e=>by subst e;omega,by rw [hb];exact hwk.2,by unfold ZK;rw [hwk.1];rfl⟩
theorem Moves.falls {w b:Nat} (h:Moves m w b):Sa (Ul m w b)<Sa m:=by
 unfold Sa Ul;rw [Fx,CZ];have hlo:=ZR h.right;have h12:=YS hlo;obtain ⟨a0,a1,_⟩:=hlo.at h.who h.pres;have hmb:=Ad (QQ (TJ m w b)) m.sm.length;have hbusy:=A2 (b:=b) h.who h.pres
 rcases h.why with ⟨hmis,hfit⟩ | hwait
 ·have e1:Om (TJ m w b)<=Om m:=Ae (y:=(Z8 m.sm w).2.1.toNat) h.bench h.idle hbusy fun i hi hne hq=>Ic h.who (by omega) hq
  have e2:JE (TJ m w b)+1<=JE m:=by
   unfold JE;rw [Un];refine Pz hmis (A3 h.who hfit) _ h.who fun i hi hq=> ?_;by_cases e:i=w
   ·subst e;exact hmis
   ·rw [zI h.who e] at hq;exact hq
  omega
 ·have e1:Om (TJ m w b)+1<=Om m:=by
   refine Pz h.idle hbusy _ h.bench fun j hj hq=> ?_;by_cases e:(Z8 m.sm w).2.1=(j:Int)
   ·exfalso
    obtain ⟨i,hi,hiw,hbe,hpr⟩:=FD h.right h.who hwait;unfold VG at hq;simp only [ZP,Y0] at hq;have:=I5.1 hq.2 i (by rw [Un];exact hi);rw [PS h.who,if_neg hiw] at this;exact this ⟨by rw [hbe,e],hpr⟩
   ·exact Ic h.who e hq
  have e2:JE (TJ m w b)<=12:=by
   unfold JE;rw [Un];omega
  omega
def Ui:Nat->Z6->Z6
 | 0,m=>m
 | k+1,m=>match Uk m with
  | none=>m
  | some (w,b)=>Ui k (Ul m w b)
def TH (m:Z6):Z6:=Ui (Sa m+1) m
theorem Ow:∀ (j k:Nat) (m:Z6),Sa m<j->Sa m<k->Ui j m=Ui k m
 | 0,_,_,h,_=>by omega
 | _+1,0,_,_,h=>by omega
 | j+1,k+1,m,hj,hk=>by
  show (match Uk m with | none=>m | some (w,b)=>Ui j (Ul m w b))=(match Uk m with | none=>m | some (w,b)=>Ui k (Ul m w b))
  cases hm:Uk m with
  | none=>rfl
  | some r=>
   obtain ⟨w,b⟩:=r;have hf:=(RL hm).falls;exact Ow j k (Ul m w b) (by omega) (by omega)
theorem GL (h:Uk m=none):TH m=m:=by
 unfold TH Ui;rw [h]
theorem Kg {w b:Nat} (h:Uk m=some (w,b)):TH m=TH (Ul m w b):=by
 have hf:=(RL h).falls
 have:TH m=Ui (Sa m) (Ul m w b):=by
  show (match Uk m with | none=>m | some (w,b)=>Ui (Sa m) (Ul m w b))=_;rw [h]
 rw [this];exact Ow _ _ _ (by omega) (by omega)
theorem PJ:∀ (k:Nat) (m:Z6),ZJ m=true->ZJ (Ui k m)=true
 | 0,m,h=>h
 | k+1,m,h=>by
  unfold Ui;cases hm:Uk m with
  | none=>exact h
  | some r=>
   obtain ⟨w,b⟩:=r;exact PJ k (Ul m w b) (RL hm).keeps
theorem GM (h:ZJ m=true):ZJ (TH m)=true:=PJ _ m h
def VT (m:Z6):Z6:=if ZJ m then TH m else Ye
set_option linter.unusedSimpArgs false
def RO (m:Z6) (b:Int):Z6 × Int:=
 if ZJ m then (if Ud m b then (if (Z8 m.dk b.toNat).1 then (m,2) else (ZM (Yb m b.toNat true),0)) else (m,1)) else (Ye,3)
theorem FX {b:Int} (h:Ud m b=true):∃ k:Nat,b=(k:Int)/\k<m.dk.length:=by
 have:=ZN (show inB b 0 ((m.dk.length:Int)-1)=true from h);exact ⟨b.toNat,by omega,by omega⟩
theorem ET (h:ZJ m=true) (b:Int):ZJ (RO m b).1=true:=by
 unfold RO;rw [h];simp only [if_true]
 split
 ·rename_i hw
  obtain ⟨k,rfl,hk⟩:=FX hw;rw [show ((k:Int)).toNat=k by simp]
  split
  ·exact h
  ·exact YG (Cl (ZR h) hk)
 ·exact h
theorem Nf  (bench:Int) (h:Smy w v0 v1 v2 v3 v4 m) :
  Calls Tryz.prog 34 #[.agg #[v0,v1,v2,v3,v4,.int .i64 m.now],.int .i64 bench] w fun e w'=>S5 w.heap.size (RO m bench).1 (RO m bench).2 e w'/\Below w.heap.size w w':=by
 obtain ⟨X,hX⟩:∃ x,RO m bench=x:=⟨_,rfl⟩
 rw [hX];have HX:=Z9 hX;clear hX;have Hv0:=Z9 h;obtain ⟨a0,p0,a1,p1,a2,p2,a3,p3,a4,p4,rfl,rfl,rfl,rfl,rfl,_,_,_,_,_,_,_,_,_,_⟩:=h.five;clear h;obtain ⟨ok,hok⟩:∃ q,ZJ m=q:=⟨_,rfl⟩
 have Hok:=Z9 hok;clear hok;go_enter Tryz.func34,Tryz.ntmps34;go_wp2_with fail;obtain ⟨W,hW,kb,kr,BB⟩:=YD w 32 (S6 a0 p0 a1 p1 a2 p2 a3 p3 a4 p4 m) 32 E6;have Hv:=Z9 ((uh Hv0).below (uh BB));clear Hv0;rw [hW];clear hW;refine ck (Xt (uh Hok) (uh Hv)) fun w1 hb=> ?_;replace kb:=bl kb hb;replace kr:=bl kr hb;replace Hv:=Z9 ((uh Hv).below hb);replace BB:=bt BB hb;clear hb;cases ok
 ·
  obtain ⟨c0,c1,c2,c3,c4,c5⟩:=(uh kb).c6;go_wp2_with fail;clear c0 c1 c2 c3 c4 c5;refine ck (XV (uh Hv)) fun w2 hb=> ?_;replace kb:=bl kb hb;replace kr:=bl kr hb;replace Hv:=Z9 ((uh Hv).below hb);replace BB:=bt BB hb;clear hb;obtain ⟨o0,o1,o2,o3,o4,o5⟩:=(uh kr).c6;obtain ⟨f0,f1,f2,f3,f4,f5⟩:=(uh kr).f6;go_wp2_with fail;have hX0:X=(Ye,3):=by rw [<-uh HX];unfold RO;rw [uh Hok];rfl
  exact ZS (v:= .tuple #[.agg E6,.int .i64 3]) (by simp [results,Tryz.results34,go_sem, *]) rfl (Zb hX0 rfl (YM _ _) (uh BB))
 have hlo:=ZR (uh Hok);have HLo:=Z9 hlo;have HFew:=Z9 (Xn hlo);clear hlo;obtain ⟨c0,c1,c2,c3,c4,c5⟩:=(uh kb).c6;go_wp2_with fail;clear c0 c1 c2 c3 c4 c5;refine (T6 (uh Hv) (uh HFew) (uh kb) (uh kr) (uh BB)).mono ?_;clear kb kr Hv BB;rintro e w2 ⟨b0,q0,b1,q1,b2,q2,b3,q3,b4,q4,oq,rfl,W2,ob,hW2,hob2,kb,kr,Hv,HO,ko,LO,hob,BB⟩;go_upto_region 4 with fail
 (try rw [hW2])
 (try rw [hob2])
 clear hW2 hob2;obtain ⟨qw,hqw⟩:∃ q,Ud m bench=q:=⟨_,rfl⟩
 have Hqw:=Z9 hqw;clear hqw;obtain ⟨c0,c1,c2,c3,c4,c5⟩:=(uh kb).c6;go_wp2_with fail;clear c0 c1 c2 c3 c4 c5;refine ck (Mt (uh Hqw) (uh Hv)) fun w3 hb=> ?_;replace kb:=bl kb hb;replace kr:=bl kr hb;replace Hv:=Z9 ((uh Hv).below hb);replace HO:=Z9 ((uh HO).below hb);replace ko:=bl ko hb;replace BB:=bt BB hb;clear hb;cases qw
 ·
  obtain ⟨x0,x1,x2,x3,x4,x5⟩:=(uh ko).c6;obtain ⟨o0,o1,o2,o3,o4,o5⟩:=(uh kr).c6;obtain ⟨f0,f1,f2,f3,f4,f5⟩:=(uh kr).f6;go_wp2_with fail;have hX0:X=(m,1):=by rw [<-uh HX];unfold RO;rw [uh Hok,uh Hqw];rfl
  exact ZS (v:= .tuple #[.agg (S6 b0 q0 b1 q1 b2 q2 b3 q3 b4 q4 m),.int .i64 1]) (by simp [results,Tryz.results34,go_sem, *]) rfl (Zb hX0 rfl (uh HO) (uh BB))
 obtain ⟨k,rfl,hk⟩:=FX (uh Hqw);have hk1:(k:Int)<(m.dk.length:Int):=by omega
 obtain ⟨_,_,hde,_,_,r3⟩:=(uh Hv).dk;cases hde
 rcases r3 with e0 | ⟨db,off,rfl,hbw,hcl⟩
 ·rw [e0] at hk;simp at hk
 obtain ⟨d0,_,_⟩:=Y4 hcl hk;clear hcl;obtain ⟨op,hop⟩:∃ q,(Z8 m.dk k).1=q:=⟨_,rfl⟩
 rw [hop] at d0;have Hop:=Z9 hop;clear hop;have c3:=(uh kb).cell (i:=3) (v:= .slice (some ⟨db,off,none⟩) m.dk.length p3) rfl;cases op;rotate_left
 ·
  obtain ⟨x0,x1,x2,x3,x4,x5⟩:=(uh ko).c6;obtain ⟨o0,o1,o2,o3,o4,o5⟩:=(uh kr).c6;obtain ⟨f0,f1,f2,f3,f4,f5⟩:=(uh kr).f6;go_wp2_with fail;have hX0:X=(m,2):=by rw [<-uh HX];unfold RO;rw [uh Hok,uh Hqw];simp only [if_true,Zy];rw [uh Hop];rfl
  exact ZS (v:= .tuple #[.agg (S6 b0 q0 b1 q1 b2 q2 b3 q3 b4 q4 m),.int .i64 2]) (by simp [results,Tryz.results34,go_sem, *]) rfl (Zb hX0 rfl (uh HO) (uh BB))
 obtain ⟨g3,hga,_,_,hc3,hz3⟩:=RecAt.view Zx (by omega) (uh HO).dk rfl (by omega);cases hga;have s0:=hc3 k hk 0 _ rfl;have f0:=hz3 (k*3);have x3:=(uh ko).cell (i:=3) (v:= .slice (some ⟨g3,0,none⟩) m.dk.length q3) rfl;have hput:=(uh HO).putD rfl (j:=k) (i:=0) hk (by omega) (.bool true) (true,(Z8 m.dk k).2) rfl;simp only [Nat.add_zero] at s0 hput;have hg3o:=(uh LO g3 (.inr (.inr (.inr (.inr (.inl rfl))))))
 clear hc3 hz3;go_upto_region 9 with fail;clear s0 f0 x3 c3 d0;have HP:=Z9 hput;clear hput HO;replace ko:Hid (Blk (w3.setCell ⟨g3,k*3,none⟩ (.bool true)) ob 32 (S6 b0 q0 b1 q1 b2 q2 (some ⟨g3,0,none⟩) q3 b4 q4 m)):=Z9 ((uh ko).other (a:=⟨g3,k*3,none⟩) (by show ob ≠ g3;omega) _);replace kr:Hid (Blk (w3.setCell ⟨g3,k*3,none⟩ (.bool true)) (w.heap.size+1) 32 E6):=Z9 ((uh kr).other (a:=⟨g3,k*3,none⟩) (by show w.heap.size+1 ≠ g3;omega) _);replace BB:Hid (Below w.heap.size w (w3.setCell ⟨g3,k*3,none⟩ (.bool true))):=Z9 ((uh BB).setCell (p:=⟨g3,k*3,none⟩) (by show w.heap.size<=g3;omega) _);clear kb Hv;generalize w3.setCell ⟨g3,k*3,none⟩ (.bool true)=W3 at *;have hfw:=uh HFew;go_wp2_with fail;refine (UX (m:=Yb m k true) (uh ko) (uh HP) (fun k e=>by have:=(uh LO k e).2;omega) (uh kr) (uh BB) (by show m.sm.length<=800;have:=hfw.sm;omega) (by show (m.dk.set k _).length<=_;rw [V4];exact hfw.dk)).mono ?_;clear kr BB;rintro e w4 ⟨rfl,HF9,kr,BB⟩;obtain ⟨o0,o1,o2,o3,o4,o5⟩:=(uh kr).c6;obtain ⟨f0,f1,f2,f3,f4,f5⟩:=(uh kr).f6;go_wp2_with fail;have hX0:X=(ZM (Yb m k true),0):=by rw [<-uh HX];unfold RO;rw [uh Hok,uh Hqw];simp only [if_true,Zy];rw [uh Hop];rfl
 have hnow:(ZM (Yb m k true)).now=m.now:=(ZH _ _).2.2.2.1;exact ZS (v:= .tuple #[.agg (S6 b0 q0 b1 q1 b2 q2 (some ⟨g3,0,none⟩) q3 b4 q4 m),.int .i64 0]) (by simp [results,Tryz.results34,go_sem,setS,TK,Yb,pushS, *]) rfl (Zb hX0 hnow (uh HF9) (uh BB))
set_option maxRecDepth 100000
theorem Lh  {r:Nat} (h:Smy w v0 v1 v2 v3 v4 m) (hS:Sane m) (hr:r<m.rm.length) :
  Calls Tryz.prog 282 #[.agg #[v0,v1,v2,v3,v4,.int .i64 m.now],.int .i64 (r:Int)] w fun e w'=>e= .returned (.int .i64 (SY m r))/\Below w.heap.size w w':=by
 have Hv:=Z9 (h.alloc (.cells #[v0,v1,v2,v3,v4,.int .i64 m.now] 32));obtain ⟨a0,p0,a1,p1,a2,p2,a3,p3,a4,p4,rfl,rfl,rfl,rfl,rfl,_,_,_,_,_,_,_,_,_,_⟩:=h.five;clear h;have kb:Hid (Blk (w.alloc (.cells (S6 a0 p0 a1 p1 a2 p2 a3 p3 a4 p4 m) 32)) w.heap.size 32 (S6 a0 p0 a1 p1 a2 p2 a3 p3 a4 p4 m)):=Z9 (Blk.new w _ _);have BB:Hid (Below w.heap.size w (w.alloc (.cells (S6 a0 p0 a1 p1 a2 p2 a3 p3 a4 p4 m) 32))):=Z9 ((ba _ _));obtain ⟨x,hx⟩:∃ x,SY m r=x:=⟨_,rfl⟩
 rw [hx];obtain ⟨ms,hms⟩:∃ q,YU m (r:Int) m.dk.length=q:=⟨_,rfl⟩
 have Hx:Hid (Xq (ZQ m.rm r) ms.1=x):=Z9 (by rw [<-hx,<-hms];rfl);have Hms:=Z9 hms;have HS:=Z9 hS;have hr1:(r:Int)<(m.rm.length:Int):=by omega
 clear hx hms hS;obtain ⟨mo,al⟩:=ms;go_enter Tryz.func282,Tryz.ntmps282;go_wp2_with fail;generalize w.alloc (.cells (S6 a0 p0 a1 p1 a2 p2 a3 p3 a4 p4 m) 32)=W at *;refine (Oq (r:Int) (uh Hv) (uh HS)).mono ?_;rw [uh Hms];rintro e w1 ⟨rfl,hb⟩;replace Hv:=Z9 ((uh Hv).below hb);replace kb:=bl kb hb;replace BB:=bt BB hb;clear hb;obtain ⟨_,_,hre,_,_,r0⟩:=(uh Hv).rm;cases hre
 rcases r0 with e0 | ⟨rb,off,rfl,hbw,hcl⟩
 ·rw [e0] at hr;simp at hr
 obtain ⟨d0,pv,d1,hpv⟩:=hcl r hr;have Hpv:=Z9 hpv;obtain ⟨pa,pc,rfl,_,_,_⟩:=hpv;obtain ⟨⟨bn,ps⟩,hrm⟩:∃ q,ZQ m.rm r=q:=⟨_,rfl⟩
 rw [hrm] at d0 d1 Hpv Hx;simp only at d0 d1;clear hcl hrm;have c0:=(uh kb).cell (i:=0) (v:= .slice (some ⟨rb,off,none⟩) m.rm.length p0) rfl;go_wp2_with fail;refine ck (Sf bn mo (uh Hpv)) fun w2 hb=> ?_;replace BB:=bt BB hb;clear hb;go_wp2_with fail;go_ret;exact ⟨ZC (uh Hx),uh BB⟩
theorem Oo  {b:Nat} (h:Smy w v0 v1 v2 v3 v4 m) (hb0:b<m.dk.length) (hl:m.sm.length<=800) :
  Calls Tryz.prog 87 #[.agg #[v0,v1,v2,v3,v4,.int .i64 m.now],.int .i64 (b:Int)] w fun e w'=>e= .returned (.bool (VG m b))/\Below w.heap.size w w':=by
 have Hv:=Z9 (h.alloc (.cells #[v0,v1,v2,v3,v4,.int .i64 m.now] 32));obtain ⟨a0,p0,a1,p1,a2,p2,a3,p3,a4,p4,rfl,rfl,rfl,rfl,rfl,_,_,_,_,_,_,_,_,_,_⟩:=h.five;clear h;have kb:Hid (Blk (w.alloc (.cells (S6 a0 p0 a1 p1 a2 p2 a3 p3 a4 p4 m) 32)) w.heap.size 32 (S6 a0 p0 a1 p1 a2 p2 a3 p3 a4 p4 m)):=Z9 (Blk.new w _ _);have BB:Hid (Below w.heap.size w (w.alloc (.cells (S6 a0 p0 a1 p1 a2 p2 a3 p3 a4 p4 m) 32))):=Z9 ((ba _ _));have hb1:(b:Int)<(m.dk.length:Int):=by omega
 obtain ⟨qs,hqs⟩:∃ q,atV m.sm (b:Int) m.sm.length=q:=⟨_,rfl⟩
 obtain ⟨op,hop⟩:∃ q,(Z8 m.dk b).1=q:=⟨_,rfl⟩
 have hI:VG m b=(op && decide (qs.length=0)):=by unfold VG;rw [hqs,hop]
 rw [hI];have Hqs:=Z9 hqs;have Hop:=Z9 hop;clear hI hqs hop;go_enter Tryz.func87,Tryz.ntmps87;go_upto_region 1 with fail;generalize w.alloc (.cells (S6 a0 p0 a1 p1 a2 p2 a3 p3 a4 p4 m) 32)=W at *;obtain ⟨_,_,hde,_,_,r3⟩:=(uh Hv).dk;cases hde
 rcases r3 with e0 | ⟨db,off,rfl,hbw,hcl⟩
 ·rw [e0] at hb0;simp at hb0
 obtain ⟨d0,_,_⟩:=Y4 hcl hb0;rw [uh Hop] at d0;clear hcl Hop;obtain ⟨c0,c1,c2,c3,c4,c5⟩:=(uh kb).c6;cases op
 ·go_wp2_with fail
  go_ret;exact ⟨rfl,uh BB⟩
 go_wp2_with fail;refine (Q2 (b:Int) (uh Hv) (by omega)).mono ?_;rw [uh Hqs];rintro e w2 ⟨v',rfl,he,hb⟩;obtain ⟨ua,uc,rfl⟩:=EntsAt.shape he;replace BB:=bt BB hb;clear hb he c0 c1 c2 c3 c4 c5;go_wp2_with fail;go_ret;exact ⟨Z5 (by rw [Bool.true_and,Bool.eq_iff_iff];simp only [beq_iff_eq,Y0];omega),uh BB⟩
def CX:Option (Nat × Nat)->Value
 | none=> .tuple #[.int .i64 0,.int .i64 0,.bool false]
 | some (w,b)=> .tuple #[.int .i64 (w:Int),.int .i64 (b:Int),.bool true]
theorem C8 {b w:Nat} {k n:Nat} (h:U2 m b k=some w) (hn:k<=n):U2 m b n=some w:=by
 obtain ⟨d,rfl⟩:∃ d,n=k+d:=⟨n-k,by omega⟩
 clear hn
 induction d with
 | zero=>exact h
 | succ d ih=>
  show U2 m b (k+d+1)=some w;unfold U2;rw [ih]
theorem FE {w b:Nat} {k n:Nat} (h:Wg m k=some (w,b)) (hn:k<=n):Wg m n=some (w,b):=by
 obtain ⟨d,rfl⟩:∃ d,n=k+d:=⟨n-k,by omega⟩
 clear hn
 induction d with
 | zero=>exact h
 | succ d ih=>
  show Wg m (k+d+1)=some (w,b);unfold Wg;rw [ih]
theorem Cd {w b:Nat} {k n:Nat} (h:Vn m w k=some b) (hn:k<=n):Vn m w n=some b:=by
 obtain ⟨d,rfl⟩:∃ d,n=k+d:=⟨n-k,by omega⟩
 clear hn
 induction d with
 | zero=>exact h
 | succ d ih=>
  show Vn m w (k+d+1)=some b;unfold Vn;rw [ih]
theorem AO {w b:Nat} {k n:Nat} (h:Tl m k=some (w,b)) (hn:k<=n):Tl m n=some (w,b):=by
 obtain ⟨d,rfl⟩:∃ d,n=k+d:=⟨n-k,by omega⟩
 clear hn
 induction d with
 | zero=>exact h
 | succ d ih=>
  show Tl m (k+d+1)=some (w,b);unfold Tl;rw [ih]
set_option maxRecDepth 100000
theorem Nc  (h:Smy w v0 v1 v2 v3 v4 m) :
  Calls Tryz.prog 283 #[.agg #[v0,v1,v2,v3,v4,.int .i64 m.now]] w fun e w'=>e= .returned (CX (UJ m))/\Below w.heap.size w w':=by
 have Hv0:=Z9 (h.alloc (.cells #[v0,v1,v2,v3,v4,.int .i64 m.now] 32));obtain ⟨a0,p0,a1,p1,a2,p2,a3,p3,a4,p4,rfl,rfl,rfl,rfl,rfl,_,_,_,_,_,_,_,_,_,_⟩:=h.five;clear h;obtain ⟨BB0,kb0⟩:=V7 w 32 (S6 a0 p0 a1 p1 a2 p2 a3 p3 a4 p4 m);obtain ⟨tv,htv⟩:∃ t,CX (UJ m)=t:=⟨_,rfl⟩
 rw [htv];obtain ⟨ok,hok⟩:∃ q,ZJ m=q:=⟨_,rfl⟩
 have Hok:=Z9 hok;have HT:=Z9 htv;clear hok htv;cases ok
 ·obtain rfl:tv= .tuple #[.int .i64 0,.int .i64 0,.bool false]:=by rw [<-uh HT];unfold UJ;rw [uh Hok];rfl
  go_enter Tryz.func283,Tryz.ntmps283;go_wp2_with fail
  go_loopw [5] (fun i wr=>i= .int .i64 0/\Blk wr w.heap.size 32 (S6 a0 p0 a1 p1 a2 p2 a3 p3 a4 p4 m)/\Smy wr (.slice a0 m.rm.length p0) (.slice a1 m.gd.length p1) (.slice a2 m.sm.length p2) (.slice a3 m.dk.length p3) (.slice a4 m.pc.length p4) m/\Below w.heap.size w wr) (fun _ _=>1)
  case atStart=>exact ⟨rfl,uh kb0,uh Hv0,uh BB0⟩
  case round=>
   obtain ⟨rfl,hkb,hv,hb0⟩:=hrel;have kb:=Z9 hkb;have Hv:=Z9 hv;have BB:=Z9 hb0;clear hkb hv hb0 kb0 Hv0 BB0;obtain ⟨c0,c1,c2,c3,c4,c5⟩:=(uh kb).c6;by_cases hlt:0<m.sm.length
   ·have hlt1:(0:Int)<(m.sm.length:Int):=by omega
    go_wp2_with fail;refine ck (Xt (uh Hok) (uh Hv)) fun w1 hb=> ?_;replace BB:=bt BB hb;clear hb;go_wp2_with fail;refine ZS (v:= .tuple #[.int .i64 0,.int .i64 0,.bool false]) (by simp [results,Tryz.results283,go_sem]) rfl ⟨rfl,uh BB⟩
   ·have hlt1:¬ ((0:Int)<(m.sm.length:Int)):=by omega
    go_wp2_with fail;refine ZS (v:= .tuple #[.int .i64 0,.int .i64 0,.bool false]) (by simp [results,Tryz.results283,go_sem]) rfl ⟨rfl,uh BB⟩
 have hlo:=ZR (uh Hok);have HLo:=Z9 hlo;have HSa:=Z9 hlo.sane;have h12:=YS hlo;have h8:=Xi hlo;clear hlo;have HW:Hid (tv=CX (Tl m m.sm.length)):=Z9 (by rw [<-uh HT];unfold UJ;rw [uh Hok];rfl);clear HT;go_enter Tryz.func283,Tryz.ntmps283;go_wp2_with fail
 go_loopw [5] (fun i wr=> ∃ k:Nat,k<=m.sm.length/\i= .int .i64 k/\Tl m k=none/\Blk wr w.heap.size 32 (S6 a0 p0 a1 p1 a2 p2 a3 p3 a4 p4 m)/\Smy wr (.slice a0 m.rm.length p0) (.slice a1 m.gd.length p1) (.slice a2 m.sm.length p2) (.slice a3 m.dk.length p3) (.slice a4 m.pc.length p4) m/\Below w.heap.size w wr) (fun i _=>m.sm.length-(intOf i).toNat)
 case atStart=>exact ⟨0,Zz _,rfl,rfl,uh kb0,uh Hv0,uh BB0⟩
 case round=>
  obtain ⟨k,hk,rfl,hno,hkb,hv,hb0⟩:=hrel;have Hno:=Z9 hno;clear hno;have kb:=Z9 hkb;have Hv:=Z9 hv;have BB:=Z9 hb0;clear hkb hv hb0;clear kb0 Hv0 BB0;obtain ⟨c0,c1,c2,c3,c4,c5⟩:=(uh kb).c6;by_cases hlt:k<m.sm.length;rotate_left
  ·have hlt1:¬ ((k:Int)<(m.sm.length:Int)):=by omega
   obtain rfl:k=m.sm.length:=by omega
   obtain rfl:tv= .tuple #[.int .i64 0,.int .i64 0,.bool false]:=by rw [uh HW,uh Hno];rfl
   go_wp2_with fail;refine ZS (v:= .tuple #[.int .i64 0,.int .i64 0,.bool false]) (by simp [results,Tryz.results283,go_sem]) rfl ⟨rfl,uh BB⟩
  have hlt1:(k:Int)<(m.sm.length:Int):=by omega
  go_wp2_with fail;refine ck (Xt (uh Hok) (uh Hv)) fun w1 hb=> ?_;replace Hv:=Z9 ((uh Hv).below hb);replace kb:=bl kb hb;replace BB:=bt BB hb;clear hb c0 c1 c2 c3 c4 c5;have HN:Hid (∀ w9,PM m k=w9->Tl m (k+1)=w9.map fun x=>(k,x)):=Z9 (fun w9 e=>by unfold Tl;rw [uh Hno,e]);have HMB:Hid (QQ m k=(ZK (Z8 m.sm k) && !Wk (Zs m (k:Int)) 0 (Zd m.rm (Z8 m.sm k).2.1))):=Z9 rfl;obtain ⟨_,_,hse,_,_,r2⟩:=(uh Hv).sm;cases hse
  rcases r2 with e0 | ⟨sb,off,rfl,hbw,hcl⟩
  ·rw [e0] at hlt;simp at hlt
  obtain ⟨d0,d1,d2,d3,d4,d5,d6,d7,d8,d9,d10⟩:=ZA hcl hlt;clear hcl;obtain ⟨ps,hps⟩:∃ q,ZK (Z8 m.sm k)=q:=⟨_,rfl⟩
  obtain ⟨fi,hfi⟩:∃ q,Wk (Zs m (k:Int)) 0 (Zd m.rm (Z8 m.sm k).2.1)=q:=⟨_,rfl⟩
  have HM2:Hid (QQ m k=(ps && !fi)):=Z9 (by rw [uh HMB,hps,hfi]);have HP0:=Z9 hps
  have HA1:Hid (ps=true->0<=(Z8 m.sm k).2.1/\(Z8 m.sm k).2.1<m.dk.length/\ -1<=(Z8 m.sm k).2.2.2.2.1/\(Z8 m.sm k).2.2.2.2.1<m.gd.length/\0<=(Z8 m.sm k).2.2.2.1/\(Z8 m.sm k).2.2.2.1<=255):=Z9 (fun e=>by
   have hp:=(uh HP0).trans e;have h1:=(uh HLo).at hlt hp;have h2:=(uh HLo).limits hlt (DJ hp);have h3:=h2.1;have h4:=h2.2.1;have a0:=h1.1;have a1:=h1.2.1;generalize Z8 m.sm k=s at *;obtain ⟨st,be,rk,my,gu,lo',hi',hd,ca,ut,wk⟩:=s;have h5:=Zo h3
   exact ⟨a0,a1,h5.2.2.2.2.1.1,h4,by show 0<=my;omega,h5.2.2.2.1.2⟩)
  have HG:=Z9 (uh HSa).guilded.gd;have Hwa:=Z9 (fun (e:ps=true) (X:World) (hX:Smy X (.slice a0 m.rm.length p0) (.slice a1 m.gd.length p1) (.slice (some ⟨sb,off,none⟩) m.sm.length p2) (.slice a3 m.dk.length p3) (.slice a4 m.pc.length p4) m)=>RA hX (uh HG) hlt (uh HA1 e).2.2.1 (uh HA1 e).2.2.2.1)
  have Hfo:=Z9 (fun (e:ps=true) (X:World) (hX:Smy X (.slice a0 m.rm.length p0) (.slice a1 m.gd.length p1) (.slice (some ⟨sb,off,none⟩) m.sm.length p2) (.slice a3 m.dk.length p3) (.slice a4 m.pc.length p4) m)=>U9 (Z8 m.sm k).2.1 hX.rm (by
   have h9:=uh HA1 e;obtain ⟨j9,e9⟩:∃ j:Nat,(Z8 m.sm k).2.1=(j:Int):=⟨(Z8 m.sm k).2.1.toNat,by omega⟩
   rw [e9]
   exact (uh HSa).bench (by omega)))
  have HFv:Hid (ps=true->Vq (ZQ m.rm (Xr m.rm (Z8 m.sm k).2.1)).2=Zd m.rm (Z8 m.sm k).2.1):=Z9 (fun e=>(Tc (by
   have h9:=uh HA1 e;obtain ⟨j9,e9⟩:∃ j:Nat,(Z8 m.sm k).2.1=(j:Int):=⟨(Z8 m.sm k).2.1.toNat,by omega⟩
   rw [e9]
   exact (uh HSa).bench (by omega))).symm)
  have Hmy:=Z9 (fun (e:ps=true)=>(uh HA1 e).2.2.2.2);obtain ⟨⟨st,be,rk,my,gu,lo,hi,hd,ca,ut,wk⟩,hrk⟩:∃ d,Z8 m.sm k=d:=⟨_,rfl⟩
  rw [hrk] at d0 d1 d2 d3 d4 d5 d6 d7 d8 d9 d10 hps hfi Hfo HFv;simp only at d0 d1 d2 d3 d4 d5 d6 d7 d8 d9 d10 hfi Hfo HFv;have Hps:=Z9 hps;have Hfi:=Z9 hfi;have Hrk:=Z9 hrk;clear hps hfi hrk HMB HP0;have hsbw:sb<w1.heap.size:=hbw;obtain ⟨c0,c1,c2,c3,c4,c5⟩:=(uh kb).c6;go_upto_region 5 with fail;clear d0 d1 d2 d3 d4 d5 d6 d7 d8 d9 d10 c0 c1 c2 c3 c4 c5;obtain ⟨WQ,hWQ,hba,ks⟩:=YP w1 40 (I11 st be rk my gu lo hi hd ca ut wk);replace Hv:=Z9 ((uh Hv).below hba);replace kb:=bl kb hba;replace BB:=bt BB hba;clear hba hsbw hbw;rw [hWQ];clear hWQ;generalize w1.heap.size=sx at *;obtain ⟨c0,c1,c2,c3,c4,c5⟩:=(uh kb).c6;have y0:=Z2 c0;have y1:=Z2 c1;have y2:=Z2 c2;have y3:=Z2 c3;have y4:=Z2 c4;have y5:=Z2 c5;have s0:=Z2 ((uh ks).cell (i:=0) (v:= .int .i64 st) rfl);have s1:=Z2 ((uh ks).cell (i:=1) (v:= .int .i64 be) rfl);have s2:=Z2 ((uh ks).cell (i:=2) (v:= .int .i64 rk) rfl);have s3:=Z2 ((uh ks).cell (i:=3) (v:= .int .i64 my) rfl);have s4:=Z2 ((uh ks).cell (i:=4) (v:= .int .i64 gu) rfl);have s5:=Z2 ((uh ks).cell (i:=5) (v:= .int .i64 lo) rfl);have s6:=Z2 ((uh ks).cell (i:=6) (v:= .int .i64 hi) rfl);have s7:=Z2 ((uh ks).cell (i:=7) (v:= .int .i64 hd) rfl);have s8:=Z2 ((uh ks).cell (i:=8) (v:= .int .i64 ca) rfl);have s9:=Z2 ((uh ks).cell (i:=9) (v:= .int .i64 ut) rfl);have s10:=Z2 ((uh ks).cell (i:=10) (v:= .int .i64 wk) rfl);have H1:=Z9 (fun (X:World)=>Yv (uh Hps) X);cases ps
  ·have hm0:PM m k=none:=by unfold PM;rw [uh HM2];rfl
   have Hm0:=Z9 hm0;clear hm0;go_wp2_with fail;refine wq ?_
   repeat (go_big_quiet_step (first | exact ZY (uh H1 _)))
   refine wqn fun W9 hb=> ?_;replace Hv:=Z9 ((uh Hv).below hb);replace kb:=bl kb hb;replace BB:=bt BB hb;clear hb;go_wp2_with fail;go_roundw
   case rel=>exact ⟨k+1,by omega,by go_num,by rw [uh HN none (uh Hm0)];rfl,uh kb,uh Hv,uh BB⟩
   case measure=>exact ms
  have H2:=Z9 (fun (X:World) (hX:Below WQ.heap.size WQ X)=>uh Hwa rfl X ((uh Hv).below hX));have H3:=Z9 (fun (X:World) (hX:Below WQ.heap.size WQ X)=>uh Hfo rfl X ((uh Hv).below hX));rw [uh HFv rfl] at H3;have H4:=Z9 (fun (X:World)=>Calls.bool_of (Calls.same_below (Ur (Zs m (k:Int)) 0 (Zd m.rm be) X)) (uh Hfi));have Hmy2:=Z9 (uh Hmy rfl);obtain ⟨wa,hwa⟩:∃ q,Zs m (k:Int)=q:=⟨_,rfl⟩
  obtain ⟨fo,hfo⟩:∃ q,Zd m.rm be=q:=⟨_,rfl⟩
  have HWb:=Z9 (fun (X:World) (hX:Smy X (.slice a0 m.rm.length p0) (.slice a1 m.gd.length p1) (.slice (some ⟨sb,off,none⟩) m.sm.length p2) (.slice a3 m.dk.length p3) (.slice a4 m.pc.length p4) m)=>uh Hwa rfl X hX);rw [hwa] at H2 H4 HWb;rw [hfo] at H3 H4;have HWa:=Z9 hwa;clear hwa hfo Hwa Hfo HFv Hmy;cases fi;rotate_left
  ·have hm0:PM m k=none:=by unfold PM;rw [uh HM2];rfl
   have Hm0:=Z9 hm0;clear hm0;go_wp2_with fail;refine wq ?_
   repeat (go_big_quiet_step (first | exact ZY (uh H1 _) | exact ZY (uh H2 _ (Z0 _ _ _)) | exact ZY (uh H3 _ (Z0 _ _ _)) | exact ZY (uh H4 _)))
   refine wqn fun W9 hb=> ?_;replace Hv:=Z9 ((uh Hv).below hb);replace kb:=bl kb hb;replace BB:=bt BB hb;clear hb;go_wp2_with fail;go_roundw
   case rel=>exact ⟨k+1,by omega,by go_num,by rw [uh HN none (uh Hm0)];rfl,uh kb,uh Hv,uh BB⟩
   case measure=>exact ms
  have HMA:Hid (PM m k=Vn m k m.dk.length):=Z9 (by unfold PM;rw [uh HM2];rfl);go_wp2_with fail;refine wq ?_
  repeat (go_big_quiet_step (first | exact ZY (uh H1 _) | exact ZY (uh H2 _ (Z0 _ _ _)) | exact ZY (uh H3 _ (Z0 _ _ _)) | exact ZY (uh H4 _)))
  refine wqn fun W9 hb=> ?_;replace Hv:=Z9 ((uh Hv).below hb);replace kb:=bl kb hb;replace BB:=bt BB hb;clear hb c0 c1 c2 c3 c4 c5 s0 s1 s2 s3 s4 s5 s6 s7 s8 s9 s10 y0 y1 y2 y3 y4 y5 H1 H2 H3 H4 ks;go_wp2_with fail
  go_loopw [7] (fun i wr=> ∃ j:Nat,j<=m.dk.length/\i= .int .i64 j/\Vn m k j=none/\Blk wr w.heap.size 32 #[.slice a0 m.rm.length p0,.slice a1 m.gd.length p1,.slice (some ⟨sb,off,none⟩) m.sm.length p2,.slice a3 m.dk.length p3,.slice a4 m.pc.length p4,.int .i64 m.now]/\Smy wr (.slice a0 m.rm.length p0) (.slice a1 m.gd.length p1) (.slice (some ⟨sb,off,none⟩) m.sm.length p2) (.slice a3 m.dk.length p3) (.slice a4 m.pc.length p4) m/\Below w.heap.size w wr) (fun i _=>m.dk.length-(intOf i).toNat)
  case atStart=>exact ⟨0,Zz _,rfl,rfl,uh kb,uh Hv,uh BB⟩
  case round=>
   obtain ⟨j,hj,rfl,hno2,hkb,hv,hb0⟩:=hrel;have Hno2:=Z9 hno2;obtain ⟨WQ,rfl⟩:∃ x,x=wr:=⟨wr,rfl⟩
   clear hno2 kb Hv BB;have kb:=Z9 hkb;have Hv:=Z9 hv;have BB:=Z9 hb0;clear hkb hv hb0;obtain ⟨c0,c1,c2,c3,c4,c5⟩:=(uh kb).c6;by_cases hlj:j<m.dk.length;rotate_left
   ·have hlj1:¬ ((j:Int)<(m.dk.length:Int)):=by omega
    obtain rfl:j=m.dk.length:=by omega
    go_wp2_with fail;go_roundw
    case rel=>exact ⟨k+1,by omega,by go_num,by rw [uh HN none (by rw [uh HMA];exact uh Hno2)];rfl,uh kb,uh Hv,uh BB⟩
    case measure=>exact ms
   have hlj1:(j:Int)<(m.dk.length:Int):=by omega
   have HS:Hid (∀ q,Mb m k j=q->Vn m k (j+1)=if q then some j else none):=Z9 (fun q e=>by unfold Vn;rw [uh Hno2,e]);obtain ⟨qi,hqi⟩:∃ q,VG m j=q:=⟨_,rfl⟩
   obtain ⟨qm,hqm⟩:∃ q,YH m (k:Int) j=q:=⟨_,rfl⟩
   obtain ⟨qf,hqf⟩:∃ q,Wk wa 0 (Zd m.rm (j:Int))=q:=⟨_,rfl⟩
   have HB2:Hid (Mb m k j=(qi && (qm && qf))):=Z9 (by unfold Mb;rw [hqi,hqm,uh HWa,hqf]);have hfov:=Tc ((uh HSa).bench hlj);have H1:=Z9 (fun (X:World) (hX:Below WQ.heap.size WQ X)=>Calls.bool_of (Oo ((uh Hv).below hX) hlj (by omega)) hqi);have H2:=Z9 (fun (X:World) (hX:Below WQ.heap.size WQ X)=>Calls.bool_of (SC ((uh Hv).below hX) hlt hlj (by omega) (uh Hmy2).1 (uh Hmy2).2) hqm);have H3:=Z9 (fun (X:World) (hX:Below WQ.heap.size WQ X)=>uh HWb X ((uh Hv).below hX));have H4:=Z9 (fun (X:World) (hX:Below WQ.heap.size WQ X)=>U9 (j:Int) ((uh Hv).below hX).rm ((uh HSa).bench hlj));rw [<-hfov] at H4;have H5:=Z9 (fun (X:World)=>Calls.bool_of (Calls.same_below (Ur wa 0 (Zd m.rm (j:Int)) X)) hqf);clear hqi hqm hqf hfov;generalize Zd m.rm (j:Int)=fj at *;have y0:=Z2 c0;have y1:=Z2 c1;have y2:=Z2 c2;have y3:=Z2 c3;have y4:=Z2 c4;have y5:=Z2 c5;cases qi
   ·go_wp2_with fail
    refine wq ?_
    repeat (go_big_quiet_step (first | exact ZY (uh H1 _ (Z0 _ _ _)) | exact ZY (uh H2 _ (Z0 _ _ _)) | exact ZY (uh H3 _ (Z0 _ _ _)) | exact ZY (uh H4 _ (Z0 _ _ _)) | exact ZY (uh H5 _)))
    refine wqn fun W9 hb=> ?_;replace Hv:=Z9 ((uh Hv).below hb);replace kb:=bl kb hb;replace BB:=bt BB hb;clear hb;go_wp2_with fail;go_roundw
    case rel=>exact ⟨j+1,by omega,by go_num,by rw [uh HS _ (uh HB2)];rfl,uh kb,uh Hv,uh BB⟩
    case measure=>exact ms
   cases qm
   ·go_wp2_with fail
    refine wq ?_
    repeat (go_big_quiet_step (first | exact ZY (uh H1 _ (Z0 _ _ _)) | exact ZY (uh H2 _ (Z0 _ _ _)) | exact ZY (uh H3 _ (Z0 _ _ _)) | exact ZY (uh H4 _ (Z0 _ _ _)) | exact ZY (uh H5 _)))
    refine wqn fun W9 hb=> ?_;replace Hv:=Z9 ((uh Hv).below hb);replace kb:=bl kb hb;replace BB:=bt BB hb;clear hb;go_wp2_with fail;go_roundw
    case rel=>exact ⟨j+1,by omega,by go_num,by rw [uh HS _ (uh HB2)];rfl,uh kb,uh Hv,uh BB⟩
    case measure=>exact ms
   cases qf
   ·go_wp2_with fail
    refine wq ?_
    repeat (go_big_quiet_step (first | exact ZY (uh H1 _ (Z0 _ _ _)) | exact ZY (uh H2 _ (Z0 _ _ _)) | exact ZY (uh H3 _ (Z0 _ _ _)) | exact ZY (uh H4 _ (Z0 _ _ _)) | exact ZY (uh H5 _)))
    refine wqn fun W9 hb=> ?_;replace Hv:=Z9 ((uh Hv).below hb);replace kb:=bl kb hb;replace BB:=bt BB hb;clear hb;go_wp2_with fail;go_roundw
    case rel=>exact ⟨j+1,by omega,by go_num,by rw [uh HS _ (uh HB2)];rfl,uh kb,uh Hv,uh BB⟩
    case measure=>exact ms
   go_wp2_with fail;refine wq ?_
   repeat (go_big_quiet_step (first | exact ZY (uh H1 _ (Z0 _ _ _)) | exact ZY (uh H2 _ (Z0 _ _ _)) | exact ZY (uh H3 _ (Z0 _ _ _)) | exact ZY (uh H4 _ (Z0 _ _ _)) | exact ZY (uh H5 _)))
   refine wqn fun W9 hb=> ?_;replace Hv:=Z9 ((uh Hv).below hb);replace kb:=bl kb hb;replace BB:=bt BB hb;clear hb
   have HR:Hid (tv= .tuple #[.int .i64 (k:Int),.int .i64 (j:Int),.bool true]):=Z9 (by
    rw [uh HW,AO (k:=k+1) (w:=k) (b:=j) (by rw [uh HN (some j) (by rw [uh HMA];exact Cd (k:=j+1) (by rw [uh HS _ (uh HB2)];rfl) (by omega))];rfl) (by omega)]
    rfl)
   obtain rfl:=uh HR;go_wp2_with fail;refine ZS (v:= .tuple #[.int .i64 (k:Int),.int .i64 (j:Int),.bool true]) (by simp [results,Tryz.results283,go_sem]) rfl ⟨rfl,uh BB⟩
set_option maxRecDepth 100000
theorem N8  (h:Smy w v0 v1 v2 v3 v4 m) :
  Calls Tryz.prog 284 #[.agg #[v0,v1,v2,v3,v4,.int .i64 m.now]] w fun e w'=>e= .returned (CX (Vg m))/\Below w.heap.size w w':=by
 have Hv0:=Z9 (h.alloc (.cells #[v0,v1,v2,v3,v4,.int .i64 m.now] 32));obtain ⟨a0,p0,a1,p1,a2,p2,a3,p3,a4,p4,rfl,rfl,rfl,rfl,rfl,_,_,_,_,_,_,_,_,_,_⟩:=h.five;clear h;obtain ⟨BB0,kb0⟩:=V7 w 32 (S6 a0 p0 a1 p1 a2 p2 a3 p3 a4 p4 m);obtain ⟨tv,htv⟩:∃ t,CX (Vg m)=t:=⟨_,rfl⟩
 rw [htv];obtain ⟨ok,hok⟩:∃ q,ZJ m=q:=⟨_,rfl⟩
 have Hok:=Z9 hok;have HT:=Z9 htv;clear hok htv;cases ok
 ·obtain rfl:tv= .tuple #[.int .i64 0,.int .i64 0,.bool false]:=by rw [<-uh HT];unfold Vg;rw [uh Hok];rfl
  go_enter Tryz.func284,Tryz.ntmps284;go_wp2_with fail
  go_loopw [5] (fun i wr=>i= .int .i64 0/\Blk wr w.heap.size 32 (S6 a0 p0 a1 p1 a2 p2 a3 p3 a4 p4 m)/\Smy wr (.slice a0 m.rm.length p0) (.slice a1 m.gd.length p1) (.slice a2 m.sm.length p2) (.slice a3 m.dk.length p3) (.slice a4 m.pc.length p4) m/\Below w.heap.size w wr) (fun _ _=>1)
  case atStart=>exact ⟨rfl,uh kb0,uh Hv0,uh BB0⟩
  case round=>
   obtain ⟨rfl,hkb,hv,hb0⟩:=hrel;have kb:=Z9 hkb;have Hv:=Z9 hv;have BB:=Z9 hb0;clear hkb hv hb0 kb0 Hv0 BB0;obtain ⟨c0,c1,c2,c3,c4,c5⟩:=(uh kb).c6;by_cases hlt:0<m.dk.length
   ·have hlt1:(0:Int)<(m.dk.length:Int):=by omega
    go_wp2_with fail;refine ck (Xt (uh Hok) (uh Hv)) fun w1 hb=> ?_;replace BB:=bt BB hb;clear hb;go_wp2_with fail;refine ZS (v:= .tuple #[.int .i64 0,.int .i64 0,.bool false]) (by simp [results,Tryz.results284,go_sem]) rfl ⟨rfl,uh BB⟩
   ·have hlt1:¬ ((0:Int)<(m.dk.length:Int)):=by omega
    go_wp2_with fail;refine ZS (v:= .tuple #[.int .i64 0,.int .i64 0,.bool false]) (by simp [results,Tryz.results284,go_sem]) rfl ⟨rfl,uh BB⟩
 have hlo:=ZR (uh Hok);have HLo:=Z9 hlo;have h12:=YS hlo;have h8:=Xi hlo;clear hlo;have HW:Hid (tv=CX (Wg m m.dk.length)):=Z9 (by rw [<-uh HT];unfold Vg;rw [uh Hok];rfl);clear HT;go_enter Tryz.func284,Tryz.ntmps284;go_wp2_with fail
 go_loopw [5] (fun i wr=> ∃ k:Nat,k<=m.dk.length/\i= .int .i64 k/\Wg m k=none/\Blk wr w.heap.size 32 (S6 a0 p0 a1 p1 a2 p2 a3 p3 a4 p4 m)/\Smy wr (.slice a0 m.rm.length p0) (.slice a1 m.gd.length p1) (.slice a2 m.sm.length p2) (.slice a3 m.dk.length p3) (.slice a4 m.pc.length p4) m/\Below w.heap.size w wr) (fun i _=>m.dk.length-(intOf i).toNat)
 case atStart=>exact ⟨0,Zz _,rfl,rfl,uh kb0,uh Hv0,uh BB0⟩
 case round=>
  obtain ⟨k,hk,rfl,hno,hkb,hv,hb0⟩:=hrel;have Hno:=Z9 hno;clear hno;have kb:=Z9 hkb;have Hv:=Z9 hv;have BB:=Z9 hb0;clear hkb hv hb0;clear kb0 Hv0 BB0;obtain ⟨c0,c1,c2,c3,c4,c5⟩:=(uh kb).c6;by_cases hlt:k<m.dk.length;rotate_left
  ·have hlt1:¬ ((k:Int)<(m.dk.length:Int)):=by omega
   obtain rfl:k=m.dk.length:=by omega
   obtain rfl:tv= .tuple #[.int .i64 0,.int .i64 0,.bool false]:=by rw [uh HW,uh Hno];rfl
   go_wp2_with fail;refine ZS (v:= .tuple #[.int .i64 0,.int .i64 0,.bool false]) (by simp [results,Tryz.results284,go_sem]) rfl ⟨rfl,uh BB⟩
  have hlt1:(k:Int)<(m.dk.length:Int):=by omega
  go_wp2_with fail;refine ck (Xt (uh Hok) (uh Hv)) fun w1 hb=> ?_;replace Hv:=Z9 ((uh Hv).below hb);replace kb:=bl kb hb;replace BB:=bt BB hb;clear hb c0 c1 c2 c3 c4 c5;obtain ⟨qi,hqi⟩:∃ q,VG m k=q:=⟨_,rfl⟩
  have Hqi:=Z9 hqi;clear hqi;have HN:Hid (∀ w9,Pq m k=w9->Wg m (k+1)=w9.map fun x=>(x,k)):=Z9 (fun w9 e=>by unfold Wg;rw [uh Hno,e]);obtain ⟨c0,c1,c2,c3,c4,c5⟩:=(uh kb).c6;go_wp2_with fail;refine (Oo (uh Hv) hlt (by omega)).mono ?_;rw [uh Hqi];rintro e w2 ⟨rfl,hb⟩;replace Hv:=Z9 ((uh Hv).below hb);replace kb:=bl kb hb;replace BB:=bt BB hb;clear hb c0 c1 c2 c3 c4 c5;cases qi
  ·go_wp2_with fail
   go_roundw
   case rel=>exact ⟨k+1,by omega,by go_num,by rw [uh HN none (by unfold Pq;rw [uh Hqi];rfl)];rfl,uh kb,uh Hv,uh BB⟩
   case measure=>exact ms
  go_wp2_with fail
  go_loopw [6] (fun i wr=> ∃ j:Nat,j<=m.sm.length/\i= .int .i64 j/\U2 m k j=none/\Blk wr w.heap.size 32 (S6 a0 p0 a1 p1 a2 p2 a3 p3 a4 p4 m)/\Smy wr (.slice a0 m.rm.length p0) (.slice a1 m.gd.length p1) (.slice a2 m.sm.length p2) (.slice a3 m.dk.length p3) (.slice a4 m.pc.length p4) m/\Below w.heap.size w wr) (fun i _=>m.sm.length-(intOf i).toNat)
  case atStart=>exact ⟨0,Zz _,rfl,rfl,uh kb,uh Hv,uh BB⟩
  case round=>
   obtain ⟨j,hj,rfl,hno2,hkb,hv,hb0⟩:=hrel;have Hno2:=Z9 hno2;clear hno2 kb Hv BB;have kb:=Z9 hkb;have Hv:=Z9 hv;have BB:=Z9 hb0;clear hkb hv hb0;obtain ⟨c0,c1,c2,c3,c4,c5⟩:=(uh kb).c6;by_cases hlj:j<m.sm.length;rotate_left
   ·have hlj1:¬ ((j:Int)<(m.sm.length:Int)):=by omega
    obtain rfl:j=m.sm.length:=by omega
    go_wp2_with fail;go_roundw
    case rel=>exact ⟨k+1,by omega,by go_num,by rw [uh HN none (by unfold Pq;rw [uh Hqi];exact uh Hno2)];rfl,uh kb,uh Hv,uh BB⟩
    case measure=>exact ms
   have hlj1:(j:Int)<(m.sm.length:Int):=by omega
   have HS:Hid (∀ q,OG m j k=q->U2 m k (j+1)=if q then some j else none):=Z9 (fun q e=>by unfold U2;rw [uh Hno2,e]);have HB:Hid (OG m j k=((Z8 m.sm j).1 ==2 && YH m (j:Int) k)):=Z9 rfl;obtain ⟨_,_,hse,_,_,r2⟩:=(uh Hv).sm;cases hse
   rcases r2 with e0 | ⟨sb,off,rfl,hbw,hcl⟩
   ·rw [e0] at hlj;simp at hlj
   obtain ⟨d0,_⟩:=ZA hcl hlj;clear hcl;obtain ⟨st,hst⟩:∃ q,(Z8 m.sm j).1=q:=⟨_,rfl⟩
   rw [hst] at d0;by_cases h2:st=2;rotate_left
   ·have hn2:(st ==2)=false:=by simpa using h2
    have HB2:Hid (OG m j k=false):=Z9 (by rw [uh HB,hst,hn2];rfl);clear hst;go_wp2_with fail;go_roundw
    case rel=>exact ⟨j+1,by omega,by go_num,by rw [uh HS _ (uh HB2)];rfl,uh kb,uh Hv,uh BB⟩
    case measure=>exact ms
   subst h2;have hlim:=(uh HLo).limits hlj (by rw [hst];omega)
   have hmy:0<=(Z8 m.sm j).2.2.2.1/\(Z8 m.sm j).2.2.2.1<=255:=by
    have hp:=hlim.1;generalize Z8 m.sm j=s at *;obtain ⟨st,be,rk,my,gu,lo',hi',hd,ca,ut,wk⟩:=s;have:=(Zo hp).2.2.2.1;exact ⟨by show 0<=my;omega,this.2⟩
   obtain ⟨qm,hqm⟩:∃ q,YH m (j:Int) k=q:=⟨_,rfl⟩
   have Hqm:=Z9 hqm;have HB2:Hid (OG m j k=qm):=Z9 (by rw [uh HB,hst,hqm];rfl);have HM:=Z9 (fun (X:World) (hX:Smy X (.slice a0 m.rm.length p0) (.slice a1 m.gd.length p1) (.slice (some ⟨sb,off,none⟩) m.sm.length p2) (.slice a3 m.dk.length p3) (.slice a4 m.pc.length p4) m)=>SC hX hlj hlt (by omega) hmy.1 hmy.2);clear hst hlim hmy hqm;go_wp2_with fail;refine (uh HM _ (uh Hv)).mono ?_;rw [uh Hqm];rintro e w3 ⟨rfl,hb⟩;replace Hv:=Z9 ((uh Hv).below hb);replace kb:=bl kb hb;replace BB:=bt BB hb;clear hb c0 c1 c2 c3 c4 c5 d0 HM;cases qm
   ·go_wp2_with fail
    go_roundw
    case rel=>exact ⟨j+1,by omega,by go_num,by rw [uh HS _ (uh HB2)];rfl,uh kb,uh Hv,uh BB⟩
    case measure=>exact ms
   have HR:Hid (tv= .tuple #[.int .i64 (j:Int),.int .i64 (k:Int),.bool true]):=Z9 (by
    rw [uh HW,FE (k:=k+1) (w:=j) (b:=k) (by rw [uh HN (some j) (by unfold Pq;rw [uh Hqi];exact C8 (k:=j+1) (by rw [uh HS _ (uh HB2)];rfl) (by omega))];rfl) (by omega)]
    rfl)
   obtain rfl:=uh HR;go_wp2_with fail;refine ZS (v:= .tuple #[.int .i64 (j:Int),.int .i64 (k:Int),.bool true]) (by simp [results,Tryz.results284,go_sem]) rfl ⟨rfl,uh BB⟩
def zn (n₀:Nat) (M:Z6) (e:Ending) (w':World):Prop:=
 ∃ u0 u1 u2 u3 u4 qs,e= .returned (.agg #[u0,u1,u2,u3,u4,.int .i64 M.now])/\FullSmy n₀ w' u0 u1 u2 u3 u4 M qs
theorem Pj  (h:Smy w v0 v1 v2 v3 v4 m) :
  Calls Tryz.prog 257 #[.agg #[v0,v1,v2,v3,v4,.int .i64 m.now]] w fun e w'=>zn w.heap.size (VT m) e w'/\Below w.heap.size w w':=by
 obtain ⟨X,hX⟩:∃ x,VT m=x:=⟨_,rfl⟩
 rw [hX];have HX:=Z9 hX;clear hX;have Hv0:=Z9 h;obtain ⟨a0,p0,a1,p1,a2,p2,a3,p3,a4,p4,rfl,rfl,rfl,rfl,rfl,_,_,_,_,_,_,_,_,_,_⟩:=h.five;clear h;obtain ⟨ok,hok⟩:∃ q,ZJ m=q:=⟨_,rfl⟩
 have Hok:=Z9 hok;clear hok;go_enter Tryz.func257,Tryz.ntmps257;go_wp2_with fail;obtain ⟨W,hW,kb,kr,BB⟩:=YD w 32 (S6 a0 p0 a1 p1 a2 p2 a3 p3 a4 p4 m) 32 E6;have Hv:=Z9 ((uh Hv0).below (uh BB));clear Hv0;rw [hW];clear hW;refine ck (Xt (uh Hok) (uh Hv)) fun w1 hb=> ?_;replace kb:=bl kb hb;replace kr:=bl kr hb;replace Hv:=Z9 ((uh Hv).below hb);replace BB:=bt BB hb;clear hb;cases ok
 ·
  obtain ⟨o0,o1,o2,o3,o4,o5⟩:=(uh kr).c6;obtain ⟨f0,f1,f2,f3,f4,f5⟩:=(uh kr).f6;go_wp2_with fail;have hX0:X=Ye:=by rw [<-uh HX];unfold VT;rw [uh Hok];rfl
  refine ZS (v:= .agg E6) (by simp [results,Tryz.results257,go_sem, *]) rfl ⟨?_,?_⟩
  ·rw [hX0];exact ⟨_,_,_,_,_,[],rfl,YM _ _⟩
  ·iterate 6 (refine YO ?_ (by show _<=w.heap.size+1;omega) _)
   exact uh BB
 have hlo:=ZR (uh Hok);have HLo:=Z9 hlo;have HFew:=Z9 (Xn hlo);clear hlo;obtain ⟨c0,c1,c2,c3,c4,c5⟩:=(uh kb).c6;go_wp2_with fail;clear c0 c1 c2 c3 c4 c5;have hWs:w.heap.size+2<=w1.heap.size:=by have:=(uh kr).lt;omega
 refine (XR (uh Hv) (uh HFew)).mono ?_;rintro e w2 ⟨y0,y1,y2,y3,y4,oq,rfl,ho,hb⟩;have k9:=ho.smy;obtain ⟨b0,q0,b1,q1,b2,q2,b3,q3,b4,q4,rfl,rfl,rfl,rfl,rfl,_,_,_,_,_,_,_,_,_,_⟩:=k9.five;clear k9;replace kb:=bl kb hb;replace kr:=bl kr hb;replace Hv:=Z9 ((uh Hv).below hb);replace BB:=bt BB hb;have HO:=Z9 (ho.mono hWs);have LO:Hid (∀ k,Wa (.slice b0 m.rm.length q0) (.slice b1 m.gd.length q1) (.slice b2 m.sm.length q2) (.slice b3 m.dk.length q3) (.slice b4 m.pc.length q4) oq k->w.heap.size+2<=k/\k<w2.heap.size):=Z9 (fun k e=>(uh HO).own e);have hsz9:=hb.size;clear ho hb;go_upto_region 4 with fail;obtain ⟨W2,hW2,hba,ko⟩:=YP w2 32 (S6 b0 q0 b1 q1 b2 q2 b3 q3 b4 q4 m);replace kb:=bl kb hba;replace kr:=bl kr hba;replace Hv:=Z9 ((uh Hv).below hba);replace HO:=Z9 ((uh HO).below hba);replace BB:=bt BB hba;have hob:w.heap.size+2<=w2.heap.size:=XO hWs hsz9;clear hba hsz9 hWs;rw [hW2];clear hW2;generalize w2.heap.size=ob at *;have HX2:Hid (TH m=X):=Z9 (by rw [<-uh HX];unfold VT;rw [uh Hok];rfl);have hofR:∀ k,Wa (.slice b0 m.rm.length q0) (.slice b1 m.gd.length q1) (.slice b2 m.sm.length q2) (.slice b3 m.dk.length q3) (.slice b4 m.pc.length q4) oq k->k ≠ ob:=fun k e=>by have:=(uh LO k e).2;omega
 have H2:Hid ((Value.slice b2 m.sm.length q2).ownBlock ≠ some ob):=Z9 (fun e=>hofR _ (.inr (.inr (.inr (.inl e)))) rfl);have H3:Hid ((Value.slice b3 m.dk.length q3).ownBlock ≠ some ob):=Z9 (fun e=>hofR _ (.inr (.inr (.inr (.inr (.inl e))))) rfl);clear hofR;go_wp2_with fail
 go_loopg [4] (Sa m+1) (fun k i wr=> ∃ (M:Z6) (more:Bool),i= .bool more/\k=(if more=true then Sa M+1 else 0)/\ZJ M=true/\M.now=m.now/\TH M=TH m/\(more=false->Uk M=none)/\FullSmy (w.heap.size+2) wr (.slice b0 m.rm.length q0) (.slice b1 m.gd.length q1) (.slice b2 m.sm.length q2) (.slice b3 m.dk.length q3) (.slice b4 m.pc.length q4) M oq/\Two (Value.slice b2 m.sm.length q2).ownBlock (Value.slice b3 m.dk.length q3).ownBlock W2 wr)
 case atStart=>exact ⟨m,true,rfl,rfl,uh Hok,rfl,rfl,(fun e=>by cases e),uh HO,Two.refl _ _ _⟩
 case round=>
  obtain ⟨M,more,rfl,hgk,hsm,hnow,hlv,hno,hf1,htw⟩:=hrel;have HF1:=Z9 hf1;have Tw:=Z9 htw;have Hsm:=Z9 hsm;have Hnow:=Z9 hnow;have Hlv:=Z9 hlv;have Hno:=Z9 hno;replace ko:=Z9 ((uh ko).two htw (uh H2) (uh H3));clear hf1 htw hsm hnow hlv hno;cases more
  ·
   clear hgk;replace kr:=Z9 ((uh kr).two (uh Tw) (fun e=>by have:=(uh LO _ (.inr (.inr (.inr (.inl e))))).1;omega) (fun e=>by have:=(uh LO _ (.inr (.inr (.inr (.inr (.inl e)))))).1;omega));replace BB:=Z9 ((uh BB).trans ((uh Tw).below (uh BB).size (fun k e=>by have:=(uh LO k (.inr (.inr (.inr (.inl e))))).1;omega) (fun k e=>by have:=(uh LO k (.inr (.inr (.inr (.inr (.inl e)))))).1;omega)));obtain ⟨x0,x1,x2,x3,x4,x5⟩:=(uh ko).c6;obtain ⟨o0,o1,o2,o3,o4,o5⟩:=(uh kr).c6;obtain ⟨f0,f1,f2,f3,f4,f5⟩:=(uh kr).f6;go_wp2_with fail;have hX0:X=M:=by rw [<-uh HX2,<-uh Hlv];exact GL (uh Hno (by trivial))
   refine ZS (v:= .agg (S6 b0 q0 b1 q1 b2 q2 b3 q3 b4 q4 m)) (by simp [results,Tryz.results257,go_sem, *]) rfl ⟨?_,?_⟩
   ·rw [hX0];refine ⟨_,_,_,_,_,oq,by rw [uh Hnow],?_⟩
    iterate 6 (refine FullSmy.set_off ?_ (fun k e=>by have:=(uh LO k e).1;omega) _ _)
    exact (uh HF1).mono (by omega)
   ·iterate 6 (refine YO ?_ (by show _<=w.heap.size+1;omega) _)
    exact uh BB
  simp only [if_true] at hgk;subst hgk;clear Hno;obtain ⟨mi,hmi⟩:∃ q,UJ M=q:=⟨_,rfl⟩
  have hc:=Nc (uh HF1).smy;rw [uh Hnow] at hc;have Hc:=Z9 hc;clear hc;rw [hmi] at Hc;have Hmi:=Z9 hmi;clear hmi;obtain ⟨x0,x1,x2,x3,x4,x5⟩:=(uh ko).c6;cases mi with
  | some r=>
   obtain ⟨wh,bb⟩:=r;have Hc2:Hid (Calls Tryz.prog 283 #[.agg (S6 b0 q0 b1 q1 b2 q2 b3 q3 b4 q4 m)] wr fun e w'=>e= .returned (.tuple #[.int .i64 (wh:Int),.int .i64 (bb:Int),.bool true])/\Below wr.heap.size wr w'):=Hc;clear Hc;have Hc:=Hc2;clear Hc2;go_wp2_with fail;clear x0 x1 x2 x3 x4 x5;refine ck (uh Hc) fun w5 hb=> ?_;replace HF1:=Z9 ((uh HF1).below hb);replace ko:=bl ko hb;replace Tw:=Z9 ((uh Tw).trans (Two.of_below hb));clear hb Hc;have hmv:Uk M=some (wh,bb):=by unfold Uk;rw [uh Hmi]
   have mv:=RL hmv;have Hmv:=Z9 hmv;obtain ⟨a0',a1',_⟩:=(ZR (uh Hsm)).at mv.who mv.pres;obtain ⟨bn,hbn⟩:∃ bn:Nat,(Z8 M.sm wh).2.1=(bn:Int):=⟨(Z8 M.sm wh).2.1.toNat,by omega⟩
   have Hbn:=Z9 hbn;have hbl:bn<M.dk.length:=by omega
   have Mv:=Z9 mv;have Hbl:=Z9 hbl;clear hmv hbn hbl a0' a1' mv;have k8:Hid (Blk w5 ob 32 #[.slice b0 m.rm.length q0,.slice b1 m.gd.length q1,.slice b2 m.sm.length q2,.slice b3 m.dk.length q3,.slice b4 m.pc.length q4,.int .i64 M.now]):=Z9 (by rw [uh Hnow];exact uh ko);go_wp2_with fail;refine (Ug (m:=M) (k:=wh) (bn:=bn) (b:=bb) (uh k8) (uh HF1) (uh H2) (uh H3) (uh Mv).who (uh Hbn) (uh Hbl) (uh Mv).bench).mono ?_;rintro e w7 ⟨rfl,hf7,ht7⟩;have k7:Hid (Blk w7 ob 32 #[.slice b0 m.rm.length q0,.slice b1 m.gd.length q1,.slice b2 m.sm.length q2,.slice b3 m.dk.length q3,.slice b4 m.pc.length q4,.int .i64 M.now]):=Z9 ((uh k8).two ht7 (uh H2) (uh H3));have HF7:=Z9 hf7;have T7:=Z9 ((uh Tw).trans ht7);clear hf7 ht7 k8;have h12:=YS (ZR (uh Hsm));have h8:=(ZR (uh Hsm)).sane.eight;have hl12:(TJ M wh bb).sm.length<=800:=by rw [Un];omega
   have hd8:(TJ M wh bb).dk.length<=1000:=by show M.dk.length<=1000;omega
   have Hl12:=Z9 hl12;have Hd8:=Z9 hd8;clear h12 h8 hl12 hd8;go_wp2_with fail;refine (RC (m:=TJ M wh bb) (uh k7) (uh HF7) (uh H2) (uh H3) (uh Hl12) (uh Hd8)).mono ?_;rintro e w8 ⟨rfl,hf8,ht8⟩;have HF8:=Z9 hf8;have T8:=Z9 ((uh T7).trans ht8);clear hf8 ht8;go_wp2_with fail
   go_roundg (Sa (Ul M wh bb)+1)
   case measure=>have:=(uh Mv).falls;omega
   case rel=>exact ⟨Ul M wh bb,true,rfl,rfl,(uh Mv).keeps,((ZH _ _).2.2.2.1).trans (uh Hnow),(Kg (uh Hmv)).symm.trans (uh Hlv),(fun e=>by cases e),uh HF8,uh T8⟩
  | none=>
   have Hc2:Hid (Calls Tryz.prog 283 #[.agg (S6 b0 q0 b1 q1 b2 q2 b3 q3 b4 q4 m)] wr fun e w'=>e= .returned (.tuple #[.int .i64 0,.int .i64 0,.bool false])/\Below wr.heap.size wr w'):=Hc;clear Hc;have Hc:=Hc2;clear Hc2;go_wp2_with fail;clear x0 x1 x2 x3 x4 x5;refine ck (uh Hc) fun w5 hb=> ?_;replace HF1:=Z9 ((uh HF1).below hb);replace ko:=bl ko hb;replace Tw:=Z9 ((uh Tw).trans (Two.of_below hb));clear hb Hc;obtain ⟨wi,hwi⟩:∃ q,Vg M=q:=⟨_,rfl⟩
   have hc:=N8 (uh HF1).smy;rw [uh Hnow] at hc;have Hc:=Z9 hc;clear hc;rw [hwi] at Hc;have hmv:Uk M=wi:=by unfold Uk;rw [uh Hmi];exact hwi
   clear hwi;obtain ⟨x0,x1,x2,x3,x4,x5⟩:=(uh ko).c6;cases wi with
   | some r=>
    obtain ⟨wh,bb⟩:=r;have Hc2:Hid (Calls Tryz.prog 284 #[.agg (S6 b0 q0 b1 q1 b2 q2 b3 q3 b4 q4 m)] w5 fun e w'=>e= .returned (.tuple #[.int .i64 (wh:Int),.int .i64 (bb:Int),.bool true])/\Below w5.heap.size w5 w'):=Hc;clear Hc;have Hc:=Hc2;clear Hc2;have Hm0:=Z9 hmv;clear hmv;go_wp2_with fail;clear x0 x1 x2 x3 x4 x5;refine ck (uh Hc) fun w6 hb=> ?_;replace HF1:=Z9 ((uh HF1).below hb);replace ko:=bl ko hb;replace Tw:=Z9 ((uh Tw).trans (Two.of_below hb));clear hb Hc;have hmv:=uh Hm0;clear Hm0;have mv:=RL hmv;have Hmv:=Z9 hmv;obtain ⟨a0',a1',_⟩:=(ZR (uh Hsm)).at mv.who mv.pres;obtain ⟨bn,hbn⟩:∃ bn:Nat,(Z8 M.sm wh).2.1=(bn:Int):=⟨(Z8 M.sm wh).2.1.toNat,by omega⟩
    have Hbn:=Z9 hbn;have hbl:bn<M.dk.length:=by omega
    have Mv:=Z9 mv;have Hbl:=Z9 hbl;clear hmv hbn hbl a0' a1' mv;have k8:Hid (Blk w6 ob 32 #[.slice b0 m.rm.length q0,.slice b1 m.gd.length q1,.slice b2 m.sm.length q2,.slice b3 m.dk.length q3,.slice b4 m.pc.length q4,.int .i64 M.now]):=Z9 (by rw [uh Hnow];exact uh ko);go_wp2_with fail;refine (Ug (m:=M) (k:=wh) (bn:=bn) (b:=bb) (uh k8) (uh HF1) (uh H2) (uh H3) (uh Mv).who (uh Hbn) (uh Hbl) (uh Mv).bench).mono ?_;rintro e w7 ⟨rfl,hf7,ht7⟩;have k7:Hid (Blk w7 ob 32 #[.slice b0 m.rm.length q0,.slice b1 m.gd.length q1,.slice b2 m.sm.length q2,.slice b3 m.dk.length q3,.slice b4 m.pc.length q4,.int .i64 M.now]):=Z9 ((uh k8).two ht7 (uh H2) (uh H3));have HF7:=Z9 hf7;have T7:=Z9 ((uh Tw).trans ht7);clear hf7 ht7 k8;have h12:=YS (ZR (uh Hsm));have h8:=(ZR (uh Hsm)).sane.eight;have hl12:(TJ M wh bb).sm.length<=800:=by rw [Un];omega
    have hd8:(TJ M wh bb).dk.length<=1000:=by show M.dk.length<=1000;omega
    have Hl12:=Z9 hl12;have Hd8:=Z9 hd8;clear h12 h8 hl12 hd8;go_wp2_with fail;refine (RC (m:=TJ M wh bb) (uh k7) (uh HF7) (uh H2) (uh H3) (uh Hl12) (uh Hd8)).mono ?_;rintro e w8 ⟨rfl,hf8,ht8⟩;have HF8:=Z9 hf8;have T8:=Z9 ((uh T7).trans ht8);clear hf8 ht8;go_wp2_with fail
    go_roundg (Sa (Ul M wh bb)+1)
    case measure=>have:=(uh Mv).falls;omega
    case rel=>exact ⟨Ul M wh bb,true,rfl,rfl,(uh Mv).keeps,((ZH _ _).2.2.2.1).trans (uh Hnow),(Kg (uh Hmv)).symm.trans (uh Hlv),(fun e=>by cases e),uh HF8,uh T8⟩
   | none=>
    have Hc2:Hid (Calls Tryz.prog 284 #[.agg (S6 b0 q0 b1 q1 b2 q2 b3 q3 b4 q4 m)] w5 fun e w'=>e= .returned (.tuple #[.int .i64 0,.int .i64 0,.bool false])/\Below w5.heap.size w5 w'):=Hc;clear Hc;have Hc:=Hc2;clear Hc2;have Hm0:=Z9 hmv;clear hmv;go_wp2_with fail;clear x0 x1 x2 x3 x4 x5;refine ck (uh Hc) fun w6 hb=> ?_;replace HF1:=Z9 ((uh HF1).below hb);replace ko:=bl ko hb;replace Tw:=Z9 ((uh Tw).trans (Two.of_below hb));clear hb Hc;go_wp2_with fail
    go_roundg 0
    case measure=>omega
    case rel=>exact ⟨M,false,rfl,rfl,uh Hsm,uh Hnow,uh Hlv,(fun _=>uh Hm0),uh HF1,uh Tw⟩
set_option maxRecDepth 100000
def Zm (m:Z6) (k who a b:Int):Z6 × Int:=
 if ZJ m then (if k=1 then Ww m a b (-1) else if k=2 then RR m who else if k=3 then WA m who else if k=4 then TG m who else if k=5 then Uo m who a else if k=6 then Vz m who a else if k=7 then Uj m who a b else if k=8 then V0 m a else if k=9 then RO m a else if k=10 then Sg m a else if k=11 then Uc m a b else if k=12 then (D3 m,0) else if k=13 then (VT m,0) else if k=14 then QI m who a else (m,3)) else (Ye,3)
theorem Du (h:ZJ m=true) (who a b:Int):Zm m 1 who a b=Ww m a b (-1):=by unfold Zm;rw [h];rfl
theorem Dv (h:ZJ m=true) (who a b:Int):Zm m 2 who a b=RR m who:=by unfold Zm;rw [h];rfl
theorem Dw (h:ZJ m=true) (who a b:Int):Zm m 3 who a b=WA m who:=by unfold Zm;rw [h];rfl
theorem Dx (h:ZJ m=true) (who a b:Int):Zm m 4 who a b=TG m who:=by unfold Zm;rw [h];rfl
theorem Dy (h:ZJ m=true) (who a b:Int):Zm m 5 who a b=Uo m who a:=by unfold Zm;rw [h];rfl
theorem Dz (h:ZJ m=true) (who a b:Int):Zm m 6 who a b=Vz m who a:=by unfold Zm;rw [h];rfl
theorem DA (h:ZJ m=true) (who a b:Int):Zm m 7 who a b=Uj m who a b:=by unfold Zm;rw [h];rfl
theorem DC (h:ZJ m=true) (who a b:Int):Zm m 8 who a b=V0 m a:=by unfold Zm;rw [h];rfl
theorem DD (h:ZJ m=true) (who a b:Int):Zm m 9 who a b=RO m a:=by unfold Zm;rw [h];rfl
theorem Gr (h:ZJ m=true) (who a b:Int):Zm m 10 who a b=Sg m a:=by unfold Zm;rw [h];rfl
theorem Gs (h:ZJ m=true) (who a b:Int):Zm m 11 who a b=Uc m a b:=by unfold Zm;rw [h];rfl
theorem Gt (h:ZJ m=true) (who a b:Int):Zm m 12 who a b=(D3 m,0):=by unfold Zm;rw [h];rfl
theorem Gu (h:ZJ m=true) (who a b:Int):Zm m 13 who a b=(VT m,0):=by unfold Zm;rw [h];rfl
theorem Gv (h:ZJ m=true) (who a b:Int):Zm m 14 who a b=QI m who a:=by unfold Zm;rw [h];rfl
theorem Ok (h:ZJ m=true) {k:Int} (hk:k<1\/14<k) (who a b:Int):Zm m k who a b=(m,3):=by
 unfold Zm;rw [if_pos h,if_neg (show ¬ k=1 by omega),if_neg (show ¬ k=2 by omega),if_neg (show ¬ k=3 by omega),if_neg (show ¬ k=4 by omega),if_neg (show ¬ k=5 by omega),if_neg (show ¬ k=6 by omega),if_neg (show ¬ k=7 by omega),if_neg (show ¬ k=8 by omega),if_neg (show ¬ k=9 by omega),if_neg (show ¬ k=10 by omega),if_neg (show ¬ k=11 by omega),if_neg (show ¬ k=12 by omega),if_neg (show ¬ k=13 by omega),if_neg (show ¬ k=14 by omega)]
theorem Jo (h:ZJ m=true) (k who a b:Int):ZJ (Zm m k who a b).1=true:=by
 by_cases hk:k<1\/14<k
 ·rw [Ok h hk];exact h
 rcases (show k=1\/k=2\/k=3\/k=4\/k=5\/k=6\/k=7\/k=8\/k=9\/k=10\/k=11\/k=12\/k=13\/k=14 by omega) with rfl | rfl | rfl | rfl | rfl | rfl | rfl | rfl | rfl | rfl | rfl | rfl | rfl | rfl
 ·rw [Du h];exact Ql h a b (-1)
 ·rw [Dv h];exact Fb h who
 ·rw [Dw h];exact Nr h who
 ·rw [Dx h];exact GK h who
 ·rw [Dy h];exact E8 h who a
 ·rw [Dz h];exact FO h who a
 ·rw [DA h];exact GP h who a b
 ·rw [DC h];exact Je h a
 ·rw [DD h];exact ET h a
 ·rw [Gr h];exact Fp h a
 ·rw [Gs h];exact Gn h a b
 ·rw [Gt h];exact BN h
 ·rw [Gu h];exact (show ZJ (VT m)=true by unfold VT;rw [h];exact GM h)
 ·rw [Gv h];exact Ev h who a
end Go.Proofs.YtamgfpdahadnfaaGreatDoor
