/- Part 22 of what the proof rests on. No condition but those that a theorem names. -/
import Derived.Test.YtnponpamjddpjaaGreatXt20
set_option maxHeartbeats 8000000
set_option maxRecDepth 100000
namespace Go.Proofs.YtnponpamjddpjaaGreat
open Go.ChangeShapes Go.WideShapes Go.ChangeAt Go.RowKit Go.Sort
set_option linter.unusedVariables false
variable {w w' w0 w1 w2 w3 w₀ wr W W' X A B C : World} {v v0 v1 v2 v3 v4 u u0 u1 u2 u3 u4 : Value} {m : Z3}
def Zp (m:Z3) (b:Nat):Nat->Nat
 | 0=>0
 | k+1=>if (Z8 m.desks k).1 && !(k ==b) then Zp m b k ||| 2 ^ k else Zp m b k
theorem To (m:Z3) (b:Nat):∀ k j:Nat,(Zp m b k).testBit j=(decide (j<k) && ((Z8 m.desks j).1 && !(j ==b)))
 | 0,j=>by simp [Zp]
 | k+1,j=>by
  have ih:=To m b k j
  unfold Zp
  by_cases e:j=k
  ·subst e
   have hj:(Zp m b j).testBit j=false:=by rw [ih];simp
   split
   ·rename_i h
    rw [Nat.testBit_or,hj,Nat.testBit_two_pow_self,h];simp
   ·rename_i h
    rw [hj]
    have:((Z8 m.desks j).1 && !(j ==b))=false:=by simpa using h
    rw [this];simp
  ·have hd:decide (j<k+1)=decide (j<k):=by
    by_cases h:j<k
    ·rw [decide_eq_true h,decide_eq_true (by omega)]
    ·rw [decide_eq_false h,decide_eq_false (by omega)]
   rw [hd]
   split
   ·rw [Nat.testBit_or,ih,Nat.testBit_two_pow_of_ne (by omega),Bool.or_false]
   ·exact ih
theorem PI (m:Z3) (b:Nat):∀ k:Nat,Zp m b k<2 ^ k
 | 0=>by simp [Zp]
 | k+1=>by
  have ih:=PI m b k
  have hp:2 ^ (k+1)=2*2 ^ k:=by rw [Nat.pow_succ];omega
  unfold Zp
  split
  ·exact Nat.or_lt_two_pow (by omega) (by omega)
  ·omega
theorem O8 {x:Nat} (h:x ≠ 0):∃ j,x.testBit j=true:=by
 refine Classical.byContradiction fun hn=>h ?_
 apply Nat.eq_of_testBit_eq
 intro i
 rw [Nat.zero_testBit]
 cases hi:x.testBit i
 ·rfl
 ·exact absurd ⟨i,hi⟩ hn
theorem Lc {s:Int} (h:0<=s) (j:Nat):Wu s (j:Int)=s.toNat.testBit j:=by
 obtain ⟨n,rfl⟩:=Int.eq_ofNat_of_zero_le h
 unfold Wu
 rw [Nat.testBit_eq_decide_div_mod_eq]
 simp only [Int.toNat_natCast]
 congr 1
 apply propext
 constructor
 ·intro h
  exact_mod_cast h
 ·intro h
  exact_mod_cast h
def YQ (n:Nat):Int:=(2:Int) ^ n-1
theorem QU (n:Nat):YQ n=((2 ^ n-1:Nat):Int):=by
 have h:1<=2 ^ n:=Nat.one_le_two_pow
 unfold YQ
 rw [Int.natCast_sub h]
 push_cast
 rfl
theorem KX {n j:Nat} (h:j<n):Wu (YQ n) (j:Int)=true:=by
 rw [Lc (by rw [QU];omega),QU,Int.toNat_natCast,Nat.testBit_two_pow_sub_one]
 exact decide_eq_true h
theorem O0 {n:Nat} (h1:1<=n) (h8:n<=8):1<=YQ n/\YQ n<=255:=by
 have key:∀ k:Fin 8,1<=YQ (k.val+1)/\YQ (k.val+1)<=255:=by unfold YQ;decide
 have:=key ⟨n-1,by omega⟩
 rwa [show n-1+1=n by omega] at this
def TR (op n:Nat) (may:Int):Int:=if may.toNat &&& op=0 then YQ n else may
theorem Kc {op n:Nat} {may:Int} (h0:0<=may) (hop:op ≠ 0) (hn:∀ j,op.testBit j=true->j<n):∃ j,op.testBit j=true/\Wu (TR op n may) (j:Int)=true:=by
 unfold TR
 split
 ·obtain ⟨j,hj⟩:=O8 hop
  exact ⟨j,hj,KX (hn j hj)⟩
 ·rename_i h
  obtain ⟨j,hj⟩:=O8 h
  rw [Nat.testBit_and] at hj
  simp only [Bool.and_eq_true] at hj
  exact ⟨j,hj.2,by rw [Lc h0];exact hj.1⟩
theorem F7 {op n:Nat} {may:Int} (h1:1<=n) (h8:n<=8) (m0:1<=may) (m1:may<=255):1<=TR op n may/\TR op n may<=255:=by
 unfold TR
 split
 ·exact O0 h1 h8
 ·exact ⟨m0,m1⟩
def closeX (op:Nat) (m:Z3) (w:Nat):Z3:=X8 m w (TR op m.desks.length (Z8 m.smiths w).2.2.2.1)
def Nd (op:Nat) (m:Z3) (w:Nat):Int:=Yz (closeX op m w) (w:Int)
def Wv (op:Nat) (m:Z3) (w:Nat):Z3:=setS (closeX op m w) w (putS (closeX op m w) (Z8 (closeX op m w).smiths w) (Nd op m w))
def YI (op:Nat) (m:Z3) (q:List Z6):Nat->Z3
 | 0=>m
 | k+1=>Wv op (YI op m q k) (Z7 q k).2.toNat
structure Shut (m0:Z3) (b:Nat) (P:Nat->Prop) (m:Z3):Prop where
 rooms:m.rooms=m0.rooms
 guilds:m.guilds=m0.guilds
 paces:m.paces=m0.paces
 now:m.now=m0.now
 desks:m.desks=(YG m0 b false).desks
 len:m.smiths.length=m0.smiths.length
 here:∀ i,i<m.smiths.length->Yv m (Z8 m.smiths i)=true
 seat:∀ i,i<m.smiths.length-> ¬ P i->Yo m (Z8 m.smiths i)=true
 left:∀ i,P i->i<m.smiths.length/\ZT (Z8 m.smiths i)=true/\(Z8 m.smiths i).2.1=(b:Int)/\Xz (XL (Z8 m.smiths i)) (XO m (b:Int))=true
theorem Qs {b:Nat} (hb:b<m.desks.length) (o:Bool) (j:Nat):Z8 (YG m b o).desks j=if j=b then (o,(Z8 m.desks b).2) else Z8 m.desks j:=ZH hb j
theorem VD (m:Z3) (b:Nat) (o:Bool):(YG m b o).desks.length=m.desks.length:=by unfold YG;simp
theorem RQ {b:Nat} (hb:b<m.desks.length) (o:Bool) (j:Nat):(Z8 (YG m b o).desks j).2=(Z8 m.desks j).2:=by
 rw [Qs hb]
 by_cases e:j=b
 ·rw [if_pos e,e]
 ·rw [if_neg e]
theorem Kx {m0:Z3} (h:Loose m0) {b:Nat} (hb:b<m0.desks.length):Shut m0 b (fun i=>i<m0.smiths.length/\(Z8 m0.smiths i).2.1=(b:Int)/\ZT (Z8 m0.smiths i)=true) (YG m0 b false):=by
 refine ⟨rfl,rfl,rfl,rfl,rfl,rfl,fun i hi=> ?_,fun i hi hn=> ?_,fun i hp=> ?_⟩
 ·rw [Xu (m:=m0) (m':=YG m0 b false) rfl (VD _ _ _)]
  exact h.here i hi
 ·cases hp:ZT (Z8 m0.smiths i)
  ·exact VM hp
  ·obtain ⟨a0,a1,a2,a3,a4⟩:=h.at (i:=i) hi hp
   have hne:(Z8 m0.smiths i).2.1.toNat ≠ b:=by
    intro e
    exact hn ⟨hi,by omega,hp⟩
   refine Qr (m:=YG m0 b false) (s:=Z8 m0.smiths i) ?_ a3 ?_
   ·rw [Qs hb,if_neg hne];exact a2
   ·rw [RQ hb];exact a4
 ·obtain ⟨hi,e,hp⟩:=hp
  obtain ⟨a0,a1,a2,a3,a4⟩:=h.at (i:=i) hi hp
  refine ⟨hi,hp,e,?_⟩
  rw [e] at a4
  show Xz _ (Z8 (YG m0 b false).desks ((b:Int)).toNat).2.2=true
  rw [RQ hb]
  exact a4
theorem Shut.bare {m0 m:Z3} {b:Nat} {P:Nat->Prop} (h:Shut m0 b P m) (h0:Loose m0) (hb:b<m0.desks.length) (hop:Zp m0 b m0.desks.length ≠ 0):Loose { m with smiths:=[] }:=by
 have hl:m.desks.length=m0.desks.length:=by rw [h.desks,VD]
 refine ⟨?_,?_,?_,fun i hi=>absurd hi (Nat.not_lt_zero _),fun i hi=>absurd hi (Nat.not_lt_zero _),?_⟩
 ·have:=h0.head
  unfold YS at this ⊢
  simp only [Bool.and_eq_true,decide_eq_true_eq] at this ⊢
  rw [h.rooms,h.guilds,h.paces,h.now,hl]
  exact ⟨this.1,this.2.1,by simp,this.2.2.2⟩
 ·intro j hj
  show WH (Z8 m.desks j)=true
  have hj':j<m.desks.length:=hj
  have:=h0.desk j (by omega)
  unfold WH at this ⊢
  rw [h.desks,RQ hb]
  exact this
 ·intro j hj
  have:=h0.pace j (by rw [<-h.paces];exact hj)
  unfold Xg at this ⊢
  simp only
  rw [h.paces,h.rooms]
  exact this
 ·obtain ⟨j,hj⟩:=O8 hop
  rw [To] at hj
  simp only [Bool.and_eq_true,decide_eq_true_eq,Bool.not_eq_true',beq_eq_false_iff_ne] at hj
  refine ⟨j,(by show j<m.desks.length;omega),?_⟩
  show (Z8 m.desks j).1=true
  rw [h.desks,Qs hb,if_neg hj.2.2]
  exact hj.2.1
theorem Shut.pres {m0 m:Z3} {b:Nat} {P:Nat->Prop} (h:Shut m0 b P m) {i:Nat} (hp:P i):Zf (Z8 m.smiths i)=true/\(Z8 m.smiths i).2.2.2.2.1<m.guilds.length:=by
 obtain ⟨hi,hp1,_⟩:=h.left i hp
 rcases XU.1 (h.here i hi) with e | e
 ·rw [e] at hp1;cases hp1
 ·exact ⟨e.1,e.2.1⟩
theorem Shut.sane {m0 m:Z3} {b:Nat} {P:Nat->Prop} (h:Shut m0 b P m) (h0:Loose m0):Sane m:=by
 have s0:=h0.sane
 have lim:∀ i,i<m.smiths.length->(Z8 m.smiths i).1 ≠ 0->Zf (Z8 m.smiths i)=true/\(Z8 m.smiths i).2.2.2.2.1<m.guilds.length:=fun i hi hs=>by
  rcases XU.1 (h.here i hi) with e | e
  ·rw [e] at hs;exact absurd rfl hs
  ·exact ⟨e.1,e.2.1⟩
 refine ⟨by rw [h.rooms];exact s0.hall,by rw [h.rooms,h.desks,VD];exact s0.desks,⟨by rw [h.guilds];exact s0.guilded.guilds,fun i hi hs=> ?_,fun i hi hs=>(lim i hi hs).2⟩,by rw [h.len];exact s0.few⟩
 have hp:=(lim i hi hs).1
 generalize Z8 m.smiths i=s at *
 obtain ⟨st,be,rk,my,gu,lo',hi',hd,ca,ut,wk⟩:=s
 exact (Zg hp).2.2.2.2.1.1
theorem Qq {k:Nat} (hk:k<m.smiths.length) (may:Int) (i:Nat):Z8 (X8 m k may).smiths i=if i=k then Us (Z8 m.smiths k) may else Z8 m.smiths i:=ZH hk i
theorem Shut.may {m0 m:Z3} {b:Nat} {P:Nat->Prop} (h:Shut m0 b P m) {w:Nat} (hw:P w) {may:Int} (y0:1<=may) (y1:may<=255):Shut m0 b P (X8 m w may):=by
 obtain ⟨hwl,hp,hbe,hba⟩:=h.left w hw
 obtain ⟨hpb,hg⟩:=h.pres hw
 have hlen:(X8 m w may).smiths.length=m.smiths.length:=by unfold X8 setS;simp
 refine ⟨h.rooms,h.guilds,h.paces,h.now,h.desks,by rw [hlen];exact h.len,fun i hi=> ?_,fun i hi hn=> ?_,fun i hi=> ?_⟩
 ·rw [Xu (m:=m) (m':=X8 m w may) rfl rfl,Qq hwl]
  split
  ·refine XU.2 (.inr ⟨Og hpb y0 y1,hg,?_⟩)
   rcases XU.1 (h.here w hwl) with e | e
   ·rw [e] at hp;cases hp
   ·exact e.2.2
  ·exact h.here i (by omega)
 ·rw [Qq hwl,if_neg (fun e=>hn (by rw [e];exact hw))]
  exact h.seat i (by omega) hn
 ·obtain ⟨a,b1,c,d⟩:=h.left i hi
  refine ⟨by omega,?_⟩
  rw [Qq hwl]
  split
  ·rename_i e
   subst e
   exact ⟨b1,c,d⟩
  ·exact ⟨b1,c,d⟩
theorem Shut.chosen {m0 m:Z3} {b:Nat} {P:Nat->Prop} (h:Shut m0 b P m) (h0:Loose m0) (hb:b<m0.desks.length) (hop:Zp m0 b m0.desks.length ≠ 0) {w:Nat} (hw:P w):∃ j:Nat,j<m.desks.length/\Nd (Zp m0 b m0.desks.length) m w=(j:Int)/\Yg (closeX (Zp m0 b m0.desks.length) m w) (w:Int) j=true:=by
 obtain ⟨hwl,hp,hbe,hba⟩:=h.left w hw
 obtain ⟨hpb,hg⟩:=h.pres hw
 have hl:m.desks.length=m0.desks.length:=by rw [h.desks,VD]
 rcases VJ (closeX (Zp m0 b m0.desks.length) m w) (w:Int) with ⟨_,hn⟩ | ⟨j,hj,e,hm⟩
 ·exfalso
  have hy:0<=(Z8 m.smiths w).2.2.2.1:=by
   generalize Z8 m.smiths w=s at *
   obtain ⟨st,be,rk,my,gu,lo',hi',hd,ca,ut,wk⟩:=s
   have:=(Zg hpb).2.2.2.1.1
   show 0<=my
   omega
  obtain ⟨j,hj,hbit⟩:=Kc (op:=Zp m0 b m0.desks.length) (n:=m.desks.length) hy hop (fun j hj=>by
   rw [To] at hj
   simp only [Bool.and_eq_true,decide_eq_true_eq] at hj
   omega)
  rw [To] at hj
  simp only [Bool.and_eq_true,decide_eq_true_eq,Bool.not_eq_true',beq_eq_false_iff_ne] at hj
  have:=hn j (by show j<m.desks.length;omega)
  unfold Yg at this
  rw [show (Z8 (closeX (Zp m0 b m0.desks.length) m w).desks j).1=true from by
   show (Z8 m.desks j).1=true
   rw [h.desks,Qs hb,if_neg hj.2.2]
   exact hj.2.1,Int.toNat_natCast,show Z8 (closeX (Zp m0 b m0.desks.length) m w).smiths w=Us (Z8 m.smiths w) (TR (Zp m0 b m0.desks.length) m.desks.length (Z8 m.smiths w).2.2.2.1) from by
    unfold closeX
    rw [Qq hwl,if_pos rfl]] at this
  rw [show (Us (Z8 m.smiths w) (TR (Zp m0 b m0.desks.length) m.desks.length (Z8 m.smiths w).2.2.2.1)).2.2.2.1=TR (Zp m0 b m0.desks.length) m.desks.length (Z8 m.smiths w).2.2.2.1 from rfl,hbit] at this
  cases this
 ·exact ⟨j,hj,e,hm⟩
theorem Shut.closeX {m0 m:Z3} {b:Nat} {P:Nat->Prop} (h:Shut m0 b P m) (h0:Loose m0) {w:Nat} (hw:P w) (op:Nat):Shut m0 b P (closeX op m w):=by
 obtain ⟨hpb,hg⟩:=h.pres hw
 have hl:m.desks.length=m0.desks.length:=by rw [h.desks,VD]
 have h8:=WZ h0
 obtain ⟨j,hj,_⟩:=h0.openD
 have hy:1<=(Z8 m.smiths w).2.2.2.1/\(Z8 m.smiths w).2.2.2.1<=255:=by
  generalize Z8 m.smiths w=s at *
  obtain ⟨st,be,rk,my,gu,lo',hi',hd,ca,ut,wk⟩:=s
  exact (Zg hpb).2.2.2.1
 obtain ⟨y0,y1⟩:=F7 (op:=op) (n:=m.desks.length) (by omega) (by omega) hy.1 hy.2
 exact h.may hw y0 y1
theorem Shut.step {m0 m:Z3} {b:Nat} {P:Nat->Prop} (h:Shut m0 b P m) (h0:Loose m0) (hb:b<m0.desks.length) (hop:Zp m0 b m0.desks.length ≠ 0) {w:Nat} (hw:P w) :
  Shut m0 b (fun i=>P i/\i ≠ w) (Wv (Zp m0 b m0.desks.length) m w):=by
 obtain ⟨j,hj,ej,hm⟩:=h.chosen h0 hb hop hw
 have hx:=h.closeX h0 hw (Zp m0 b m0.desks.length)
 unfold Wv
 rw [ej]
 generalize Go.Proofs.YtnponpamjddpjaaGreat.closeX (Zp m0 b m0.desks.length) m w=x at *
 have hjx:j<x.desks.length:=by rw [hx.desks,<-h.desks];exact hj
 obtain ⟨hwl,hp,hbe,hba⟩:=hx.left w hw
 obtain ⟨hpb,hg⟩:=hx.pres hw
 unfold Yg at hm
 simp only [Bool.and_eq_true,Int.toNat_natCast] at hm
 have hbl:b<x.desks.length:=by rw [hx.desks,VD];exact hb
 have hk:=Py (m:={ x with smiths:=[] }) (hx.bare h0 hb hop) (s:=Z8 x.smiths w) (b:=j) hpb hp hg (by omega) (by rw [hbe];show (b:Int)<x.desks.length;omega) (by rw [hbe];exact hba) hjx hm.1 hm.2
 have k1:Yv x (putS x (Z8 x.smiths w) (j:Int))=true:=hk.1
 have k2:Yo x (putS x (Z8 x.smiths w) (j:Int))=true:=hk.2
 have hat:∀ i,Z8 (setS x w (putS x (Z8 x.smiths w) (j:Int))).smiths i=if i=w then putS x (Z8 x.smiths w) (j:Int) else Z8 x.smiths i:=fun i=>ZH hwl i
 have hlen:(setS x w (putS x (Z8 x.smiths w) (j:Int))).smiths.length=x.smiths.length:=by unfold setS;simp
 refine ⟨hx.rooms,hx.guilds,hx.paces,hx.now,hx.desks,by rw [hlen];exact hx.len,fun i hi=> ?_,fun i hi hn=> ?_,fun i hi=> ?_⟩
 ·rw [Xu (m:=x) (m':=setS x w (putS x (Z8 x.smiths w) (j:Int))) rfl rfl,hat]
  split
  ·exact k1
  ·exact hx.here i (by omega)
 ·show Yo x (Z8 (setS x w (putS x (Z8 x.smiths w) (j:Int))).smiths i)=true
  rw [hat]
  split
  ·exact k2
  ·rename_i e
   exact hx.seat i (by omega) (fun hpi=>hn ⟨hpi,e⟩)
 ·obtain ⟨hpi,e⟩:=hi
  obtain ⟨a,b1,c,d⟩:=hx.left i hpi
  refine ⟨by omega,?_⟩
  rw [hat,if_neg e]
  exact ⟨b1,c,d⟩
theorem Shut.weak {m0 m:Z3} {b:Nat} {P Q:Nat->Prop} (h:Shut m0 b P m) (h1:∀ i,P i->Q i) (h2:∀ i,Q i->P i):Shut m0 b Q m:=
 ⟨h.rooms,h.guilds,h.paces,h.now,h.desks,h.len,h.here,fun i hi hn=>h.seat i hi (fun hp=>hn (h1 i hp)),fun i hi=>h.left i (h2 i hi)⟩
def MV (q:List Z6) (k:Nat) (i:Nat):Prop:= ∃ j,k<=j/\j<q.length/\(Z7 q j).2=(i:Int)
theorem NC {m0:Z3} (h0:Loose m0) {b:Nat} (hb:b<m0.desks.length) (hop:Zp m0 b m0.desks.length ≠ 0):∀ k,k<=(atV m0.smiths b m0.smiths.length).length->
  Shut m0 b (MV (atV m0.smiths b m0.smiths.length) k) (YI (Zp m0 b m0.desks.length) (YG m0 b false) (atV m0.smiths b m0.smiths.length) k)
 | 0,_=>by
  refine (Kx h0 hb).weak (fun i hi=> ?_) (fun i hi=> ?_)
  ·have hm:(XL (Z8 m0.smiths i),(i:Int)) ∈ atV m0.smiths b m0.smiths.length:=(Yd m0.smiths b _ m0.smiths.length).2 ⟨i,hi.1,hi.2.1,hi.2.2,rfl⟩
   obtain ⟨j,hj,e⟩:=Ut hm
   exact ⟨j,Nat.zero_le _,hj,by rw [e]⟩
  ·obtain ⟨j,_,hj,e⟩:=hi
   obtain ⟨i',hi',h1,h2,e2⟩:=(Yd m0.smiths b _ m0.smiths.length).1 (XQ hj)
   rw [e2] at e
   have:i'=i:=by
    have e3:(i':Int)=(i:Int):=e
    omega
   subst this
   exact ⟨hi',h1,h2⟩
 | k+1,hk=>by
  have ih:=NC h0 hb hop k (by omega)
  obtain ⟨i',hi',h1,h2,e2⟩:=(Yd m0.smiths b _ m0.smiths.length).1 (XQ (show k<(atV m0.smiths b m0.smiths.length).length by omega))
  have hw:MV (atV m0.smiths b m0.smiths.length) k i':=⟨k,Nat.le_refl _,by omega,by rw [e2]⟩
  have:=ih.step h0 hb hop hw
  unfold YI
  rw [e2]
  show Shut m0 b _ (Wv _ _ ((i':Int)).toNat)
  rw [Int.toNat_natCast]
  refine this.weak (fun i hi=> ?_) (fun i hi=> ?_)
  ·obtain ⟨⟨j,hj,hjl,e⟩,hne⟩:=hi
   refine ⟨j,?_,hjl,e⟩
   rcases Nat.lt_or_ge k j with hlt | hge
   ·omega
   ·exfalso
    have:j=k:=by omega
    subst this
    rw [e2] at e
    apply hne
    have:(i':Int)=(i:Int):=e
    omega
  ·obtain ⟨j,hj,hjl,e⟩:=hi
   refine ⟨⟨j,by omega,hjl,e⟩,fun hii=> ?_⟩
   subst hii
   have hpw:=UG m0.smiths b m0.smiths.length
   have hat:∀ n (hn:n<(atV m0.smiths b m0.smiths.length).length),Z7 (atV m0.smiths b m0.smiths.length) n=(atV m0.smiths b m0.smiths.length)[n]:=fun n hn=>by unfold Z7;simp [List.getD,hn]
   have:=List.pairwise_iff_getElem.1 hpw k j (by omega) hjl (by omega)
   rw [<-hat k (by omega),<-hat j hjl] at this
   apply this
   rw [e2,e]
theorem Kw {m0:Z3} (h0:Loose m0) {b:Nat} (hb:b<m0.desks.length) (hop:Zp m0 b m0.desks.length ≠ 0):Loose (YI (Zp m0 b m0.desks.length) (YG m0 b false) (atV m0.smiths b m0.smiths.length) (atV m0.smiths b m0.smiths.length).length):=by
 have h:=NC h0 hb hop _ (Nat.le_refl _)
 have hno:∀ i,¬ MV (atV m0.smiths b m0.smiths.length) (atV m0.smiths b m0.smiths.length).length i:=fun i hi=>by
  obtain ⟨j,h1,h2,_⟩:=hi
  omega
 generalize YI (Zp m0 b m0.desks.length) (YG m0 b false) (atV m0.smiths b m0.smiths.length) (atV m0.smiths b m0.smiths.length).length=x at *
 have hb':=h.bare h0 hb hop
 refine ⟨?_,hb'.desk,hb'.pace,h.here,fun i hi=>h.seat i hi (hno i),hb'.openD⟩
 have:=hb'.head
 unfold YS at this ⊢
 simp only [Bool.and_eq_true,decide_eq_true_eq] at this ⊢
 exact ⟨this.1,this.2.1,by rw [h.len];exact YU h0,this.2.2.2⟩
def XN (m:Z3) (b:Int):Z3 × Int:=
 if ZK m then (if Vu m b then (if (Z8 m.desks b.toNat).1 then (if Zp m b.toNat m.desks.length=0 then (m,5) else
  (Z1 (YI (Zp m b.toNat m.desks.length) (YG m b.toNat false) (atV m.smiths b m.smiths.length) (atV m.smiths b m.smiths.length).length),0)) else (m,2)) else (m,1)) else (YB,3)
theorem K8 {b:Int} (h:Vu m b=true):∃ k:Nat,b=(k:Int)/\k<m.desks.length:=by
 have:=ZS (show inB b 0 ((m.desks.length:Int)-1)=true from h)
 exact ⟨b.toNat,by omega,by omega⟩
theorem Nf (h:ZK m=true) (b:Int):ZK (XN m b).1=true:=by
 unfold XN
 rw [h]
 simp only [if_true]
 split
 ·rename_i hb
  obtain ⟨k,rfl,hk⟩:=K8 hb
  rw [Int.toNat_natCast]
  split
  ·split
   ·exact h
   ·rename_i hop
    exact Zd (Kw (ZO h) hk hop)
  ·exact h
 ·exact h
set_option linter.unusedSimpArgs false
theorem Two.set_new {p q:Option Nat} (h:Two p q w w') {g:Nat} (hg:w.heap.size<=g) (o:Nat) (u:Value):Two p q w (w'.setCell ⟨g,o,none⟩ u):=
 ⟨h.os,h.tape,h.output,by simpa using h.size,fun i hi hp hq=>(heap_setCell_other w' _ i u (by show i ≠ g;omega)).trans (h.block i hi hp hq)⟩
theorem FullSmy.lt {n₀:Nat}  {qs:List (Z0 × Value)} (h:FullSmy n₀ w v0 v1 v2 v3 v4 m qs) {k:Nat} (e:v0.ownBlock=some k\/(∃ q ∈ qs,q.2.ownBlock=some k)\/v1.ownBlock=some k\/v2.ownBlock=some k\/v3.ownBlock=some k\/v4.ownBlock=some k):n₀<=k/\k<w.heap.size:=by
 rcases e with e | e | e | e | e | e
 ·exact h.hall.lt (.inl e)
 ·exact h.hall.lt (.inr e)
 ·exact RecAt.lt h.guilds e
 ·exact RecAt.lt h.smiths e
 ·exact RecAt.lt h.desks e
 ·exact RecAt.lt h.paces e
theorem Y8 {R n₀:Nat}  {qs:List (Z0 × Value)} (kb:Blk w R 32 #[v0,v1,v2,v3,v4,.int .i64 m.now]) (hf:FullSmy n₀ w v0 v1 v2 v3 v4 m qs) (h2:v2.ownBlock ≠ some R) (h3:v3.ownBlock ≠ some R) (hl:m.smiths.length<=800) (hd:m.desks.length<=1000) :
  Calls Tryz.prog 285 #[.pointer (some ⟨R,0,none⟩)] w fun e w'=>e= .returned (.tuple #[.agg #[v0,v1,v2,v3,v4,.int .i64 m.now],.int .i64 0])/\FullSmy n₀ w' v0 v1 v2 v3 v4 (Z1 m) qs/\Two v2.ownBlock v3.ownBlock w w':=by
 have hfl:=fun k e=>(hf.lt (k:=k) e).2
 obtain ⟨a0,p0,rfl⟩:=hf.hall.shape
 obtain ⟨a1,p1,rfl⟩:=RecAt.shape hf.guilds
 obtain ⟨a2,p2,rfl⟩:=RecAt.shape hf.smiths
 obtain ⟨a3,p3,rfl⟩:=RecAt.shape hf.desks
 obtain ⟨a4,p4,rfl⟩:=RecAt.shape hf.paces
 have Kb:=Z9 kb
 have HF:=Z9 hf
 have H2:=Z9 h2
 have H3:=Z9 h3
 have HL:=Z9 hfl
 have hR:=kb.lt
 clear kb hf h2 h3 hfl
 go_enter Tryz.func285,Tryz.ntmps285
 go_wp2_with fail
 have Ba:Below w.heap.size w (w.alloc (.cells #[.slice none 0 0,.slice none 0 0,.slice none 0 0,.slice none 0 0,.slice none 0 0,.int .i64 0] 32)):=(Below.refl _ _).alloc (Nat.le_refl _) _
 have kz:=Blk.new w 32 #[.slice none 0 0,.slice none 0 0,.slice none 0 0,.slice none 0 0,.slice none 0 0,.int .i64 0]
 refine (Vf ((uh Kb).below Ba hR) ((uh HF).below Ba) (uh H2) (uh H3) hl hd).mono ?_
 rintro e w1 ⟨rfl,hf1,ht1⟩
 have T1:=(Two.of_below Ba).trans ht1
 have kb1:=(uh Kb).two T1 (uh H2) (uh H3)
 have hnz:∀ k,(_\/_\/_\/_\/_\/_)->k ≠ w.heap.size:=fun k e=>by have:=uh HL k e;omega
 have kz1:=kz.two ht1 (fun e=>hnz _ (.inr (.inr (.inr (.inl e)))) rfl) (fun e=>hnz _ (.inr (.inr (.inr (.inr (.inl e))))) rfl)
 obtain ⟨c0,c1,c2,c3,c4,c5⟩:=kb1.c6
 have o0:=kz1.cell (i:=0) (v:= .slice none 0 0) rfl
 have f0:=kz1.free 0
 have o1:=kz1.cell (i:=1) (v:= .slice none 0 0) rfl
 have f1:=kz1.free 1
 have o2:=kz1.cell (i:=2) (v:= .slice none 0 0) rfl
 have f2:=kz1.free 2
 have o3:=kz1.cell (i:=3) (v:= .slice none 0 0) rfl
 have f3:=kz1.free 3
 have o4:=kz1.cell (i:=4) (v:= .slice none 0 0) rfl
 have f4:=kz1.free 4
 have o5:=kz1.cell (i:=5) (v:= .int .i64 0) rfl
 have f5:=kz1.free 5
 have HF1:=Z9 hf1
 have TT:=Z9 T1
 have HN:=Z9 hnz
 clear hf1 ht1 T1 kb1 kz1 kz Ba hnz
 go_wp2_with fail
 refine bodyPost_ret (v:= .tuple #[.agg #[.slice a0 qs.length p0,.slice a1 m.guilds.length p1,.slice a2 m.smiths.length p2,.slice a3 m.desks.length p3,.slice a4 m.paces.length p4,.int .i64 m.now],.int .i64 0]) (by simp [results,Tryz.results285,go_sem, *]) rfl ⟨rfl,?_,?_⟩
 ·iterate 6 (refine FullSmy.set_off ?_ (uh HN) _ _)
  exact uh HF1
 ·iterate 6 (refine Two.set_new ?_ (Nat.le_refl _) _ _)
  exact uh TT
theorem PC {R n₀:Nat}  {qs:List (Z0 × Value)} (kb:Blk w R 32 #[v0,v1,v2,v3,v4,.int .i64 m.now]) (hf:FullSmy n₀ w v0 v1 v2 v3 v4 m qs) (h2:v2.ownBlock ≠ some R) (h3:v3.ownBlock ≠ some R) {k:Nat} (hk:k<m.smiths.length) (b:Int) :
  Calls Tryz.prog 284 #[.pointer (some ⟨R,0,none⟩),.int .i64 (k:Int),.int .i64 b] w fun e w'=>e= .returned (.tuple #[])/\FullSmy n₀ w' v0 v1 v2 v3 v4 (setS m k (2,b,(Z8 m.smiths k).2.2)) qs/\Two v2.ownBlock v3.ownBlock w w':=by
 obtain ⟨a2,p2,rfl⟩:=RecAt.shape hf.smiths
 obtain ⟨g2,rfl,hg2,hg2w,hc2,hz2⟩:=RecAt.view ZW (by omega) hf.smiths rfl (by omega)
 have s0:=hc2 k hk 0 _ rfl
 have f0:=hz2 (k*11)
 have c2:=kb.cell (i:=2) (v:= .slice (some ⟨g2,0,none⟩) m.smiths.length p2) rfl
 have hp1:=hf.putS rfl (j:=k) (i:=0) hk (by omega) (.int .i64 2) (stS (Z8 m.smiths k) 2) rfl
 have hlen:(m.smiths.set k (stS (Z8 m.smiths k) 2)).length=m.smiths.length:=by simp
 have hs1:Z8 (m.smiths.set k (stS (Z8 m.smiths k) 2)) k=stS (Z8 m.smiths k) 2:=by rw [ZH hk,if_pos rfl]
 have hp2:=hp1.putS hlen.symm (j:=k) (i:=1) (by show k<(m.smiths.set k _).length;omega) (by omega) (.int .i64 b) (2,b,(Z8 m.smiths k).2.2) (by show ZR (2,b,(Z8 m.smiths k).2.2)=(ZR (Z8 (m.smiths.set k (stS (Z8 m.smiths k) 2)) k)).set 1 _;rw [hs1];rfl)
 obtain ⟨_,hga,_,_,hc3,hz3⟩:=RecAt.view ZW (by omega) hp1.smiths hlen.symm (by show 0<(m.smiths.set k _).length;omega)
 cases hga
 have s1:=hc3 k (by show k<(m.smiths.set k _).length;omega) 1 _ rfl
 have f1:=hz3 (k*11+1)
 have hgR:g2 ≠ R:=fun e=>h2 (by rw [e];rfl)
 have c2':=(kb.other (a:=⟨g2,k*11,none⟩) (fun e=>hgR e.symm) (.int .i64 2)).cell (i:=2) (v:= .slice (some ⟨g2,0,none⟩) m.smiths.length p2) rfl
 simp only [Nat.add_zero,List.set_set] at s0 hp1 hp2 s1 f1
 have HP2:=Z9 hp2
 have hk1:(k:Int)<(m.smiths.length:Int):=by omega
 clear hc2 hz2 hc3 hz3 hp1 hp2 hf kb hs1 hlen h2 h3 hgR
 go_enter Tryz.func284,Tryz.ntmps284
 go_wp2_with fail
 go_end0
 exact ⟨rfl,uh HP2,(Two.of_set w (.inl rfl) _ _).trans (Two.of_set _ (.inl rfl) _ _)⟩
theorem Vx {R n₀:Nat}  {qs:List (Z0 × Value)} (kb:Blk w R 32 #[v0,v1,v2,v3,v4,.int .i64 m.now]) (hf:FullSmy n₀ w v0 v1 v2 v3 v4 m qs) (h2:v2.ownBlock ≠ some R) (h3:v3.ownBlock ≠ some R) {k bn b:Nat} (hk:k<m.smiths.length) (hbn:(Z8 m.smiths k).2.1=(bn:Int)) (hbn1:bn<m.desks.length) (hb:b<m.desks.length) :
  Calls Tryz.prog 289 #[.pointer (some ⟨R,0,none⟩),.int .i64 (k:Int),.int .i64 (b:Int)] w fun e w'=>e= .returned (.tuple #[])/\FullSmy n₀ w' v0 v1 v2 v3 v4 (setS m k (putS m (Z8 m.smiths k) b)) qs/\Two v2.ownBlock v3.ownBlock w w':=by
 obtain ⟨a2,p2,rfl⟩:=RecAt.shape hf.smiths
 obtain ⟨a3,p3,rfl⟩:=RecAt.shape hf.desks
 obtain ⟨g2,rfl,hg2,hg2w,hc2,hz2⟩:=RecAt.view ZW (by omega) hf.smiths rfl (by omega)
 obtain ⟨g3,rfl,hg3,hg3w,hc3,hz3⟩:=RecAt.view ZF (by omega) hf.desks rfl (by omega)
 have s1:=hc2 k hk 1 _ rfl
 have s7:=hc2 k hk 7 _ rfl
 have f1:=hz2 (k*11+1)
 have f7:=hz2 (k*11+7)
 have d1:=hc3 bn hbn1 2 _ rfl
 have d2:=hc3 b hb 2 _ rfl
 have c2:=kb.cell (i:=2) (v:= .slice (some ⟨g2,0,none⟩) m.smiths.length p2) rfl
 have c3:=kb.cell (i:=3) (v:= .slice (some ⟨g3,0,none⟩) m.desks.length p3) rfl
 have hmv:Zt (XL (Z8 m.smiths k)) (XO m (Z8 m.smiths k).2.1) (XO m (b:Int))=Zt (Z8 m.smiths k).2.2.2.2.2.2.2.1 (Z8 m.desks bn).2.2 (Z8 m.desks b).2.2:=by unfold XO XL;rw [hbn];simp
 have hx1:∃ x1:Z4,x1=((Z8 m.smiths k).1,(Z8 m.smiths k).2.1,(Z8 m.smiths k).2.2.1,(Z8 m.smiths k).2.2.2.1,(Z8 m.smiths k).2.2.2.2.1,(Z8 m.smiths k).2.2.2.2.2.1,(Z8 m.smiths k).2.2.2.2.2.2.1,Zt (Z8 m.smiths k).2.2.2.2.2.2.2.1 (Z8 m.desks bn).2.2 (Z8 m.desks b).2.2,(Z8 m.smiths k).2.2.2.2.2.2.2.2):=⟨_,rfl⟩
 obtain ⟨x1,hx1⟩:=hx1
 have hp1:=hf.putS rfl (j:=k) (i:=7) hk (by omega) (.int .i64 (Zt (Z8 m.smiths k).2.2.2.2.2.2.2.1 (Z8 m.desks bn).2.2 (Z8 m.desks b).2.2)) x1 (by rw [hx1];rfl)
 have hlen:(m.smiths.set k x1).length=m.smiths.length:=by simp
 have hs1:Z8 (m.smiths.set k x1) k=x1:=by rw [ZH hk,if_pos rfl]
 have hp2:=hp1.putS hlen.symm (j:=k) (i:=1) (by show k<(m.smiths.set k _).length;omega) (by omega) (.int .i64 (b:Int)) (putS m (Z8 m.smiths k) b) (by show ZR (putS m (Z8 m.smiths k) b)=(ZR (Z8 (m.smiths.set k x1) k)).set 1 _;rw [hs1,hx1];unfold putS;rw [hmv];rfl)
 obtain ⟨_,hga,_,_,hc4,hz4⟩:=RecAt.view ZW (by omega) hp1.smiths hlen.symm (by show 0<(m.smiths.set k _).length;omega)
 cases hga
 have s2:=hc4 k (by show k<(m.smiths.set k _).length;omega) 1 _ rfl
 have f2:=hz4 (k*11+1)
 simp only [List.set_set] at hp2
 have HP2:=Z9 hp2
 have hk1:(k:Int)<(m.smiths.length:Int):=by omega
 have hbn2:(bn:Int)<(m.desks.length:Int):=by omega
 have hb2:(b:Int)<(m.desks.length:Int):=by omega
 rw [hbn] at s1
 clear hc2 hz2 hc3 hz3 hc4 hz4 hp1 hp2 hf kb hs1 hlen h2 h3 hmv hx1 hbn
 generalize (Z8 m.smiths k).2.2.2.2.2.2.2.1=hd0 at *
 generalize (Z8 m.desks bn).2.2=mk1 at *
 generalize (Z8 m.desks b).2.2=mk2 at *
 go_enter Tryz.func289,Tryz.ntmps289
 go_wp2_with fail
 refine ZP (S:=fun w'=>w'.cell? ⟨g2,k*11+7,none⟩=some (.int .i64 hd0)/\w'.cell? ⟨R,3,none⟩=some (.slice (some ⟨g3,0,none⟩) m.desks.length p3)/\w'.cell? ⟨g2,k*11+1,none⟩=some (.int .i64 (bn:Int))/\w'.cell? ⟨g3,bn*3+2,none⟩=some (.int .i64 mk1)/\w'.cell? ⟨g3,b*3+2,none⟩=some (.int .i64 mk2)) (by kernel_rfl) (List.cons_ne_nil _ _) (by kernel_rfl) ⟨s7,c3,s1,d1,d2⟩ (fun hHeld=> ?_)
 simp only [List.dropLast_cons_cons,List.dropLast_singleton,List.length_cons,List.length_nil,Nat.zero_add,Nat.reduceAdd]
 (refine tk 0 rfl (by assumption) ?_;(try simp only [Act.put,sA,sZ,sS]))
 (refine tk 1 rfl (by assumption) ?_;(try simp only [Act.put,sA,sZ,sS]))
 (refine tk 2 rfl (by assumption) ?_;(try simp only [Act.put,sA,sZ,sS]))
 (refine tk 3 rfl (by assumption) ?_;(try simp only [Act.put,sA,sZ,sS]))
 (refine tk 4 rfl (by assumption) ?_;(try simp only [Act.put,sA,sZ,sS]))
 (refine tk 5 rfl (by assumption) ?_;(try simp only [Act.put,sA,sZ,sS]))
 (refine tk 6 rfl (by assumption) ?_;(try simp only [Act.put,sA,sZ,sS]))
 (refine tk 7 rfl (by assumption) ?_;(try simp only [Act.put,sA,sZ,sS]))
 (refine tk 8 rfl (by assumption) ?_;(try simp only [Act.put,sA,sZ,sS]))
 (refine tk 9 rfl (by assumption) ?_;(try simp only [Act.put,sA,sZ,sS]))
 (refine tk 10 rfl (by assumption) ?_;(try simp only [Act.put,sA,sZ,sS]))
 (refine tk 11 rfl (by assumption) ?_;(try simp only [Act.put,sA,sZ,sS]))
 (refine tk 12 rfl (by assumption) ?_;(try simp only [Act.put,sA,sZ,sS]))
 (refine tk 13 rfl (by assumption) ?_;(try simp only [Act.put,sA,sZ,sS]))
 (refine tk 14 rfl (by assumption) ?_;(try simp only [Act.put,sA,sZ,sS]))
 (refine tk 15 rfl (by assumption) ?_;(try simp only [Act.put,sA,sZ,sS]))
 (refine tk 16 rfl (by assumption) ?_;(try simp only [Act.put,sA,sZ,sS]))
 (refine tk 17 rfl (by assumption) ?_;(try simp only [Act.put,sA,sZ,sS]))
 (refine tk 18 rfl (by assumption) ?_;(try simp only [Act.put,sA,sZ,sS]))
 (refine tk 19 rfl (by assumption) ?_;(try simp only [Act.put,sA,sZ,sS]))
 (refine tk 20 rfl (by assumption) ?_;(try simp only [Act.put,sA,sZ,sS]))
 (refine tk 21 rfl (by assumption) ?_;(try simp only [Act.put,sA,sZ,sS]))
 (refine tk 22 rfl (by assumption) ?_;(try simp only [Act.put,sA,sZ,sS]))
 (refine tk 23 rfl (by assumption) ?_;(try simp only [Act.put,sA,sZ,sS]))
 refine rd 24 rfl (fun K hK=> ?_)
 go_simp
 refine (S8 hd0 mk1 mk2 _).mono ?_
 rintro e9 w9 ⟨rfl,hw9⟩
 subst w9
 refine hK.out _ _ hHeld (fun hHeld=> ?_)
 clear hK K
 (try simp only [Act.put,sA,sZ,sS])
 (refine tk 25 rfl (by assumption) ?_;(try simp only [Act.put,sA,sZ,sS]))
 (refine tk 26 rfl (by assumption) ?_;(try simp only [Act.put,sA,sZ,sS]))
 refine wpAnyH_done (by kernel_rfl) ?_ _
 refine ZI rfl rfl ?_
 go_simp
 clear hHeld
 go_wp2_with fail
 go_end0
 exact ⟨rfl,(uh HP2).below (Below.refl _ _).drew,((Two.of_set w (.inl rfl) _ _).trans (Two.of_set _ (.inl rfl) _ _)).trans (Two.of_below (Below.refl _ _).drew)⟩
theorem Yx  (h:Smy w v0 v1 v2 v3 v4 m) :
  Calls Tryz.prog 253 #[.agg #[v0,v1,v2,v3,v4,.int .i64 m.now]] w fun e w'=>e= .returned (.tuple #[.agg #[.slice none 0 0,.slice none 0 0,.slice none 0 0,.slice none 0 0,.slice none 0 0,.int .i64 0],.int .i64 3])/\Below w.heap.size w w':=by
 obtain ⟨a0,p0,a1,p1,a2,p2,a3,p3,a4,p4,rfl,rfl,rfl,rfl,rfl,_,_,_,_,_,_,_,_,_,_⟩:=h.five
 clear h
 go_enter Tryz.func253,Tryz.ntmps253
 go_wp2_with fail
 exact bodyPost_ret (v:= .tuple #[.agg #[.slice none 0 0,.slice none 0 0,.slice none 0 0,.slice none 0 0,.slice none 0 0,.int .i64 0],.int .i64 3]) (by simp [results,Tryz.results253,go_sem]) rfl ⟨rfl,((Below.refl _ _).alloc (Nat.le_refl _) _).alloc (by simp) _⟩
def Vh (m:Z3) (b:Int):Z3 × Int:=
 if ZK m then (if Vu m b then (if (Z8 m.desks b.toNat).1 then (m,2) else (Z1 (YG m b.toNat true),0)) else (m,1)) else (YB,3)
theorem La {b:Int} (h:Vu m b=true):∃ k:Nat,b=(k:Int)/\k<m.desks.length:=by
 have:=ZS (show inB b 0 ((m.desks.length:Int)-1)=true from h)
 exact ⟨b.toNat,by omega,by omega⟩
theorem Ki (h:ZK m=true) (b:Int):ZK (Vh m b).1=true:=by
 unfold Vh
 rw [h]
 simp only [if_true]
 split
 ·rename_i hw
  obtain ⟨k,rfl,hk⟩:=La hw
  rw [show ((k:Int)).toNat=k by simp]
  split
  ·exact h
  ·exact Zd (Ig (ZO h) hk)
 ·exact h
theorem P7  (bench:Int) (h:Smy w v0 v1 v2 v3 v4 m) :
  Calls Tryz.prog 262 #[.agg #[v0,v1,v2,v3,v4,.int .i64 m.now],.int .i64 bench] w fun e w'=>WY w.heap.size (Vh m bench).1 (Vh m bench).2 e w'/\Below w.heap.size w w':=by
 obtain ⟨X,hX⟩:∃ x,Vh m bench=x:=⟨_,rfl⟩
 rw [hX]
 have HX:=Z9 hX
 clear hX
 have Hv0:=Z9 h
 obtain ⟨a0,p0,a1,p1,a2,p2,a3,p3,a4,p4,rfl,rfl,rfl,rfl,rfl,_,_,_,_,_,_,_,_,_,_⟩:=h.five
 clear h
 obtain ⟨ok,hok⟩:∃ q,ZK m=q:=⟨_,rfl⟩
 have Hok:=Z9 hok
 clear hok
 go_enter Tryz.func262,Tryz.ntmps262
 go_wp2_with fail
 obtain ⟨W,hW,kb,kr,BB⟩:=YP w 32 (S6 a0 p0 a1 p1 a2 p2 a3 p3 a4 p4 m) 32 E6
 have Hv:=Z9 ((uh Hv0).below (uh BB))
 clear Hv0
 rw [hW]
 clear hW
 refine (Zc (uh Hok) (uh Hv)).mono ?_
 rintro e w1 ⟨rfl,hb⟩
 replace kb:=bl kb hb
 replace kr:=bl kr hb
 replace Hv:=Z9 ((uh Hv).below hb)
 replace BB:=bt BB hb
 clear hb
 cases ok
 ·
  obtain ⟨c0,c1,c2,c3,c4,c5⟩:=(uh kb).c6
  go_wp2_with fail
  clear c0 c1 c2 c3 c4 c5
  refine (Yx (uh Hv)).mono ?_
  rintro e w2 ⟨rfl,hb⟩
  replace kb:=bl kb hb
  replace kr:=bl kr hb
  replace Hv:=Z9 ((uh Hv).below hb)
  replace BB:=bt BB hb
  clear hb
  obtain ⟨o0,o1,o2,o3,o4,o5⟩:=(uh kr).c6
  obtain ⟨f0,f1,f2,f3,f4,f5⟩:=(uh kr).f6
  go_wp2_with fail
  have hX0:X=(YB,3):=by rw [<-uh HX];unfold Vh;rw [uh Hok];rfl
  refine bodyPost_ret (v:= .tuple #[.agg #[.slice none 0 0,.slice none 0 0,.slice none 0 0,.slice none 0 0,.slice none 0 0,.int .i64 0],.int .i64 3]) (by simp [results,Tryz.results262,go_sem, *]) rfl ⟨?_,?_⟩
  ·rw [hX0];exact ⟨_,_,_,_,_,[],rfl,YO _ _⟩
  ·iterate 6 (refine Below.setCell ?_ (by show _<=w.heap.size+1;omega) _)
   exact uh BB
 have hlo:=ZO (uh Hok)
 have HLo:=Z9 hlo
 have HFew:=Z9 (XF hlo)
 clear hlo
 obtain ⟨c0,c1,c2,c3,c4,c5⟩:=(uh kb).c6
 go_wp2_with fail
 clear c0 c1 c2 c3 c4 c5
 have hWs:w.heap.size+2<=w1.heap.size:=by have:=(uh kr).lt;omega
 refine (ZC (uh Hv) (uh HFew)).mono ?_
 rintro e w2 ⟨y0,y1,y2,y3,y4,oq,rfl,ho,hb⟩
 have k9:=ho.smy
 obtain ⟨b0,q0,b1,q1,b2,q2,b3,q3,b4,q4,rfl,rfl,rfl,rfl,rfl,_,_,_,_,_,_,_,_,_,_⟩:=k9.five
 clear k9
 replace kb:=bl kb hb
 replace kr:=bl kr hb
 replace Hv:=Z9 ((uh Hv).below hb)
 replace BB:=bt BB hb
 have HO:=Z9 (ho.mono hWs)
 have LO:Hid (∀ k,YC (.slice b0 m.rooms.length q0) (.slice b1 m.guilds.length q1) (.slice b2 m.smiths.length q2) (.slice b3 m.desks.length q3) (.slice b4 m.paces.length q4) oq k->w.heap.size+2<=k/\k<w2.heap.size):=Z9 (fun k e=>(uh HO).own e)
 have hsz9:=hb.size
 clear ho hb
 go_upto_region 4 with fail
 obtain ⟨W2,hW2,hba,ko⟩:=Zy w2 32 (S6 b0 q0 b1 q1 b2 q2 b3 q3 b4 q4 m)
 replace kb:=bl kb hba
 replace kr:=bl kr hba
 replace Hv:=Z9 ((uh Hv).below hba)
 replace HO:=Z9 ((uh HO).below hba)
 replace BB:=bt BB hba
 have hob:w.heap.size+2<=w2.heap.size:=Nat.le_trans hWs hsz9
 clear hba hsz9 hWs
 rw [hW2]
 clear hW2
 generalize w2.heap.size=ob at *
 obtain ⟨qw,hqw⟩:∃ q,Vu m bench=q:=⟨_,rfl⟩
 have Hqw:=Z9 hqw
 clear hqw
 obtain ⟨c0,c1,c2,c3,c4,c5⟩:=(uh kb).c6
 go_wp2_with fail
 clear c0 c1 c2 c3 c4 c5
 refine (Pz (uh Hqw) (uh Hv)).mono ?_
 rintro e w3 ⟨rfl,hb⟩
 replace kb:=bl kb hb
 replace kr:=bl kr hb
 replace Hv:=Z9 ((uh Hv).below hb)
 replace HO:=Z9 ((uh HO).below hb)
 replace ko:=bl ko hb
 replace BB:=bt BB hb
 clear hb
 cases qw
 ·
  obtain ⟨x0,x1,x2,x3,x4,x5⟩:=(uh ko).c6
  obtain ⟨o0,o1,o2,o3,o4,o5⟩:=(uh kr).c6
  obtain ⟨f0,f1,f2,f3,f4,f5⟩:=(uh kr).f6
  go_wp2_with fail
  have hX0:X=(m,1):=by rw [<-uh HX];unfold Vh;rw [uh Hok,uh Hqw];rfl
  refine bodyPost_ret (v:= .tuple #[.agg #[.slice b0 m.rooms.length q0,.slice b1 m.guilds.length q1,.slice b2 m.smiths.length q2,.slice b3 m.desks.length q3,.slice b4 m.paces.length q4,.int .i64 m.now],.int .i64 1]) (by simp [results,Tryz.results262,go_sem, *]) rfl ⟨?_,?_⟩
  ·rw [hX0];refine ⟨_,_,_,_,_,oq,rfl,?_⟩
   iterate 6 (refine FullSmy.set_off ?_ (fun k e=>by have:=(uh LO k e).1;omega) _ _)
   exact (uh HO).mono (by omega)
  ·iterate 6 (refine Below.setCell ?_ (by show _<=w.heap.size+1;omega) _)
   exact uh BB
 obtain ⟨k,rfl,hk⟩:=La (uh Hqw)
 have hk1:(k:Int)<(m.desks.length:Int):=by omega
 obtain ⟨_,_,hde,_,_,r3⟩:=(uh Hv).desks
 cases hde
 rcases r3 with e0 | ⟨db,off,rfl,hbw,hcl⟩
 ·rw [e0] at hk;simp at hk
 obtain ⟨d0,_,_⟩:=Zk hcl hk
 clear hcl
 obtain ⟨op,hop⟩:∃ q,(Z8 m.desks k).1=q:=⟨_,rfl⟩
 rw [hop] at d0
 have Hop:=Z9 hop
 clear hop
 have c3:=(uh kb).cell (i:=3) (v:= .slice (some ⟨db,off,none⟩) m.desks.length p3) rfl
 cases op
 rotate_left
 ·
  obtain ⟨x0,x1,x2,x3,x4,x5⟩:=(uh ko).c6
  obtain ⟨o0,o1,o2,o3,o4,o5⟩:=(uh kr).c6
  obtain ⟨f0,f1,f2,f3,f4,f5⟩:=(uh kr).f6
  go_wp2_with fail
  have hX0:X=(m,2):=by rw [<-uh HX];unfold Vh;rw [uh Hok,uh Hqw];simp only [if_true,Int.toNat_natCast];rw [uh Hop];rfl
  refine bodyPost_ret (v:= .tuple #[.agg #[.slice b0 m.rooms.length q0,.slice b1 m.guilds.length q1,.slice b2 m.smiths.length q2,.slice b3 m.desks.length q3,.slice b4 m.paces.length q4,.int .i64 m.now],.int .i64 2]) (by simp [results,Tryz.results262,go_sem, *]) rfl ⟨?_,?_⟩
  ·rw [hX0];refine ⟨_,_,_,_,_,oq,rfl,?_⟩
   iterate 6 (refine FullSmy.set_off ?_ (fun k e=>by have:=(uh LO k e).1;omega) _ _)
   exact (uh HO).mono (by omega)
  ·iterate 6 (refine Below.setCell ?_ (by show _<=w.heap.size+1;omega) _)
   exact uh BB
 obtain ⟨g3,hga,_,_,hc3,hz3⟩:=RecAt.view ZF (by omega) (uh HO).desks rfl (by omega)
 cases hga
 have s0:=hc3 k hk 0 _ rfl
 have f0:=hz3 (k*3)
 have x3:=(uh ko).cell (i:=3) (v:= .slice (some ⟨g3,0,none⟩) m.desks.length q3) rfl
 have hput:=(uh HO).putD rfl (j:=k) (i:=0) hk (by omega) (.bool true) (true,(Z8 m.desks k).2) rfl
 simp only [Nat.add_zero] at s0 hput
 have hg3o:=(uh LO g3 (.inr (.inr (.inr (.inr (.inl rfl))))))
 clear hc3 hz3
 go_upto_region 9 with fail
 clear s0 f0 x3 c3 d0
 have HP:=Z9 hput
 clear hput HO
 replace ko:Hid (Blk (w3.setCell ⟨g3,k*3,none⟩ (.bool true)) ob 32 #[.slice b0 m.rooms.length q0,.slice b1 m.guilds.length q1,.slice b2 m.smiths.length q2,.slice (some ⟨g3,0,none⟩) m.desks.length q3,.slice b4 m.paces.length q4,.int .i64 m.now]):=Z9 ((uh ko).other (a:=⟨g3,k*3,none⟩) (by show ob ≠ g3;omega) _)
 replace kr:Hid (Blk (w3.setCell ⟨g3,k*3,none⟩ (.bool true)) (w.heap.size+1) 32 #[.slice none 0 0,.slice none 0 0,.slice none 0 0,.slice none 0 0,.slice none 0 0,.int .i64 0]):=Z9 ((uh kr).other (a:=⟨g3,k*3,none⟩) (by show w.heap.size+1 ≠ g3;omega) _)
 replace BB:Hid (Below w.heap.size w (w3.setCell ⟨g3,k*3,none⟩ (.bool true))):=Z9 ((uh BB).setCell (p:=⟨g3,k*3,none⟩) (by show w.heap.size<=g3;omega) _)
 clear kb Hv
 generalize w3.setCell ⟨g3,k*3,none⟩ (.bool true)=W3 at *
 have hfw:=uh HFew
 go_wp2_with fail
 have hofR:∀ k,YC (.slice b0 m.rooms.length q0) (.slice b1 m.guilds.length q1) (.slice b2 m.smiths.length q2) (.slice (some ⟨g3,0,none⟩) m.desks.length q3) (.slice b4 m.paces.length q4) oq k->k ≠ ob:=fun k e=>by have:=(uh LO k e).2;omega
 refine (Y8 (m:=YG m k true) (uh ko) (uh HP) (fun e=>hofR _ (.inr (.inr (.inr (.inl e)))) rfl) (fun e=>hofR _ (.inr (.inr (.inr (.inr (.inl e))))) rfl) (by show m.smiths.length<=800;have:=hfw.smiths;omega) (by show (m.desks.set k _).length<=_;rw [List.length_set];exact hfw.desks)).mono ?_
 rintro e w4 ⟨rfl,hf9,ht9⟩
 replace kr:=Z9 ((uh kr).two ht9 (fun e=>by have:=(uh LO _ (.inr (.inr (.inr (.inl e))))).1;omega) (fun e=>by have:=(uh LO _ (.inr (.inr (.inr (.inr (.inl e)))))).1;omega))
 replace BB:=Z9 ((uh BB).trans (ht9.below (uh BB).size (fun k e=>by have:=(uh LO k (.inr (.inr (.inr (.inl e))))).1;omega) (fun k e=>by have:=(uh LO k (.inr (.inr (.inr (.inr (.inl e)))))).1;omega)))
 have HF9:=Z9 hf9
 clear hf9 ht9 hofR
 obtain ⟨o0,o1,o2,o3,o4,o5⟩:=(uh kr).c6
 obtain ⟨f0,f1,f2,f3,f4,f5⟩:=(uh kr).f6
 go_wp2_with fail
 have hX0:X=(Z1 (YG m k true),0):=by rw [<-uh HX];unfold Vh;rw [uh Hok,uh Hqw];simp only [if_true,Int.toNat_natCast];rw [uh Hop];rfl
 have hnow:(Z1 (YG m k true)).now=m.now:=(ZQ _ _).2.2.2.1
 refine bodyPost_ret (v:= .tuple #[.agg #[.slice b0 m.rooms.length q0,.slice b1 m.guilds.length q1,.slice b2 m.smiths.length q2,.slice (some ⟨g3,0,none⟩) m.desks.length q3,.slice b4 m.paces.length q4,.int .i64 m.now],.int .i64 0]) (by simp [results,Tryz.results262,go_sem,setS,U8,YG,pushS, *]) rfl ⟨?_,?_⟩
 ·rw [hX0];refine ⟨_,_,_,_,_,oq,by rw [hnow],?_⟩
  iterate 6 (refine FullSmy.set_off ?_ (fun k e=>by have:=(uh LO k e).1;omega) _ _)
  exact (uh HF9).mono (by omega)
 ·iterate 6 (refine Below.setCell ?_ (by show _<=w.heap.size+1;omega) _)
  exact uh BB
end Go.Proofs.YtnponpamjddpjaaGreat
