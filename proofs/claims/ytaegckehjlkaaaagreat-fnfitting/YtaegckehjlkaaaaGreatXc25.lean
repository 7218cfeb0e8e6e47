/- Part 25 of what the proof rests on. No condition but those that a theorem names. -/
import Derived.Test.YtaegckehjlkaaaaGreatXc24
set_option maxHeartbeats 8000000
set_option maxRecDepth 100000
namespace Go.Proofs.YtaegckehjlkaaaaGreat
open Go.ChangeShapes Go.WideShapes Go.ChangeAt Go.RowKit Go.Sort
set_option linter.unusedVariables false
variable {w w' w0 w1 w2 w3 w₀ wr W W' X A B C : World} {v v0 v1 v2 v3 v4 u u0 u1 u2 u3 u4 : Value} {m : Z6}
def cnt (p:Nat->Bool):Nat->Nat
 | 0=>0
 | n+1=>cnt p n+(if p n then 1 else 0)
theorem Dw (p:Nat->Bool):∀ n,cnt p n<=n
 | 0=>Nat.le_refl _
 | n+1=>by
  have:=Dw p n
  unfold cnt
  split<;>omega
theorem Oc {p q:Nat->Bool} : ∀ n,(∀ i,i<n->p i=true->q i=true)->cnt p n<=cnt q n
 | 0,_=>Nat.le_refl _
 | n+1,h=>by
  have ih:=Oc n (fun i hi=>h i (by omega))
  have hn:=h n (by omega)
  unfold cnt
  cases hp:p n
  ·simp;omega
  ·rw [hn hp];simp;exact ih
theorem Rh {p q:Nat->Bool} {x:Nat} (hp:p x=true) (hq:q x=false):∀ n,x<n->(∀ i,i<n->q i=true->p i=true)->cnt q n+1<=cnt p n
 | 0,hx,_=>by omega
 | n+1,hx,h=>by
  unfold cnt
  by_cases e:x=n
  ·subst e
   have:=Oc (p:=q) (q:=p) x (fun i hi=>h i (by omega))
   rw [hp,hq];simp;exact this
  ·have ih:=Rh hp hq n (by omega) (fun i hi=>h i (by omega))
   have hn:=h n (by omega)
   cases hqn:q n
   ·simp;omega
   ·rw [hn hqn];simp;exact ih
theorem Gx (q:Nat->Bool) (y:Nat):∀ n,cnt q n<=cnt (fun i=>q i && !(i ==y)) n+1
 | 0=>by simp [cnt]
 | n+1=>by
  unfold cnt
  by_cases e:n=y
  ·subst e
   have:=Oc (p:=q) (q:=fun i=>q i && !(i ==n)) n (fun i hi hqi=>by
    simp only [hqi,Bool.true_and,Bool.not_eq_true',beq_eq_false_iff_ne];omega)
   simp only [beq_self_eq_true,Bool.not_true,Bool.and_false]
   split<;>simp<;>omega
  ·have ih:=Gx q y n
   have he:(n ==y)=false:=by simpa using e
   simp only [he,Bool.not_false,Bool.and_true]
   omega
theorem Dx {p q:Nat->Bool} {x y n:Nat} (hx:x<n) (hp:p x=true) (hq:q x=false) (h:∀ i,i<n->i ≠ y->q i=true->p i=true):cnt q n<=cnt p n:=by
 have h1:=Gx q y n
 have h2:=Rh (p:=p) (q:=fun i=>q i && !(i ==y)) hp (by simp [hq]) n hx (fun i hi hqi=>by
  simp only [Bool.and_eq_true,Bool.not_eq_true',beq_eq_false_iff_ne] at hqi
  exact h i hi hqi.2 hqi.1)
 omega
def Wf (m:Z6) (b:Nat):Bool:=(Z8 m.desks b).1 && decide ((atV m.smiths b m.smiths.length).length=0)
def Sh (m:Z6) (i:Nat):Bool:=ZP (Z8 m.smiths i) && !W6 (ZI m (i:Int)) 0 (Zx m.rooms (Z8 m.smiths i).2.1)
def Oo (m:Z6) (w b:Nat):Bool:=Wf m b && (Zw m (w:Int) b && W6 (ZI m (w:Int)) 0 (Zx m.rooms (b:Int)))
def VX (m:Z6) (w:Nat):Nat->Option Nat
 | 0=>none
 | k+1=>match VX m w k with
  | some b=>some b
  | none=>if Oo m w k then some k else none
def Rs (m:Z6) (w:Nat):Option Nat:=if Sh m w then VX m w m.desks.length else none
def Uc (m:Z6):Nat->Option (Nat × Nat)
 | 0=>none
 | k+1=>match Uc m k with
  | some r=>some r
  | none=>(Rs m k).map fun b=>(k,b)
def Vn (m:Z6):Option (Nat × Nat):=if ZS m then Uc m m.smiths.length else none
def Qi (m:Z6) (w b:Nat):Bool:=(Z8 m.smiths w).1 ==2 && Zw m (w:Int) b
def VE (m:Z6) (b:Nat):Nat->Option Nat
 | 0=>none
 | k+1=>match VE m b k with
  | some w=>some w
  | none=>if Qi m k b then some k else none
def Q6 (m:Z6) (b:Nat):Option Nat:=if Wf m b then VE m b m.smiths.length else none
def WT (m:Z6):Nat->Option (Nat × Nat)
 | 0=>none
 | k+1=>match WT m k with
  | some r=>some r
  | none=>(Q6 m k).map fun w=>(w,k)
def VO (m:Z6):Option (Nat × Nat):=if ZS m then WT m m.desks.length else none
def U2 (m:Z6):Option (Nat × Nat):=match Vn m with
 | some r=>some r
 | none=>VO m
theorem MS {w b:Nat} : ∀ {k},VX m w k=some b->b<k/\Oo m w b=true
 | 0,h=>by cases h
 | k+1,h=>by
  unfold VX at h
  cases hg:VX m w k with
  | some b'=>
   rw [hg] at h
   cases h
   have:=MS hg
   exact ⟨by omega,this.2⟩
  | none=>
   rw [hg] at h
   simp only at h
   split at h
   ·rename_i hh
    cases h
    exact ⟨by omega,hh⟩
   ·cases h
theorem KN {w b:Nat} : ∀ {k},Uc m k=some (w,b)->w<k/\Sh m w=true/\b<m.desks.length/\Oo m w b=true
 | 0,h=>by cases h
 | k+1,h=>by
  unfold Uc at h
  cases hg:Uc m k with
  | some r=>
   rw [hg] at h
   cases h
   have:=KN hg
   exact ⟨by omega,this.2⟩
  | none=>
   rw [hg] at h
   simp only [Option.map_eq_some_iff,Prod.mk.injEq] at h
   obtain ⟨b',hb',rfl,rfl⟩:=h
   unfold Rs at hb'
   split at hb'
   ·rename_i hh
    have:=MS hb'
    exact ⟨by omega,hh,this⟩
   ·cases hb'
theorem Ny {w b:Nat} : ∀ {k},VE m b k=some w->w<k/\Qi m w b=true
 | 0,h=>by cases h
 | k+1,h=>by
  unfold VE at h
  cases hg:VE m b k with
  | some w'=>
   rw [hg] at h
   cases h
   have:=Ny hg
   exact ⟨by omega,this.2⟩
  | none=>
   rw [hg] at h
   simp only at h
   split at h
   ·rename_i hh
    cases h
    exact ⟨by omega,hh⟩
   ·cases h
theorem Pj {w b:Nat} : ∀ {k},WT m k=some (w,b)->b<k/\Wf m b=true/\w<m.smiths.length/\Qi m w b=true
 | 0,h=>by cases h
 | k+1,h=>by
  unfold WT at h
  cases hg:WT m k with
  | some r=>
   rw [hg] at h
   cases h
   have:=Pj hg
   exact ⟨by omega,this.2⟩
  | none=>
   rw [hg] at h
   simp only [Option.map_eq_some_iff,Prod.mk.injEq] at h
   obtain ⟨b',hb',rfl,rfl⟩:=h
   unfold Q6 at hb'
   split at hb'
   ·rename_i hh
    have:=Ny hb'
    exact ⟨by omega,hh,this⟩
   ·cases hb'
def Uw (m:Z6) (w b:Nat):Z6:=setS m w (putS m (Z8 m.smiths w) (b:Int))
def U3 (m:Z6) (w b:Nat):Z6:=ZO (Uw m w b)
structure Moves (m:Z6) (w b:Nat):Prop where
 right:ZS m=true
 who:w<m.smiths.length
 bench:b<m.desks.length
 pres:ZP (Z8 m.smiths w)=true
 may:Zw m (w:Int) b=true
 idle:Wf m b=true
 why:(Sh m w=true/\W6 (ZI m (w:Int)) 0 (Zx m.rooms (b:Int))=true)\/(Z8 m.smiths w).1=2
theorem FK {w b:Nat} (h:Vn m=some (w,b)):Moves m w b:=by
 unfold Vn at h
 split at h
 ·rename_i hr
  obtain ⟨h1,h2,h3,h4⟩:=KN h
  unfold Oo at h4
  simp only [Bool.and_eq_true] at h4
  have h2':=h2
  unfold Sh at h2'
  simp only [Bool.and_eq_true] at h2'
  exact ⟨hr,h1,h3,h2'.1,h4.2.1,h4.1,.inl ⟨h2,h4.2.2⟩⟩
 ·cases h
theorem I2 {w b:Nat} (h:VO m=some (w,b)):Moves m w b:=by
 unfold VO at h
 split at h
 ·rename_i hr
  obtain ⟨h1,h2,h3,h4⟩:=Pj h
  unfold Qi at h4
  simp only [Bool.and_eq_true,beq_iff_eq] at h4
  exact ⟨hr,h3,h1,by unfold ZP;rw [h4.1];rfl,h4.2,h2,.inr h4.1⟩
 ·cases h
theorem SV {w b:Nat} (h:U2 m=some (w,b)):Moves m w b:=by
 unfold U2 at h
 cases hm:Vn m with
 | some r=>rw [hm] at h;cases h;exact FK hm
 | none=>rw [hm] at h;exact I2 h
theorem Moves.loose {w b:Nat} (h:Moves m w b):Loose (Uw m w b):=by
 have hlo:=ZZ h.right
 obtain ⟨p,g1,b1⟩:=hlo.limits h.who (by intro e;have:=h.pres;unfold ZP at this;rw [e] at this;cases this)
 obtain ⟨a0,a1,a2,a3,a4⟩:=hlo.at h.who h.pres
 have hm:=h.may
 unfold Zw at hm
 simp only [Bool.and_eq_true,Int.toNat_natCast] at hm
 have:=OE (m:=m) hlo (s:=Z8 m.smiths w) (b:=b) p h.pres g1 a0 a1 a4 h.bench hm.1 hm.2
 exact hlo.setS h.who this.1 this.2
theorem Moves.keeps {w b:Nat} (h:Moves m w b):ZS (U3 m w b)=true:=YM h.loose
theorem LZ {ss:List Z5} {b:Int} {n:Nat} : (atV ss b n).length=0 ↔ ∀ i,i<n-> ¬ ((Z8 ss i).2.1=b/\ZP (Z8 ss i)=true):=by
 constructor
 ·intro h i hi hp
  have hm:(V7 (Z8 ss i),(i:Int)) ∈ atV ss b n:=(Xs ss b _ n).2 ⟨i,hi,hp.1,hp.2,rfl⟩
  rw [List.length_eq_zero_iff.1 h] at hm
  cases hm
 ·intro h
  rw [List.length_eq_zero_iff]
  refine List.eq_nil_iff_forall_not_mem.2 fun e he=> ?_
  obtain ⟨i,hi,h1,h2,_⟩:=(Xs ss b e n).1 he
  exact h i hi ⟨h1,h2⟩
theorem Rx {w b:Nat} (hw:w<m.smiths.length) (i:Nat):Z8 (Uw m w b).smiths i=if i=w then putS m (Z8 m.smiths w) (b:Int) else Z8 m.smiths i:=ZF hw i
theorem U5 (m:Z6) (w b:Nat):(Uw m w b).smiths.length=m.smiths.length:=by unfold Uw setS;simp
theorem Nv {i:Nat} (hi:i<m.smiths.length):(Z8 (ZO m).smiths i).2=(Z8 m.smiths i).2:=by
 unfold ZO
 rw [VN m hi]
 split<;>rfl
theorem Gg {i:Nat} (hi:i<m.smiths.length):ZP (Z8 (ZO m).smiths i)=ZP (Z8 m.smiths i):=(WB m m.desks.length i hi).2.1
theorem Ge (m:Z6) {b:Nat} (hb:b<m.desks.length):Wf (ZO m) b=Wf m b:=by
 unfold Wf ZO
 rw [Q2,TS m b _ (Nat.le_refl _),if_pos hb]
 congr 1
 unfold Wm
 split<;>rfl
theorem EL (m:Z6) {i:Nat} (hi:i<m.smiths.length):Sh (ZO m) i=Sh m i:=by
 have h1:ZI (ZO m) (i:Int)=ZI m (i:Int):=by
  unfold ZI RJ
  rw [Int.toNat_natCast,Nv hi,show (ZO m).guilds=m.guilds from (ZK m m.desks.length).2.1]
 unfold Sh
 rw [Gg hi,h1,Nv hi,show (ZO m).rooms=m.rooms from (ZK m m.desks.length).1]
def P5 (m:Z6):Nat:=cnt (Wf m) m.desks.length
def Mn (m:Z6):Nat:=cnt (Sh m) m.smiths.length
def Tf (m:Z6):Nat:=13*P5 m+Mn m
theorem JY {p q:Nat->Bool} (n:Nat) (h:∀ i,i<n->p i=q i):cnt p n=cnt q n:=
 Nat.le_antisymm (Oc n fun i hi hp=>by rw [<-h i hi];exact hp) (Oc n fun i hi hp=>by rw [h i hi];exact hp)
theorem Js (m:Z6):P5 (ZO m)=P5 m:=by
 unfold P5
 rw [show (ZO m).desks.length=m.desks.length from (ZK m m.desks.length).2.2.2.2.2]
 exact JY _ fun i hi=>Ge m hi
theorem Gf (m:Z6):Mn (ZO m)=Mn m:=by
 unfold Mn
 rw [show (ZO m).smiths.length=m.smiths.length from (ZK m m.desks.length).2.2.2.2.1]
 exact JY _ fun i hi=>EL m hi
theorem Ek {w b:Nat} (hw:w<m.smiths.length) (hp:ZP (Z8 m.smiths w)=true):Wf (Uw m w b) b=false:=by
 unfold Wf
 rw [decide_eq_false,Bool.and_false]
 intro h
 refine LZ.1 h w (by rw [U5];exact hw) ?_
 rw [Rx hw,if_pos rfl]
 exact ⟨rfl,hp⟩
theorem Lc {w b j:Nat} (hw:w<m.smiths.length) (hj:(Z8 m.smiths w).2.1 ≠ (j:Int)) (h:Wf (Uw m w b) j=true):Wf m j=true:=by
 unfold Wf at h ⊢
 simp only [Bool.and_eq_true,decide_eq_true_eq] at h ⊢
 refine ⟨h.1,LZ.2 fun i hi hp=> ?_⟩
 have:=LZ.1 h.2 i (by rw [U5];exact hi)
 rw [Rx hw] at this
 by_cases e:i=w
 ·subst e;exact hj hp.1
 ·rw [if_neg e] at this;exact this hp
theorem Dk {w b i:Nat} (hw:w<m.smiths.length) (hi:i ≠ w):Sh (Uw m w b) i=Sh m i:=by
 unfold Sh ZI
 rw [Int.toNat_natCast,Rx hw,if_neg hi]
 rfl
theorem El {w b:Nat} (hw:w<m.smiths.length) (h:W6 (ZI m (w:Int)) 0 (Zx m.rooms (b:Int))=true):Sh (Uw m w b) w=false:=by
 unfold Sh ZI
 rw [Int.toNat_natCast,Rx hw,if_pos rfl]
 have e:RJ (Uw m w b).guilds (putS m (Z8 m.smiths w) (b:Int))=ZI m (w:Int):=by
  unfold ZI
  rw [Int.toNat_natCast]
  rfl
 rw [e]
 show (_ && !W6 _ 0 (Zx m.rooms (b:Int)))=false
 rw [h];simp
theorem JA (h:ZS m=true) {w:Nat} (hw:w<m.smiths.length) (h2:(Z8 m.smiths w).1=2):∃ i,i<m.smiths.length/\i ≠ w/\(Z8 m.smiths i).2.1=(Z8 m.smiths w).2.1/\ZP (Z8 m.smiths i)=true:=by
 have hlo:=ZZ h
 have hp:ZP (Z8 m.smiths w)=true:=by unfold ZP;rw [h2];rfl
 obtain ⟨a0,a1,_⟩:=hlo.at hw hp
 obtain ⟨b,hb⟩:∃ b:Nat,(Z8 m.smiths w).2.1=(b:Int):=⟨(Z8 m.smiths w).2.1.toNat,by omega⟩
 have hbl:b<m.desks.length:=by omega
 have hok:Yn m b=true:=by
  unfold ZS at h
  simp only [Bool.and_eq_true] at h
  exact LU h.2 hbl
 rw [<-Nu] at hok
 unfold VD at hok
 split at hok
 ·simp only [decide_eq_true_eq,List.length_eq_zero_iff] at hok
  have:(w:Int) ∈ ZQ (atB (b:Int)) m.smiths m.smiths.length:=(Xh _ _ _ _).2 ⟨w,hw,rfl,by unfold atB;rw [h2,hb];simp⟩
  rw [hok] at this
  cases this
 ·simp only [Bool.and_eq_true,decide_eq_true_eq] at hok
  have hx:Z8 (ZQ (Y8 (b:Int)) m.smiths m.smiths.length) 0 ∈ ZQ (Y8 (b:Int)) m.smiths m.smiths.length:=Xn (by omega)
  obtain ⟨i,hi,_,hwk⟩:=(Xh _ _ _ _).1 hx
  unfold Y8 at hwk
  simp only [Bool.and_eq_true,beq_iff_eq] at hwk
  exact ⟨i,hi,fun e=>by subst e;omega,by rw [hb];exact hwk.2,by unfold ZP;rw [hwk.1];rfl⟩
theorem Moves.falls {w b:Nat} (h:Moves m w b):Tf (U3 m w b)<Tf m:=by
 unfold Tf U3
 rw [Js,Gf]
 have hlo:=ZZ h.right
 have h12:=Yv hlo
 obtain ⟨a0,a1,_⟩:=hlo.at h.who h.pres
 have hmb:=Dw (Sh (Uw m w b)) m.smiths.length
 have hbusy:=Ek (b:=b) h.who h.pres
 rcases h.why with ⟨hmis,hfit⟩ | hwait
 ·have e1:P5 (Uw m w b)<=P5 m:=Dx (y:=(Z8 m.smiths w).2.1.toNat) h.bench h.idle hbusy fun i hi hne hq=>Lc h.who (by omega) hq
  have e2:Mn (Uw m w b)+1<=Mn m:=by
   unfold Mn
   rw [U5]
   refine Rh hmis (El h.who hfit) _ h.who fun i hi hq=> ?_
   by_cases e:i=w
   ·subst e;exact hmis
   ·rw [Dk h.who e] at hq;exact hq
  omega
 ·have e1:P5 (Uw m w b)+1<=P5 m:=by
   refine Rh h.idle hbusy _ h.bench fun j hj hq=> ?_
   by_cases e:(Z8 m.smiths w).2.1=(j:Int)
   ·exfalso
    obtain ⟨i,hi,hiw,hbe,hpr⟩:=JA h.right h.who hwait
    unfold Wf at hq
    simp only [Bool.and_eq_true,decide_eq_true_eq] at hq
    have:=LZ.1 hq.2 i (by rw [U5];exact hi)
    rw [Rx h.who,if_neg hiw] at this
    exact this ⟨by rw [hbe,e],hpr⟩
   ·exact Lc h.who e hq
  have e2:Mn (Uw m w b)<=12:=by
   unfold Mn
   rw [U5]
   omega
  omega
def U1:Nat->Z6->Z6
 | 0,m=>m
 | k+1,m=>match U2 m with
  | none=>m
  | some (w,b)=>U1 k (U3 m w b)
def Uu (m:Z6):Z6:=U1 (Tf m+1) m
theorem Qa:∀ (j k:Nat) (m:Z6),Tf m<j->Tf m<k->U1 j m=U1 k m
 | 0,_,_,h,_=>by omega
 | _+1,0,_,_,h=>by omega
 | j+1,k+1,m,hj,hk=>by
  show (match U2 m with | none=>m | some (w,b)=>U1 j (U3 m w b))=(match U2 m with | none=>m | some (w,b)=>U1 k (U3 m w b))
  cases hm:U2 m with
  | none=>rfl
  | some r=>
   obtain ⟨w,b⟩:=r
   have hf:=(SV hm).falls
   exact Qa j k (U3 m w b) (by omega) (by omega)
theorem KB (h:U2 m=none):Uu m=m:=by
 unfold Uu U1
 rw [h]
theorem M6 {w b:Nat} (h:U2 m=some (w,b)):Uu m=Uu (U3 m w b):=by
 have hf:=(SV h).falls
 have:Uu m=U1 (Tf m) (U3 m w b):=by
  show (match U2 m with | none=>m | some (w,b)=>U1 (Tf m) (U3 m w b))=_
  rw [h]
 rw [this]
 exact Qa _ _ _ (by omega) (by omega)
theorem Rq:∀ (k:Nat) (m:Z6),ZS m=true->ZS (U1 k m)=true
 | 0,m,h=>h
 | k+1,m,h=>by
  unfold U1
  cases hm:U2 m with
  | none=>exact h
  | some r=>
   obtain ⟨w,b⟩:=r
   exact Rq k (U3 m w b) (SV hm).keeps
theorem KC (h:ZS m=true):ZS (Uu m)=true:=Rq _ m h
def XG (m:Z6):Z6:=if ZS m then Uu m else X9
set_option linter.unusedSimpArgs false
theorem Two.ents {p q:Option Nat} {B:Nat} {ps:List Z1} (h:EntsAt B w v ps) (ht:Two p q w w') (hp:∀ k,p=some k->k<B) (hq:∀ k,q=some k->k<B):EntsAt B w' v ps:=
 EntsAt.same h fun k e=>ht.block k (h.lt e).2 (fun e'=>by have:=hp k e';have:=(h.lt e).1;omega) (fun e'=>by have:=hq k e';have:=(h.lt e).1;omega)
theorem Two.cell {p q:Option Nat} (h:Two p q w w') {a:Addr} (ha:a.block<w.heap.size) (hp:p ≠ some a.block) (hq:q ≠ some a.block):w'.cell? a=w.cell? a:=World.cell?_of_block (w:=w) (h.block a.block ha hp hq)
theorem EK {q:List Z1} {j:Nat} (hj:j<q.length):q.take (j+1)=q.take j++[ZY q j]:=by
 rw [List.take_succ_eq_append_getElem hj];unfold ZY;simp [List.getD,hj]
theorem Gd {b:Nat} (h:atV m.smiths b m.smiths.length=[]):WM m b={ m with desks:=m.desks.set b ((Z8 m.desks b).1,-1,(Z8 m.desks b).2.2) }:=by
 unfold WM;rw [h]
theorem Jo {b:Nat} {e:Z1} {t:List Z1} (h:atV m.smiths b m.smiths.length=e::t):WM m b={ m with smiths:=(Zv m.smiths (e::t)).set e.2.toNat (stS (Z8 (Zv m.smiths (e::t)) e.2.toNat) 3),desks:=m.desks.set b ((Z8 m.desks b).1,e.2,YN (Z8 m.desks b).2.2 e.1) }:=by
 unfold WM;rw [h]
theorem SP {R n₀:Nat}  {qs:List (Z3 × Value)} (kb:Blk w R 32 #[v0,v1,v2,v3,v4,.int .i64 m.now]) (hf:FullSmy n₀ w v0 v1 v2 v3 v4 m qs) (h2:v2.ownBlock ≠ some R) (h3:v3.ownBlock ≠ some R) (hl:m.smiths.length<=800) (hd:m.desks.length<=1000) :
  Calls Tryz.prog 290 #[.pointer (some ⟨R,0,none⟩)] w fun e w'=>e= .returned (.tuple #[])/\FullSmy n₀ w' v0 v1 v2 v3 v4 (ZO m) qs/\Two v2.ownBlock v3.ownBlock w w':=by
 obtain ⟨a2,p2,rfl⟩:=RecAt.shape hf.smiths
 obtain ⟨a3,p3,rfl⟩:=RecAt.shape hf.desks
 by_cases hnd:m.desks.length=0
 ·have hz:ZO m=m:=by unfold ZO;rw [hnd];rfl
  have c3:=kb.cell (i:=3) (v:= .slice a3 m.desks.length p3) rfl
  have HF:=Z9 hf
  rw [hz]
  have hz0:¬ (0:Int)<(m.desks.length:Int):=by omega
  clear hz hf kb hnd
  go_enter Tryz.func290,Tryz.ntmps290
  go_wp2_with fail
  go_loopw [2] (fun i wr=>i= .int .i64 0/\wr=w) (fun i _=>0)
  case atStart=>exact ⟨rfl,rfl⟩
  case round=>
   obtain ⟨rfl,hwr⟩:=hrel
   subst hwr
   go_wp2_with fail
   go_end0
   exact ⟨rfl,uh HF,Two.refl _ _ _⟩
 obtain ⟨g3,rfl,hg3,hg3w,_,_⟩:=RecAt.view Zm (by omega) hf.desks rfl (by omega)
 have Kb:=Z9 kb
 have H2:=Z9 h2
 have H3:Hid (g3 ≠ R):=Z9 (fun e=>h3 (by rw [e];rfl))
 have HF:=Z9 hf
 have L2:Hid (∀ i,(Value.slice a2 m.smiths.length p2).ownBlock=some i->i<w.heap.size):=Z9 (fun i e=>(RecAt.lt hf.smiths e).2)
 clear kb h2 h3 hf
 go_enter Tryz.func290,Tryz.ntmps290
 go_wp2_with fail
 go_loopw [2] (fun i wr=> ∃ k:Nat,k<=m.desks.length/\i= .int .i64 k/\FullSmy n₀ wr v0 v1 (.slice a2 m.smiths.length p2) (.slice (some ⟨g3,0,none⟩) m.desks.length p3) v4 (XY m k) qs/\Two (Value.slice a2 m.smiths.length p2).ownBlock (some g3) w wr) (fun i _=>m.desks.length-(intOf i).toNat)
 case atStart=>exact ⟨0,Nat.zero_le _,rfl,uh HF,Two.refl _ _ _⟩
 case round=>
  obtain ⟨k,hk,rfl,hf1,htw⟩:=hrel
  obtain ⟨e1,e2,e3,e4,e5,e6⟩:=ZK m k
  have Tw:=Z9 htw
  have hgw:g3<wr.heap.size:=Nat.lt_of_lt_of_le hg3w htw.size
  have hszr:=htw.size
  have hkb1:=(uh Kb).two htw (uh H2) (fun e=>uh H3 (by cases e;rfl))
  have K1:=Z9 hkb1
  clear htw hkb1
  by_cases hlt:k<m.desks.length
  rotate_left
  ·obtain rfl:k=m.desks.length:=by omega
   have c3:=(uh K1).cell (i:=3) (v:= .slice (some ⟨g3,0,none⟩) m.desks.length p3) rfl
   have hno:¬ ((m.desks.length:Nat):Int)<(m.desks.length:Int):=by omega
   have HF1:=Z9 hf1
   clear hf1
   go_wp2_with fail
   go_end0
   exact ⟨rfl,uh HF1,uh Tw⟩
  have hstep:XY m (k+1)=WM (XY m k) k:=rfl
  generalize XY m k=m1 at *
  have Hstep:=Z9 hstep
  clear hstep
  obtain ⟨c0,c1,c2,c3,c4,c5⟩:=(uh K1).c6
  have hat:=Sp (k:Int) hf1.smy (by rw [e5];exact hl)
  rw [e4,e5] at hat
  have Hat:=Z9 hat
  have HF1:=Z9 hf1
  clear hat hf1
  go_wp2_with fail
  refine (uh Hat).mono ?_
  rintro e w1 ⟨v',rfl,he,hb⟩
  clear c0 c1 c2 c3 c4 c5 Hat
  have hmem:=Xs m1.smiths (k:Int)
  have hlq:=Rb m1.smiths (k:Int) m.smiths.length
  have HN:Hid (atV m1.smiths (k:Int) m.smiths.length=[]->WM m1 k={ m1 with desks:=m1.desks.set k ((Z8 m1.desks k).1,-1,(Z8 m1.desks k).2.2) }):=Z9 (fun h=>Gd (by rw [e5];exact h))
  have HC:Hid (∀ e t,atV m1.smiths (k:Int) m.smiths.length=e::t->WM m1 k={ m1 with smiths:=(Zv m1.smiths (e::t)).set e.2.toNat (stS (Z8 (Zv m1.smiths (e::t)) e.2.toNat) 3),desks:=m1.desks.set k ((Z8 m1.desks k).1,e.2,YN (Z8 m1.desks k).2.2 e.1) }):=Z9 (fun e t h=>Jo (by rw [e5];exact h))
  have hmq:∀ x ∈ atV m1.smiths (k:Int) m.smiths.length,∃ j:Nat,j<m.smiths.length/\x.2=(j:Int):=fun x hx=>by
   obtain ⟨j,hj,_,_,rfl⟩:=(hmem x m.smiths.length).1 hx
   exact ⟨j,hj,rfl⟩
  have Hm:=Z9 hmq
  clear hmem hmq
  generalize atV m1.smiths (k:Int) m.smiths.length=q at *
  obtain ⟨qa,qc,rfl⟩:=EntsAt.shape he
  have HE:=Z9 he
  replace HF1:=Z9 ((uh HF1).below hb)
  replace K1:=bl K1 hb
  replace Tw:=Z9 ((uh Tw).trans (Two.of_below hb))
  have hgw1:g3<w1.heap.size:=Nat.lt_of_lt_of_le hgw hb.size
  have hwr1:=hb.size
  clear he hb
  obtain ⟨⟨o,wh,mk⟩,hrk⟩:∃ d,Z8 m1.desks k=d:=⟨_,rfl⟩
  rw [hrk] at HN HC
  simp only at HN HC
  have Hrk:=Z9 hrk
  have hkd:k<m1.desks.length:=by omega
  have hset:∀ d,Z8 (m1.desks.set k d) k=d:=fun d=>by rw [ZF hkd,if_pos rfl]
  have Hset:=Z9 hset
  clear hset
  obtain ⟨_,hga,_,_,hc3,hz3⟩:=RecAt.view Zm (by omega) (uh HF1).desks e6.symm (by omega)
  cases hga
  have d1:=hc3 k (by omega) 1 _ rfl
  rw [hrk] at d1
  have f1:=hz3 (k*3+1)
  have c3:=(uh K1).cell (i:=3) (v:= .slice (some ⟨g3,0,none⟩) m.desks.length p3) rfl
  have hput:=(uh HF1).putD e6.symm (j:=k) (i:=1) (by omega) (by omega) (.int .i64 (-1)) (o,-1,mk) (by rw [hrk];rfl)
  have HF2:=Z9 hput
  have hns:Two (Value.slice a2 m.smiths.length p2).ownBlock (some g3) w1 (w1.setCell ⟨g3,k*3+1,none⟩ (.int .i64 (-1))):=Two.of_set w1 (.inr rfl) _ _
  have K2:=Z9 ((uh K1).two hns (uh H2) (fun e=>uh H3 (by cases e;rfl)))
  have Tw2:=Z9 ((uh Tw).trans hns)
  have hlow2:∀ i,(Value.slice a2 m.smiths.length p2).ownBlock=some i->i<wr.heap.size:=fun i e=>Nat.lt_of_lt_of_le (uh L2 i e) hszr
  have Low2:=Z9 hlow2
  have HE2:=Z9 (Two.ents (uh HE) hns hlow2 (fun i e=>by cases e;exact hgw))
  clear hput hns hlow2 hc3 hz3 hrk
  go_upto_region 5 with fail
  clear d1 f1 c3 K1 Tw HE HF1
  generalize w1.setCell ⟨g3,k*3+1,none⟩ (.int .i64 (-1))=X at *
  have hsm:∀ i,i ∈ [0]->True:=fun _ _=>trivial
  clear hsm
  go_wp2_with fail
  go_loopw [4] (fun i wi=> ∃ j:Nat,j<=q.length/\i= .int .i64 j/\FullSmy n₀ wi v0 v1 (.slice a2 m.smiths.length p2) (.slice (some ⟨g3,0,none⟩) m.desks.length p3) v4 { m1 with smiths:=Zv m1.smiths (q.take j),desks:=m1.desks.set k (o,-1,mk) } qs/\Two (Value.slice a2 m.smiths.length p2).ownBlock (some g3) X wi) (fun i _=>q.length-(intOf i).toNat)
  case atStart=>exact ⟨0,Nat.zero_le _,rfl,by simpa [Zv] using uh HF2,Two.refl _ _ _⟩
  case round=>
   obtain ⟨wi,rfl⟩:∃ x,x=wr:=⟨wr,rfl⟩
   obtain ⟨j,hj,rfl,hf3,htw3⟩:=hrel
   have HF3:=Z9 hf3
   have Tw3:=Z9 htw3
   have K3:=Z9 ((uh K2).two htw3 (uh H2) (fun e=>uh H3 (by cases e;rfl)))
   have HE3:=Z9 (Two.ents (uh HE2) htw3 (uh Low2) (fun i e=>by cases e;exact hgw))
   clear hf3 htw3
   by_cases hjl:j<q.length
   ·obtain ⟨_,_,hqe,_,_,hr⟩:=EntsAt.paces (uh HE3)
    cases hqe
    rcases hr with e0 | ⟨eb,eo,rfl,hbw,hcl⟩
    ·rw [e0] at hjl;simp at hjl
    obtain ⟨c0,c1⟩:=hcl j hjl
    obtain ⟨i0,hi0,hie⟩:=uh Hm _ (U4 hjl)
    rw [hie] at c1
    have Htk:Hid (Zv m1.smiths (q.take (j+1))=(Zv m1.smiths (q.take j)).set i0 (stS (Z8 (Zv m1.smiths (q.take j)) i0) 2)):=Z9 (by rw [EK hjl,MF,hie];simp)
    have hwl:(Zv m1.smiths (q.take j)).length=m.smiths.length:=by rw [UN,e5]
    obtain ⟨g2,rfl,hg2,hg2w,hc2,hz2⟩:=RecAt.view ZT (by omega) (uh HF3).smiths hwl.symm (by show 0<(Zv m1.smiths (q.take j)).length;omega)
    have s0:=hc2 i0 (by show i0<(Zv m1.smiths (q.take j)).length;omega) 0 _ rfl
    have f0:=hz2 (i0*11)
    have hput:=(uh HF3).putS hwl.symm (j:=i0) (i:=0) (by show i0<(Zv m1.smiths (q.take j)).length;omega) (by omega) (.int .i64 2) (stS (Z8 (Zv m1.smiths (q.take j)) i0) 2) rfl
    simp only [Nat.add_zero] at s0 hput
    have HF4:=Z9 hput
    have c2:=(uh K3).cell (i:=2) (v:= .slice (some ⟨g2,0,none⟩) m.smiths.length p2) rfl
    clear hcl hc2 hz2 hput hie c0 hwl
    have hi1:(i0:Int)<(m.smiths.length:Int):=by omega
    go_wp2_with fail
    refine ZL (S:=fun w'=>w'.cell? ⟨R,2,none⟩=some (.slice (some ⟨g2,0,none⟩) m.smiths.length p2)/\w'.cell? ⟨eb,eo+j*2+1,none⟩=some (.int .i64 (i0:Int))) (by kernel_rfl) (List.cons_ne_nil _ _) (by kernel_rfl) ⟨c2,c1⟩ (fun hHeld=> ?_)
    simp only [List.dropLast_cons_cons,List.dropLast_singleton,List.length_cons,List.length_nil,Nat.zero_add,Nat.reduceAdd]
    (refine tk 0 rfl (by assumption) ?_;(try simp only [Act.put,sA,sZ,sS]))
    (refine tk 1 rfl (by assumption) ?_;(try simp only [Act.put,sA,sZ,sS]))
    (refine tk 2 rfl (by assumption) ?_;(try simp only [Act.put,sA,sZ,sS]))
    (refine tk 3 rfl (by assumption) ?_;(try simp only [Act.put,sA,sZ,sS]))
    (refine tk 4 rfl (by assumption) ?_;(try simp only [Act.put,sA,sZ,sS]))
    (refine tk 5 rfl (by assumption) ?_;(try simp only [Act.put,sA,sZ,sS]))
    (refine tk 6 rfl (by assumption) ?_;(try simp only [Act.put,sA,sZ,sS]))
    (refine tk 7 rfl (by assumption) ?_;(try simp only [Act.put,sA,sZ,sS]))
    (refine tk 8 rfl (by assumption) ?_;(try simp only [Act.put,sA,sZ,sS]))
    (refine tk 9 rfl (by assumption) ?_;(try simp only [Act.put,sA,sZ,sS]))
    (refine tk 10 rfl (by assumption) ?_;(try simp only [Act.put,sA,sZ,sS]))
    refine wpAnyH_done (by kernel_rfl) ?_ _
    refine ZM rfl rfl ?_
    go_simp
    clear hHeld
    go_wp2_with fail
    go_roundw
    case rel=>exact ⟨j+1,by omega,by go_num,by rw [uh Htk];exact (uh HF4).below (Below.refl _ _).drew,((uh Tw3).trans (Two.of_set _ (.inl rfl) _ _)).trans (Two.of_below (Below.refl _ _).drew)⟩
    case measure=>simp [intOf];omega
   ·obtain rfl:j=q.length:=by omega
    rw [List.take_length] at HF3
    cases q with
    | nil=>
     clear HC
     go_wp2_with fail
     go_roundw
     case rel=>exact ⟨k+1,by omega,by go_num,by rw [uh Hstep,uh HN rfl];exact uh HF3,(uh Tw2).trans (uh Tw3)⟩
     case measure=>simp [intOf];omega
    | cons e t=>
     obtain ⟨_,_,hqe,_,_,hr⟩:=EntsAt.paces (uh HE3)
     cases hqe
     rcases hr with e0 | ⟨eb,eo,rfl,hbw,hcl⟩
     ·cases e0
     obtain ⟨c0,c1⟩:=hcl 0 (by simp)
     obtain ⟨i0,hi0,hie⟩:=uh Hm e (by simp)
     have hp0:ZY (e::t) 0=e:=rfl
     rw [hp0] at c0 c1
     rw [hie] at c1
     simp only [Nat.zero_mul,Nat.add_zero] at c0 c1
     have hcons:=uh HC e t rfl
     rw [hie] at hcons
     simp only [show ((i0:Int)).toNat=i0 by simp] at hcons
     have Hcons:=Z9 hcons
     obtain ⟨hd0,hhd⟩:∃ x,e.1=x:=⟨_,rfl⟩
     rw [hhd] at c0 Hcons
     clear hcons hhd hie hp0 hcl HN HC
     have hwl:(Zv m1.smiths (e::t)).length=m.smiths.length:=by rw [UN,e5]
     obtain ⟨g2,rfl,hg2,hg2w,_,_⟩:=RecAt.view ZT (by omega) (uh HF3).smiths hwl.symm (by show 0<(Zv m1.smiths (e::t)).length;omega)
     have hD1:(m1.desks.set k (o,-1,mk)).length=m.desks.length:=by simp [e6]
     have hD2:∀ d,(m1.desks.set k d).length=m.desks.length:=fun d=>by simp [e6]
     have heb:=(EntsAt.lt (uh HE3) (k:=eb) rfl).1
     have hg2r:=uh Low2 g2 rfl
     have hlen:(e::t).length=t.length+1:=rfl
     have hlpos:(0:Int)<((t.length+1:Nat):Int):=by omega
     rw [hlen] at *
     obtain ⟨_,hga,_,_,hcd,hzd⟩:=RecAt.view Zm (by omega) (uh HF3).desks hD1.symm (by show 0<(m1.desks.set k (o,-1,mk)).length;omega)
     cases hga
     have d1:=hcd k (by show k<(m1.desks.set k (o,-1,mk)).length;omega) 1 _ rfl
     have f1:=hzd (k*3+1)
     have c3:=(uh K3).cell (i:=3) (v:= .slice (some ⟨g3,0,none⟩) m.desks.length p3) rfl
     have hne2:(Value.slice (some ⟨g2,0,none⟩) m.smiths.length p2).ownBlock ≠ some eb:=fun e9=>by have e8:g2=eb:=Option.some.inj e9;omega
     have hne3:(some g3:Option Nat) ≠ some eb:=fun e9=>by have e8:g3=eb:=Option.some.inj e9;omega
     have hput1:=(uh HF3).putD hD1.symm (j:=k) (i:=1) (by show k<(m1.desks.set k (o,-1,mk)).length;omega) (by omega) (.int .i64 (i0:Int)) (o,(i0:Int),mk) (by show Xj (o,(i0:Int),mk)=(Xj (Z8 (m1.desks.set k (o,-1,mk)) k)).set 1 _;rw [uh Hset];rfl)
     simp only [List.set_set] at hput1
     have HF4:Hid (FullSmy n₀ (wi.setCell ⟨g3,k*3+1,none⟩ (.int .i64 (i0:Int))).drew v0 v1 (.slice (some ⟨g2,0,none⟩) m.smiths.length p2) (.slice (some ⟨g3,0,none⟩) m.desks.length p3) v4 { m1 with smiths:=Zv m1.smiths (e::t),desks:=m1.desks.set k (o,(i0:Int),mk) } qs):=Z9 (hput1.below (Below.refl _ _).drew)
     have T4:Two (Value.slice (some ⟨g2,0,none⟩) m.smiths.length p2).ownBlock (some g3) wi (wi.setCell ⟨g3,k*3+1,none⟩ (.int .i64 (i0:Int))).drew:=(Two.of_set wi (.inr rfl) _ _).trans (Two.of_below (Below.refl _ _).drew)
     have K4:=Z9 ((uh K3).two T4 (uh H2) (fun e9=>uh H3 (by cases e9;rfl)))
     have x0:=(T4.cell (a:=⟨eb,eo,none⟩) hbw hne2 hne3).trans c0
     have x1:=(T4.cell (a:=⟨eb,eo+1,none⟩) hbw hne2 hne3).trans c1
     have hbw4:eb<((wi.setCell ⟨g3,k*3+1,none⟩ (.int .i64 (i0:Int))).drew).heap.size:=Nat.lt_of_lt_of_le hbw T4.size
     replace Tw3:=Z9 ((uh Tw3).trans T4)
     clear hput1 T4 hcd hzd HE3 HF3
     go_wp2_with fail
     refine ZL (S:=fun w'=>w'.cell? ⟨R,3,none⟩=some (.slice (some ⟨g3,0,none⟩) m.desks.length p3)/\w'.cell? ⟨eb,eo+1,none⟩=some (.int .i64 (i0:Int))) (by kernel_rfl) (List.cons_ne_nil _ _) (by kernel_rfl) ⟨c3,c1⟩ (fun hHeld=> ?_)
     simp only [List.dropLast_cons_cons,List.dropLast_singleton,List.length_cons,List.length_nil,Nat.zero_add,Nat.reduceAdd]
     (refine tk 0 rfl (by assumption) ?_;(try simp only [Act.put,sA,sZ,sS]))
     (refine tk 1 rfl (by assumption) ?_;(try simp only [Act.put,sA,sZ,sS]))
     (refine tk 2 rfl (by assumption) ?_;(try simp only [Act.put,sA,sZ,sS]))
     (refine tk 3 rfl (by assumption) ?_;(try simp only [Act.put,sA,sZ,sS]))
     (refine tk 4 rfl (by assumption) ?_;(try simp only [Act.put,sA,sZ,sS]))
     (refine tk 5 rfl (by assumption) ?_;(try simp only [Act.put,sA,sZ,sS]))
     (refine tk 6 rfl (by assumption) ?_;(try simp only [Act.put,sA,sZ,sS]))
     (refine tk 7 rfl (by assumption) ?_;(try simp only [Act.put,sA,sZ,sS]))
     (refine tk 8 rfl (by assumption) ?_;(try simp only [Act.put,sA,sZ,sS]))
     (refine tk 9 rfl (by assumption) ?_;(try simp only [Act.put,sA,sZ,sS]))
     (refine tk 10 rfl (by assumption) ?_;(try simp only [Act.put,sA,sZ,sS]))
     refine wpAnyH_done (by kernel_rfl) ?_ _
     refine ZM rfl rfl ?_
     go_simp
     clear hHeld
     clear d1 f1 c3 c0 c1 hbw K3
     generalize (wi.setCell ⟨g3,k*3+1,none⟩ (.int .i64 (i0:Int))).drew=Y at *
     obtain ⟨_,hga,_,_,hcd,hzd⟩:=RecAt.view Zm (by omega) (uh HF4).desks (hD2 _).symm (by show 0<(m1.desks.set k _).length;rw [hD2];omega)
     cases hga
     have d2:=hcd k (by show k<(m1.desks.set k _).length;rw [hD2];omega) 2 _ rfl
     have d2':Y.cell? ⟨g3,k*3+2,none⟩=some (.int .i64 mk):=by
      have h9:Z8 (m1.desks.set k (o,(i0:Int),mk)) k=(o,(i0:Int),mk):=uh Hset _
      rw [show (({ m1 with smiths:=Zv m1.smiths (e::t),desks:=m1.desks.set k (o,(i0:Int),mk) } : Z6)).desks=m1.desks.set k (o,(i0:Int),mk) from rfl,h9] at d2
      exact d2
     have f2:=hzd (k*3+2)
     have c3:=(uh K4).cell (i:=3) (v:= .slice (some ⟨g3,0,none⟩) m.desks.length p3) rfl
     have hput2:=(uh HF4).putD (hD2 _).symm (j:=k) (i:=2) (by show k<(m1.desks.set k _).length;rw [hD2];omega) (by omega) (.int .i64 (YN mk hd0)) (o,(i0:Int),YN mk hd0) (by show Xj (o,(i0:Int),YN mk hd0)=(Xj (Z8 (m1.desks.set k (o,(i0:Int),mk)) k)).set 2 _;rw [uh Hset];rfl)
     simp only [List.set_set] at hput2
     have HF5:Hid (FullSmy n₀ (Y.setCell ⟨g3,k*3+2,none⟩ (.int .i64 (YN mk hd0))).drew v0 v1 (.slice (some ⟨g2,0,none⟩) m.smiths.length p2) (.slice (some ⟨g3,0,none⟩) m.desks.length p3) v4 { m1 with smiths:=Zv m1.smiths (e::t),desks:=m1.desks.set k (o,(i0:Int),YN mk hd0) } qs):=Z9 (hput2.below (Below.refl _ _).drew)
     have T5:Two (Value.slice (some ⟨g2,0,none⟩) m.smiths.length p2).ownBlock (some g3) Y (Y.setCell ⟨g3,k*3+2,none⟩ (.int .i64 (YN mk hd0))).drew:=(Two.of_set Y (.inr rfl) _ _).trans (Two.of_below (Below.refl _ _).drew)
     have K5:=Z9 ((uh K4).two T5 (uh H2) (fun e9=>uh H3 (by cases e9;rfl)))
     have y1:=(T5.cell (a:=⟨eb,eo+1,none⟩) hbw4 hne2 hne3).trans x1
     replace Tw3:=Z9 ((uh Tw3).trans T5)
     clear hput2 T5 hcd hzd HF4 d2
     go_wp2_with fail
     refine ZL (S:=fun w'=>w'.cell? ⟨R,3,none⟩=some (.slice (some ⟨g3,0,none⟩) m.desks.length p3)/\w'.cell? ⟨g3,k*3+2,none⟩=some (.int .i64 mk)/\w'.cell? ⟨eb,eo,none⟩=some (.int .i64 hd0)) (by kernel_rfl) (List.cons_ne_nil _ _) (by kernel_rfl) ⟨c3,d2',x0⟩ (fun hHeld=> ?_)
     simp only [List.dropLast_cons_cons,List.dropLast_singleton,List.length_cons,List.length_nil,Nat.zero_add,Nat.reduceAdd]
     (refine tk 0 rfl (by assumption) ?_;(try simp only [Act.put,sA,sZ,sS]))
     (refine tk 1 rfl (by assumption) ?_;(try simp only [Act.put,sA,sZ,sS]))
     (refine tk 2 rfl (by assumption) ?_;(try simp only [Act.put,sA,sZ,sS]))
     (refine tk 3 rfl (by assumption) ?_;(try simp only [Act.put,sA,sZ,sS]))
     (refine tk 4 rfl (by assumption) ?_;(try simp only [Act.put,sA,sZ,sS]))
     (refine tk 5 rfl (by assumption) ?_;(try simp only [Act.put,sA,sZ,sS]))
     (refine tk 6 rfl (by assumption) ?_;(try simp only [Act.put,sA,sZ,sS]))
     (refine tk 7 rfl (by assumption) ?_;(try simp only [Act.put,sA,sZ,sS]))
     (refine tk 8 rfl (by assumption) ?_;(try simp only [Act.put,sA,sZ,sS]))
     (refine tk 9 rfl (by assumption) ?_;(try simp only [Act.put,sA,sZ,sS]))
     (refine tk 10 rfl (by assumption) ?_;(try simp only [Act.put,sA,sZ,sS]))
     (refine tk 11 rfl (by assumption) ?_;(try simp only [Act.put,sA,sZ,sS]))
     (refine tk 12 rfl (by assumption) ?_;(try simp only [Act.put,sA,sZ,sS]))
     (refine tk 13 rfl (by assumption) ?_;(try simp only [Act.put,sA,sZ,sS]))
     (refine tk 14 rfl (by assumption) ?_;(try simp only [Act.put,sA,sZ,sS]))
     (refine tk 15 rfl (by assumption) ?_;(try simp only [Act.put,sA,sZ,sS]))
     (refine tk 16 rfl (by assumption) ?_;(try simp only [Act.put,sA,sZ,sS]))
     refine rd 17 rfl (fun K hK=> ?_)
     go_simp
     refine (Pa mk hd0 _).mono ?_
     rintro e9 w9 ⟨rfl,hw9⟩
     subst w9
     refine hK.out _ _ hHeld (fun hHeld=> ?_)
     clear hK K
     (try simp only [Act.put,sA,sZ,sS])
     (refine tk 18 rfl (by assumption) ?_;(try simp only [Act.put,sA,sZ,sS]))
     (refine tk 19 rfl (by assumption) ?_;(try simp only [Act.put,sA,sZ,sS]))
     refine wpAnyH_done (by kernel_rfl) ?_ _
     refine ZM rfl rfl ?_
     go_simp
     clear hHeld
     clear d2' f2 c3 x0 x1 hbw4 K4
     generalize (Y.setCell ⟨g3,k*3+2,none⟩ (.int .i64 (YN mk hd0))).drew=Z at *
     obtain ⟨_,hga,_,_,hc2,hz2⟩:=RecAt.view ZT (by omega) (uh HF5).smiths hwl.symm (by show 0<(Zv m1.smiths (e::t)).length;omega)
     cases hga
     have s0:=hc2 i0 (by show i0<(Zv m1.smiths (e::t)).length;omega) 0 _ rfl
     have f0:=hz2 (i0*11)
     have c2:=(uh K5).cell (i:=2) (v:= .slice (some ⟨g2,0,none⟩) m.smiths.length p2) rfl
     have hput3:=(uh HF5).putS hwl.symm (j:=i0) (i:=0) (by show i0<(Zv m1.smiths (e::t)).length;omega) (by omega) (.int .i64 3) (stS (Z8 (Zv m1.smiths (e::t)) i0) 3) rfl
     simp only [Nat.add_zero] at s0 hput3
     have HF6:=Z9 hput3
     have hi1:(i0:Int)<(m.smiths.length:Int):=by omega
     clear hput3 hc2 hz2 HF5
     go_wp2_with fail
     refine ZL (S:=fun w'=>w'.cell? ⟨R,2,none⟩=some (.slice (some ⟨g2,0,none⟩) m.smiths.length p2)/\w'.cell? ⟨eb,eo+1,none⟩=some (.int .i64 (i0:Int))) (by kernel_rfl) (List.cons_ne_nil _ _) (by kernel_rfl) ⟨c2,y1⟩ (fun hHeld=> ?_)
     simp only [List.dropLast_cons_cons,List.dropLast_singleton,List.length_cons,List.length_nil,Nat.zero_add,Nat.reduceAdd]
     (refine tk 0 rfl (by assumption) ?_;(try simp only [Act.put,sA,sZ,sS]))
     (refine tk 1 rfl (by assumption) ?_;(try simp only [Act.put,sA,sZ,sS]))
     (refine tk 2 rfl (by assumption) ?_;(try simp only [Act.put,sA,sZ,sS]))
     (refine tk 3 rfl (by assumption) ?_;(try simp only [Act.put,sA,sZ,sS]))
     (refine tk 4 rfl (by assumption) ?_;(try simp only [Act.put,sA,sZ,sS]))
     (refine tk 5 rfl (by assumption) ?_;(try simp only [Act.put,sA,sZ,sS]))
     (refine tk 6 rfl (by assumption) ?_;(try simp only [Act.put,sA,sZ,sS]))
     (refine tk 7 rfl (by assumption) ?_;(try simp only [Act.put,sA,sZ,sS]))
     (refine tk 8 rfl (by assumption) ?_;(try simp only [Act.put,sA,sZ,sS]))
     (refine tk 9 rfl (by assumption) ?_;(try simp only [Act.put,sA,sZ,sS]))
     refine wpAnyH_done (by kernel_rfl) ?_ _
     refine ZM rfl rfl ?_
     go_simp
     clear hHeld
     go_wp2_with fail
     go_roundw
     case rel=>exact ⟨k+1,by omega,by go_num,by rw [uh Hstep,uh Hcons];exact (uh HF6).below (Below.refl _ _).drew,((uh Tw2).trans (uh Tw3)).trans ((Two.of_set _ (.inl rfl) _ _).trans (Two.of_below (Below.refl _ _).drew))⟩
     case measure=>simp [intOf];omega
end Go.Proofs.YtaegckehjlkaaaaGreat
