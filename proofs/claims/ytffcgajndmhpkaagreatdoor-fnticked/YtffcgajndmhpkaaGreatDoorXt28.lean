/- Part 28 of what the proof rests on. No condition but those that a theorem names. -/
import Derived.Test.YtffcgajndmhpkaaGreatDoorXt19
set_option maxHeartbeats 8000000
set_option maxRecDepth 100000
namespace Go.Proofs.YtffcgajndmhpkaaGreatDoor
open Go.ChangeShapes Go.WideShapes Go.ChangeAt Go.RowKit Go.Sort
set_option linter.unusedVariables false
def cnt (p:Nat->Bool):Nat->Nat
 | 0=>0
 | n+1=>cnt p n+(if p n then 1 else 0)
theorem Dm (p:Nat->Bool):∀ n,cnt p n<=n
 | 0=>Nat.le_refl _
 | n+1=>by
  have:=Dm p n
  unfold cnt
  split<;>omega
theorem NU {p q:Nat->Bool} : ∀ n,(∀ i,i<n->p i=true->q i=true)->cnt p n<=cnt q n
 | 0,_=>Nat.le_refl _
 | n+1,h=>by
  have ih:=NU n (fun i hi=>h i (by omega))
  have hn:=h n (by omega)
  unfold cnt
  cases hp:p n
  ·simp;omega
  ·rw [hn hp];simp;exact ih
theorem Rs {p q:Nat->Bool} {x:Nat} (hp:p x=true) (hq:q x=false):∀ n,x<n->(∀ i,i<n->q i=true->p i=true)->cnt q n+1<=cnt p n
 | 0,hx,_=>by omega
 | n+1,hx,h=>by
  unfold cnt
  by_cases e:x=n
  ·subst e
   have:=NU (p:=q) (q:=p) x (fun i hi=>h i (by omega))
   rw [hp,hq];simp;exact this
  ·have ih:=Rs hp hq n (by omega) (fun i hi=>h i (by omega))
   have hn:=h n (by omega)
   cases hqn:q n
   ·simp;omega
   ·rw [hn hqn];simp;exact ih
theorem F0 (q:Nat->Bool) (y:Nat):∀ n,cnt q n<=cnt (fun i=>q i && !(i ==y)) n+1
 | 0=>by simp [cnt]
 | n+1=>by
  unfold cnt
  by_cases e:n=y
  ·subst e
   have:=NU (p:=q) (q:=fun i=>q i && !(i ==n)) n (fun i hi hqi=>by
    simp only [hqi,Bool.true_and,Bool.not_eq_true',beq_eq_false_iff_ne];omega)
   simp only [beq_self_eq_true,Bool.not_true,Bool.and_false]
   split<;>simp<;>omega
  ·have ih:=F0 q y n
   have he:(n ==y)=false:=by simpa using e
   simp only [he,Bool.not_false,Bool.and_true]
   omega
theorem Dn {p q:Nat->Bool} {x y n:Nat} (hx:x<n) (hp:p x=true) (hq:q x=false) (h:∀ i,i<n->i ≠ y->q i=true->p i=true):cnt q n<=cnt p n:=by
 have h1:=F0 q y n
 have h2:=Rs (p:=p) (q:=fun i=>q i && !(i ==y)) hp (by simp [hq]) n hx (fun i hi hqi=>by
  simp only [Bool.and_eq_true,Bool.not_eq_true',beq_eq_false_iff_ne] at hqi
  exact h i hi hqi.2 hqi.1)
 omega
def WE (m:Z6) (b:Nat):Bool:=(Z8 m.desks b).1 && decide ((atV m.smiths b m.smiths.length).length=0)
def Sw (m:Z6) (i:Nat):Bool:=ZP (Z8 m.smiths i) && !VT (Yk m (i:Int)) 0 (YR m.rooms (Z8 m.smiths i).2.1)
def Od (m:Z6) (w b:Nat):Bool:=WE m b && (Yg m (w:Int) b && VT (Yk m (w:Int)) 0 (YR m.rooms (b:Int)))
def Wj (m:Z6) (w:Nat):Nat->Option Nat
 | 0=>none
 | k+1=>match Wj m w k with
  | some b=>some b
  | none=>if Od m w k then some k else none
def RD (m:Z6) (w:Nat):Option Nat:=if Sw m w then Wj m w m.desks.length else none
def Ur (m:Z6):Nat->Option (Nat × Nat)
 | 0=>none
 | k+1=>match Ur m k with
  | some r=>some r
  | none=>(RD m k).map fun b=>(k,b)
def VN (m:Z6):Option (Nat × Nat):=if ZO m then Ur m m.smiths.length else none
def Qq (m:Z6) (w b:Nat):Bool:=(Z8 m.smiths w).1 ==2 && Yg m (w:Int) b
def V0 (m:Z6) (b:Nat):Nat->Option Nat
 | 0=>none
 | k+1=>match V0 m b k with
  | some w=>some w
  | none=>if Qq m k b then some k else none
def Rf (m:Z6) (b:Nat):Option Nat:=if WE m b then V0 m b m.smiths.length else none
def Xl (m:Z6):Nat->Option (Nat × Nat)
 | 0=>none
 | k+1=>match Xl m k with
  | some r=>some r
  | none=>(Rf m k).map fun w=>(w,k)
def Wa (m:Z6):Option (Nat × Nat):=if ZO m then Xl m m.desks.length else none
def Vq (m:Z6):Option (Nat × Nat):=match VN m with
 | some r=>some r
 | none=>Wa m
theorem Mw {m:Z6} {w b:Nat} : ∀ {k},Wj m w k=some b->b<k/\Od m w b=true
 | 0,h=>by cases h
 | k+1,h=>by
  unfold Wj at h
  cases hg:Wj m w k with
  | some b'=>
   rw [hg] at h
   cases h
   have:=Mw hg
   exact ⟨by omega,this.2⟩
  | none=>
   rw [hg] at h
   simp only at h
   split at h
   ·rename_i hh
    cases h
    exact ⟨by omega,hh⟩
   ·cases h
theorem J9 {m:Z6} {w b:Nat} : ∀ {k},Ur m k=some (w,b)->w<k/\Sw m w=true/\b<m.desks.length/\Od m w b=true
 | 0,h=>by cases h
 | k+1,h=>by
  unfold Ur at h
  cases hg:Ur m k with
  | some r=>
   rw [hg] at h
   cases h
   have:=J9 hg
   exact ⟨by omega,this.2⟩
  | none=>
   rw [hg] at h
   simp only [Option.map_eq_some_iff,Prod.mk.injEq] at h
   obtain ⟨b',hb',rfl,rfl⟩:=h
   unfold RD at hb'
   split at hb'
   ·rename_i hh
    have:=Mw hb'
    exact ⟨by omega,hh,this⟩
   ·cases hb'
theorem M5 {m:Z6} {w b:Nat} : ∀ {k},V0 m b k=some w->w<k/\Qq m w b=true
 | 0,h=>by cases h
 | k+1,h=>by
  unfold V0 at h
  cases hg:V0 m b k with
  | some w'=>
   rw [hg] at h
   cases h
   have:=M5 hg
   exact ⟨by omega,this.2⟩
  | none=>
   rw [hg] at h
   simp only at h
   split at h
   ·rename_i hh
    cases h
    exact ⟨by omega,hh⟩
   ·cases h
theorem Pm {m:Z6} {w b:Nat} : ∀ {k},Xl m k=some (w,b)->b<k/\WE m b=true/\w<m.smiths.length/\Qq m w b=true
 | 0,h=>by cases h
 | k+1,h=>by
  unfold Xl at h
  cases hg:Xl m k with
  | some r=>
   rw [hg] at h
   cases h
   have:=Pm hg
   exact ⟨by omega,this.2⟩
  | none=>
   rw [hg] at h
   simp only [Option.map_eq_some_iff,Prod.mk.injEq] at h
   obtain ⟨b',hb',rfl,rfl⟩:=h
   unfold Rf at hb'
   split at hb'
   ·rename_i hh
    have:=M5 hb'
    exact ⟨by omega,hh,this⟩
   ·cases hb'
def UP (m:Z6) (w b:Nat):Z6:=setS m w (putS m (Z8 m.smiths w) (b:Int))
def Vr (m:Z6) (w b:Nat):Z6:=ZQ (UP m w b)
structure Moves (m:Z6) (w b:Nat):Prop where
 right:ZO m=true
 who:w<m.smiths.length
 bench:b<m.desks.length
 pres:ZP (Z8 m.smiths w)=true
 may:Yg m (w:Int) b=true
 idle:WE m b=true
 why:(Sw m w=true/\VT (Yk m (w:Int)) 0 (YR m.rooms (b:Int))=true)\/(Z8 m.smiths w).1=2
theorem Ff {m:Z6} {w b:Nat} (h:VN m=some (w,b)):Moves m w b:=by
 unfold VN at h
 split at h
 ·rename_i hr
  obtain ⟨h1,h2,h3,h4⟩:=J9 h
  unfold Od at h4
  simp only [Bool.and_eq_true] at h4
  have h2':=h2
  unfold Sw at h2'
  simp only [Bool.and_eq_true] at h2'
  exact ⟨hr,h1,h3,h2'.1,h4.2.1,h4.1,.inl ⟨h2,h4.2.2⟩⟩
 ·cases h
theorem Io {m:Z6} {w b:Nat} (h:Wa m=some (w,b)):Moves m w b:=by
 unfold Wa at h
 split at h
 ·rename_i hr
  obtain ⟨h1,h2,h3,h4⟩:=Pm h
  unfold Qq at h4
  simp only [Bool.and_eq_true,beq_iff_eq] at h4
  exact ⟨hr,h3,h1,by unfold ZP;rw [h4.1];rfl,h4.2,h2,.inr h4.1⟩
 ·cases h
theorem Tj {m:Z6} {w b:Nat} (h:Vq m=some (w,b)):Moves m w b:=by
 unfold Vq at h
 cases hm:VN m with
 | some r=>rw [hm] at h;cases h;exact Ff hm
 | none=>rw [hm] at h;exact Io h
theorem Moves.loose {m:Z6} {w b:Nat} (h:Moves m w b):Loose (UP m w b):=by
 have hlo:=ZT h.right
 obtain ⟨p,g1,b1⟩:=hlo.limits h.who (by intro e;have:=h.pres;unfold ZP at this;rw [e] at this;cases this)
 obtain ⟨a0,a1,a2,a3,a4⟩:=hlo.at h.who h.pres
 have hm:=h.may
 unfold Yg at hm
 simp only [Bool.and_eq_true,Int.toNat_natCast] at hm
 have:=Ox (m:=m) hlo (s:=Z8 m.smiths w) (b:=b) p h.pres g1 a0 a1 a4 h.bench hm.1 hm.2
 exact hlo.setS h.who this.1 this.2
theorem Moves.keeps {m:Z6} {w b:Nat} (h:Moves m w b):ZO (Vr m w b)=true:=Y0 h.loose
theorem Ls {ss:List Z3} {b:Int} {n:Nat} : (atV ss b n).length=0 ↔ ∀ i,i<n-> ¬ ((Z8 ss i).2.1=b/\ZP (Z8 ss i)=true):=by
 constructor
 ·intro h i hi hp
  have hm:(XL (Z8 ss i),(i:Int)) ∈ atV ss b n:=(Yc ss b _ n).2 ⟨i,hi,hp.1,hp.2,rfl⟩
  rw [List.length_eq_zero_iff.1 h] at hm
  cases hm
 ·intro h
  rw [List.length_eq_zero_iff]
  refine List.eq_nil_iff_forall_not_mem.2 fun e he=> ?_
  obtain ⟨i,hi,h1,h2,_⟩:=(Yc ss b e n).1 he
  exact h i hi ⟨h1,h2⟩
theorem RH {m:Z6} {w b:Nat} (hw:w<m.smiths.length) (i:Nat):Z8 (UP m w b).smiths i=if i=w then putS m (Z8 m.smiths w) (b:Int) else Z8 m.smiths i:=ZK hw i
theorem Vs (m:Z6) (w b:Nat):(UP m w b).smiths.length=m.smiths.length:=by unfold UP setS;simp
theorem Rc {m:Z6} {i:Nat} (hi:i<m.smiths.length):(Z8 (ZQ m).smiths i).2=(Z8 m.smiths i).2:=by
 unfold ZQ
 rw [Xy m hi]
 split<;>rfl
theorem FN {m:Z6} {i:Nat} (hi:i<m.smiths.length):ZP (Z8 (ZQ m).smiths i)=ZP (Z8 m.smiths i):=(Xx m m.desks.length i hi).2.1
theorem FL (m:Z6) {b:Nat} (hb:b<m.desks.length):WE (ZQ m) b=WE m b:=by
 unfold WE ZQ
 rw [Rb,VB m b _ (Nat.le_refl _),if_pos hb]
 congr 1
 unfold Xk
 split<;>rfl
theorem Eu (m:Z6) {i:Nat} (hi:i<m.smiths.length):Sw (ZQ m) i=Sw m i:=by
 have h1:Yk (ZQ m) (i:Int)=Yk m (i:Int):=by
  unfold Yk Pn
  rw [Int.toNat_natCast,Rc hi,show (ZQ m).guilds=m.guilds from (ZM m m.desks.length).2.1]
 unfold Sw
 rw [FN hi,h1,Rc hi,show (ZQ m).rooms=m.rooms from (ZM m m.desks.length).1]
def Qd (m:Z6):Nat:=cnt (WE m) m.desks.length
def L6 (m:Z6):Nat:=cnt (Sw m) m.smiths.length
def TC (m:Z6):Nat:=13*Qd m+L6 m
theorem Jm {p q:Nat->Bool} (n:Nat) (h:∀ i,i<n->p i=q i):cnt p n=cnt q n:=
 Nat.le_antisymm (NU n fun i hi hp=>by rw [<-h i hi];exact hp) (NU n fun i hi hp=>by rw [h i hi];exact hp)
theorem IV (m:Z6):Qd (ZQ m)=Qd m:=by
 unfold Qd
 rw [show (ZQ m).desks.length=m.desks.length from (ZM m m.desks.length).2.2.2.2.2]
 exact Jm _ fun i hi=>FL m hi
theorem FM (m:Z6):L6 (ZQ m)=L6 m:=by
 unfold L6
 rw [show (ZQ m).smiths.length=m.smiths.length from (ZM m m.desks.length).2.2.2.2.1]
 exact Jm _ fun i hi=>Eu m hi
theorem D2 {m:Z6} {w b:Nat} (hw:w<m.smiths.length) (hp:ZP (Z8 m.smiths w)=true):WE (UP m w b) b=false:=by
 unfold WE
 rw [decide_eq_false,Bool.and_false]
 intro h
 refine Ls.1 h w (by rw [Vs];exact hw) ?_
 rw [RH hw,if_pos rfl]
 exact ⟨rfl,hp⟩
theorem Kx {m:Z6} {w b j:Nat} (hw:w<m.smiths.length) (hj:(Z8 m.smiths w).2.1 ≠ (j:Int)) (h:WE (UP m w b) j=true):WE m j=true:=by
 unfold WE at h ⊢
 simp only [Bool.and_eq_true,decide_eq_true_eq] at h ⊢
 refine ⟨h.1,Ls.2 fun i hi hp=> ?_⟩
 have:=Ls.1 h.2 i (by rw [Vs];exact hi)
 rw [RH hw] at this
 by_cases e:i=w
 ·subst e;exact hj hp.1
 ·rw [if_neg e] at this;exact this hp
theorem CW {m:Z6} {w b i:Nat} (hw:w<m.smiths.length) (hi:i ≠ w):Sw (UP m w b) i=Sw m i:=by
 unfold Sw Yk
 rw [Int.toNat_natCast,RH hw,if_neg hi]
 rfl
theorem D3 {m:Z6} {w b:Nat} (hw:w<m.smiths.length) (h:VT (Yk m (w:Int)) 0 (YR m.rooms (b:Int))=true):Sw (UP m w b) w=false:=by
 unfold Sw Yk
 rw [Int.toNat_natCast,RH hw,if_pos rfl]
 have e:Pn (UP m w b).guilds (putS m (Z8 m.smiths w) (b:Int))=Yk m (w:Int):=by
  unfold Yk
  rw [Int.toNat_natCast]
  rfl
 rw [e]
 show (_ && !VT _ 0 (YR m.rooms (b:Int)))=false
 rw [h];simp
theorem I0 {m:Z6} (h:ZO m=true) {w:Nat} (hw:w<m.smiths.length) (h2:(Z8 m.smiths w).1=2):∃ i,i<m.smiths.length/\i ≠ w/\(Z8 m.smiths i).2.1=(Z8 m.smiths w).2.1/\ZP (Z8 m.smiths i)=true:=by
 have hlo:=ZT h
 have hp:ZP (Z8 m.smiths w)=true:=by unfold ZP;rw [h2];rfl
 obtain ⟨a0,a1,_⟩:=hlo.at hw hp
 obtain ⟨b,hb⟩:∃ b:Nat,(Z8 m.smiths w).2.1=(b:Int):=⟨(Z8 m.smiths w).2.1.toNat,by omega⟩
 have hbl:b<m.desks.length:=by omega
 have hok:YL m b=true:=by
  unfold ZO at h
  simp only [Bool.and_eq_true] at h
  exact Lr h.2 hbl
 rw [<-MZ] at hok
 unfold VZ at hok
 split at hok
 ·simp only [decide_eq_true_eq,List.length_eq_zero_iff] at hok
  have:(w:Int) ∈ ZS (atB (b:Int)) m.smiths m.smiths.length:=(WT _ _ _ _).2 ⟨w,hw,rfl,by unfold atB;rw [h2,hb];simp⟩
  rw [hok] at this
  cases this
 ·simp only [Bool.and_eq_true,decide_eq_true_eq] at hok
  have hx:Z8 (ZS (Zl (b:Int)) m.smiths m.smiths.length) 0 ∈ ZS (Zl (b:Int)) m.smiths m.smiths.length:=SO (by omega)
  obtain ⟨i,hi,_,hwk⟩:=(WT _ _ _ _).1 hx
  unfold Zl at hwk
  simp only [Bool.and_eq_true,beq_iff_eq] at hwk
  exact ⟨i,hi,fun e=>by subst e;omega,by rw [hb];exact hwk.2,by unfold ZP;rw [hwk.1];rfl⟩
theorem Moves.falls {m:Z6} {w b:Nat} (h:Moves m w b):TC (Vr m w b)<TC m:=by
 unfold TC Vr
 rw [IV,FM]
 have hlo:=ZT h.right
 have h12:=Za hlo
 obtain ⟨a0,a1,_⟩:=hlo.at h.who h.pres
 have hmb:=Dm (Sw (UP m w b)) m.smiths.length
 have hbusy:=D2 (b:=b) h.who h.pres
 rcases h.why with ⟨hmis,hfit⟩ | hwait
 ·have e1:Qd (UP m w b)<=Qd m:=Dn (y:=(Z8 m.smiths w).2.1.toNat) h.bench h.idle hbusy fun i hi hne hq=>Kx h.who (by omega) hq
  have e2:L6 (UP m w b)+1<=L6 m:=by
   unfold L6
   rw [Vs]
   refine Rs hmis (D3 h.who hfit) _ h.who fun i hi hq=> ?_
   by_cases e:i=w
   ·subst e;exact hmis
   ·rw [CW h.who e] at hq;exact hq
  omega
 ·have e1:Qd (UP m w b)+1<=Qd m:=by
   refine Rs h.idle hbusy _ h.bench fun j hj hq=> ?_
   by_cases e:(Z8 m.smiths w).2.1=(j:Int)
   ·exfalso
    obtain ⟨i,hi,hiw,hbe,hpr⟩:=I0 h.right h.who hwait
    unfold WE at hq
    simp only [Bool.and_eq_true,decide_eq_true_eq] at hq
    have:=Ls.1 hq.2 i (by rw [Vs];exact hi)
    rw [RH h.who,if_neg hiw] at this
    exact this ⟨by rw [hbe,e],hpr⟩
   ·exact Kx h.who e hq
  have e2:L6 (UP m w b)<=12:=by
   unfold L6
   rw [Vs]
   omega
  omega
def Vo:Nat->Z6->Z6
 | 0,m=>m
 | k+1,m=>match Vq m with
  | none=>m
  | some (w,b)=>Vo k (Vr m w b)
def UO (m:Z6):Z6:=Vo (TC m+1) m
theorem Qj:∀ (j k:Nat) (m:Z6),TC m<j->TC m<k->Vo j m=Vo k m
 | 0,_,_,h,_=>by omega
 | _+1,0,_,_,h=>by omega
 | j+1,k+1,m,hj,hk=>by
  show (match Vq m with | none=>m | some (w,b)=>Vo j (Vr m w b))=(match Vq m with | none=>m | some (w,b)=>Vo k (Vr m w b))
  cases hm:Vq m with
  | none=>rfl
  | some r=>
   obtain ⟨w,b⟩:=r
   have hf:=(Tj hm).falls
   exact Qj j k (Vr m w b) (by omega) (by omega)
theorem J0 {m:Z6} (h:Vq m=none):UO m=m:=by
 unfold UO Vo
 rw [h]
theorem MF {m:Z6} {w b:Nat} (h:Vq m=some (w,b)):UO m=UO (Vr m w b):=by
 have hf:=(Tj h).falls
 have:UO m=Vo (TC m) (Vr m w b):=by
  show (match Vq m with | none=>m | some (w,b)=>Vo (TC m) (Vr m w b))=_
  rw [h]
 rw [this]
 exact Qj _ _ _ (by omega) (by omega)
theorem RA:∀ (k:Nat) (m:Z6),ZO m=true->ZO (Vo k m)=true
 | 0,m,h=>h
 | k+1,m,h=>by
  unfold Vo
  cases hm:Vq m with
  | none=>exact h
  | some r=>
   obtain ⟨w,b⟩:=r
   exact RA k (Vr m w b) (Tj hm).keeps
theorem J1 {m:Z6} (h:ZO m=true):ZO (UO m)=true:=RA _ m h
def WM (m:Z6):Z6:=if ZO m then UO m else YF
theorem Qo {m:Z6} {n:Int} : ∀ {k:Nat} {ss:List Z3},k<=m.smiths.length->Zs m n k=some ss-> ∀ i,i<k->WS m n (Z8 m.smiths i)=some (Z8 ss i)
 | 0,ss,_,_=>fun i hi=>by omega
 | k+1,ss,hk,h=>fun i hi=>by
  unfold Zs at h
  cases ht:Zs m n k with
  | none=>rw [ht] at h;cases h
  | some s0=>
   rw [ht] at h
   simp only at h
   have hl:=(Xv ht).1
   cases h1:WS m n (Z8 m.smiths k) with
   | none=>rw [h1] at h;cases h
   | some t=>
    rw [h1] at h
    simp only [Option.some.injEq] at h
    subst h
    rw [ZK (by omega)]
    by_cases e:i=k
    ·subst e;rw [if_pos rfl];exact h1
    ·rw [if_neg e];exact Qo (by omega) ht i (by omega)
theorem KT {m:Z6} {n st be rk my gu lo hi hd ca ut wk:Int} {t:Z3} (h:WS m n (st,be,rk,my,gu,lo,hi,hd,ca,ut,wk)=some t) :
  t.2.2.2.2.2.2.2.2.2.2=wk+n*(if st=3 then ZI m be else 0)/\(st ≠ 0->t.2.2.2.2.2.2.2.2.2.1=ZZ ut (if st=3 then ZI m be else 0) n)/\(st ≠ 3->t.2.2.2.2.2.2.2.1=hd):=by
 unfold WS at h
 by_cases h0:st=0
 ·subst h0
  rw [if_pos (show ((0:Int),be,rk,my,gu,lo,hi,hd,ca,ut,wk).1=0 from rfl)] at h
  cases h
  exact ⟨by simp,fun h=>absurd rfl h,fun _=>rfl⟩
 rw [if_neg h0] at h
 by_cases h3:st=3
 ·subst h3
  rw [if_pos (show ((3:Int),be,rk,my,gu,lo,hi,hd,ca,ut,wk).1=3 from rfl)] at h
  split at h
  ·rename_i hc
   cases h
   rw [if_pos rfl]
   have e:(ZH (3,be,rk,my,gu,lo,hi,hd,ca,ut,wk) (n*ZI m be)).1=Uy (3,be,rk,my,gu,lo,hi,hd,ca,ut,wk) (n*ZI m be):=by
    have hc2:(ZH (3,be,rk,my,gu,lo,hi,hd,ca,ut,wk) (n*ZI m be)).2=true:=hc
    unfold ZH at hc2 ⊢
    split
    ·split
     ·rfl
     ·rename_i a b;rw [if_pos a,if_neg b] at hc2;cases hc2
    ·rename_i a;rw [if_neg a] at hc2;cases hc2
   refine ⟨?_,fun _=> ?_,fun h=>absurd rfl h⟩
   ·show (Pl (ZH (3,be,rk,my,gu,lo,hi,hd,ca,ut,wk) (n*ZI m be)).1 _).2.2.2.2.2.2.2.2.2.2=_
    rw [e];rfl
   ·show (Pl (ZH (3,be,rk,my,gu,lo,hi,hd,ca,ut,wk) (n*ZI m be)).1 (ZZ (Re (ZH (3,be,rk,my,gu,lo,hi,hd,ca,ut,wk) (n*ZI m be)).1) _ _)).2.2.2.2.2.2.2.2.2.1=_
    rw [e];rfl
  ·cases h
 ·rw [if_neg h3] at h
  cases h
  rw [if_neg h3]
  exact ⟨by simp [Pl],fun _=>rfl,fun _=>rfl⟩
theorem IP (m:Z6) (n:Int):(ZO m=false/\Xw m n=(YF,3))\/(ZO m=true/\ ∃ c:Int,c ≠ 0/\Xw m n=(m,c))\/
  (ZO m=true/\ ∃ X,Xw m n=(X,0)/\ZO X=true/\X.smiths.length=m.smiths.length/\X.now=m.now+n/\inB n 1 20=true/\ ∀ k,k<m.smiths.length-> ∃ t,WS m n (Z8 m.smiths k)=some t/\(Z8 X.smiths k).2=t.2):=by
 cases h:ZO m
 ·left;unfold Xw;rw [h];exact ⟨rfl,rfl⟩
 right
 have hr:=Pj h n
 unfold Xw at hr ⊢
 rw [h] at hr ⊢
 simp only [if_true] at hr ⊢
 cases hn:inB n 1 20
 ·rw [if_neg (by simp)];exact .inl ⟨by trivial,3,by omega,rfl⟩
 rw [hn] at hr
 simp only [if_true] at hr ⊢
 cases ht:Zs m n m.smiths.length with
 | none=>exact .inl ⟨by trivial,4,by omega,rfl⟩
 | some ss=>
  rw [ht] at hr
  simp only at hr ⊢
  cases hl:Ze (XT m n ss)
  ·simp only [Bool.false_eq_true,if_false]
   exact .inl ⟨by trivial,4,by omega,rfl⟩
  ·rw [hl] at hr
   simp only [if_true] at hr ⊢
   have hlen:=(Xv ht).1
   have hsm:=ZM (XT m n ss) (XT m n ss).desks.length
   refine .inr ⟨by trivial,_,rfl,hr,?_,?_,by trivial,fun k hk=>⟨_,Qo (Nat.le_refl _) ht k hk,?_⟩⟩
   ·exact hsm.2.2.2.2.1.trans hlen
   ·exact hsm.2.2.2.1
   ·exact Rc (m:=XT m n ss) (show k<ss.length by omega)
theorem BC {m:Z6} (h:Loose m) {k:Nat} (hk:k<m.smiths.length) (h0:(Z8 m.smiths k).1 ≠ 0):1<=(Z8 m.smiths k).1/\(Z8 m.smiths k).1<=3:=by
 obtain ⟨p,_,_⟩:=h.limits hk h0
 obtain ⟨⟨st,be,rk,my,gu,lo,hi,hd,ca,ut,wk⟩,hrk⟩:∃ d,Z8 m.smiths k=d:=⟨_,rfl⟩
 rw [hrk] at p ⊢
 exact (Zu p).1
theorem GD {m:Z6} (h:Loose m) {k:Nat} (hk:k<m.smiths.length):0<=(Z8 m.smiths k).2.2.2.2.2.2.2.2.2.2/\(Z8 m.smiths k).2.2.2.2.2.2.2.2.2.2<=1000000000000:=by
 by_cases h0:(Z8 m.smiths k).1=0
 ·rcases Yl.1 (h.here k hk) with e | e
  ·rw [e];exact ⟨by decide,by decide⟩
  ·have e1:=e.1
   rw [Tn h0] at e1
   cases e1
 ·obtain ⟨p,_,_⟩:=h.limits hk h0
  obtain ⟨⟨st,be,rk,my,gu,lo,hi,hd,ca,ut,wk⟩,hrk⟩:∃ d,Z8 m.smiths k=d:=⟨_,rfl⟩
  rw [hrk] at p ⊢
  obtain ⟨_,_,_,_,_,_,_,_,_,w0,w1⟩:=Zu p
  exact ⟨w0,Int.le_trans w1 (by decide)⟩
end Go.Proofs.YtffcgajndmhpkaaGreatDoor
namespace Go.Proofs.YtffcgajndmhpkaaGreatDoor.Draw
open Go.ChangeShapes Go.WideShapes Go.ChangeAt Go.RowKit
set_option linter.unusedVariables false
theorem Z9 {p:Prop} (h:p):Hid p:=h
theorem uh {p:Prop} (h:Hid p):p:=h
theorem ZD {k:IntKind} {a b:Int} (h:a=b):Ending.returned (.int k a)= .returned (.int k b):=by rw [h]
theorem TP (n:Int):bits .and .i64 n 255=n%256:=by
 have h127:(BitVec.ofInt 64 255).toNat=2 ^ 8-1:=by decide
 have key:(BitVec.ofInt 64 n &&& BitVec.ofInt 64 255).toNat=(n%((2 ^ 64:Nat):Int)).toNat%2 ^ 8:=by
  rw [BitVec.toNat_and,BitVec.toNat_ofInt,h127,Nat.and_two_pow_sub_one_eq_mod]
 show IntKind.i64.wrap ((BitVec.ofInt 64 n &&& BitVec.ofInt 64 255).toNat:Nat)=n%256
 rw [key,IntKind.wrap_i64]
 omega
structure Off (bc:Nat) (w w':World):Prop where
 os:w'.os=w.os
 tape:w'.tape=w.tape
 output:w'.output=w.output
 size:w.heap.size<=w'.heap.size
 block:∀ k,k<w.heap.size->k ≠ bc->w'.heap[k]?=w.heap[k]?
theorem Off.refl (bc:Nat) (w:World):Off bc w w:=⟨rfl,rfl,rfl,Nat.le_refl _,fun _ _ _=>rfl⟩
theorem Off.trans {bc:Nat} {a b c:World} (h:Off bc a b) (k:Off bc b c):Off bc a c:=
 ⟨k.os.trans h.os,k.tape.trans h.tape,k.output.trans h.output,Nat.le_trans h.size k.size,fun i hi hn=>(k.block i (Nat.lt_of_lt_of_le hi h.size) hn).trans (h.block i hi hn)⟩
theorem Off.drewN {bc:Nat} {a w:World} (h:Off bc a w) (n:Nat):Off bc a (w.drewN n):=⟨h.os,h.tape,h.output,h.size,h.block⟩
theorem Off.alloc {bc:Nat} {a w:World} (h:Off bc a w) (o:Obj):Off bc a (w.alloc o):=
 h.trans ⟨rfl,rfl,rfl,by simp,fun k hk _=>Below.heap_alloc w o k hk⟩
theorem Off.setCell {bc:Nat} {a w:World} (h:Off bc a w) (o:Nat) (v:Value):Off bc a (w.setCell ⟨bc,o,none⟩ v):=
 h.trans ⟨rfl,rfl,rfl,by simp,fun k hk hn=>Below.heap_setCell w ⟨bc,o,none⟩ v k hn⟩
theorem Off.below {bc:Nat} {a w:World} (h:Off bc a w) {B:Nat} (hB:B<=bc) (hs:B<=a.heap.size):Below B a w:=
 ⟨h.os,h.tape,h.output,h.size,fun k hk=>h.block k (Nat.lt_of_lt_of_le hk hs) (by omega)⟩
theorem Off.cell {bc:Nat} {w w':World} (h:Off bc w w') {p:Addr} (hp:p.block<w.heap.size) (hn:p.block ≠ bc):w'.cell? p=w.cell? p:=
 World.cell?_of_block (w:=w) (h.block p.block hp hn)
theorem Qa (w:World) (o:Nat):w.frozen? ⟨w.heap.size,o,none⟩=false:=by simp [World.frozen?]
def Row (B:Nat) (w:World) (a:Option Addr) (len:Nat):Prop:=
 len<=4096/\(len=0\/ ∃ b off,a=some ⟨b,off,none⟩/\b<B/\ ∀ i,i<len-> ∃ n:Int,0<=n/\n<=255/\w.cell? ⟨b,off+i,none⟩=some (.int .u8 n))
def Cur (a:Option Addr) (len cap bc:Nat) (w:World):Prop:=
 bc<w.heap.size/\ ∃ i h:Int,0<=i/\i<=4096/\w.cell? ⟨bc,0,none⟩=some (.slice a len cap)/\w.cell? ⟨bc,1,none⟩=some (.int .i64 i)/\w.cell? ⟨bc,2,none⟩=some (.int .i64 h)
  /\w.frozen? ⟨bc,1,none⟩=false/\w.frozen? ⟨bc,2,none⟩=false
structure St (a:Option Addr) (len cap bc:Nat) (w:World):Prop where
 cur:Cur a len cap bc w
 row:Row bc w a len
theorem Row.off {bc:Nat} {w w':World} {a:Option Addr} {len:Nat} (h:Row bc w a len) (ho:Off bc w w') (hb:bc<=w.heap.size):Row bc w' a len:=by
 refine ⟨h.1,?_⟩
 rcases h.2 with h0 | ⟨b,off,ha,hlt,hc⟩
 ·exact .inl h0
 ·refine .inr ⟨b,off,ha,hlt,fun i hi=> ?_⟩
  obtain ⟨n,n0,n1,hn⟩:=hc i hi
  exact ⟨n,n0,n1,by rw [ho.cell (p:=⟨b,off+i,none⟩) (Nat.lt_of_lt_of_le hlt hb) (Nat.ne_of_lt hlt)];exact hn⟩
theorem St.drewN {a:Option Addr} {len cap bc:Nat} {w:World} (h:St a len cap bc w) (n:Nat):St a len cap bc (w.drewN n):=⟨h.cur,h.row⟩
theorem St.alloc {a:Option Addr} {len cap bc:Nat} {w:World} (h:St a len cap bc w) (o:Obj):St a len cap bc (w.alloc o):=by
 obtain ⟨⟨hb,i,x,h0,h1,c0,c1,c2,f1,f2⟩,hr⟩:=h
 have hne:∀ o,(⟨bc,o,none⟩:Addr).block ≠ w.heap.size:=fun _=>Nat.ne_of_lt hb
 refine ⟨⟨by simp;omega,i,x,h0,h1,?_,?_,?_,?_,?_⟩,hr.off ((Off.refl _ _).alloc o) (Nat.le_of_lt hb)⟩
 ·rw [World.cell?_alloc_old _ _ _ (hne 0)];exact c0
 ·rw [World.cell?_alloc_old _ _ _ (hne 1)];exact c1
 ·rw [World.cell?_alloc_old _ _ _ (hne 2)];exact c2
 ·rw [World.frozen?_alloc_old _ _ _ (hne 1)];exact f1
 ·rw [World.frozen?_alloc_old _ _ _ (hne 2)];exact f2
theorem St.setH {a:Option Addr} {len cap bc:Nat} {w:World} (h:St a len cap bc w) (x:Int):St a len cap bc (w.setCell ⟨bc,2,none⟩ (.int .i64 x)):=by
 obtain ⟨⟨hb,i,y,h0,h1,c0,c1,c2,f1,f2⟩,hr⟩:=h
 refine ⟨⟨by simpa using hb,i,x,h0,h1,?_,?_,?_,?_,?_⟩,hr.off ((Off.refl _ _).setCell 2 _) (Nat.le_of_lt hb)⟩
 ·rw [World.cell?_setCell_other _ _ _ _ (by simp)];exact c0
 ·rw [World.cell?_setCell_other _ _ _ _ (by simp)];exact c1
 ·exact World.cell?_setCell_same _ _ _ c2
 ·rw [World.frozen?_setCell];exact f1
 ·rw [World.frozen?_setCell];exact f2
theorem St.setI {a:Option Addr} {len cap bc:Nat} {w:World} (h:St a len cap bc w) (x:Int) (x0:0<=x) (x1:x<=4096):St a len cap bc (w.setCell ⟨bc,1,none⟩ (.int .i64 x)):=by
 obtain ⟨⟨hb,i,y,h0,h1,c0,c1,c2,f1,f2⟩,hr⟩:=h
 refine ⟨⟨by simpa using hb,x,y,x0,x1,?_,?_,?_,?_,?_⟩,hr.off ((Off.refl _ _).setCell 1 _) (Nat.le_of_lt hb)⟩
 ·rw [World.cell?_setCell_other _ _ _ _ (by simp)];exact c0
 ·exact World.cell?_setCell_same _ _ _ c1
 ·rw [World.cell?_setCell_other _ _ _ _ (by simp)];exact c2
 ·rw [World.frozen?_setCell];exact f1
 ·rw [World.frozen?_setCell];exact f2
theorem SS (a:Option Addr) (len cap bc:Nat) (w:World) (hs:St a len cap bc w) :
  Calls Tryz.prog 92 #[.pointer (some ⟨bc,0,none⟩)] w fun e w'=> ∃ x:Int,e= .returned (.int .i64 x)/\0<=x/\x<=255/\St a len cap bc w'/\Off bc w w':=by
 have Hs:=Z9 hs
 obtain ⟨⟨hb,i,h,h0,h1,c0,c1,c2,f1,f2⟩,hl,hr⟩:=hs
 by_cases hge:i<(len:Int)
 ·have Hr:=Z9 hr
  rcases hr with hr | ⟨b,off,rfl,hlt,hc⟩
  ·omega
  obtain ⟨k,rfl⟩:=Int.eq_ofNat_of_zero_le h0
  obtain ⟨n,n0,n1,hn⟩:=hc k (by omega)
  have hneb:b ≠ bc:=Nat.ne_of_lt hlt
  clear hc Hr
  go_enter Tryz.func92,Tryz.ntmps92
  go_wp2_with fail
  go_quiet (fail)
  go_wp2_with fail
  go_quiet (fail)
  go_wp2_with fail
  go_quiet (fail)
  go_wp2_with fail
  go_ret
  refine ⟨_,rfl,?_,?_,(((uh Hs).setH _).drewN _).setI _ (by omega) (by omega),(((Off.refl _ _).setCell 2 _).drewN _).setCell 1 _⟩
  ·rw [TP];omega
  ·rw [TP];omega
 ·go_enter Tryz.func92,Tryz.ntmps92
  go_wp2_with fail
  go_quiet (fail)
  go_wp2_with fail
  go_quiet (fail)
  go_wp2_with fail
  go_ret
  refine ⟨_,rfl,?_,?_,(((uh Hs).setH _).drewN _).drewN _,(((Off.refl _ _).setCell 2 _).drewN _).drewN _⟩
  ·rw [TP];omega
  ·rw [TP];omega
theorem below_any (a:Option Addr) (len cap bc:Nat) (n:Int) (hn:0<n) (hm:n<=4611686018427387904) (w:World) (hs:St a len cap bc w) :
  Calls Tryz.prog 32 #[.pointer (some ⟨bc,0,none⟩),.int .i64 n] w fun e w'=> ∃ x:Int,e= .returned (.int .i64 x)/\0<=x/\x<n/\St a len cap bc w'/\Off bc w w':=by
 have Hs:=Z9 hs
 clear hs
 by_cases h256:n<=256
 ·go_enter Tryz.func32,Tryz.ntmps32
  go_wp2_with fail
  refine (SS a len cap bc _ (uh Hs)).mono ?_
  rintro e w1 ⟨x,rfl,x0,x1,s1,o1⟩
  have Hs1:=Z9 s1
  have Ho1:=Z9 o1
  clear s1 o1
  go_wp2_with fail
  go_ret
  exact ⟨_,rfl,Int.emod_nonneg _ (by omega),Int.emod_lt_of_pos _ hn,uh Hs1,uh Ho1⟩
 ·go_enter Tryz.func32,Tryz.ntmps32
  go_wp2_with fail
  refine (SS a len cap bc _ (uh Hs)).mono ?_
  rintro e w1 ⟨x,rfl,x0,x1,s1,o1⟩
  have Hs1:=Z9 s1
  have Ho1:=Z9 o1
  clear s1 o1
  go_wp2_with fail
  refine (SS a len cap bc _ (uh Hs1)).mono ?_
  rintro e w2 ⟨y,rfl,y0,y1,s2,o2⟩
  have Hs2:=Z9 s2
  have Ho2:=Z9 o2
  clear s2 o2
  go_wp2_with fail
  refine (SS a len cap bc _ (uh Hs2)).mono ?_
  rintro e w3 ⟨z,rfl,z0,z1,s3,o3⟩
  have Hs3:=Z9 s3
  have Ho3:=Z9 o3
  clear s3 o3
  go_wp2_with fail
  refine (SS a len cap bc _ (uh Hs3)).mono ?_
  rintro e w4 ⟨v,rfl,v0,v1,s4,o4⟩
  have Hs4:=Z9 s4
  have Ho4:=Z9 o4
  clear s4 o4
  go_wp2_with fail
  go_ret
  exact ⟨_,rfl,Int.emod_nonneg _ (by omega),Int.emod_lt_of_pos _ hn,uh Hs4,(((uh Ho1).trans (uh Ho2)).trans (uh Ho3)).trans (uh Ho4)⟩
theorem once_any (a:Option Addr) (len cap bc:Nat) (n:Int) (hn:0<n) (hm:n<=4611686018427387904) (w:World) (hs:St a len cap bc w) :
  Calls Tryz.prog 33 #[.pointer (some ⟨bc,0,none⟩),.int .i64 n] w fun e w'=> ∃ b:Bool,e= .returned (.bool b)/\St a len cap bc w'/\Off bc w w':=by
 have Hs:=Z9 hs
 clear hs
 go_enter Tryz.func33,Tryz.ntmps33
 go_wp2_with fail
 refine (below_any a len cap bc n hn hm _ (uh Hs)).mono ?_
 rintro e w1 ⟨x,rfl,x0,x1,s1,o1⟩
 have Hs1:=Z9 s1
 have Ho1:=Z9 o1
 clear s1 o1
 go_wp2_with fail
 go_ret
 exact ⟨_,rfl,uh Hs1,uh Ho1⟩
theorem from_any (a:Option Addr) (len cap bc:Nat) (lo hi:Int) (h:lo<=hi) (h1 : -1000000000000<=lo) (h2:hi<=1000000000000) (w:World) (hs:St a len cap bc w) :
  Calls Tryz.prog 55 #[.pointer (some ⟨bc,0,none⟩),.int .i64 lo,.int .i64 hi] w fun e w'=> ∃ x:Int,e= .returned (.int .i64 x)/\lo<=x/\x<=hi/\St a len cap bc w'/\Off bc w w':=by
 have Hs:=Z9 hs
 clear hs
 go_enter Tryz.func55,Tryz.ntmps55
 go_wp2_with fail
 refine (below_any a len cap bc _ (by omega) (by omega) _ (uh Hs)).mono ?_
 rintro e w1 ⟨x,rfl,x0,x1,s1,o1⟩
 have Hs1:=Z9 s1
 have Ho1:=Z9 o1
 clear s1 o1
 go_wp2_with fail
 go_ret
 exact ⟨_,rfl,by omega,by omega,uh Hs1,uh Ho1⟩
theorem Cc {a:Option Addr} {len cap:Nat} {w:World} (hr:Row w.heap.size w a len) {t:TypeId} (x:Int):St a len cap w.heap.size (w.alloc (.cells #[.slice a len cap,.int .i64 0,.int .i64 x] t)):=by
 refine ⟨⟨by simp,0,x,by omega,by omega,?_,?_,?_,?_,?_⟩,hr.off ((Off.refl _ _).alloc _) (Nat.le_refl _)⟩
 ·simp
 ·simp
 ·simp
 ·rw [frozen?_alloc_cells];exact Qa _ _
 ·rw [frozen?_alloc_cells];exact Qa _ _
theorem new_any (a:Option Addr) (len cap:Nat) (w:World) (hr:Row w.heap.size w a len) :
  Calls Tryz.prog 30 #[.slice a len cap] w fun e w'=>e= .returned (.pointer (some ⟨w.heap.size,0,none⟩))/\St a len cap w.heap.size w'/\Off w.heap.size w w':=by
 have Hr:=Z9 hr
 obtain ⟨hl,hr⟩:=hr
 have Hc:=Z9 hr
 clear hr
 go_enter Tryz.func30,Tryz.ntmps30
 go_wp2_with fail
 go_loop [3,4] (fun t i=> ∃ k:Nat,k<=len/\i= .int .i64 k/\ ∃ x:Int,t= .int .i64 x) (fun _ i=>len-(intOf i).toNat)
 case atStart=>exact ⟨0,Nat.zero_le _,rfl,_,rfl⟩
 case round=>
  obtain ⟨k,hk,rfl,x,rfl⟩:=hrel
  by_cases hlt:k<len
  ·rcases uh Hc with h0 | ⟨b,off,rfl,hb,hc⟩
   ·omega
   obtain ⟨n,n0,n1,hn⟩:=hc k hlt
   clear hc
   go_wp2_with fail
   go_round
   case rel=>exact ⟨k+1,by omega,by go_num,_,rfl⟩
   case measure=>simp [intOf];omega
  ·go_wp2_with fail
   go_ret
   refine ⟨rfl,Cc (uh Hr) _,(Off.refl _ _).alloc _⟩
def IsRow (k:IntKind) (w:World) (a:Option Addr) (len cap:Nat) (zs:List Int):Prop:=
 (a=none/\len=0/\cap=0/\zs=[])\/
 ∃ x,a=some x/\len<=cap/\cap<=maxLen/\zs.length=cap/\(∀ i,i<zs.length->w.cell? (x.add i)=some (.int k (zs.getD i 0)))/\ ∀ n ∈ zs,(Lit.int k n).wf=true
theorem Eb {w:World} {a:Option Addr} {len cap:Nat} {zs:List Int} (h:IsRow .u8 w a len cap zs) (hl:len<=4096):Row w.heap.size w a len:=by
 refine ⟨hl,?_⟩
 rcases h with ⟨_,h0,_,_⟩ | ⟨x,rfl,hlc,hm,hz,hcell,hwz⟩
 ·exact .inl h0
 ·by_cases h0:len=0
  ·exact .inl h0
  ·obtain ⟨b,off,spot⟩:=x
   have hc:=hcell 0 (by omega)
   have hspot:spot=none:=by simpa [Addr.add] using World.cell?_spot hc
   subst hspot
   have hlt:=World.block_lt_of_cell? _ _ hc
   refine .inr ⟨b,off,rfl,hlt,fun i hi=> ?_⟩
   have hiz:i<zs.length:=by omega
   have hb:=bounds_u8 (hwz zs[i] (List.getElem_mem hiz))
   have hci:=hcell i hiz
   rw [show zs.getD i 0=zs[i] from by simp [List.getD,hiz]] at hci
   refine ⟨zs[i],hb.1,hb.2,?_⟩
   by_cases hi0:i=0
   ·subst hi0;simpa [Addr.add] using hci
   ·simpa [Addr.add,hi0] using hci
theorem row_below {B:Nat} {w w':World} {a:Option Addr} {len:Nat} (h:Row B w a len) (hb:Below B w w'):Row B w' a len:=by
 refine ⟨h.1,?_⟩
 rcases h.2 with h0 | ⟨b,off,ha,hlt,hc⟩
 ·exact .inl h0
 ·refine .inr ⟨b,off,ha,hlt,fun i hi=> ?_⟩
  obtain ⟨n,n0,n1,hn⟩:=hc i hi
  exact ⟨n,n0,n1,by rw [hb.cell (p:=⟨b,off+i,none⟩) hlt];exact hn⟩
theorem Ck {B B':Nat} {w:World} {a:Option Addr} {len:Nat} (h:Row B w a len) (hB:B<=B'):Row B' w a len:=by
 refine ⟨h.1,?_⟩
 rcases h.2 with h0 | ⟨b,off,ha,hlt,hc⟩
 ·exact .inl h0
 ·exact .inr ⟨b,off,ha,Nat.lt_of_lt_of_le hlt hB,hc⟩
theorem row_later {w w':World} {a:Option Addr} {len:Nat} (h:Row w.heap.size w a len) (hb:Below w.heap.size w w'):Row w'.heap.size w' a len:=Ck (row_below h hb) hb.size
theorem Di (a:Option Addr) (len cap:Nat) (w:World) (hl:len<=4096):Calls Tryz.prog 7 #[.slice a len cap] w fun e w'=>e= .returned (.bool false)/\w'=w:=by
 have h:¬ (4096:Int)<len:=by omega
 go_enter Tryz.func7,Tryz.ntmps7
 go_wp2
 go_ret
 exact ⟨rfl,rfl⟩
theorem FX (a:Option Addr) (len cap:Nat) (w:World) (hl:4096<len):Calls Tryz.prog 7 #[.slice a len cap] w fun e w'=>e= .returned (.bool true)/\w'=w:=by
 have h:(4096:Int)<len:=by omega
 go_enter Tryz.func7,Tryz.ntmps7
 go_wp2
 go_ret
 exact ⟨rfl,rfl⟩
def isI64:Value->Bool
 | .int .i64 _=>true
 | _=>false
theorem pick_any (cs:Array Value) (j:Nat) (hj:j<cs.size) (h:cs.toList.all isI64=true):∃ v:Int,cs[j]?=some (.int .i64 v):=by
 rw [Array.all_toList,Array.all_eq_true] at h
 have:=h j hj
 rw [Array.getElem?_eq_getElem hj]
 generalize cs[j]=c at *
 unfold isI64 at this
 split at this
 ·exact ⟨_,rfl⟩
 ·cases this
end Go.Proofs.YtffcgajndmhpkaaGreatDoor.Draw
namespace Go.Proofs.YtffcgajndmhpkaaGreatDoor
open Go.ChangeShapes Go.WideShapes Go.ChangeAt Go.RowKit Go.Sort
open Draw (St Off Row Cur)
set_option linter.unusedVariables false
theorem Yh {a:Option Addr} {len cap bc:Nat} {w w':World} (h:St a len cap bc w) (hb:Below (bc+1) w w'):St a len cap bc w':=by
 obtain ⟨⟨hlt,i,x,h0,h1,c0,c1,c2,f1,f2⟩,hr⟩:=h
 have hc:∀ o,w'.cell? ⟨bc,o,none⟩=w.cell? ⟨bc,o,none⟩:=fun o=>hb.cell (p:=⟨bc,o,none⟩) (Nat.lt_succ_self bc)
 have hf:∀ o,w'.frozen? ⟨bc,o,none⟩=w.frozen? ⟨bc,o,none⟩:=fun o=>hb.frozen (p:=⟨bc,o,none⟩) (Nat.lt_succ_self bc)
 refine ⟨⟨Nat.lt_of_lt_of_le hlt hb.size,i,x,h0,h1,(hc 0).trans c0,(hc 1).trans c1,(hc 2).trans c2,(hf 1).trans f1,(hf 2).trans f2⟩,Draw.row_below hr (hb.mono (Nat.le_succ bc))⟩
theorem WR {a:Option Addr} {len cap bc:Nat} {w:World} (h:St a len cap bc w):bc<w.heap.size:=h.cur.1
theorem Us {bc:Nat} {a b c:World} (h:Off bc a b) (k:Below a.heap.size b c):Off bc a c:=
 ⟨k.os.trans h.os,k.tape.trans h.tape,k.output.trans h.output,Nat.le_trans h.size k.size,fun i hi hn=>(k.block i hi).trans (h.block i hi hn)⟩
theorem Tk {bc:Nat} {w w':World} (h:Off bc w.drew w'):Off bc w w':=⟨h.os,h.tape,h.output,h.size,h.block⟩
theorem RQ {a:Option Addr} {len cap bc:Nat} {w:World} (h:St a len cap bc w):St a len cap bc w.drew:=⟨h.cur,h.row⟩
theorem MM {bc:Nat} {w w':World} {cs:Array Value} {t:TypeId} {j:Int} (p:Off bc (w.alloc (.cells cs t)) w') (hb:bc<w.heap.size) (h0:0<=j) (h1:j<cs.size) (hz:cs.toList.all Draw.isI64=true):∃ v,w'.cell? ⟨w.heap.size,j.toNat,none⟩=some (.int .i64 v):=by
 obtain ⟨v,hv⟩:=Draw.pick_any cs j.toNat (by omega) hz
 exact ⟨v,by rw [p.cell (p:=⟨w.heap.size,j.toNat,none⟩) (by simp) (by simp;omega),World.cell?_alloc_at _ _ _ _ rfl];exact hv⟩
theorem FullSmy.away {n₀ bc:Nat} {w w':World} {v0 v1 v2 v3 v4:Value} {m:Z6} {qs:List (Z2 × Value)} (h:FullSmy n₀ w v0 v1 v2 v3 v4 m qs) (ho:Off bc w w') (hb:bc<n₀):FullSmy n₀ w' v0 v1 v2 v3 v4 m qs:=
 h.keep fun k e=>ho.block k (h.own e).2 (by have:=(h.own e).1;omega)
theorem Blk.away {bc R:Nat} {w w':World} {t:TypeId} {cs:Array Value} (h:Blk w R t cs) (ho:Off bc w w') (hb:R ≠ bc):Blk w' R t cs:=h.same (ho.block R h.lt hb)
theorem SA {bc:Nat} {w w':World} (h:Below w.heap.size w w'):Off bc w w':=⟨h.os,h.tape,h.output,h.size,fun k hk _=>h.block k hk⟩
theorem Off.newer {bc tb:Nat} {w0 w:World} (h:Off bc w0 w) (ht:w0.heap.size<=tb) (o:Nat) (v:Value):Off bc w0 (w.setCell ⟨tb,o,none⟩ v):=
 ⟨h.os,h.tape,h.output,by simpa using h.size,fun k hk hn=>(heap_setCell_other _ _ _ _ (by show k ≠ tb;omega)).trans (h.block k hk hn)⟩
theorem St.newer {a:Option Addr} {len cap bc tb:Nat} {w:World} (h:St a len cap bc w) (ht:bc<tb) (o:Nat) (v:Value):St a len cap bc (w.setCell ⟨tb,o,none⟩ v):=
 Yh h ((Below.refl _ _).setCell (p:=⟨tb,o,none⟩) (by show bc+1<=tb;omega) _)
end Go.Proofs.YtffcgajndmhpkaaGreatDoor
