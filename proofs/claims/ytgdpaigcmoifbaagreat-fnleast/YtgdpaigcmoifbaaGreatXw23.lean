/- Part 23 of what the proof rests on. No condition but those that a theorem names. -/
import Derived.Test.YtgdpaigcmoifbaaGreatXw18
namespace Go.Proofs.YtgdpaigcmoifbaaGreat
open Go.ChangeShapes Go.WideShapes Go.ChangeAt Go.RowKit Go.Sort
set_option linter.unusedVariables false
variable {m : Z6}
def cnt (p:Nat->Bool):Nat->Nat
 | 0=>0
 | n+1=>cnt p n+(if p n then 1 else 0)
theorem zO (p:Nat->Bool):∀ n,cnt p n<=n
 | 0=>Z0 _
 | n+1=>by
  have:=zO p n;unfold cnt
  split<;>omega
theorem Lx {p q:Nat->Bool} : ∀ n,(∀ i,i<n->p i=true->q i=true)->cnt p n<=cnt q n
 | 0,_=>Z0 _
 | n+1,h=>by
  have ih:=Lx n (fun i hi=>h i (by omega));have hn:=h n (by omega);unfold cnt;cases hp:p n
  ·simp;omega
  ·rw [hn hp];simp;exact ih
theorem Ps {p q:Nat->Bool} {x:Nat} (hp:p x=true) (hq:q x=false):∀ n,x<n->(∀ i,i<n->q i=true->p i=true)->cnt q n+1<=cnt p n
 | 0,hx,_=>by omega
 | n+1,hx,h=>by
  unfold cnt;by_cases e:x=n
  ·subst e
   have:=Lx (p:=q) (q:=p) x (fun i hi=>h i (by omega));rw [hp,hq];simp;exact this
  ·have ih:=Ps hp hq n (by omega) (fun i hi=>h i (by omega))
   have hn:=h n (by omega);cases hqn:q n
   ·simp;omega
   ·rw [hn hqn];simp;exact ih
theorem CZ (q:Nat->Bool) (y:Nat):∀ n,cnt q n<=cnt (fun i=>q i && !(i ==y)) n+1
 | 0=>by simp [cnt]
 | n+1=>by
  unfold cnt;by_cases e:n=y
  ·subst e
   have:=Lx (p:=q) (q:=fun i=>q i && !(i ==n)) n (fun i hi hqi=>by
    simp only [hqi,Bool.true_and,Bool.not_eq_true',beq_eq_false_iff_ne];omega)
   simp only [beq_self_eq_true,Bool.not_true,Bool.and_false]
   split<;>simp<;>omega
  ·have ih:=CZ q y n
   have he:(n ==y)=false:=by simpa using e
   simp only [he,Bool.not_false,Bool.and_true];omega
theorem zP {p q:Nat->Bool} {x y n:Nat} (hx:x<n) (hp:p x=true) (hq:q x=false) (h:∀ i,i<n->i ≠ y->q i=true->p i=true):cnt q n<=cnt p n:=by
 have h1:=CZ q y n
 have h2:=Ps (p:=p) (q:=fun i=>q i && !(i ==y)) hp (by simp [hq]) n hx (fun i hi hqi=>by
  simp only [ZO,Bool.not_eq_true',beq_eq_false_iff_ne] at hqi
  exact h i hi hqi.2 hqi.1)
 omega
def VJ (m:Z6) (b:Nat):Bool:=(Z8 m.dk b).1 && decide ((atV m.sm b m.sm.length).length=0)
def Qv (m:Z6) (i:Nat):Bool:=ZL (Z8 m.sm i) && !WW (ZC m (i:Int)) 0 (Zo m.rm (Z8 m.sm i).2.1)
def LW (m:Z6) (w b:Nat):Bool:=VJ m b && (Zk m (w:Int) b && WW (ZC m (w:Int)) 0 (Zo m.rm (b:Int)))
def Vg (m:Z6) (w:Nat):Nat->Option Nat
 | 0=>none
 | k+1=>match Vg m w k with
  | some b=>some b
  | none=>if LW m w k then some k else none
def PE (m:Z6) (w:Nat):Option Nat:=if Qv m w then Vg m w m.dk.length else none
def SX (m:Z6):Nat->Option (Nat × Nat)
 | 0=>none
 | k+1=>match SX m k with
  | some r=>some r
  | none=>(PE m k).map fun b=>(k,b)
def Ux (m:Z6):Option (Nat × Nat):=if ZM m then SX m m.sm.length else none
def OC (m:Z6) (w b:Nat):Bool:=(Z8 m.sm w).1 ==2 && Zk m (w:Int) b
def UP (m:Z6) (b:Nat):Nat->Option Nat
 | 0=>none
 | k+1=>match UP m b k with
  | some w=>some w
  | none=>if OC m k b then some k else none
def Pk (m:Z6) (b:Nat):Option Nat:=if VJ m b then UP m b m.sm.length else none
def We (m:Z6):Nat->Option (Nat × Nat)
 | 0=>none
 | k+1=>match We m k with
  | some r=>some r
  | none=>(Pk m k).map fun w=>(w,k)
def U5 (m:Z6):Option (Nat × Nat):=if ZM m then We m m.dk.length else none
def Ub (m:Z6):Option (Nat × Nat):=match Ux m with
 | some r=>some r
 | none=>U5 m
theorem JQ {w b:Nat} : ∀ {k},Vg m w k=some b->b<k/\LW m w b=true
 | 0,h=>by cases h
 | k+1,h=>by
  unfold Vg at h;cases hg:Vg m w k with
  | some b'=>
   rw [hg] at h;cases h;have:=JQ hg;exact ⟨by omega,this.2⟩
  | none=>
   rw [hg] at h;simp only at h
   split at h
   ·rename_i hh
    cases h;exact ⟨by omega,hh⟩
   ·cases h
theorem GI {w b:Nat} : ∀ {k},SX m k=some (w,b)->w<k/\Qv m w=true/\b<m.dk.length/\LW m w b=true
 | 0,h=>by cases h
 | k+1,h=>by
  unfold SX at h;cases hg:SX m k with
  | some r=>
   rw [hg] at h;cases h;have:=GI hg;exact ⟨by omega,this.2⟩
  | none=>
   rw [hg] at h;simp only [Option.map_eq_some_iff,Prod.mk.injEq] at h;obtain ⟨b',hb',rfl,rfl⟩:=h;unfold PE at hb'
   split at hb'
   ·rename_i hh
    have:=JQ hb';exact ⟨by omega,hh,this⟩
   ·cases hb'
theorem KA {w b:Nat} : ∀ {k},UP m b k=some w->w<k/\OC m w b=true
 | 0,h=>by cases h
 | k+1,h=>by
  unfold UP at h;cases hg:UP m b k with
  | some w'=>
   rw [hg] at h;cases h;have:=KA hg;exact ⟨by omega,this.2⟩
  | none=>
   rw [hg] at h;simp only at h
   split at h
   ·rename_i hh
    cases h;exact ⟨by omega,hh⟩
   ·cases h
theorem Nh {w b:Nat} : ∀ {k},We m k=some (w,b)->b<k/\VJ m b=true/\w<m.sm.length/\OC m w b=true
 | 0,h=>by cases h
 | k+1,h=>by
  unfold We at h;cases hg:We m k with
  | some r=>
   rw [hg] at h;cases h;have:=Nh hg;exact ⟨by omega,this.2⟩
  | none=>
   rw [hg] at h;simp only [Option.map_eq_some_iff,Prod.mk.injEq] at h;obtain ⟨b',hb',rfl,rfl⟩:=h;unfold Pk at hb'
   split at hb'
   ·rename_i hh
    have:=KA hb';exact ⟨by omega,hh,this⟩
   ·cases hb'
def To (m:Z6) (w b:Nat):Z6:=setS m w (putS m (Z8 m.sm w) (b:Int))
def Uc (m:Z6) (w b:Nat):Z6:=ZH (To m w b)
structure Moves (m:Z6) (w b:Nat):Prop where
 right:ZM m=true
 who:w<m.sm.length
 bench:b<m.dk.length
 pres:ZL (Z8 m.sm w)=true
 may:Zk m (w:Int) b=true
 idle:VJ m b=true
 why:(Qv m w=true/\WW (ZC m (w:Int)) 0 (Zo m.rm (b:Int))=true)\/(Z8 m.sm w).1=2
theorem Cd {w b:Nat} (h:Ux m=some (w,b)):Moves m w b:=by
 unfold Ux at h
 split at h
 ·rename_i hr
  obtain ⟨h1,h2,h3,h4⟩:=GI h;unfold LW at h4;simp only [ZO] at h4;have h2':=h2;unfold Qv at h2';simp only [ZO] at h2';exact ⟨hr,h1,h3,h2'.1,h4.2.1,h4.1,.inl ⟨h2,h4.2.2⟩⟩
 ·cases h
theorem EB {w b:Nat} (h:U5 m=some (w,b)):Moves m w b:=by
 unfold U5 at h
 split at h
 ·rename_i hr
  obtain ⟨h1,h2,h3,h4⟩:=Nh h;unfold OC at h4;simp only [ZO,beq_iff_eq] at h4;exact ⟨hr,h3,h1,by unfold ZL;rw [h4.1];rfl,h4.2,h2,.inr h4.1⟩
 ·cases h
theorem Rr {w b:Nat} (h:Ub m=some (w,b)):Moves m w b:=by
 unfold Ub at h;cases hm:Ux m with
 | some r=>rw [hm] at h;cases h;exact Cd hm
 | none=>rw [hm] at h;exact EB h
theorem Moves.loose {w b:Nat} (h:Moves m w b):Loose (To m w b):=by
 have hlo:=ZU h.right;obtain ⟨p,g1,b1⟩:=hlo.limits h.who (by intro e;have:=h.pres;unfold ZL at this;rw [e] at this;cases this);obtain ⟨a0,a1,a2,a3,a4⟩:=hlo.at h.who h.pres;have hm:=h.may;unfold Zk at hm;simp only [ZO,Zp] at hm;have:=Ml (m:=m) hlo (s:=Z8 m.sm w) (b:=b) p h.pres g1 a0 a1 a4 h.bench hm.1 hm.2;exact hlo.setS h.who this.1 this.2
theorem Moves.keeps {w b:Nat} (h:Moves m w b):ZM (Uc m w b)=true:=YS h.loose
theorem IX {ss:List Z2} {b:Int} {n:Nat} : (atV ss b n).length=0 ↔ ∀ i,i<n-> ¬ ((Z8 ss i).2.1=b/\ZL (Z8 ss i)=true):=by
 constructor
 ·intro h i hi hp
  have hm:(Xs (Z8 ss i),(i:Int)) ∈ atV ss b n:=(XQ ss b _ n).2 ⟨i,hi,hp.1,hp.2,rfl⟩;rw [List.length_eq_zero_iff.1 h] at hm;cases hm
 ·intro h
  rw [List.length_eq_zero_iff];refine List.eq_nil_iff_forall_not_mem.2 fun e he=> ?_;obtain ⟨i,hi,h1,h2,_⟩:=(XQ ss b e n).1 he;exact h i hi ⟨h1,h2⟩
theorem PJ {w b:Nat} (hw:w<m.sm.length) (i:Nat):Z8 (To m w b).sm i=if i=w then putS m (Z8 m.sm w) (b:Int) else Z8 m.sm i:=ZD hw i
theorem Ue (m:Z6) (w b:Nat):(To m w b).sm.length=m.sm.length:=by unfold To setS;simp
theorem Kx {i:Nat} (hi:i<m.sm.length):(Z8 (ZH m).sm i).2=(Z8 m.sm i).2:=by
 unfold ZH;rw [XB m hi]
 split<;>rfl
theorem CI {i:Nat} (hi:i<m.sm.length):ZL (Z8 (ZH m).sm i)=ZL (Z8 m.sm i):=(W6 m m.dk.length i hi).2.1
theorem CG (m:Z6) {b:Nat} (hb:b<m.dk.length):VJ (ZH m) b=VJ m b:=by
 unfold VJ ZH;rw [QT,VT m b _ (Nat.le_refl _),if_pos hb]
 congr 1
 unfold Xq
 split<;>rfl
theorem Bk (m:Z6) {i:Nat} (hi:i<m.sm.length):Qv (ZH m) i=Qv m i:=by
 have h1:ZC (ZH m) (i:Int)=ZC m (i:Int):=by
  unfold ZC TG;rw [Zp,Kx hi,show (ZH m).gd=m.gd from (Zv m m.dk.length).2.1]
 unfold Qv;rw [CI hi,h1,Kx hi,show (ZH m).rm=m.rm from (Zv m m.dk.length).1]
def Oj (m:Z6):Nat:=cnt (VJ m) m.dk.length
def Jl (m:Z6):Nat:=cnt (Qv m) m.sm.length
def RO (m:Z6):Nat:=13*Oj m+Jl m
theorem FQ {p q:Nat->Bool} (n:Nat) (h:∀ i,i<n->p i=q i):cnt p n=cnt q n:=
 Nat.le_antisymm (Lx n fun i hi hp=>by rw [<-h i hi];exact hp) (Lx n fun i hi hp=>by rw [h i hi];exact hp)
theorem Ff (m:Z6):Oj (ZH m)=Oj m:=by
 unfold Oj;rw [show (ZH m).dk.length=m.dk.length from (Zv m m.dk.length).2.2.2.2.2];exact FQ _ fun i hi=>CG m hi
theorem CH (m:Z6):Jl (ZH m)=Jl m:=by
 unfold Jl;rw [show (ZH m).sm.length=m.sm.length from (Zv m m.dk.length).2.2.2.2.1];exact FQ _ fun i hi=>Bk m hi
theorem AP {w b:Nat} (hw:w<m.sm.length) (hp:ZL (Z8 m.sm w)=true):VJ (To m w b) b=false:=by
 unfold VJ;rw [decide_eq_false,Bool.and_false];intro h;refine IX.1 h w (by rw [Ue];exact hw) ?_;rw [PJ hw,if_pos rfl];exact ⟨rfl,hp⟩
theorem G7 {w b j:Nat} (hw:w<m.sm.length) (hj:(Z8 m.sm w).2.1 ≠ (j:Int)) (h:VJ (To m w b) j=true):VJ m j=true:=by
 unfold VJ at h ⊢;simp only [ZO,YZ] at h ⊢;refine ⟨h.1,IX.2 fun i hi hp=> ?_⟩;have:=IX.1 h.2 i (by rw [Ue];exact hi);rw [PJ hw] at this;by_cases e:i=w
 ·subst e;exact hj hp.1
 ·rw [if_neg e] at this;exact this hp
theorem zw {w b i:Nat} (hw:w<m.sm.length) (hi:i ≠ w):Qv (To m w b) i=Qv m i:=by
 unfold Qv ZC;rw [Zp,PJ hw,if_neg hi];rfl
theorem AQ {w b:Nat} (hw:w<m.sm.length) (h:WW (ZC m (w:Int)) 0 (Zo m.rm (b:Int))=true):Qv (To m w b) w=false:=by
 unfold Qv ZC;rw [Zp,PJ hw,if_pos rfl]
 have e:TG (To m w b).gd (putS m (Z8 m.sm w) (b:Int))=ZC m (w:Int):=by
  unfold ZC;rw [Zp];rfl
 rw [e];show (_ && !WW _ 0 (Zo m.rm (b:Int)))=false;rw [h];simp
theorem Fk (h:ZM m=true) {w:Nat} (hw:w<m.sm.length) (h2:(Z8 m.sm w).1=2):∃ i,i<m.sm.length/\i ≠ w/\(Z8 m.sm i).2.1=(Z8 m.sm w).2.1/\ZL (Z8 m.sm i)=true:=by
 have hlo:=ZU h;have hp:ZL (Z8 m.sm w)=true:=by unfold ZL;rw [h2];rfl
 obtain ⟨a0,a1,_⟩:=hlo.at hw hp;obtain ⟨b,hb⟩:∃ b:Nat,(Z8 m.sm w).2.1=(b:Int):=⟨(Z8 m.sm w).2.1.toNat,by omega⟩
 have hbl:b<m.dk.length:=by omega
 have hok:Yc m b=true:=by
  unfold ZM at h;simp only [ZO] at h;exact IV h.2 hbl
 rw [<-Kw] at hok;unfold UO at hok
 split at hok
 ·simp only [YZ,List.length_eq_zero_iff] at hok
  have:(w:Int) ∈ ZP (atB (b:Int)) m.sm m.sm.length:=(Ws _ _ _ _).2 ⟨w,hw,rfl,by unfold atB;rw [h2,hb];simp⟩;rw [hok] at this;cases this
 ·simp only [ZO,YZ] at hok
  have hx:Z8 (ZP (Yw (b:Int)) m.sm m.sm.length) 0 ∈ ZP (Yw (b:Int)) m.sm m.sm.length:=Wd (by omega);obtain ⟨i,hi,_,hwk⟩:=(Ws _ _ _ _).1 hx;unfold Yw at hwk;simp only [ZO,beq_iff_eq] at hwk;exact ⟨i,hi,fun e=>by subst e;omega,by rw [hb];exact hwk.2,by unfold ZL;rw [hwk.1];rfl⟩
theorem Moves.falls {w b:Nat} (h:Moves m w b):RO (Uc m w b)<RO m:=by
 unfold RO Uc;rw [Ff,CH];have hlo:=ZU h.right;have h12:=YH hlo;obtain ⟨a0,a1,_⟩:=hlo.at h.who h.pres;have hmb:=zO (Qv (To m w b)) m.sm.length;have hbusy:=AP (b:=b) h.who h.pres
 rcases h.why with ⟨hmis,hfit⟩ | hwait
 ·have e1:Oj (To m w b)<=Oj m:=zP (y:=(Z8 m.sm w).2.1.toNat) h.bench h.idle hbusy fun i hi hne hq=>G7 h.who (by omega) hq
  have e2:Jl (To m w b)+1<=Jl m:=by
   unfold Jl;rw [Ue];refine Ps hmis (AQ h.who hfit) _ h.who fun i hi hq=> ?_;by_cases e:i=w
   ·subst e;exact hmis
   ·rw [zw h.who e] at hq;exact hq
  omega
 ·have e1:Oj (To m w b)+1<=Oj m:=by
   refine Ps h.idle hbusy _ h.bench fun j hj hq=> ?_;by_cases e:(Z8 m.sm w).2.1=(j:Int)
   ·exfalso
    obtain ⟨i,hi,hiw,hbe,hpr⟩:=Fk h.right h.who hwait;unfold VJ at hq;simp only [ZO,YZ] at hq;have:=IX.1 hq.2 i (by rw [Ue];exact hi);rw [PJ h.who,if_neg hiw] at this;exact this ⟨by rw [hbe,e],hpr⟩
   ·exact G7 h.who e hq
  have e2:Jl (To m w b)<=12:=by
   unfold Jl;rw [Ue];omega
  omega
def T6:Nat->Z6->Z6
 | 0,m=>m
 | k+1,m=>match Ub m with
  | none=>m
  | some (w,b)=>T6 k (Uc m w b)
def Tm (m:Z6):Z6:=T6 (RO m+1) m
theorem Oq:∀ (j k:Nat) (m:Z6),RO m<j->RO m<k->T6 j m=T6 k m
 | 0,_,_,h,_=>by omega
 | _+1,0,_,_,h=>by omega
 | j+1,k+1,m,hj,hk=>by
  show (match Ub m with | none=>m | some (w,b)=>T6 j (Uc m w b))=(match Ub m with | none=>m | some (w,b)=>T6 k (Uc m w b))
  cases hm:Ub m with
  | none=>rfl
  | some r=>
   obtain ⟨w,b⟩:=r;have hf:=(Rr hm).falls;exact Oq j k (Uc m w b) (by omega) (by omega)
theorem Gy (h:Ub m=none):Tm m=m:=by
 unfold Tm T6;rw [h]
theorem J3 {w b:Nat} (h:Ub m=some (w,b)):Tm m=Tm (Uc m w b):=by
 have hf:=(Rr h).falls
 have:Tm m=T6 (RO m) (Uc m w b):=by
  show (match Ub m with | none=>m | some (w,b)=>T6 (RO m) (Uc m w b))=_;rw [h]
 rw [this];exact Oq _ _ _ (by omega) (by omega)
theorem PB:∀ (k:Nat) (m:Z6),ZM m=true->ZM (T6 k m)=true
 | 0,m,h=>h
 | k+1,m,h=>by
  unfold T6;cases hm:Ub m with
  | none=>exact h
  | some r=>
   obtain ⟨w,b⟩:=r;exact PB k (Uc m w b) (Rr hm).keeps
theorem Gz (h:ZM m=true):ZM (Tm m)=true:=PB _ m h
def VM (m:Z6):Z6:=if ZM m then Tm m else W7
def CF:Option (Nat × Nat)->Value
 | none=> .tuple #[.int .i64 0,.int .i64 0,.bool false]
 | some (w,b)=> .tuple #[.int .i64 (w:Int),.int .i64 (b:Int),.bool true]
theorem CN {b w:Nat} {k n:Nat} (h:UP m b k=some w) (hn:k<=n):UP m b n=some w:=by
 obtain ⟨d,rfl⟩:∃ d,n=k+d:=⟨n-k,by omega⟩
 clear hn
 induction d with
 | zero=>exact h
 | succ d ih=>
  show UP m b (k+d+1)=some w;unfold UP;rw [ih]
theorem Fl {w b:Nat} {k n:Nat} (h:We m k=some (w,b)) (hn:k<=n):We m n=some (w,b):=by
 obtain ⟨d,rfl⟩:∃ d,n=k+d:=⟨n-k,by omega⟩
 clear hn
 induction d with
 | zero=>exact h
 | succ d ih=>
  show We m (k+d+1)=some (w,b);unfold We;rw [ih]
theorem BN {w b:Nat} {k n:Nat} (h:Vg m w k=some b) (hn:k<=n):Vg m w n=some b:=by
 obtain ⟨d,rfl⟩:∃ d,n=k+d:=⟨n-k,by omega⟩
 clear hn
 induction d with
 | zero=>exact h
 | succ d ih=>
  show Vg m w (k+d+1)=some b;unfold Vg;rw [ih]
theorem AE {w b:Nat} {k n:Nat} (h:SX m k=some (w,b)) (hn:k<=n):SX m n=some (w,b):=by
 obtain ⟨d,rfl⟩:∃ d,n=k+d:=⟨n-k,by omega⟩
 clear hn
 induction d with
 | zero=>exact h
 | succ d ih=>
  show SX m (k+d+1)=some (w,b);unfold SX;rw [ih]
end Go.Proofs.YtgdpaigcmoifbaaGreat
