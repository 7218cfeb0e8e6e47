/- Part 23 of what the proof rests on. No condition but those that a theorem names. -/
import Derived.Test.YtlcpgkakdieeaaaGreatXk18
import Derived.Maps.OwnSet
import Derived.Maps.OwnOps
namespace Go.Proofs.YtlcpgkakdieeaaaGreat
open Go.ChangeShapes Go.WideShapes Go.ChangeAt Go.RowKit Go.Sort
set_option linter.unusedVariables false
def cnt (p:Nat->Bool):Nat->Nat
 | 0=>0
 | n+1=>cnt p n+(if p n then 1 else 0)
theorem PZ (p:Nat->Bool):∀ n,cnt p n<=n
 | 0=>Z0 _
 | n+1=>by
  have:=PZ p n;unfold cnt
  split<;>omega
theorem Nk {p q:Nat->Bool} : ∀ n,(∀ i,i<n->p i=true->q i=true)->cnt p n<=cnt q n
 | 0,_=>Z0 _
 | n+1,h=>by
  have ih:=Nk n (fun i hi=>h i (by omega));have hn:=h n (by omega);unfold cnt;cases hp:p n
  ·simp;omega
  ·rw [hn hp];simp;exact ih
theorem QC {p q:Nat->Bool} {x:Nat} (hp:p x=true) (hq:q x=false):∀ n,x<n->(∀ i,i<n->q i=true->p i=true)->cnt q n+1<=cnt p n
 | 0,hx,_=>by omega
 | n+1,hx,h=>by
  unfold cnt;by_cases e:x=n
  ·subst e
   have:=Nk (p:=q) (q:=p) x (fun i hi=>h i (by omega));rw [hp,hq];simp;exact this
  ·have ih:=QC hp hq n (by omega) (fun i hi=>h i (by omega))
   have hn:=h n (by omega);cases hqn:q n
   ·simp;omega
   ·rw [hn hqn];simp;exact ih
theorem Fd (q:Nat->Bool) (y:Nat):∀ n,cnt q n<=cnt (fun i=>q i && !(i ==y)) n+1
 | 0=>by simp [cnt]
 | n+1=>by
  unfold cnt;by_cases e:n=y
  ·subst e
   have:=Nk (p:=q) (q:=fun i=>q i && !(i ==n)) n (fun i hi hqi=>by
    simp only [hqi,Bool.true_and,Bool.not_eq_true',beq_eq_false_iff_ne];omega)
   simp only [beq_self_eq_true,Bool.not_true,Bool.and_false]
   split<;>simp<;>omega
  ·have ih:=Fd q y n
   have he:(n ==y)=false:=by simpa using e
   simp only [he,Bool.not_false,Bool.and_true];omega
theorem ID {p q:Nat->Bool} {x y n:Nat} (hx:x<n) (hp:p x=true) (hq:q x=false) (h:∀ i,i<n->i ≠ y->q i=true->p i=true):cnt q n<=cnt p n:=by
 have h1:=Fd q y n
 have h2:=QC (p:=p) (q:=fun i=>q i && !(i ==y)) hp (by simp [hq]) n hx (fun i hi hqi=>by
  simp only [ZP,Bool.not_eq_true',beq_eq_false_iff_ne] at hqi
  exact h i hi hqi.2 hqi.1)
 omega
def YD (m:Z6) (b:Nat):Bool:=(Z8 m.dk b).1 && decide ((atV m.sm b m.sm.length).length=0)
def VE (m:Z6) (i:Nat):Bool:=ZQ (Z8 m.sm i) && !YG (Y8 m (i:Int)) 0 (Zw m.rm (Z8 m.sm i).2.1)
def Vc (m:Z6) (w b:Nat):Bool:=YD m b && (YA m (w:Int) b && YG (Y8 m (w:Int)) 0 (Zw m.rm (b:Int)))
def Xz (m:Z6) (w:Nat):Nat->Option Nat
 | 0=>none
 | k+1=>match Xz m w k with
  | some b=>some b
  | none=>if Vc m w k then some k else none
def VY (m:Z6) (w:Nat):Option Nat:=if VE m w then Xz m w m.dk.length else none
def XY (m:Z6):Nat->Option (Nat × Nat)
 | 0=>none
 | k+1=>match XY m k with
  | some r=>some r
  | none=>(VY m k).map fun b=>(k,b)
def Zb (m:Z6):Option (Nat × Nat):=if ZI m then XY m m.sm.length else none
def Ux (m:Z6) (w b:Nat):Bool:=(Z8 m.sm w).1 ==2 && YA m (w:Int) b
def Xh (m:Z6) (b:Nat):Nat->Option Nat
 | 0=>none
 | k+1=>match Xh m b k with
  | some w=>some w
  | none=>if Ux m k b then some k else none
def Uk (m:Z6) (b:Nat):Option Nat:=if YD m b then Xh m b m.sm.length else none
def Yp (m:Z6):Nat->Option (Nat × Nat)
 | 0=>none
 | k+1=>match Yp m k with
  | some r=>some r
  | none=>(Uk m k).map fun w=>(w,k)
def YZ (m:Z6):Option (Nat × Nat):=if ZI m then Yp m m.dk.length else none
def Yf (m:Z6):Option (Nat × Nat):=match Zb m with
 | some r=>some r
 | none=>YZ m
theorem Lz {m:Z6} {w b:Nat} : ∀ {k},Xz m w k=some b->b<k/\Vc m w b=true
 | 0,h=>by cases h
 | k+1,h=>by
  unfold Xz at h;cases hg:Xz m w k with
  | some b'=>
   rw [hg] at h;cases h;have:=Lz hg;exact ⟨by omega,this.2⟩
  | none=>
   rw [hg] at h;simp only at h
   split at h
   ·rename_i hh
    cases h;exact ⟨by omega,hh⟩
   ·cases h
theorem SF {m:Z6} {w b:Nat} : ∀ {k},XY m k=some (w,b)->w<k/\VE m w=true/\b<m.dk.length/\Vc m w b=true
 | 0,h=>by cases h
 | k+1,h=>by
  unfold XY at h;cases hg:XY m k with
  | some r=>
   rw [hg] at h;cases h;have:=SF hg;exact ⟨by omega,this.2⟩
  | none=>
   rw [hg] at h;simp only [Option.map_eq_some_iff,Prod.mk.injEq] at h;obtain ⟨b',hb',rfl,rfl⟩:=h;unfold VY at hb'
   split at hb'
   ·rename_i hh
    have:=Lz hb';exact ⟨by omega,hh,this⟩
   ·cases hb'
theorem Mr {m:Z6} {w b:Nat} : ∀ {k},Xh m b k=some w->w<k/\Ux m w b=true
 | 0,h=>by cases h
 | k+1,h=>by
  unfold Xh at h;cases hg:Xh m b k with
  | some w'=>
   rw [hg] at h;cases h;have:=Mr hg;exact ⟨by omega,this.2⟩
  | none=>
   rw [hg] at h;simp only at h
   split at h
   ·rename_i hh
    cases h;exact ⟨by omega,hh⟩
   ·cases h
theorem Ry {m:Z6} {w b:Nat} : ∀ {k},Yp m k=some (w,b)->b<k/\YD m b=true/\w<m.sm.length/\Ux m w b=true
 | 0,h=>by cases h
 | k+1,h=>by
  unfold Yp at h;cases hg:Yp m k with
  | some r=>
   rw [hg] at h;cases h;have:=Ry hg;exact ⟨by omega,this.2⟩
  | none=>
   rw [hg] at h;simp only [Option.map_eq_some_iff,Prod.mk.injEq] at h;obtain ⟨b',hb',rfl,rfl⟩:=h;unfold Uk at hb'
   split at hb'
   ·rename_i hh
    have:=Mr hb';exact ⟨by omega,hh,this⟩
   ·cases hb'
def VM (m:Z6) (w b:Nat):Z6:=setS m w (putS m (Z8 m.sm w) (b:Int))
def XZ (m:Z6) (w b:Nat):Z6:=ZJ (VM m w b)
structure Moves (m:Z6) (w b:Nat):Prop where
 right:ZI m=true
 who:w<m.sm.length
 bench:b<m.dk.length
 pres:ZQ (Z8 m.sm w)=true
 may:YA m (w:Int) b=true
 idle:YD m b=true
 why:(VE m w=true/\YG (Y8 m (w:Int)) 0 (Zw m.rm (b:Int))=true)\/(Z8 m.sm w).1=2
theorem RS {m:Z6} {w b:Nat} (h:Zb m=some (w,b)):Moves m w b:=by
 unfold Zb at h
 split at h
 ·rename_i hr
  obtain ⟨h1,h2,h3,h4⟩:=SF h;unfold Vc at h4;simp only [ZP] at h4;have h2':=h2;unfold VE at h2';simp only [ZP] at h2';exact ⟨hr,h1,h3,h2'.1,h4.2.1,h4.1,.inl ⟨h2,h4.2.2⟩⟩
 ·cases h
theorem N6 {m:Z6} {w b:Nat} (h:YZ m=some (w,b)):Moves m w b:=by
 unfold YZ at h
 split at h
 ·rename_i hr
  obtain ⟨h1,h2,h3,h4⟩:=Ry h;unfold Ux at h4;simp only [ZP,beq_iff_eq] at h4;exact ⟨hr,h3,h1,by unfold ZQ;rw [h4.1];rfl,h4.2,h2,.inr h4.1⟩
 ·cases h
theorem Vp {m:Z6} {w b:Nat} (h:Yf m=some (w,b)):Moves m w b:=by
 unfold Yf at h;cases hm:Zb m with
 | some r=>rw [hm] at h;cases h;exact RS hm
 | none=>rw [hm] at h;exact N6 h
theorem Moves.loose {m:Z6} {w b:Nat} (h:Moves m w b):Loose (VM m w b):=by
 have hlo:=ZM h.right;obtain ⟨p,g1,b1⟩:=hlo.limits h.who (by intro e;have:=h.pres;unfold ZQ at this;rw [e] at this;cases this);obtain ⟨a0,a1,a2,a3,a4⟩:=hlo.at h.who h.pres;have hm:=h.may;unfold YA at hm;simp only [ZP,Zr] at hm;have:=NQ (m:=m) hlo (s:=Z8 m.sm w) (b:=b) p h.pres g1 a0 a1 a4 h.bench hm.1 hm.2;exact hlo.setS h.who this.1 this.2
theorem Moves.keeps {m:Z6} {w b:Nat} (h:Moves m w b):ZI (XZ m w b)=true:=YR h.loose
theorem PW {ss:List Z2} {b:Int} {n:Nat} : (atV ss b n).length=0 ↔ ∀ i,i<n-> ¬ ((Z8 ss i).2.1=b/\ZQ (Z8 ss i)=true):=by
 constructor
 ·intro h i hi hp
  have hm:(XK (Z8 ss i),(i:Int)) ∈ atV ss b n:=(XO ss b _ n).2 ⟨i,hi,hp.1,hp.2,rfl⟩;rw [List.length_eq_zero_iff.1 h] at hm;cases hm
 ·intro h
  rw [List.length_eq_zero_iff];refine List.eq_nil_iff_forall_not_mem.2 fun e he=> ?_;obtain ⟨i,hi,h1,h2,_⟩:=(XO ss b e n).1 he;exact h i hi ⟨h1,h2⟩
theorem Uq {m:Z6} {w b:Nat} (hw:w<m.sm.length) (i:Nat):Z8 (VM m w b).sm i=if i=w then putS m (Z8 m.sm w) (b:Int) else Z8 m.sm i:=ZD hw i
theorem XF (m:Z6) (w b:Nat):(VM m w b).sm.length=m.sm.length:=by unfold VM setS;simp
theorem R6 {m:Z6} {i:Nat} (hi:i<m.sm.length):(Z8 (ZJ m).sm i).2=(Z8 m.sm i).2:=by
 unfold ZJ;rw [XV m hi]
 split<;>rfl
theorem Mn {m:Z6} {i:Nat} (hi:i<m.sm.length):ZQ (Z8 (ZJ m).sm i)=ZQ (Z8 m.sm i):=(W7 m m.dk.length i hi).2.1
theorem ET (m:Z6) {b:Nat} (hb:b<m.dk.length):YD (ZJ m) b=YD m b:=by
 unfold YD ZJ;rw [R1,Wo m b _ (Nat.le_refl _),if_pos hb]
 congr 1
 unfold Xe
 split<;>rfl
theorem OP (m:Z6) {i:Nat} (hi:i<m.sm.length):VE (ZJ m) i=VE m i:=by
 have h1:Y8 (ZJ m) (i:Int)=Y8 m (i:Int):=by
  unfold Y8 Re;rw [Zr,R6 hi,show (ZJ m).gd=m.gd from (Zx m m.dk.length).2.1]
 unfold VE;rw [Mn hi,h1,R6 hi,show (ZJ m).rm=m.rm from (Zx m m.dk.length).1]
def QI (m:Z6):Nat:=cnt (YD m) m.dk.length
def MI (m:Z6):Nat:=cnt (VE m) m.sm.length
def Wi (m:Z6):Nat:=13*QI m+MI m
theorem Nl {p q:Nat->Bool} (n:Nat) (h:∀ i,i<n->p i=q i):cnt p n=cnt q n:=
 Nat.le_antisymm (Nk n fun i hi hp=>by rw [<-h i hi];exact hp) (Nk n fun i hi hp=>by rw [h i hi];exact hp)
theorem H7 (m:Z6):QI (ZJ m)=QI m:=by
 unfold QI;rw [show (ZJ m).dk.length=m.dk.length from (Zx m m.dk.length).2.2.2.2.2];exact Nl _ fun i hi=>ET m hi
theorem EV (m:Z6):MI (ZJ m)=MI m:=by
 unfold MI;rw [show (ZJ m).sm.length=m.sm.length from (Zx m m.dk.length).2.2.2.2.1];exact Nl _ fun i hi=>OP m hi
theorem Dc {m:Z6} {w b:Nat} (hw:w<m.sm.length) (hp:ZQ (Z8 m.sm w)=true):YD (VM m w b) b=false:=by
 unfold YD;rw [decide_eq_false,Bool.and_false];intro h;refine PW.1 h w (by rw [XF];exact hw) ?_;rw [Uq hw,if_pos rfl];exact ⟨rfl,hp⟩
theorem JO {m:Z6} {w b j:Nat} (hw:w<m.sm.length) (hj:(Z8 m.sm w).2.1 ≠ (j:Int)) (h:YD (VM m w b) j=true):YD m j=true:=by
 unfold YD at h ⊢;simp only [ZP,Zc] at h ⊢;refine ⟨h.1,PW.2 fun i hi hp=> ?_⟩;have:=PW.1 h.2 i (by rw [XF];exact hi);rw [Uq hw] at this;by_cases e:i=w
 ·subst e;exact hj hp.1
 ·rw [if_neg e] at this;exact this hp
theorem FE {m:Z6} {w b i:Nat} (hw:w<m.sm.length) (hi:i ≠ w):VE (VM m w b) i=VE m i:=by
 unfold VE Y8;rw [Zr,Uq hw,if_neg hi];rfl
theorem Oi {m:Z6} {w b:Nat} (hw:w<m.sm.length) (h:YG (Y8 m (w:Int)) 0 (Zw m.rm (b:Int))=true):VE (VM m w b) w=false:=by
 unfold VE Y8;rw [Zr,Uq hw,if_pos rfl]
 have e:Re (VM m w b).gd (putS m (Z8 m.sm w) (b:Int))=Y8 m (w:Int):=by
  unfold Y8;rw [Zr];rfl
 rw [e];show (_ && !YG _ 0 (Zw m.rm (b:Int)))=false;rw [h];simp
theorem Ie {m:Z6} (h:ZI m=true) {w:Nat} (hw:w<m.sm.length) (h2:(Z8 m.sm w).1=2):∃ i,i<m.sm.length/\i ≠ w/\(Z8 m.sm i).2.1=(Z8 m.sm w).2.1/\ZQ (Z8 m.sm i)=true:=by
 have hlo:=ZM h;have hp:ZQ (Z8 m.sm w)=true:=by unfold ZQ;rw [h2];rfl
 obtain ⟨a0,a1,_⟩:=hlo.at hw hp;obtain ⟨b,hb⟩:∃ b:Nat,(Z8 m.sm w).2.1=(b:Int):=⟨(Z8 m.sm w).2.1.toNat,by omega⟩
 have hbl:b<m.dk.length:=by omega
 have hok:Yq m b=true:=by
  unfold ZI at h;simp only [ZP] at h;exact Ky h.2 hbl
 rw [<-Mo] at hok;unfold Vi at hok
 split at hok
 ·simp only [Zc,List.length_eq_zero_iff] at hok
  have:(w:Int) ∈ ZO (atB (b:Int)) m.sm m.sm.length:=(Wl _ _ _ _).2 ⟨w,hw,rfl,by unfold atB;rw [h2,hb];simp⟩;rw [hok] at this;cases this
 ·simp only [ZP,Zc] at hok
  have hx:Z8 (ZO (YM (b:Int)) m.sm m.sm.length) 0 ∈ ZO (YM (b:Int)) m.sm m.sm.length:=RW (by omega);obtain ⟨i,hi,_,hwk⟩:=(Wl _ _ _ _).1 hx;unfold YM at hwk;simp only [ZP,beq_iff_eq] at hwk;exact ⟨i,hi,fun e=>by subst e;omega,by rw [hb];exact hwk.2,by unfold ZQ;rw [hwk.1];rfl⟩
theorem Moves.falls {m:Z6} {w b:Nat} (h:Moves m w b):Wi (XZ m w b)<Wi m:=by
 unfold Wi XZ;rw [H7,EV];have hlo:=ZM h.right;have h12:=Zj hlo;obtain ⟨a0,a1,_⟩:=hlo.at h.who h.pres;have hmb:=PZ (VE (VM m w b)) m.sm.length;have hbusy:=Dc (b:=b) h.who h.pres
 rcases h.why with ⟨hmis,hfit⟩ | hwait
 ·have e1:QI (VM m w b)<=QI m:=ID (y:=(Z8 m.sm w).2.1.toNat) h.bench h.idle hbusy fun i hi hne hq=>JO h.who (by omega) hq
  have e2:MI (VM m w b)+1<=MI m:=by
   unfold MI;rw [XF];refine QC hmis (Oi h.who hfit) _ h.who fun i hi hq=> ?_;by_cases e:i=w
   ·subst e;exact hmis
   ·rw [FE h.who e] at hq;exact hq
  omega
 ·have e1:QI (VM m w b)+1<=QI m:=by
   refine QC h.idle hbusy _ h.bench fun j hj hq=> ?_;by_cases e:(Z8 m.sm w).2.1=(j:Int)
   ·exfalso
    obtain ⟨i,hi,hiw,hbe,hpr⟩:=Ie h.right h.who hwait;unfold YD at hq;simp only [ZP,Zc] at hq;have:=PW.1 hq.2 i (by rw [XF];exact hi);rw [Uq h.who,if_neg hiw] at this;exact this ⟨by rw [hbe,e],hpr⟩
   ·exact JO h.who e hq
  have e2:MI (VM m w b)<=12:=by
   unfold MI;rw [XF];omega
  omega
def WG:Nat->Z6->Z6
 | 0,m=>m
 | k+1,m=>match Yf m with
  | none=>m
  | some (w,b)=>WG k (XZ m w b)
def XX (m:Z6):Z6:=WG (Wi m+1) m
theorem PG:∀ (j k:Nat) (m:Z6),Wi m<j->Wi m<k->WG j m=WG k m
 | 0,_,_,h,_=>by omega
 | _+1,0,_,_,h=>by omega
 | j+1,k+1,m,hj,hk=>by
  show (match Yf m with | none=>m | some (w,b)=>WG j (XZ m w b))=(match Yf m with | none=>m | some (w,b)=>WG k (XZ m w b))
  cases hm:Yf m with
  | none=>rfl
  | some r=>
   obtain ⟨w,b⟩:=r;have hf:=(Vp hm).falls;exact PG j k (XZ m w b) (by omega) (by omega)
theorem SC {m:Z6} (h:Yf m=none):XX m=m:=by
 unfold XX WG;rw [h]
theorem P9 {m:Z6} {w b:Nat} (h:Yf m=some (w,b)):XX m=XX (XZ m w b):=by
 have hf:=(Vp h).falls
 have:XX m=WG (Wi m) (XZ m w b):=by
  show (match Yf m with | none=>m | some (w,b)=>WG (Wi m) (XZ m w b))=_;rw [h]
 rw [this];exact PG _ _ _ (by omega) (by omega)
theorem QN:∀ (k:Nat) (m:Z6),ZI m=true->ZI (WG k m)=true
 | 0,m,h=>h
 | k+1,m,h=>by
  unfold WG;cases hm:Yf m with
  | none=>exact h
  | some r=>
   obtain ⟨w,b⟩:=r;exact QN k (XZ m w b) (Vp hm).keeps
theorem Up {m:Z6} (h:ZI m=true):ZI (XX m)=true:=QN _ m h
def Za (m:Z6):Z6:=if ZI m then XX m else XH
def SP:Option (Nat × Nat)->Value
 | none=> .tuple #[.int .i64 0,.int .i64 0,.bool false]
 | some (w,b)=> .tuple #[.int .i64 (w:Int),.int .i64 (b:Int),.bool true]
theorem EY {m:Z6} {b w:Nat} {k n:Nat} (h:Xh m b k=some w) (hn:k<=n):Xh m b n=some w:=by
 obtain ⟨d,rfl⟩:∃ d,n=k+d:=⟨n-k,by omega⟩
 clear hn
 induction d with
 | zero=>exact h
 | succ d ih=>
  show Xh m b (k+d+1)=some w;unfold Xh;rw [ih]
theorem Ig {m:Z6} {w b:Nat} {k n:Nat} (h:Yp m k=some (w,b)) (hn:k<=n):Yp m n=some (w,b):=by
 obtain ⟨d,rfl⟩:∃ d,n=k+d:=⟨n-k,by omega⟩
 clear hn
 induction d with
 | zero=>exact h
 | succ d ih=>
  show Yp m (k+d+1)=some (w,b);unfold Yp;rw [ih]
theorem DZ {m:Z6} {w b:Nat} {k n:Nat} (h:Xz m w k=some b) (hn:k<=n):Xz m w n=some b:=by
 obtain ⟨d,rfl⟩:∃ d,n=k+d:=⟨n-k,by omega⟩
 clear hn
 induction d with
 | zero=>exact h
 | succ d ih=>
  show Xz m w (k+d+1)=some b;unfold Xz;rw [ih]
theorem Jp {m:Z6} {w b:Nat} {k n:Nat} (h:XY m k=some (w,b)) (hn:k<=n):XY m n=some (w,b):=by
 obtain ⟨d,rfl⟩:∃ d,n=k+d:=⟨n-k,by omega⟩
 clear hn
 induction d with
 | zero=>exact h
 | succ d ih=>
  show XY m (k+d+1)=some (w,b);unfold XY;rw [ih]
theorem J7 {m:Z6} (h:Loose m) (k:Nat) (hk:k<=m.dk.length):Loose (Zk m k):=by
 obtain ⟨e1,e2,e3,e4,e5,e6⟩:=Zx m k;have hd:=fun j=>Wo m j k hk
 have hopen:∀ j,(Z8 (Zk m k).dk j).1=(Z8 m.dk j).1:=by
  intro j;rw [hd j]
  split
  ·unfold Xe;split<;>rfl
  ·rfl
 have hmark:∀ j,j<m.dk.length->(-900000000000<=(Z8 (Zk m k).dk j).2.2/\(Z8 (Zk m k).dk j).2.2<=900000000000)/\(Z8 m.dk j).2.2<=(Z8 (Zk m k).dk j).2.2/\((Z8 (Zk m k).dk j).2.2<=(Z8 m.dk j).2.2\/ ∀ i,i<m.sm.length->(Z8 m.sm i).2.1=(j:Int)->ZQ (Z8 m.sm i)=true->(Z8 (Zk m k).dk j).2.2<=XK (Z8 m.sm i)):=by
  intro j hj;obtain ⟨k0,k1⟩:=Sg (h.desk j hj);rw [hd j]
  split
  ·unfold Xe
   split
   ·exact ⟨⟨k0,k1⟩,Int.le_refl _,.inl (Int.le_refl _)⟩
   ·rename_i e t hq
    obtain ⟨_,i,hi,hib,hip,rfl⟩:=Tc hq;obtain ⟨_,_,_,_,hband⟩:=h.at hi hip;obtain ⟨a0,a1,_⟩:=UA hband;have hm:=LU (m:=(Z8 m.dk j).2.2) (f:=XK (Z8 m.sm i)) (by omega) (by omega) a0 a1;show (-900000000000<=Zz _ _/\Zz _ _<=900000000000)/\_<=Zz _ _/\(Zz _ _<=_\/_)
    rw [hm];refine ⟨by omega,by omega,?_⟩;by_cases hc:XK (Z8 m.sm i)<=(Z8 m.dk j).2.2
    ·left;omega
    ·right
     intro i' hi' hb' hp';have:=Py hq hi' hb' hp';simp only at this;show min (max (Z8 m.dk j).2.2 (XK (Z8 m.sm i))) 900000000000<=_;omega
  ·exact ⟨⟨k0,k1⟩,Int.le_refl _,.inl (Int.le_refl _)⟩
 refine ⟨?_,?_,?_,?_,?_,?_⟩
 ·have:=h.head
  unfold YO at this ⊢;rw [e1,e2,e3,e4,e5,e6];exact this
 ·intro j hj
  have hj':j<m.dk.length:=by omega
  exact Zo (hmark j hj').1.1 (hmark j hj').1.2
 ·intro j hj
  have hj':j<m.pc.length:=by rw [e3] at hj;exact hj
  have:=h.pace j hj';unfold Wu at this ⊢;rw [e1,e3];exact this
 ·intro i hi
  have hi':i<m.sm.length:=by omega
  rw [WW (m:=m) (by rw [e2]) (by rw [e6])];rw [XV m hi']
  split
  ·rename_i hp
   exact NC (h.here i hi') hp.2 (by split<;>omega) (by split<;>omega)
  ·exact h.here i hi'
 ·intro i hi
  have hi':i<m.sm.length:=by omega
  have ha:=W7 m k i hi';unfold X9;show (!ZQ (Z8 (Zk m k).sm i) || _)=true;rw [ha.2.1];cases hp:ZQ (Z8 m.sm i)
  ·rfl
  ·obtain ⟨b0,b1,ho,hm,hband⟩:=h.at hi' hp
   obtain ⟨a0,a1,a2,a3,a4,a5⟩:=UA hband;obtain ⟨⟨q0,q1⟩,q2,q3⟩:=hmark (Z8 m.sm i).2.1.toNat (by omega)
   have hmay:(Z8 (Zk m k).sm i).2.2.2.1=(Z8 m.sm i).2.2.2.1:=by
    rw [XV m hi'];split<;>rfl
   show (!true || ((Z8 (Zk m k).dk (Z8 (Zk m k).sm i).2.1.toNat).1 && (Wc (Z8 (Zk m k).sm i).2.2.2.1 (Z8 (Zk m k).sm i).2.1 && Xa (XK (Z8 (Zk m k).sm i)) (Z8 (Zk m k).dk (Z8 (Zk m k).sm i).2.1.toNat).2.2)))=true;rw [ha.1,ha.2.2,hmay,hopen,ho,hm];rw [OX a0 a1 (by omega) (by omega) ?_ (by omega)]
   ·rfl
   ·rcases q3 with q3 | q3
    ·omega
    ·have:=q3 i hi' (by omega) hp
     omega
 ·obtain ⟨j,hj,ho⟩:=h.openD
  exact ⟨j,by omega,by rw [hopen];exact ho⟩
theorem Om {α:Type} [Inhabited α] {xs ys:List α} (hl:xs.length=ys.length) (h:∀ i,i<xs.length->Z8 xs i=Z8 ys i):xs=ys:=by
 apply List.ext_getElem hl;intro i h1 h2;have:=h i h1;unfold Z8 at this
 rwa [List.getD_eq_getElem?_getD,List.getD_eq_getElem?_getD,List.getElem?_eq_getElem h1,List.getElem?_eq_getElem h2] at this
theorem DF {ss:List Z2} {b:Int} {e:Z4} {t:List Z4} (h:atV ss b ss.length=e::t):(ZF ss (e::t)).set e.2.toNat (stS (Z8 (ZF ss (e::t)) e.2.toNat) 3)=ZF (ss.set e.2.toNat (stS (Z8 ss e.2.toNat) 3)) t:=by
 have hmem:∀ x ∈ e::t,0<=x.2/\x.2<ss.length:=fun x hx=>by
  rw [<-h] at hx;obtain ⟨i,hi,_,_,rfl⟩:=(XO ss b x ss.length).1 hx;exact ⟨by show (0:Int)<=(i:Int);omega,by show (i:Int)<_;omega⟩
 have hw:=TE ss b ss.length;rw [h,List.pairwise_cons] at hw;obtain ⟨he0,he1⟩:=hmem e (List.mem_cons_self ..);have hel:e.2.toNat<ss.length:=by omega
 have hse:∀ x ∈ t,0<=x.2/\x.2<(ss.set e.2.toNat (stS (Z8 ss e.2.toNat) 3)).length:=fun x hx=>by rw [Wz];exact hmem x (List.mem_cons_of_mem _ hx)
 refine Om (by rw [Wz,XW,XW,Wz]) fun i hi=> ?_;rw [Wz,XW] at hi;rw [ZD (by rw [XW];exact hel)];obtain ⟨p1,p2⟩:=Rx (e::t) ss i hmem;obtain ⟨r1,r2⟩:=Rx t (ss.set e.2.toNat (stS (Z8 ss e.2.toNat) 3)) i hse;by_cases hie:i=e.2.toNat
 ·subst hie
  have hn:∀ x ∈ t,x.2 ≠ ((e.2.toNat:Nat):Int):=fun x hx e9=>hw.1 x hx (by omega);rw [if_pos rfl,r2 hn,ZD hel,if_pos rfl,p1 ⟨e,List.mem_cons_self ..,by omega⟩];rfl
 ·rw [if_neg hie]
  by_cases hx:∃ x ∈ t,x.2=(i:Int)
  ·obtain ⟨x,hx,hxi⟩:=hx
   rw [p1 ⟨x,List.mem_cons_of_mem _ hx,hxi⟩,r1 ⟨x,hx,hxi⟩,ZD hel,if_neg hie]
  ·have hn:∀ x ∈ t,x.2 ≠ (i:Int):=fun x hx' e9=>hx ⟨x,hx',e9⟩
   rw [p2 (fun x hx'=>by
    rcases List.mem_cons.1 hx' with rfl | hx'
    ·omega
    ·exact hn x hx'),r2 hn,ZD hel,if_neg hie]
def Uu (m:Z6):Z6:=if YL m then ZJ m else XH
def VU (m:Z6) (b:Int):Bool:=ZI m && (Yz m b && ((Z8 m.dk b.toNat).1 && decide ((atV m.sm b m.sm.length).length=0)))
theorem Blk.put6 {w:World} {R:Nat} {t:TypeId} {u0 u1 u2 u3 u4 u5:Value} (v0 v1 v2 v3 v4 v5:Value) (h:Blk w R t #[u0,u1,u2,u3,u4,u5]):Blk ((((((w.setCell ⟨R,0,none⟩ v0).setCell ⟨R,1,none⟩ v1).setCell ⟨R,2,none⟩ v2).setCell ⟨R,3,none⟩ v3).setCell ⟨R,4,none⟩ v4).setCell ⟨R,5,none⟩ v5) R t #[v0,v1,v2,v3,v4,v5]:=by
 have h0:Blk _ R t #[v0,u1,u2,u3,u4,u5]:=h.set 0 v0;have h1:Blk _ R t #[v0,v1,u2,u3,u4,u5]:=h0.set 1 v1;have h2:Blk _ R t #[v0,v1,v2,u3,u4,u5]:=h1.set 2 v2;have h3:Blk _ R t #[v0,v1,v2,v3,u4,u5]:=h2.set 3 v3;have h4:Blk _ R t #[v0,v1,v2,v3,v4,u5]:=h3.set 4 v4;exact h4.set 5 v5
theorem Below.put6 {n:Nat} {w W:World} {R:Nat} (v0 v1 v2 v3 v4 v5:Value) (h:Below n w W) (hR:n<=R):Below n w ((((((W.setCell ⟨R,0,none⟩ v0).setCell ⟨R,1,none⟩ v1).setCell ⟨R,2,none⟩ v2).setCell ⟨R,3,none⟩ v3).setCell ⟨R,4,none⟩ v4).setCell ⟨R,5,none⟩ v5):=by
 iterate 6 (refine XI ?_ hR _)
 exact h
open Go.ChangeShapes Go.WideShapes Go.ChangeAt Go.RowKit Go.Sort Go.Maps Go.Proofs.Tryz
theorem N8:Keyed prog 2:=int_keyed underlying2
theorem FD (w:World):(zeroValue 2).run prog w= .ok (.int .i64 0) w:=by kernel_rfl
def Mp (w:World) (b n:Nat) (D:DataW Unit):Prop:=w.ownsMap prog 2 (plainElem prog 2) b n D
theorem Mp.lt {w:World} {b n:Nat} {D:DataW Unit} (h:Mp w b n D):b<w.heap.size:=World.ownsMap.lt h
theorem Mp.same {w w':World} {b n:Nat} {D:DataW Unit} (h:Mp w b n D) (hs:w'.heap[b]?=w.heap[b]?):Mp w' b n D:=by
 obtain ⟨es,clock,hb,F,r⟩:=h;exact ⟨es,clock,hs.trans hb,F,r⟩
theorem Mp.below {w w':World} {b n:Nat} {D:DataW Unit} (h:Mp w b n D) (hb:Below w.heap.size w w'):Mp w' b n D:=h.same (hb.block b h.lt)
theorem Mp.two {w w':World} {p q:Option Nat} {b n:Nat} {D:DataW Unit} (h:Mp w b n D) (ht:Two p q w w') (hp:p ≠ some b) (hq:q ≠ some b):Mp w' b n D:=h.same (ht.block b h.lt hp hq)
theorem Mp.new (w:World):Mp (w.alloc (.map #[] 0)) w.heap.size 0 (.map []):=World.ownsMap_made _ _ _ _
theorem D4 {w w':World} {b:Nat} (h:w.grownBy w' (some b)):Two (some b) none w w':=⟨h.os,h.tape,h.output,h.size,fun k hk hp _=>h.block k hk (fun e=>hp e.symm)⟩
theorem K0 {i:Nat} (hi:i<=1000):keyOf prog 2 (.int .i64 (i:Int))=some (.int .i64 (i:Int)):=keyOf_int_mk underlying2 (Go.WalkArith.wf_i64 (by omega))
def Mv (w:World) (v:Value) (S:Nat->Bool):Prop:=(v= .map none/\ ∀ i,S i=false)\/ ∃ b n D,v= .map (some b)/\Mp w b n D/\ ∀ i:Nat,S i=Maps.has D (.int .i64 (i:Int))
theorem Mv.below {w w':World} {v:Value} {S:Nat->Bool} (h:Mv w v S) (hb:Below w.heap.size w w'):Mv w' v S:=by
 rcases h with h | ⟨b,n,D,e,h,hs⟩
 ·exact .inl h
 ·exact .inr ⟨b,n,D,e,h.below hb,hs⟩
section
variable (w : World) {ops : Array Oper} {rest : List Oper} {o : Oper} {a : Act} {Q : Exit → Act → World → Prop}
theorem PS (hg:o.guard=none) (m x:Operand) (hop:o.op=Op.lookup 56 m x true) {v:Value} {S:Nat->Bool} (hm:a.eval m=v) (hM:Mv w v S) (i:Nat) (hi:i<=1000) (hx:a.eval x= .int .i64 (i:Int))
  (hK:∀ c:Int,wpList prog ops Q rest (a.put o.dst (.tuple #[.int .i64 c,.bool (S i)])) w):wpList prog ops Q (o::rest) a w:=by
 have key:∃ c:Int,(Instr.lookup 56 v (.int .i64 (i:Int)) true).run prog w= .ok (.tuple #[.int .i64 c,.bool (S i)]) w:=by
  rcases hM with ⟨rfl,hs⟩ | ⟨b,n,D,rfl,h,hs⟩
  ·exact ⟨0,by rw [hs];exact Maps.look_nil true N8 underlying56 (FD w) (K0 hi)⟩
  ·obtain ⟨u,ps,hrun,hu⟩:=World.ownsMap.look_ok h N8 underlying56 (FD w) (plainElem_int underlying2 (by decide)) (K0 hi)
   obtain ⟨c,rfl,_⟩:=plainElem_int_inv underlying2 hu;exact ⟨c,by rw [hs];exact hrun⟩
 obtain ⟨c,hrun⟩:=key;refine wpList_plain hg fun K' hK'=> ?_;unfold Oper.wp;simp [execOp,hop,hm,hx,hrun,Result.andThen];exact hK' _ _ (hK c)
theorem Km (hg:o.guard=none) (m x v:Operand) (hop:o.op=Op.mapUpdate 56 m x v) {b n:Nat} {D:DataW Unit} (hm:a.eval m= .map (some b)) (hM:Mp w b n D) (hn:n<=1000) (i j:Nat) (hi:i<=1000) (hj:j<=1000) (hx:a.eval x= .int .i64 (i:Int)) (hv:a.eval v= .int .i64 (j:Int))
  (hK:∀ w' D',Mp w' b (n+1) D'->(∀ l,Maps.has D' l=true->l= .int .i64 (i:Int)\/Maps.has D l=true)->Two (some b) none w w'->wpList prog ops Q rest (a.put o.dst undef) w'):wpList prog ops Q (o::rest) a w:=by
 refine wpList_mapUpdate_own w hg m x v _ hop _ _ N8 underlying56 _ b n D hm hM (by unfold maxLen;omega) _ _ _ hx hv (K0 hi) _ [] (plainElem_int underlying2 (Go.WalkArith.wf_i64 (by omega))) ?_;intro w' h1 h2;refine hK w' _ h1 (fun l hl=> ?_) (D4 h2);by_cases e:l= .int .i64 (i:Int)
 ·exact .inl e
 ·exact .inr (by rw [has_put_other e] at hl;exact hl)
theorem DR {w:World} {b n:Nat} {D:DataW Unit} (hM:Mp w b n D):∃ W,(∀ ty,(Builtin.clear_ #[56] ty #[.map (some b)]).run prog w= .ok (.tuple #[]) W)/\Mp W b 0 (.map [])/\Two (some b) none w W:=by
 obtain ⟨es,clock,hb,F,hs,hD⟩:=hM;refine ⟨ChangeMaps.setBlock w b (.map #[] clock),fun ty=> ?_,⟨#[],clock,ChangeMaps.heap_setBlock_same hb _,⟨by simp,MapKept.stamped_empty clock,by simp⟩,Z0 _,rfl⟩,⟨rfl,rfl,rfl,by simp [ChangeMaps.setBlock],fun i _ hi _=>ChangeMaps.heap_setBlock_other hb _ (fun e=>hi (by rw [e]))⟩⟩;simp [Builtin.clear_,run_underlying underlying56,MapKept.run_getObj_map hb,MapKept.run_setObj_map _ hb,Result.andThen,ChangeMaps.setBlock]
end
end Go.Proofs.YtlcpgkakdieeaaaGreat
namespace Go.Proofs.YtlcpgkakdieeaaaGreat
open Go.ChangeShapes Go.WideShapes Go.ChangeAt Go.RowKit Go.Sort
set_option linter.unusedVariables false
theorem EU {A B:Z6} (h1:B.rm=A.rm) (h2:B.gd=A.gd) (h3:B.dk=A.dk) (h4:B.pc=A.pc) (h5:B.now=A.now) (hl:B.sm.length=A.sm.length)
  (ha:∀ i,i<A.sm.length->Z8 B.sm i=Z8 A.sm i\/((Z8 B.sm i).2=(Z8 A.sm i).2/\ZQ (Z8 B.sm i)=true/\ZQ (Z8 A.sm i)=true/\0<=(Z8 A.sm i).2.1/\(Z8 A.sm i).2.1<(A.dk.length:Int))):ZJ B=ZJ A:=by
 have hal:Alike A.sm B.sm A.sm.length:=fun i hi=>by
  rcases ha i hi with e | ⟨e,p,p',_⟩
  ·rw [e];exact ⟨rfl,rfl,rfl⟩
  ·unfold XK;rw [e,p,p'];exact ⟨rfl,rfl,rfl⟩
 have hat:∀ b:Int,atV B.sm b B.sm.length=atV A.sm b A.sm.length:=fun b=>by rw [hl];exact PV b _ hal
 have hf:∀ b:Int,Xm B.sm b=Xm A.sm b:=fun b=>by unfold Xm;rw [hat]
 obtain ⟨a1,a2,a3,a4,a5,a6⟩:=Zx A A.dk.length;obtain ⟨b1,b2,b3,b4,b5,b6⟩:=Zx B B.dk.length
 have hsm:(ZJ B).sm=(ZJ A).sm:=by
  refine Om ((b5.trans hl).trans a5.symm) fun i hi=> ?_;have hi':i<(Zk B B.dk.length).sm.length:=hi;have hiB:i<B.sm.length:=by omega
  have hiA:i<A.sm.length:=by omega
  show Z8 (Zk B B.dk.length).sm i=Z8 (Zk A A.dk.length).sm i;rw [XV B hiB,XV A hiA,hf,h3]
  rcases ha i hiA with e | ⟨e,p,p',q0,q1⟩
  ·rw [e]
  ·rw [p,p',e]
   have hc:(0<=(Z8 A.sm i).2.1/\(Z8 A.sm i).2.1<(A.dk.length:Int))/\true=true:=⟨⟨q0,q1⟩,rfl⟩
   rw [if_pos hc,if_pos hc];unfold stS;rw [e]
 have hds:(ZJ B).dk=(ZJ A).dk:=by
  refine Om ((b6.trans (by rw [h3])).trans a6.symm) fun j hj=> ?_;have hj':j<(Zk B B.dk.length).dk.length:=hj;show Z8 (Zk B B.dk.length).dk j=Z8 (Zk A A.dk.length).dk j;rw [Wo B j _ (Nat.le_refl _),Wo A j _ (Nat.le_refl _),h3];unfold Xe;rw [hat]
 have key:∀ x y:Z6,x.rm=y.rm->x.gd=y.gd->x.sm=y.sm->x.dk=y.dk->x.pc=y.pc->x.now=y.now->x=y:=by
  rintro ⟨_,_,_,_,_,_⟩ ⟨_,_,_,_,_,_⟩ rfl rfl rfl rfl rfl rfl;rfl
 exact key _ _ ((b1.trans h1).trans a1.symm) ((b2.trans h2).trans a2.symm) hsm hds ((b3.trans h4).trans a3.symm) ((b4.trans h5).trans a4.symm)
end Go.Proofs.YtlcpgkakdieeaaaGreat
