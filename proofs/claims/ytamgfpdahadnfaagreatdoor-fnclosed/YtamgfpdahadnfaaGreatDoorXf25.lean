/- Part 25 of what the proof rests on. No condition but those that a theorem names. -/
import Derived.Test.YtamgfpdahadnfaaGreatDoorXf18
import Derived.Test.YtamgfpdahadnfaaGreatDoorXf19
import Derived.Test.YtamgfpdahadnfaaGreatDoorXf20
import Derived.Test.YtamgfpdahadnfaaGreatDoorXf21
import Derived.Defers
import Derived.Recover
import Derived.WalkLawsBesides
set_option maxHeartbeats 8000000
set_option maxRecDepth 100000
namespace Go.Proofs.YtamgfpdahadnfaaGreatDoor
open Go.ChangeShapes Go.WideShapes Go.ChangeAt Go.RowKit Go.Sort
set_option linter.unusedVariables false
def Nr (m:Z6) (r:Int):Bool:=inB r 0 ((m.rm.length:Int)-1)
theorem DD {m:Z6} {b:Int} (h:Nr m b=true):∃ k:Nat,b=(k:Int)/\k<m.rm.length:=by
 have:=ZJ (show inB b 0 ((m.rm.length:Int)-1)=true from h);exact ⟨b.toNat,by omega,by omega⟩
theorem B8 {w:World} {v0 v1 v2 v3 v4:Value} {m:Z6} {b:Int} {q:Bool} (hq:Nr m b=q) (h:Smy w v0 v1 v2 v3 v4 m) :
  Calls Tryz.prog 281 #[.agg #[v0,v1,v2,v3,v4,.int .i64 m.now],.int .i64 b] w fun e w'=>e= .returned (.bool q)/\Below w.heap.size w w':=by
 have hq2:inB b 0 ((m.rm.length:Int)-1)=q:=hq;clear hq;obtain ⟨a0,p0,rfl,hc3,hm3⟩:=IsRooms.shape h.rm;obtain ⟨a1,p1,rfl,_,_⟩:=IsRec.shape h.gd;obtain ⟨a2,p2,rfl,_,_⟩:=IsRec.shape h.sm;obtain ⟨a3,p3,rfl,_,_⟩:=IsRec.shape h.dk;obtain ⟨a4,p4,rfl,_,_⟩:=IsRec.shape h.pc;clear h;go_enter Tryz.func281,Tryz.ntmps281;go_wp2_with (go_at_call 59;refine (ZU _ _ _ _).mono ?_;rw [hq2];rintro e w' ⟨rfl,h9⟩;subst w')
 go_ret;exact ⟨rfl,(ba _ _)⟩
def cnt (p:Nat->Bool):Nat->Nat
 | 0=>0
 | n+1=>cnt p n+(if p n then 1 else 0)
theorem zJ (p:Nat->Bool):∀ n,cnt p n<=n
 | 0=>Z2 _
 | n+1=>by
  have:=zJ p n;unfold cnt
  split<;>omega
theorem LF {p q:Nat->Bool} : ∀ n,(∀ i,i<n->p i=true->q i=true)->cnt p n<=cnt q n
 | 0,_=>Z2 _
 | n+1,h=>by
  have ih:=LF n (fun i hi=>h i (by omega));have hn:=h n (by omega);unfold cnt;cases hp:p n
  ·simp;omega
  ·rw [hn hp];simp;exact ih
theorem Pq {p q:Nat->Bool} {x:Nat} (hp:p x=true) (hq:q x=false):∀ n,x<n->(∀ i,i<n->q i=true->p i=true)->cnt q n+1<=cnt p n
 | 0,hx,_=>by omega
 | n+1,hx,h=>by
  unfold cnt;by_cases e:x=n
  ·subst e
   have:=LF (p:=q) (q:=p) x (fun i hi=>h i (by omega));rw [hp,hq];simp;exact this
  ·have ih:=Pq hp hq n (by omega) (fun i hi=>h i (by omega))
   have hn:=h n (by omega);cases hqn:q n
   ·simp;omega
   ·rw [hn hqn];simp;exact ih
theorem C6 (q:Nat->Bool) (y:Nat):∀ n,cnt q n<=cnt (fun i=>q i && !(i ==y)) n+1
 | 0=>by simp [cnt]
 | n+1=>by
  unfold cnt;by_cases e:n=y
  ·subst e
   have:=LF (p:=q) (q:=fun i=>q i && !(i ==n)) n (fun i hi hqi=>by
    simp only [hqi,Bool.true_and,Bool.not_eq_true',beq_eq_false_iff_ne];omega)
   simp only [beq_self_eq_true,Bool.not_true,Bool.and_false]
   split<;>simp<;>omega
  ·have ih:=C6 q y n
   have he:(n ==y)=false:=by simpa using e
   simp only [he,Bool.not_false,Bool.and_true];omega
theorem zK {p q:Nat->Bool} {x y n:Nat} (hx:x<n) (hp:p x=true) (hq:q x=false) (h:∀ i,i<n->i ≠ y->q i=true->p i=true):cnt q n<=cnt p n:=by
 have h1:=C6 q y n
 have h2:=Pq (p:=p) (q:=fun i=>q i && !(i ==y)) hp (by simp [hq]) n hx (fun i hi hqi=>by
  simp only [ZL,Bool.not_eq_true',beq_eq_false_iff_ne] at hqi
  exact h i hi hqi.2 hqi.1)
 omega
def WH (m:Z6) (b:Nat):Bool:=(Z8 m.dk b).1 && decide ((atV m.sm b m.sm.length).length=0)
def QC (m:Z6) (i:Nat):Bool:=ZR (Z8 m.sm i) && !Ww (Zu m (i:Int)) 0 (Zb m.rm (Z8 m.sm i).2.1)
def L6 (m:Z6) (w b:Nat):Bool:=WH m b && (YK m (w:Int) b && Ww (Zu m (w:Int)) 0 (Zb m.rm (b:Int)))
def Vk (m:Z6) (w:Nat):Nat->Option Nat
 | 0=>none
 | k+1=>match Vk m w k with
  | some b=>some b
  | none=>if L6 m w k then some k else none
def PB (m:Z6) (w:Nat):Option Nat:=if QC m w then Vk m w m.dk.length else none
def Tg (m:Z6):Nat->Option (Nat × Nat)
 | 0=>none
 | k+1=>match Tg m k with
  | some r=>some r
  | none=>(PB m k).map fun b=>(k,b)
def UH (m:Z6):Option (Nat × Nat):=if ZF m then Tg m m.sm.length else none
def Ot (m:Z6) (w b:Nat):Bool:=(Z8 m.sm w).1 ==2 && YK m (w:Int) b
def UY (m:Z6) (b:Nat):Nat->Option Nat
 | 0=>none
 | k+1=>match UY m b k with
  | some w=>some w
  | none=>if Ot m k b then some k else none
def Pe (m:Z6) (b:Nat):Option Nat:=if WH m b then UY m b m.sm.length else none
def Wo (m:Z6):Nat->Option (Nat × Nat)
 | 0=>none
 | k+1=>match Wo m k with
  | some r=>some r
  | none=>(Pe m k).map fun w=>(w,k)
def Vd (m:Z6):Option (Nat × Nat):=if ZF m then Wo m m.dk.length else none
def Uk (m:Z6):Option (Nat × Nat):=match UH m with
 | some r=>some r
 | none=>Vd m
theorem JQ {m:Z6} {w b:Nat} : ∀ {k},Vk m w k=some b->b<k/\L6 m w b=true
 | 0,h=>by cases h
 | k+1,h=>by
  unfold Vk at h;cases hg:Vk m w k with
  | some b'=>
   rw [hg] at h;cases h;have:=JQ hg;exact ⟨by omega,this.2⟩
  | none=>
   rw [hg] at h;simp only at h
   split at h
   ·rename_i hh
    cases h;exact ⟨by omega,hh⟩
   ·cases h
theorem GH {m:Z6} {w b:Nat} : ∀ {k},Tg m k=some (w,b)->w<k/\QC m w=true/\b<m.dk.length/\L6 m w b=true
 | 0,h=>by cases h
 | k+1,h=>by
  unfold Tg at h;cases hg:Tg m k with
  | some r=>
   rw [hg] at h;cases h;have:=GH hg;exact ⟨by omega,this.2⟩
  | none=>
   rw [hg] at h;simp only [Option.map_eq_some_iff,Prod.mk.injEq] at h;obtain ⟨b',hb',rfl,rfl⟩:=h;unfold PB at hb'
   split at hb'
   ·rename_i hh
    have:=JQ hb';exact ⟨by omega,hh,this⟩
   ·cases hb'
theorem KG {m:Z6} {w b:Nat} : ∀ {k},UY m b k=some w->w<k/\Ot m w b=true
 | 0,h=>by cases h
 | k+1,h=>by
  unfold UY at h;cases hg:UY m b k with
  | some w'=>
   rw [hg] at h;cases h;have:=KG hg;exact ⟨by omega,this.2⟩
  | none=>
   rw [hg] at h;simp only at h
   split at h
   ·rename_i hh
    cases h;exact ⟨by omega,hh⟩
   ·cases h
theorem Ng {m:Z6} {w b:Nat} : ∀ {k},Wo m k=some (w,b)->b<k/\WH m b=true/\w<m.sm.length/\Ot m w b=true
 | 0,h=>by cases h
 | k+1,h=>by
  unfold Wo at h;cases hg:Wo m k with
  | some r=>
   rw [hg] at h;cases h;have:=Ng hg;exact ⟨by omega,this.2⟩
  | none=>
   rw [hg] at h;simp only [Option.map_eq_some_iff,Prod.mk.injEq] at h;obtain ⟨b',hb',rfl,rfl⟩:=h;unfold Pe at hb'
   split at hb'
   ·rename_i hh
    have:=KG hb';exact ⟨by omega,hh,this⟩
   ·cases hb'
def TG (m:Z6) (w b:Nat):Z6:=setS m w (putS m (Z8 m.sm w) (b:Int))
def Ul (m:Z6) (w b:Nat):Z6:=ZP (TG m w b)
structure Moves (m:Z6) (w b:Nat):Prop where
 right:ZF m=true
 who:w<m.sm.length
 bench:b<m.dk.length
 pres:ZR (Z8 m.sm w)=true
 may:YK m (w:Int) b=true
 idle:WH m b=true
 why:(QC m w=true/\Ww (Zu m (w:Int)) 0 (Zb m.rm (b:Int))=true)\/(Z8 m.sm w).1=2
theorem Ch {m:Z6} {w b:Nat} (h:UH m=some (w,b)):Moves m w b:=by
 unfold UH at h
 split at h
 ·rename_i hr
  obtain ⟨h1,h2,h3,h4⟩:=GH h;unfold L6 at h4;simp only [ZL] at h4;have h2':=h2;unfold QC at h2';simp only [ZL] at h2';exact ⟨hr,h1,h3,h2'.1,h4.2.1,h4.1,.inl ⟨h2,h4.2.2⟩⟩
 ·cases h
theorem EF {m:Z6} {w b:Nat} (h:Vd m=some (w,b)):Moves m w b:=by
 unfold Vd at h
 split at h
 ·rename_i hr
  obtain ⟨h1,h2,h3,h4⟩:=Ng h;unfold Ot at h4;simp only [ZL,beq_iff_eq] at h4;exact ⟨hr,h3,h1,by unfold ZR;rw [h4.1];rfl,h4.2,h2,.inr h4.1⟩
 ·cases h
theorem RD {m:Z6} {w b:Nat} (h:Uk m=some (w,b)):Moves m w b:=by
 unfold Uk at h;cases hm:UH m with
 | some r=>rw [hm] at h;cases h;exact Ch hm
 | none=>rw [hm] at h;exact EF h
theorem Moves.loose {m:Z6} {w b:Nat} (h:Moves m w b):Loose (TG m w b):=by
 have hlo:=ZM h.right;obtain ⟨p,g1,b1⟩:=hlo.limits h.who (by intro e;have:=h.pres;unfold ZR at this;rw [e] at this;cases this);obtain ⟨a0,a1,a2,a3,a4⟩:=hlo.at h.who h.pres;have hm:=h.may;unfold YK at hm;simp only [ZL,Zy] at hm;have:=Mo (m:=m) hlo (s:=Z8 m.sm w) (b:=b) p h.pres g1 a0 a1 a4 h.bench hm.1 hm.2;exact hlo.setS h.who this.1 this.2
theorem Moves.keeps {m:Z6} {w b:Nat} (h:Moves m w b):ZF (Ul m w b)=true:=YE h.loose
theorem IW {ss:List Z3} {b:Int} {n:Nat} : (atV ss b n).length=0 ↔ ∀ i,i<n-> ¬ ((Z8 ss i).2.1=b/\ZR (Z8 ss i)=true):=by
 constructor
 ·intro h i hi hp
  have hm:(Yn (Z8 ss i),(i:Int)) ∈ atV ss b n:=(Yi ss b _ n).2 ⟨i,hi,hp.1,hp.2,rfl⟩;rw [List.length_eq_zero_iff.1 h] at hm;cases hm
 ·intro h
  rw [List.length_eq_zero_iff];refine List.eq_nil_iff_forall_not_mem.2 fun e he=> ?_;obtain ⟨i,hi,h1,h2,_⟩:=(Yi ss b e n).1 he;exact h i hi ⟨h1,h2⟩
theorem PG {m:Z6} {w b:Nat} (hw:w<m.sm.length) (i:Nat):Z8 (TG m w b).sm i=if i=w then putS m (Z8 m.sm w) (b:Int) else Z8 m.sm i:=ZI hw i
theorem Un (m:Z6) (w b:Nat):(TG m w b).sm.length=m.sm.length:=by unfold TG setS;simp
theorem Pc {m:Z6} {i:Nat} (hi:i<m.sm.length):(Z8 (ZP m).sm i).2=(Z8 m.sm i).2:=by
 unfold ZP;rw [Xr m hi]
 split<;>rfl
theorem Kz {m:Z6} {i:Nat} (hi:i<m.sm.length):ZR (Z8 (ZP m).sm i)=ZR (Z8 m.sm i):=(WD m m.dk.length i hi).2.1
theorem Pb (m:Z6) {b:Nat} (hb:b<m.dk.length):WH (ZP m) b=WH m b:=by
 unfold WH ZP;rw [Q6,V1 m b _ (Nat.le_refl _),if_pos hb]
 congr 1
 unfold WI
 split<;>rfl
theorem Bh (m:Z6) {i:Nat} (hi:i<m.sm.length):QC (ZP m) i=QC m i:=by
 have h1:Zu (ZP m) (i:Int)=Zu m (i:Int):=by
  unfold Zu Qz;rw [Zy,Pc hi,show (ZP m).gd=m.gd from (ZG m m.dk.length).2.1]
 unfold QC;rw [Kz hi,h1,Pc hi,show (ZP m).rm=m.rm from (ZG m m.dk.length).1]
def Ob (m:Z6):Nat:=cnt (WH m) m.dk.length
def Jo (m:Z6):Nat:=cnt (QC m) m.sm.length
def RW (m:Z6):Nat:=13*Ob m+Jo m
theorem FT {p q:Nat->Bool} (n:Nat) (h:∀ i,i<n->p i=q i):cnt p n=cnt q n:=
 Nat.le_antisymm (LF n fun i hi hp=>by rw [<-h i hi];exact hp) (LF n fun i hi hp=>by rw [h i hi];exact hp)
theorem Fm (m:Z6):Ob (ZP m)=Ob m:=by
 unfold Ob;rw [show (ZP m).dk.length=m.dk.length from (ZG m m.dk.length).2.2.2.2.2];exact FT _ fun i hi=>Pb m hi
theorem CP (m:Z6):Jo (ZP m)=Jo m:=by
 unfold Jo;rw [show (ZP m).sm.length=m.sm.length from (ZG m m.dk.length).2.2.2.2.1];exact FT _ fun i hi=>Bh m hi
theorem AI {m:Z6} {w b:Nat} (hw:w<m.sm.length) (hp:ZR (Z8 m.sm w)=true):WH (TG m w b) b=false:=by
 unfold WH;rw [decide_eq_false,Bool.and_false];intro h;refine IW.1 h w (by rw [Un];exact hw) ?_;rw [PG hw,if_pos rfl];exact ⟨rfl,hp⟩
theorem G7 {m:Z6} {w b j:Nat} (hw:w<m.sm.length) (hj:(Z8 m.sm w).2.1 ≠ (j:Int)) (h:WH (TG m w b) j=true):WH m j=true:=by
 unfold WH at h ⊢;simp only [ZL,YZ] at h ⊢;refine ⟨h.1,IW.2 fun i hi hp=> ?_⟩;have:=IW.1 h.2 i (by rw [Un];exact hi);rw [PG hw] at this;by_cases e:i=w
 ·subst e;exact hj hp.1
 ·rw [if_neg e] at this;exact this hp
theorem zi {m:Z6} {w b i:Nat} (hw:w<m.sm.length) (hi:i ≠ w):QC (TG m w b) i=QC m i:=by
 unfold QC Zu;rw [Zy,PG hw,if_neg hi];rfl
theorem AJ {m:Z6} {w b:Nat} (hw:w<m.sm.length) (h:Ww (Zu m (w:Int)) 0 (Zb m.rm (b:Int))=true):QC (TG m w b) w=false:=by
 unfold QC Zu;rw [Zy,PG hw,if_pos rfl]
 have e:Qz (TG m w b).gd (putS m (Z8 m.sm w) (b:Int))=Zu m (w:Int):=by
  unfold Zu;rw [Zy];rfl
 rw [e];show (_ && !Ww _ 0 (Zb m.rm (b:Int)))=false;rw [h];simp
theorem Fu {m:Z6} (h:ZF m=true) {w:Nat} (hw:w<m.sm.length) (h2:(Z8 m.sm w).1=2):∃ i,i<m.sm.length/\i ≠ w/\(Z8 m.sm i).2.1=(Z8 m.sm w).2.1/\ZR (Z8 m.sm i)=true:=by
 have hlo:=ZM h;have hp:ZR (Z8 m.sm w)=true:=by unfold ZR;rw [h2];rfl
 obtain ⟨a0,a1,_⟩:=hlo.at hw hp;obtain ⟨b,hb⟩:∃ b:Nat,(Z8 m.sm w).2.1=(b:Int):=⟨(Z8 m.sm w).2.1.toNat,by omega⟩
 have hbl:b<m.dk.length:=by omega
 have hok:XZ m b=true:=by
  unfold ZF at h;simp only [ZL] at h;exact IS h.2 hbl
 rw [<-KA] at hok;unfold UX at hok
 split at hok
 ·simp only [YZ,List.length_eq_zero_iff] at hok
  have:(w:Int) ∈ ZO (atB (b:Int)) m.sm m.sm.length:=(Xt _ _ _ _).2 ⟨w,hw,rfl,by unfold atB;rw [h2,hb];simp⟩;rw [hok] at this;cases this
 ·simp only [ZL,YZ] at hok
  have hx:Z8 (ZO (YX (b:Int)) m.sm m.sm.length) 0 ∈ ZO (YX (b:Int)) m.sm m.sm.length:=Vt (by omega);obtain ⟨i,hi,_,hwk⟩:=(Xt _ _ _ _).1 hx;unfold YX at hwk;simp only [ZL,beq_iff_eq] at hwk;exact ⟨i,hi,fun e=>by subst e;omega,by rw [hb];exact hwk.2,by unfold ZR;rw [hwk.1];rfl⟩
theorem Moves.falls {m:Z6} {w b:Nat} (h:Moves m w b):RW (Ul m w b)<RW m:=by
 unfold RW Ul;rw [Fm,CP];have hlo:=ZM h.right;have h12:=YO hlo;obtain ⟨a0,a1,_⟩:=hlo.at h.who h.pres;have hmb:=zJ (QC (TG m w b)) m.sm.length;have hbusy:=AI (b:=b) h.who h.pres
 rcases h.why with ⟨hmis,hfit⟩ | hwait
 ·have e1:Ob (TG m w b)<=Ob m:=zK (y:=(Z8 m.sm w).2.1.toNat) h.bench h.idle hbusy fun i hi hne hq=>G7 h.who (by omega) hq
  have e2:Jo (TG m w b)+1<=Jo m:=by
   unfold Jo;rw [Un];refine Pq hmis (AJ h.who hfit) _ h.who fun i hi hq=> ?_;by_cases e:i=w
   ·subst e;exact hmis
   ·rw [zi h.who e] at hq;exact hq
  omega
 ·have e1:Ob (TG m w b)+1<=Ob m:=by
   refine Pq h.idle hbusy _ h.bench fun j hj hq=> ?_;by_cases e:(Z8 m.sm w).2.1=(j:Int)
   ·exfalso
    obtain ⟨i,hi,hiw,hbe,hpr⟩:=Fu h.right h.who hwait;unfold WH at hq;simp only [ZL,YZ] at hq;have:=IW.1 hq.2 i (by rw [Un];exact hi);rw [PG h.who,if_neg hiw] at this;exact this ⟨by rw [hbe,e],hpr⟩
   ·exact G7 h.who e hq
  have e2:Jo (TG m w b)<=12:=by
   unfold Jo;rw [Un];omega
  omega
def Uh:Nat->Z6->Z6
 | 0,m=>m
 | k+1,m=>match Uk m with
  | none=>m
  | some (w,b)=>Uh k (Ul m w b)
def TE (m:Z6):Z6:=Uh (RW m+1) m
theorem Og:∀ (j k:Nat) (m:Z6),RW m<j->RW m<k->Uh j m=Uh k m
 | 0,_,_,h,_=>by omega
 | _+1,0,_,_,h=>by omega
 | j+1,k+1,m,hj,hk=>by
  show (match Uk m with | none=>m | some (w,b)=>Uh j (Ul m w b))=(match Uk m with | none=>m | some (w,b)=>Uh k (Ul m w b))
  cases hm:Uk m with
  | none=>rfl
  | some r=>
   obtain ⟨w,b⟩:=r;have hf:=(RD hm).falls;exact Og j k (Ul m w b) (by omega) (by omega)
theorem Gx {m:Z6} (h:Uk m=none):TE m=m:=by
 unfold TE Uh;rw [h]
theorem J5 {m:Z6} {w b:Nat} (h:Uk m=some (w,b)):TE m=TE (Ul m w b):=by
 have hf:=(RD h).falls
 have:TE m=Uh (RW m) (Ul m w b):=by
  show (match Uk m with | none=>m | some (w,b)=>Uh (RW m) (Ul m w b))=_;rw [h]
 rw [this];exact Og _ _ _ (by omega) (by omega)
theorem Px:∀ (k:Nat) (m:Z6),ZF m=true->ZF (Uh k m)=true
 | 0,m,h=>h
 | k+1,m,h=>by
  unfold Uh;cases hm:Uk m with
  | none=>exact h
  | some r=>
   obtain ⟨w,b⟩:=r;exact Px k (Ul m w b) (RD hm).keeps
theorem Gy {m:Z6} (h:ZF m=true):ZF (TE m)=true:=Px _ m h
def VU (m:Z6):Z6:=if ZF m then TE m else Yc
def CL:Option (Nat × Nat)->Value
 | none=> .tuple #[.int .i64 0,.int .i64 0,.bool false]
 | some (w,b)=> .tuple #[.int .i64 (w:Int),.int .i64 (b:Int),.bool true]
theorem CU {m:Z6} {b w:Nat} {k n:Nat} (h:UY m b k=some w) (hn:k<=n):UY m b n=some w:=by
 obtain ⟨d,rfl⟩:∃ d,n=k+d:=⟨n-k,by omega⟩
 clear hn
 induction d with
 | zero=>exact h
 | succ d ih=>
  show UY m b (k+d+1)=some w;unfold UY;rw [ih]
theorem Fv {m:Z6} {w b:Nat} {k n:Nat} (h:Wo m k=some (w,b)) (hn:k<=n):Wo m n=some (w,b):=by
 obtain ⟨d,rfl⟩:∃ d,n=k+d:=⟨n-k,by omega⟩
 clear hn
 induction d with
 | zero=>exact h
 | succ d ih=>
  show Wo m (k+d+1)=some (w,b);unfold Wo;rw [ih]
theorem BP {m:Z6} {w b:Nat} {k n:Nat} (h:Vk m w k=some b) (hn:k<=n):Vk m w n=some b:=by
 obtain ⟨d,rfl⟩:∃ d,n=k+d:=⟨n-k,by omega⟩
 clear hn
 induction d with
 | zero=>exact h
 | succ d ih=>
  show Vk m w (k+d+1)=some b;unfold Vk;rw [ih]
theorem At {m:Z6} {w b:Nat} {k n:Nat} (h:Tg m k=some (w,b)) (hn:k<=n):Tg m n=some (w,b):=by
 obtain ⟨d,rfl⟩:∃ d,n=k+d:=⟨n-k,by omega⟩
 clear hn
 induction d with
 | zero=>exact h
 | succ d ih=>
  show Tg m (k+d+1)=some (w,b);unfold Tg;rw [ih]
open Go.ChangeShapes Go.WideShapes Go.ChangeAt Go.RowKit Go.Sort Go.Shelf
set_option linter.unusedSimpArgs false
set_option maxRecDepth 100000
structure Nx (w W:World) (R:Nat) (v0 v1 v2 v3 v4:Value) (m:Z6) (qs:List (ZZ × Value)):Prop where
 full:FullSmy w.heap.size W v0 v1 v2 v3 v4 m qs
 blk:Blk W R 32 #[v0,v1,v2,v3,v4,.int .i64 m.now]
 own:∀ k,We v0 v1 v2 v3 v4 qs k->k ≠ R
 bb:Below w.heap.size w W
 hR:w.heap.size<=R
section
variable {w W X : World} {R : Nat} {v0 v1 v2 v3 v4 : Value} {m : Z6} {qs : List (ZZ × Value)}
theorem Nx.next (h:Nx w W R v0 v1 v2 v3 v4 m qs) (hb:Below W.heap.size W X):Nx w X R v0 v1 v2 v3 v4 m qs:=⟨h.full.below hb,h.blk.below hb h.blk.lt,h.own,h.bb.trans (hb.mono h.bb.size),h.hR⟩
theorem Nx.cells (h:Nx w W R v0 v1 v2 v3 v4 m qs):W.cell? ⟨R,0,none⟩=some v0/\W.cell? ⟨R,1,none⟩=some v1/\W.cell? ⟨R,2,none⟩=some v2/\W.cell? ⟨R,3,none⟩=some v3/\W.cell? ⟨R,4,none⟩=some v4/\W.cell? ⟨R,5,none⟩=some (.int .i64 m.now):=h.blk.c6
theorem Nx.putS {g n cap:Nat} (h:Nx w W R v0 v1 (.slice (some ⟨g,0,none⟩) n cap) v3 v4 m qs) (hn:n=m.sm.length) {j i:Nat} (hj:j<m.sm.length) (hi:i<11) (u:Value) (x:Z3) (hx:ZV x=(ZV (Z8 m.sm j)).set i u):Nx w (W.setCell ⟨g,j*11+i,none⟩ u) R v0 v1 (.slice (some ⟨g,0,none⟩) n cap) v3 v4 (setS m j x) qs:=by
 have hg:=h.full.own (k:=g) (.inr (.inr (.inr (.inl rfl))));have hgR:=h.own g (.inr (.inr (.inr (.inl rfl))));exact ⟨h.full.putS hn hj hi u x hx,h.blk.other (a:=⟨g,j*11+i,none⟩) (fun e=>hgR e.symm) u,h.own,h.bb.setCell (p:=⟨g,j*11+i,none⟩) hg.1 u,h.hR⟩
end
def Chg (w:World) (R:Nat) (q:Int->Addr) (X:Z6) (c:Int) (e:Ending) (W':World):Prop:=
 Below w.heap.size w W'/\((c=0/\e= .returned .nilIface/\ ∃ u0 u1 u2 u3 u4 rs,Nx w W' R u0 u1 u2 u3 u4 X rs)\/((c=1\/c=2\/c=3\/c=4\/c=5)/\e= .returned (YA (q c))))
theorem Kn (m:Z6) (k:Nat) (s t:Z3):setS (setS m k s) k t=setS m k t:=by unfold setS;simp
structure Ny (F:Nat->TypeId->Array Value->Prop) (w W:World) (R:Nat) (v0 v1 v2 v3 v4:Value) (m:Z6) (qs:List (ZZ × Value)):Prop where
 nx:Nx w W R v0 v1 v2 v3 v4 m qs
 fx:∀ k t cs,F k t cs->Blk W k t cs/\k ≠ R/\ ¬ We v0 v1 v2 v3 v4 qs k
section
variable {F : Nat → TypeId → Array Value → Prop} {w W X : World} {R : Nat} {v0 v1 v2 v3 v4 : Value} {m : Z6} {qs : List (ZZ × Value)}
theorem Ny.full (h:Ny F w W R v0 v1 v2 v3 v4 m qs):FullSmy w.heap.size W v0 v1 v2 v3 v4 m qs:=h.nx.full
theorem Ny.blk (h:Ny F w W R v0 v1 v2 v3 v4 m qs):Blk W R 32 #[v0,v1,v2,v3,v4,.int .i64 m.now]:=h.nx.blk
theorem Ny.bb (h:Ny F w W R v0 v1 v2 v3 v4 m qs):Below w.heap.size w W:=h.nx.bb
theorem Ny.fb (h:Ny F w W R v0 v1 v2 v3 v4 m qs):∀ k t cs,F k t cs->Blk W k t cs:=fun k t cs e=>(h.fx k t cs e).1
theorem Ny.next (h:Ny F w W R v0 v1 v2 v3 v4 m qs) (hb:Below W.heap.size W X):Ny F w X R v0 v1 v2 v3 v4 m qs:=⟨h.nx.next hb,fun k t cs e=>⟨(h.fx k t cs e).1.below hb (h.fx k t cs e).1.lt,(h.fx k t cs e).2⟩⟩
theorem Ny.cells (h:Ny F w W R v0 v1 v2 v3 v4 m qs):W.cell? ⟨R,0,none⟩=some v0/\W.cell? ⟨R,1,none⟩=some v1/\W.cell? ⟨R,2,none⟩=some v2/\W.cell? ⟨R,3,none⟩=some v3/\W.cell? ⟨R,4,none⟩=some v4/\W.cell? ⟨R,5,none⟩=some (.int .i64 m.now):=h.nx.cells
theorem Ny.putS {g n cap:Nat} (h:Ny F w W R v0 v1 (.slice (some ⟨g,0,none⟩) n cap) v3 v4 m qs) (hn:n=m.sm.length) {j i:Nat} (hj:j<m.sm.length) (hi:i<11) (u:Value) (x:Z3) (hx:ZV x=(ZV (Z8 m.sm j)).set i u):Ny F w (W.setCell ⟨g,j*11+i,none⟩ u) R v0 v1 (.slice (some ⟨g,0,none⟩) n cap) v3 v4 (setS m j x) qs:=
 ⟨h.nx.putS hn hj hi u x hx,fun k t cs e=>⟨(h.fx k t cs e).1.other (a:=⟨g,j*11+i,none⟩) (fun e2=>(h.fx k t cs e).2.2 (.inr (.inr (.inr (.inl (by rw [e2];rfl)))))) u,(h.fx k t cs e).2⟩⟩
theorem Nx.putD {g n cap:Nat} (h:Nx w W R v0 v1 v2 (.slice (some ⟨g,0,none⟩) n cap) v4 m qs) (hn:n=m.dk.length) {j i:Nat} (hj:j<m.dk.length) (hi:i<3) (u:Value) (x:XW) (hx:Xy x=(Xy (Z8 m.dk j)).set i u):Nx w (W.setCell ⟨g,j*3+i,none⟩ u) R v0 v1 v2 (.slice (some ⟨g,0,none⟩) n cap) v4 { m with dk:=m.dk.set j x } qs:=by
 have hg:=h.full.own (k:=g) (.inr (.inr (.inr (.inr (.inl rfl)))));have hgR:=h.own g (.inr (.inr (.inr (.inr (.inl rfl)))));exact ⟨h.full.putD hn hj hi u x hx,h.blk.other (a:=⟨g,j*3+i,none⟩) (fun e=>hgR e.symm) u,h.own,h.bb.setCell (p:=⟨g,j*3+i,none⟩) hg.1 u,h.hR⟩
theorem Ny.putD {g n cap:Nat} (h:Ny F w W R v0 v1 v2 (.slice (some ⟨g,0,none⟩) n cap) v4 m qs) (hn:n=m.dk.length) {j i:Nat} (hj:j<m.dk.length) (hi:i<3) (u:Value) (x:XW) (hx:Xy x=(Xy (Z8 m.dk j)).set i u):Ny F w (W.setCell ⟨g,j*3+i,none⟩ u) R v0 v1 v2 (.slice (some ⟨g,0,none⟩) n cap) v4 { m with dk:=m.dk.set j x } qs:=
 ⟨h.nx.putD hn hj hi u x hx,fun k t cs e=>⟨(h.fx k t cs e).1.other (a:=⟨g,j*3+i,none⟩) (fun e2=>(h.fx k t cs e).2.2 (.inr (.inr (.inr (.inr (.inl (by rw [e2];rfl))))))) u,(h.fx k t cs e).2⟩⟩
end
end Go.Proofs.YtamgfpdahadnfaaGreatDoor
namespace Go.Proofs.YtamgfpdahadnfaaGreatDoor
open Go.ChangeShapes Go.WideShapes Go.ChangeAt Go.RowKit Go.Sort Go.Shelf
set_option linter.unusedVariables false
set_option linter.unusedSimpArgs false
set_option maxRecDepth 100000
theorem Bg {a0 a1 a2 a3 a4:Option Addr} {n0 n1 n2 n3 n4 p0 p1 p2 p3 p4:Nat} {now:Int} {W:World} : Calls Tryz.prog 42 #[.agg #[.slice a0 n0 p0,.slice a1 n1 p1,.slice a2 n2 p2,.slice a3 n3 p3,.slice a4 n4 p4,.int .i64 now],.nilIface] W fun e w'=>e= .returned (.tuple #[.agg #[.slice a0 n0 p0,.slice a1 n1 p1,.slice a2 n2 p2,.slice a3 n3 p3,.slice a4 n4 p4,.int .i64 now],.int .i64 0])/\Below W.heap.size W w':=by
 have kb:Hid (Blk (((W.alloc (.cells #[.slice a0 n0 p0,.slice a1 n1 p1,.slice a2 n2 p2,.slice a3 n3 p3,.slice a4 n4 p4,.int .i64 now] 32)).alloc (.cells E6 32)).alloc (.cells #[.pointer none] 96)) W.heap.size 32 #[.slice a0 n0 p0,.slice a1 n1 p1,.slice a2 n2 p2,.slice a3 n3 p3,.slice a4 n4 p4,.int .i64 now]):=Z9 (((Blk.new W _ _).alloc _).alloc _)
 have kr:Hid (Blk (((W.alloc (.cells #[.slice a0 n0 p0,.slice a1 n1 p1,.slice a2 n2 p2,.slice a3 n3 p3,.slice a4 n4 p4,.int .i64 now] 32)).alloc (.cells E6 32)).alloc (.cells #[.pointer none] 96)) (W.heap.size+1) 32 E6):=Z9 (by
  have k:=Blk.new (W.alloc (.cells #[.slice a0 n0 p0,.slice a1 n1 p1,.slice a2 n2 p2,.slice a3 n3 p3,.slice a4 n4 p4,.int .i64 now] 32)) 32 E6;rw [Y8] at k
  exact k.alloc _)
 have kv:Hid (Blk (((W.alloc (.cells #[.slice a0 n0 p0,.slice a1 n1 p1,.slice a2 n2 p2,.slice a3 n3 p3,.slice a4 n4 p4,.int .i64 now] 32)).alloc (.cells E6 32)).alloc (.cells #[.pointer none] 96)) (W.heap.size+1+1) 96 #[.pointer none]):=Z9 (by
  have k:=Blk.new ((W.alloc (.cells #[.slice a0 n0 p0,.slice a1 n1 p1,.slice a2 n2 p2,.slice a3 n3 p3,.slice a4 n4 p4,.int .i64 now] 32)).alloc (.cells E6 32)) 96 #[.pointer none];rw [Y8,Y8] at k
  exact k)
 have BB:Hid (Below W.heap.size W (((W.alloc (.cells #[.slice a0 n0 p0,.slice a1 n1 p1,.slice a2 n2 p2,.slice a3 n3 p3,.slice a4 n4 p4,.int .i64 now] 32)).alloc (.cells E6 32)).alloc (.cells #[.pointer none] 96))):=Z9 ((((ba _ _)).alloc (by simp) _).alloc (by simp;omega) _);have hsz:(((W.alloc (.cells #[.slice a0 n0 p0,.slice a1 n1 p1,.slice a2 n2 p2,.slice a3 n3 p3,.slice a4 n4 p4,.int .i64 now] 32)).alloc (.cells E6 32)).alloc (.cells #[.pointer none] 96)).heap.size=W.heap.size+1+1+1:=by simp
 go_enter Tryz.func42,Tryz.ntmps42;go_wp2_with fail;generalize (((W.alloc (.cells #[.slice a0 n0 p0,.slice a1 n1 p1,.slice a2 n2 p2,.slice a3 n3 p3,.slice a4 n4 p4,.int .i64 now] 32)).alloc (.cells E6 32)).alloc (.cells #[.pointer none] 96))=W1 at *;refine ck (xK _ _) fun w1 h9=> ?_;subst w1;obtain ⟨t0,t1,t2,t3,t4,t5⟩:=(uh kb).c6;go_wp2_with fail;refine ZS (S:=fun w'=>w'.cell? ⟨W.heap.size,0,none⟩=some (.slice a0 n0 p0)/\w'.cell? ⟨W.heap.size,1,none⟩=some (.slice a1 n1 p1)/\w'.cell? ⟨W.heap.size,2,none⟩=some (.slice a2 n2 p2)/\w'.cell? ⟨W.heap.size,3,none⟩=some (.slice a3 n3 p3)/\w'.cell? ⟨W.heap.size,4,none⟩=some (.slice a4 n4 p4)/\w'.cell? ⟨W.heap.size,5,none⟩=some (.int .i64 now)) (by kernel_rfl) (XM _ _) (by kernel_rfl) ⟨t0,t1,t2,t3,t4,t5⟩ (fun hHeld=> ?_);simp only [XN,XO,Y4,YQ,Nat.zero_add,Nat.reduceAdd];have hbd:Below W1.heap.size W1 W1.drew:=(Z1 _ _).drew;replace kr:=bl kr hbd;replace BB:=bt BB hbd;replace kb:=bl kb hbd;clear t0 t1 t2 t3 t4 t5;clear hbd;generalize W1.drew=W5 at *;obtain ⟨t0,t1,t2,t3,t4,t5⟩:=(uh kb).c6
 iterate 2 refine tz ?_
 refine wpAnyH_ready (rs:=[2]) (by kernel_rfl) (by simp) ?_;refine AllReadyH.cons rfl (fun K0 hK=> ?_) AllReadyH.nil;go_simp;refine ck (DZ _) fun w9 h9=> ?_;subst w9;refine hK.out _ _ ⟨t0,t1,t2,t3,t4,t5⟩ (fun hHeld=> ?_);clear hK K0
 (try simp only [Act.put,sA,sZ,sS])
 obtain ⟨o0,o1,o2,o3,o4,o5⟩:=(uh kr).c6;obtain ⟨f0,f1,f2,f3,f4,f5⟩:=(uh kr).f6;have kbN:Blk ((((((W5.setCell ⟨W.heap.size+1,0,none⟩ (.slice a0 n0 p0)).setCell ⟨W.heap.size+1,1,none⟩ (.slice a1 n1 p1)).setCell ⟨W.heap.size+1,2,none⟩ (.slice a2 n2 p2)).setCell ⟨W.heap.size+1,3,none⟩ (.slice a3 n3 p3)).setCell ⟨W.heap.size+1,4,none⟩ (.slice a4 n4 p4)).setCell ⟨W.heap.size+1,5,none⟩ (.int .i64 now)) W.heap.size 32 #[.slice a0 n0 p0,.slice a1 n1 p1,.slice a2 n2 p2,.slice a3 n3 p3,.slice a4 n4 p4,.int .i64 now]:=(((((((uh kb).other (a:=⟨W.heap.size+1,0,none⟩) (by show W.heap.size ≠ W.heap.size+1;omega) (.slice a0 n0 p0)).other (a:=⟨W.heap.size+1,1,none⟩) (by show W.heap.size ≠ W.heap.size+1;omega) (.slice a1 n1 p1)).other (a:=⟨W.heap.size+1,2,none⟩) (by show W.heap.size ≠ W.heap.size+1;omega) (.slice a2 n2 p2)).other (a:=⟨W.heap.size+1,3,none⟩) (by show W.heap.size ≠ W.heap.size+1;omega) (.slice a3 n3 p3)).other (a:=⟨W.heap.size+1,4,none⟩) (by show W.heap.size ≠ W.heap.size+1;omega) (.slice a4 n4 p4)).other (a:=⟨W.heap.size+1,5,none⟩) (by show W.heap.size ≠ W.heap.size+1;omega) (.int .i64 now))
 refine wpAnyH_ready (rs:=[3]) (by kernel_rfl) (by simp) ?_;refine AllReadyH.cons rfl (fun K0 hK=> ?_) AllReadyH.nil;go_simp;refine hK.out _ _ ⟨kbN.cell (i:=0) rfl,kbN.cell (i:=1) rfl,kbN.cell (i:=2) rfl,kbN.cell (i:=3) rfl,kbN.cell (i:=4) rfl,kbN.cell (i:=5) rfl⟩ (fun hHeld=> ?_);clear hK K0
 (try simp only [Act.put,sA,sZ,sS])
 refine wpAnyH_done (by kernel_rfl) ?_ _;refine ZK rfl rfl ?_;go_simp;clear hHeld;go_wp2_with fail;refine ZQ (v:= .tuple #[.agg #[.slice a0 n0 p0,.slice a1 n1 p1,.slice a2 n2 p2,.slice a3 n3 p3,.slice a4 n4 p4,.int .i64 now],.int .i64 0]) (by simp [results,Tryz.results42,go_sem, *]) rfl ⟨rfl,?_⟩
 iterate 6 (refine YF ?_ (by show _<=W.heap.size+1;omega) _)
 exact uh BB
theorem CJ {a0 a1 a2 a3 a4:Option Addr} {n0 n1 n2 n3 n4 p0 p1 p2 p3 p4:Nat} {now:Int} {W:World} {q:Int->Addr} (he:Errs W q):Calls Tryz.prog 42 #[.agg #[.slice a0 n0 p0,.slice a1 n1 p1,.slice a2 n2 p2,.slice a3 n3 p3,.slice a4 n4 p4,.int .i64 now],YA (q 3)] W fun e w'=>e= .returned (.tuple #[.agg #[.slice a0 n0 p0,.slice a1 n1 p1,.slice a2 n2 p2,.slice a3 n3 p3,.slice a4 n4 p4,.int .i64 now],.int .i64 3])/\Below W.heap.size W w':=by
 have HE:=Z9 he;clear he;have kb:Hid (Blk (((W.alloc (.cells #[.slice a0 n0 p0,.slice a1 n1 p1,.slice a2 n2 p2,.slice a3 n3 p3,.slice a4 n4 p4,.int .i64 now] 32)).alloc (.cells E6 32)).alloc (.cells #[.pointer none] 96)) W.heap.size 32 #[.slice a0 n0 p0,.slice a1 n1 p1,.slice a2 n2 p2,.slice a3 n3 p3,.slice a4 n4 p4,.int .i64 now]):=Z9 (((Blk.new W _ _).alloc _).alloc _)
 have kr:Hid (Blk (((W.alloc (.cells #[.slice a0 n0 p0,.slice a1 n1 p1,.slice a2 n2 p2,.slice a3 n3 p3,.slice a4 n4 p4,.int .i64 now] 32)).alloc (.cells E6 32)).alloc (.cells #[.pointer none] 96)) (W.heap.size+1) 32 E6):=Z9 (by
  have k:=Blk.new (W.alloc (.cells #[.slice a0 n0 p0,.slice a1 n1 p1,.slice a2 n2 p2,.slice a3 n3 p3,.slice a4 n4 p4,.int .i64 now] 32)) 32 E6;rw [Y8] at k
  exact k.alloc _)
 have kv:Hid (Blk (((W.alloc (.cells #[.slice a0 n0 p0,.slice a1 n1 p1,.slice a2 n2 p2,.slice a3 n3 p3,.slice a4 n4 p4,.int .i64 now] 32)).alloc (.cells E6 32)).alloc (.cells #[.pointer none] 96)) (W.heap.size+1+1) 96 #[.pointer none]):=Z9 (by
  have k:=Blk.new ((W.alloc (.cells #[.slice a0 n0 p0,.slice a1 n1 p1,.slice a2 n2 p2,.slice a3 n3 p3,.slice a4 n4 p4,.int .i64 now] 32)).alloc (.cells E6 32)) 96 #[.pointer none];rw [Y8,Y8] at k
  exact k)
 have BB:Hid (Below W.heap.size W (((W.alloc (.cells #[.slice a0 n0 p0,.slice a1 n1 p1,.slice a2 n2 p2,.slice a3 n3 p3,.slice a4 n4 p4,.int .i64 now] 32)).alloc (.cells E6 32)).alloc (.cells #[.pointer none] 96))):=Z9 ((((ba _ _)).alloc (by simp) _).alloc (by simp;omega) _);have hsz:(((W.alloc (.cells #[.slice a0 n0 p0,.slice a1 n1 p1,.slice a2 n2 p2,.slice a3 n3 p3,.slice a4 n4 p4,.int .i64 now] 32)).alloc (.cells E6 32)).alloc (.cells #[.pointer none] 96)).heap.size=W.heap.size+1+1+1:=by simp
 have HX:=Z9 ((uh HE).below (uh BB));go_enter Tryz.func42,Tryz.ntmps42;go_wp2_with fail;generalize (((W.alloc (.cells #[.slice a0 n0 p0,.slice a1 n1 p1,.slice a2 n2 p2,.slice a3 n3 p3,.slice a4 n4 p4,.int .i64 now] 32)).alloc (.cells E6 32)).alloc (.cells #[.pointer none] 96))=W1 at *;refine ck (xy (q 3) _ _ (uh HX).ct) fun w1 hb=> ?_;replace kb:=bl kb hb;replace kr:=bl kr hb;replace BB:=bt BB hb;replace HX:=Z9 ((uh HX).below hb);clear hb;obtain ⟨t0,t1,t2,t3,t4,t5⟩:=(uh kb).c6;go_wp2_with fail;refine ZS (S:=fun w'=>w'.cell? ⟨W.heap.size,0,none⟩=some (.slice a0 n0 p0)/\w'.cell? ⟨W.heap.size,1,none⟩=some (.slice a1 n1 p1)/\w'.cell? ⟨W.heap.size,2,none⟩=some (.slice a2 n2 p2)/\w'.cell? ⟨W.heap.size,3,none⟩=some (.slice a3 n3 p3)/\w'.cell? ⟨W.heap.size,4,none⟩=some (.slice a4 n4 p4)/\w'.cell? ⟨W.heap.size,5,none⟩=some (.int .i64 now)) (by kernel_rfl) (XM _ _) (by kernel_rfl) ⟨t0,t1,t2,t3,t4,t5⟩ (fun hHeld=> ?_);simp only [XN,XO,Y4,YQ,Nat.zero_add,Nat.reduceAdd];have hbd:Below w1.heap.size w1 w1.drew:=(Z1 _ _).drew;replace kr:=bl kr hbd;replace BB:=bt BB hbd;replace kb:=bl kb hbd;clear t0 t1 t2 t3 t4 t5;replace HX:=Z9 ((uh HX).below hbd);clear hbd;generalize w1.drew=W5 at *;obtain ⟨t0,t1,t2,t3,t4,t5⟩:=(uh kb).c6
 iterate 2 refine tz ?_
 refine wpAnyH_ready (rs:=[2]) (by kernel_rfl) (by simp) ?_;refine AllReadyH.cons rfl (fun K0 hK=> ?_) AllReadyH.nil;go_simp;refine ck (FV (uh HX)) fun w9 h9=> ?_;subst w9;refine hK.out _ _ ⟨t0,t1,t2,t3,t4,t5⟩ (fun hHeld=> ?_);clear hK K0
 (try simp only [Act.put,sA,sZ,sS])
 obtain ⟨o0,o1,o2,o3,o4,o5⟩:=(uh kr).c6;obtain ⟨f0,f1,f2,f3,f4,f5⟩:=(uh kr).f6;have kbN:Blk ((((((W5.setCell ⟨W.heap.size+1,0,none⟩ (.slice a0 n0 p0)).setCell ⟨W.heap.size+1,1,none⟩ (.slice a1 n1 p1)).setCell ⟨W.heap.size+1,2,none⟩ (.slice a2 n2 p2)).setCell ⟨W.heap.size+1,3,none⟩ (.slice a3 n3 p3)).setCell ⟨W.heap.size+1,4,none⟩ (.slice a4 n4 p4)).setCell ⟨W.heap.size+1,5,none⟩ (.int .i64 now)) W.heap.size 32 #[.slice a0 n0 p0,.slice a1 n1 p1,.slice a2 n2 p2,.slice a3 n3 p3,.slice a4 n4 p4,.int .i64 now]:=(((((((uh kb).other (a:=⟨W.heap.size+1,0,none⟩) (by show W.heap.size ≠ W.heap.size+1;omega) (.slice a0 n0 p0)).other (a:=⟨W.heap.size+1,1,none⟩) (by show W.heap.size ≠ W.heap.size+1;omega) (.slice a1 n1 p1)).other (a:=⟨W.heap.size+1,2,none⟩) (by show W.heap.size ≠ W.heap.size+1;omega) (.slice a2 n2 p2)).other (a:=⟨W.heap.size+1,3,none⟩) (by show W.heap.size ≠ W.heap.size+1;omega) (.slice a3 n3 p3)).other (a:=⟨W.heap.size+1,4,none⟩) (by show W.heap.size ≠ W.heap.size+1;omega) (.slice a4 n4 p4)).other (a:=⟨W.heap.size+1,5,none⟩) (by show W.heap.size ≠ W.heap.size+1;omega) (.int .i64 now))
 refine wpAnyH_ready (rs:=[3]) (by kernel_rfl) (by simp) ?_;refine AllReadyH.cons rfl (fun K0 hK=> ?_) AllReadyH.nil;go_simp;refine hK.out _ _ ⟨kbN.cell (i:=0) rfl,kbN.cell (i:=1) rfl,kbN.cell (i:=2) rfl,kbN.cell (i:=3) rfl,kbN.cell (i:=4) rfl,kbN.cell (i:=5) rfl⟩ (fun hHeld=> ?_);clear hK K0
 (try simp only [Act.put,sA,sZ,sS])
 refine wpAnyH_done (by kernel_rfl) ?_ _;refine ZK rfl rfl ?_;go_simp;clear hHeld;go_wp2_with fail;refine ZQ (v:= .tuple #[.agg #[.slice a0 n0 p0,.slice a1 n1 p1,.slice a2 n2 p2,.slice a3 n3 p3,.slice a4 n4 p4,.int .i64 now],.int .i64 3]) (by simp [results,Tryz.results42,go_sem, *]) rfl ⟨rfl,?_⟩
 iterate 6 (refine YF ?_ (by show _<=W.heap.size+1;omega) _)
 exact uh BB
theorem CK {a0 a1 a2 a3 a4:Option Addr} {n0 n1 n2 n3 n4 p0 p1 p2 p3 p4:Nat} {now:Int} {b0 b1 b2 b3 b4:Option Addr} {l0 l1 l2 l3 l4 r0 r1 r2 r3 r4:Nat} {nw:Int} {W:World} {q:Int->Addr} (he:Errs W q) {p:Nat} {c:Int} (hcc:c=1\/c=2\/c=3\/c=4\/c=5) (hp:Blk W p 100 #[.slice b0 l0 r0,.slice b1 l1 r1,.slice b2 l2 r2,.slice b3 l3 r3,.slice b4 l4 r4,.int .i64 nw,YA (q c)]):Calls Tryz.prog 42 #[.agg #[.slice a0 n0 p0,.slice a1 n1 p1,.slice a2 n2 p2,.slice a3 n3 p3,.slice a4 n4 p4,.int .i64 now],OY p] W fun e w'=>e= .returned (.tuple #[.agg #[.slice b0 l0 r0,.slice b1 l1 r1,.slice b2 l2 r2,.slice b3 l3 r3,.slice b4 l4 r4,.int .i64 nw],.int .i64 c])/\Below W.heap.size W w':=by
 have HE:=Z9 he;have Hp:=Z9 hp;clear he hp;have kb:Hid (Blk (((W.alloc (.cells #[.slice a0 n0 p0,.slice a1 n1 p1,.slice a2 n2 p2,.slice a3 n3 p3,.slice a4 n4 p4,.int .i64 now] 32)).alloc (.cells E6 32)).alloc (.cells #[.pointer none] 96)) W.heap.size 32 #[.slice a0 n0 p0,.slice a1 n1 p1,.slice a2 n2 p2,.slice a3 n3 p3,.slice a4 n4 p4,.int .i64 now]):=Z9 (((Blk.new W _ _).alloc _).alloc _)
 have kr:Hid (Blk (((W.alloc (.cells #[.slice a0 n0 p0,.slice a1 n1 p1,.slice a2 n2 p2,.slice a3 n3 p3,.slice a4 n4 p4,.int .i64 now] 32)).alloc (.cells E6 32)).alloc (.cells #[.pointer none] 96)) (W.heap.size+1) 32 E6):=Z9 (by
  have k:=Blk.new (W.alloc (.cells #[.slice a0 n0 p0,.slice a1 n1 p1,.slice a2 n2 p2,.slice a3 n3 p3,.slice a4 n4 p4,.int .i64 now] 32)) 32 E6;rw [Y8] at k
  exact k.alloc _)
 have kv:Hid (Blk (((W.alloc (.cells #[.slice a0 n0 p0,.slice a1 n1 p1,.slice a2 n2 p2,.slice a3 n3 p3,.slice a4 n4 p4,.int .i64 now] 32)).alloc (.cells E6 32)).alloc (.cells #[.pointer none] 96)) (W.heap.size+1+1) 96 #[.pointer none]):=Z9 (by
  have k:=Blk.new ((W.alloc (.cells #[.slice a0 n0 p0,.slice a1 n1 p1,.slice a2 n2 p2,.slice a3 n3 p3,.slice a4 n4 p4,.int .i64 now] 32)).alloc (.cells E6 32)) 96 #[.pointer none];rw [Y8,Y8] at k
  exact k)
 have BB:Hid (Below W.heap.size W (((W.alloc (.cells #[.slice a0 n0 p0,.slice a1 n1 p1,.slice a2 n2 p2,.slice a3 n3 p3,.slice a4 n4 p4,.int .i64 now] 32)).alloc (.cells E6 32)).alloc (.cells #[.pointer none] 96))):=Z9 ((((ba _ _)).alloc (by simp) _).alloc (by simp;omega) _);have hsz:(((W.alloc (.cells #[.slice a0 n0 p0,.slice a1 n1 p1,.slice a2 n2 p2,.slice a3 n3 p3,.slice a4 n4 p4,.int .i64 now] 32)).alloc (.cells E6 32)).alloc (.cells #[.pointer none] 96)).heap.size=W.heap.size+1+1+1:=by simp
 have HX:=Z9 ((uh HE).below (uh BB));have kp:=Z9 ((uh Hp).below (uh BB) (uh Hp).lt);go_enter Tryz.func42,Tryz.ntmps42;go_wp2_with fail;generalize (((W.alloc (.cells #[.slice a0 n0 p0,.slice a1 n1 p1,.slice a2 n2 p2,.slice a3 n3 p3,.slice a4 n4 p4,.int .i64 now] 32)).alloc (.cells E6 32)).alloc (.cells #[.pointer none] 96))=W1 at *;refine (xL _ p _ (uh HX).ct ((uh kv).cell (i:=0) rfl) ((uh kv).free 0)).mono ?_;rintro e w1 ⟨rfl,hc,hall⟩;have hb:=hall (W.heap.size+1+1) (Z2 _) (by omega);have hpl:=(uh Hp).lt;replace kb:=Z9 ((uh kb).below hb (by omega));replace kr:=Z9 ((uh kr).below hb (by omega));replace kp:=Z9 ((uh kp).below hb (by omega));have hE0:=(uh HE).below ((uh BB).trans (hb.mono (by omega)));replace BB:=Z9 ((uh BB).trans (hb.mono (by omega)));replace HX:=Z9 hE0;clear hb hall hE0 kv hsz hpl;obtain ⟨t0,t1,t2,t3,t4,t5⟩:w1.cell? ⟨p,0,none⟩=some (.slice b0 l0 r0)/\w1.cell? ⟨p,1,none⟩=some (.slice b1 l1 r1)/\w1.cell? ⟨p,2,none⟩=some (.slice b2 l2 r2)/\w1.cell? ⟨p,3,none⟩=some (.slice b3 l3 r3)/\w1.cell? ⟨p,4,none⟩=some (.slice b4 l4 r4)/\w1.cell? ⟨p,5,none⟩=some (.int .i64 nw):=⟨(uh kp).cell (i:=0) rfl,(uh kp).cell (i:=1) rfl,(uh kp).cell (i:=2) rfl,(uh kp).cell (i:=3) rfl,(uh kp).cell (i:=4) rfl,(uh kp).cell (i:=5) rfl⟩
 go_wp2_with fail;refine ZS (S:=fun w'=>w'.cell? ⟨W.heap.size+1+1,0,none⟩=some (.pointer (some ⟨p,0,none⟩))/\w'.cell? ⟨p,0,none⟩=some (.slice b0 l0 r0)/\w'.cell? ⟨p,1,none⟩=some (.slice b1 l1 r1)/\w'.cell? ⟨p,2,none⟩=some (.slice b2 l2 r2)/\w'.cell? ⟨p,3,none⟩=some (.slice b3 l3 r3)/\w'.cell? ⟨p,4,none⟩=some (.slice b4 l4 r4)/\w'.cell? ⟨p,5,none⟩=some (.int .i64 nw)) (by kernel_rfl) (XM _ _) (by kernel_rfl) ⟨hc,t0,t1,t2,t3,t4,t5⟩ (fun hHeld=> ?_);simp only [XN,XO,Y4,YQ,Nat.zero_add,Nat.reduceAdd];have hbd:Below w1.heap.size w1 w1.drew:=(Z1 _ _).drew;replace kr:=bl kr hbd;replace BB:=bt BB hbd;replace kp:=bl kp hbd;replace hc:=(hbd.cell (World.block_lt_of_cell? _ _ hc)).trans hc;replace HX:=Z9 ((uh HX).below hbd);clear t0 t1 t2 t3 t4 t5;clear hbd;generalize w1.drew=W5 at *;obtain ⟨t0,t1,t2,t3,t4,t5⟩:W5.cell? ⟨p,0,none⟩=some (.slice b0 l0 r0)/\W5.cell? ⟨p,1,none⟩=some (.slice b1 l1 r1)/\W5.cell? ⟨p,2,none⟩=some (.slice b2 l2 r2)/\W5.cell? ⟨p,3,none⟩=some (.slice b3 l3 r3)/\W5.cell? ⟨p,4,none⟩=some (.slice b4 l4 r4)/\W5.cell? ⟨p,5,none⟩=some (.int .i64 nw):=⟨(uh kp).cell (i:=0) rfl,(uh kp).cell (i:=1) rfl,(uh kp).cell (i:=2) rfl,(uh kp).cell (i:=3) rfl,(uh kp).cell (i:=4) rfl,(uh kp).cell (i:=5) rfl⟩
 iterate 5 refine tz ?_
 refine wpAnyH_ready (rs:=[5]) (by kernel_rfl) (by simp) ?_;refine AllReadyH.cons rfl (fun K0 hK=> ?_) AllReadyH.nil;go_simp;refine ck (FW hcc p (uh HX) ((uh kp).cell (i:=6) rfl)) fun w9 h9=> ?_;subst w9;refine hK.out _ _ ⟨hc,t0,t1,t2,t3,t4,t5⟩ (fun hHeld=> ?_);clear hK K0
 (try simp only [Act.put,sA,sZ,sS])
 obtain ⟨o0,o1,o2,o3,o4,o5⟩:=(uh kr).c6;obtain ⟨f0,f1,f2,f3,f4,f5⟩:=(uh kr).f6;have hpl:=(uh Hp).lt;have hne:p ≠ W.heap.size+1:=by omega
 have hcN:((((((W5.setCell ⟨W.heap.size+1,0,none⟩ (.slice b0 l0 r0)).setCell ⟨W.heap.size+1,1,none⟩ (.slice b1 l1 r1)).setCell ⟨W.heap.size+1,2,none⟩ (.slice b2 l2 r2)).setCell ⟨W.heap.size+1,3,none⟩ (.slice b3 l3 r3)).setCell ⟨W.heap.size+1,4,none⟩ (.slice b4 l4 r4)).setCell ⟨W.heap.size+1,5,none⟩ (.int .i64 nw)).cell? ⟨W.heap.size+1+1,0,none⟩=some (.pointer (some ⟨p,0,none⟩)):=by
  rw [World.cell?_setCell_far _ _ _ _ (by show W.heap.size+1 ≠ W.heap.size+1+1;omega),World.cell?_setCell_far _ _ _ _ (by show W.heap.size+1 ≠ W.heap.size+1+1;omega),World.cell?_setCell_far _ _ _ _ (by show W.heap.size+1 ≠ W.heap.size+1+1;omega),World.cell?_setCell_far _ _ _ _ (by show W.heap.size+1 ≠ W.heap.size+1+1;omega),World.cell?_setCell_far _ _ _ _ (by show W.heap.size+1 ≠ W.heap.size+1+1;omega),World.cell?_setCell_far _ _ _ _ (by show W.heap.size+1 ≠ W.heap.size+1+1;omega)];exact hc
 have kpN:Blk ((((((W5.setCell ⟨W.heap.size+1,0,none⟩ (.slice b0 l0 r0)).setCell ⟨W.heap.size+1,1,none⟩ (.slice b1 l1 r1)).setCell ⟨W.heap.size+1,2,none⟩ (.slice b2 l2 r2)).setCell ⟨W.heap.size+1,3,none⟩ (.slice b3 l3 r3)).setCell ⟨W.heap.size+1,4,none⟩ (.slice b4 l4 r4)).setCell ⟨W.heap.size+1,5,none⟩ (.int .i64 nw)) p 100 #[.slice b0 l0 r0,.slice b1 l1 r1,.slice b2 l2 r2,.slice b3 l3 r3,.slice b4 l4 r4,.int .i64 nw,YA (q c)]:=(((((((uh kp).other (a:=⟨W.heap.size+1,0,none⟩) hne (.slice b0 l0 r0)).other (a:=⟨W.heap.size+1,1,none⟩) hne (.slice b1 l1 r1)).other (a:=⟨W.heap.size+1,2,none⟩) hne (.slice b2 l2 r2)).other (a:=⟨W.heap.size+1,3,none⟩) hne (.slice b3 l3 r3)).other (a:=⟨W.heap.size+1,4,none⟩) hne (.slice b4 l4 r4)).other (a:=⟨W.heap.size+1,5,none⟩) hne (.int .i64 nw))
 refine wpAnyH_ready (rs:=[6]) (by kernel_rfl) (by simp) ?_;refine AllReadyH.cons rfl (fun K0 hK=> ?_) AllReadyH.nil;go_simp;refine hK.out _ _ ⟨hcN,kpN.cell (i:=0) rfl,kpN.cell (i:=1) rfl,kpN.cell (i:=2) rfl,kpN.cell (i:=3) rfl,kpN.cell (i:=4) rfl,kpN.cell (i:=5) rfl⟩ (fun hHeld=> ?_);clear hK K0
 (try simp only [Act.put,sA,sZ,sS])
 refine wpAnyH_done (by kernel_rfl) ?_ _;refine ZK rfl rfl ?_;go_simp;clear hHeld;go_wp2_with fail;refine ZQ (v:= .tuple #[.agg #[.slice b0 l0 r0,.slice b1 l1 r1,.slice b2 l2 r2,.slice b3 l3 r3,.slice b4 l4 r4,.int .i64 nw],.int .i64 c]) (by simp [results,Tryz.results42,go_sem, *]) rfl ⟨rfl,?_⟩
 iterate 6 (refine YF ?_ (by show _<=W.heap.size+1;omega) _)
 exact uh BB
def Tr (w:World) (q:Int->Addr) (m X:Z6) (c:Int) (e:Ending) (w':World):Prop:=
 Below w.heap.size w w'/\((ZF m=false/\e= .returned (.tuple #[.agg E6,YA (q 3)]))\/(ZF m=true/\c=0/\ ∃ a0 p0 a1 p1 a2 p2 a3 p3 a4 p4 rs,e= .returned (.tuple #[.agg #[.slice a0 (YU X).rm.length p0,.slice a1 (YU X).gd.length p1,.slice a2 (YU X).sm.length p2,.slice a3 (YU X).dk.length p3,.slice a4 (YU X).pc.length p4,.int .i64 (YU X).now],.nilIface])/\FullSmy w.heap.size w' (.slice a0 (YU X).rm.length p0) (.slice a1 (YU X).gd.length p1) (.slice a2 (YU X).sm.length p2) (.slice a3 (YU X).dk.length p3) (.slice a4 (YU X).pc.length p4) (YU X) rs)\/(ZF m=true/\(c=1\/c=2\/c=3\/c=4\/c=5)/\ ∃ p a0 p0 a1 p1 a2 p2 a3 p3 a4 p4 rs,e= .returned (.tuple #[.agg E6,OY p])/\Blk w' p 100 #[.slice a0 m.rm.length p0,.slice a1 m.gd.length p1,.slice a2 m.sm.length p2,.slice a3 m.dk.length p3,.slice a4 m.pc.length p4,.int .i64 m.now,YA (q c)]/\FullSmy w.heap.size w' (.slice a0 m.rm.length p0) (.slice a1 m.gd.length p1) (.slice a2 m.sm.length p2) (.slice a3 m.dk.length p3) (.slice a4 m.pc.length p4) m rs))
theorem Wh {n:Nat} {w:World} {v0 v1 v2 v3 v4:Value} {m:Z6} {qs:List (ZZ × Value)} (h:FullSmy n w v0 v1 v2 v3 v4 m qs):∃ a0 p0 a1 p1 a2 p2 a3 p3 a4 p4,v0= .slice a0 m.rm.length p0/\v1= .slice a1 m.gd.length p1/\v2= .slice a2 m.sm.length p2/\v3= .slice a3 m.dk.length p3/\v4= .slice a4 m.pc.length p4:=by
 obtain ⟨a0,p0,a1,p1,a2,p2,a3,p3,a4,p4,e0,e1,e2,e3,e4,_⟩:=h.smy.five;exact ⟨a0,p0,a1,p1,a2,p2,a3,p3,a4,p4,e0,e1,e2,e3,e4⟩
set_option maxRecDepth 100000
theorem Sk (y:Value) (w:World):Calls Tryz.prog 134 #[.bool true,y] w fun e w'=>e= .returned (.tuple #[])/\w'=w:=by
 go_enter Tryz.func134,Tryz.ntmps134;go_wp2_with fail
 go_end0
 exact ⟨rfl,rfl⟩
theorem QU (a:Addr) (w:World):Calls Tryz.prog 134 #[.bool false,YA a] w fun e w'=>e= .panicked [{ v:=YA a,recovered:=false }]/\w'=w:=by
 unfold YA;go_enter Tryz.func134,Tryz.ntmps134;go_wp2_with fail;exact ⟨rfl,rfl,rfl⟩
def PChg (F:Nat->TypeId->Array Value->Prop) (w:World) (R:Nat) (q:Int->Addr) (X:Z6) (c:Int) (e:Ending) (W':World):Prop:=
 Below w.heap.size w W'/\(∀ k t cs,F k t cs->Blk W' k t cs)/\((c=0/\e= .returned (.tuple #[])/\ ∃ u0 u1 u2 u3 u4 rs,Ny F w W' R u0 u1 u2 u3 u4 X rs)\/((c=1\/c=2\/c=3\/c=4\/c=5)/\e= .panicked [{ v:=YA (q c),recovered:=false }]))
theorem PChg.no {F:Nat->TypeId->Array Value->Prop} {w W':World} {R:Nat} {q:Int->Addr} {X:Z6} {c d:Int} (h:Below w.heap.size w W') (hF:∀ k t cs,F k t cs->Blk W' k t cs) (e:c=d) (hd:d=1\/d=2\/d=3\/d=4\/d=5):PChg F w R q X c (.panicked [{ v:=YA (q d),recovered:=false }]) W':=by
 subst e;exact ⟨h,hF,.inr ⟨hd,rfl⟩⟩
theorem PChg.yes {F:Nat->TypeId->Array Value->Prop} {w W':World} {R:Nat} {q:Int->Addr} {X Y:Z6} {c:Int} {u0 u1 u2 u3 u4:Value} {rs:List (ZZ × Value)} (h:Ny F w W' R u0 u1 u2 u3 u4 Y rs) (e:c=0) (hX:X=Y):PChg F w R q X c (.returned (.tuple #[])) W':=by
 subst e hX;exact ⟨h.bb,h.fb,.inl ⟨rfl,rfl,_,_,_,_,_,_,h⟩⟩
theorem yQ (w:World):(Instr.typeAssert .nilIface 20 62 true).run Tryz.prog w= .ok (.tuple #[.nilIface,.bool false]) w:=by kernel_rfl
theorem zC (a:Addr) (w:World):(Instr.typeAssert (YA a) 20 62 true).run Tryz.prog w= .ok (.tuple #[YA a,.bool true]) w:=by kernel_rfl
theorem LB (p:Addr) (w:World) :
  CallsD Tryz.prog 131 #[.pointer (some p)] .returning w fun e u' w'=>e= .returned (.tuple #[])/\u'= .returning/\w'=w:=by
 have h1:=yQ;refine callsD_of_wpS Tryz.func131 rfl fun c₀ cs hu=> ?_;apply wpS_seq;apply wpS_region;simp [wpOpsS,go_sem,recoverD,hu,Tryz.ntmps131,Exit.thenS,h1];apply wpS_seq;apply wpS_region;simp [wpOpsS,go_sem,Exit.thenS];refine wpS_cond (t:=false) (by simp [Act.eval,Array.replicate]) ?_;simp only [Bool.false_eq_true,if_false];refine wpS_of_wp (wp_skip ?_);cases c₀
 simp_all [bodyPostS,results,Tryz.results131]
theorem JM (b:Nat) (a:Addr) (w:World) (hc:w.cell? ⟨b,0,none⟩=some .nilIface) (hf:w.frozen? ⟨b,0,none⟩=false) :
  CallsD Tryz.prog 131 #[.pointer (some ⟨b,0,none⟩)] (.panicking [{ v:=YA a,recovered:=false }]) w fun e u' w'=>e= .returned (.tuple #[])/\u'= .panicking [{ v:=YA a,recovered:=true }]/\w'=w.setCell ⟨b,0,none⟩ (YA a):=by
 have h1:=zC a;have hs:∃ v,YA a= .iface 288 v:=⟨_,rfl⟩
 obtain ⟨v,hv⟩:=hs;rw [hv] at h1 ⊢;refine callsD_of_wpS Tryz.func131 rfl fun c₀ cs hu=> ?_;apply wpS_seq;apply wpS_region;simp [wpOpsS,go_sem,recoverD,hu,Tryz.ntmps131,Exit.thenS,h1];apply wpS_seq;apply wpS_region;simp [wpOpsS,go_sem,Exit.thenS];refine wpS_cond (t:=true) (by simp [Act.eval,Array.replicate]) ?_;simp only [if_true];apply wpS_region;simp [wpOpsS,go_sem,hc,hf,bodyPostS,results,Tryz.results131]
end Go.Proofs.YtamgfpdahadnfaaGreatDoor
