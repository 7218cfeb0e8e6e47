/- Part 27 of what the proof rests on. No condition but those that a theorem names. -/
import Derived.Test.YtjhijildaceadaaGreatDoorXg19
set_option maxHeartbeats 8000000
set_option maxRecDepth 100000
namespace Go.Proofs.YtjhijildaceadaaGreatDoor
open Go.ChangeShapes Go.WideShapes Go.ChangeAt Go.RowKit Go.Sort
set_option linter.unusedVariables false
variable {w w' w0 w1 w2 w3 w₀ wr W W' X A B C : World} {v v0 v1 v2 v3 v4 u u0 u1 u2 u3 u4 : Value} {m : Z4}
def cnt (p:Nat->Bool):Nat->Nat
 | 0=>0
 | n+1=>cnt p n+(if p n then 1 else 0)
theorem D4 (p:Nat->Bool):∀ n,cnt p n<=n
 | 0=>Nat.le_refl _
 | n+1=>by
  have:=D4 p n
  unfold cnt
  split<;>omega
theorem Ow {p q:Nat->Bool} : ∀ n,(∀ i,i<n->p i=true->q i=true)->cnt p n<=cnt q n
 | 0,_=>Nat.le_refl _
 | n+1,h=>by
  have ih:=Ow n (fun i hi=>h i (by omega))
  have hn:=h n (by omega)
  unfold cnt
  cases hp:p n
  ·simp;omega
  ·rw [hn hp];simp;exact ih
theorem RG {p q:Nat->Bool} {x:Nat} (hp:p x=true) (hq:q x=false):∀ n,x<n->(∀ i,i<n->q i=true->p i=true)->cnt q n+1<=cnt p n
 | 0,hx,_=>by omega
 | n+1,hx,h=>by
  unfold cnt
  by_cases e:x=n
  ·subst e
   have:=Ow (p:=q) (q:=p) x (fun i hi=>h i (by omega))
   rw [hp,hq];simp;exact this
  ·have ih:=RG hp hq n (by omega) (fun i hi=>h i (by omega))
   have hn:=h n (by omega)
   cases hqn:q n
   ·simp;omega
   ·rw [hn hqn];simp;exact ih
theorem GL (q:Nat->Bool) (y:Nat):∀ n,cnt q n<=cnt (fun i=>q i && !(i ==y)) n+1
 | 0=>by simp [cnt]
 | n+1=>by
  unfold cnt
  by_cases e:n=y
  ·subst e
   have:=Ow (p:=q) (q:=fun i=>q i && !(i ==n)) n (fun i hi hqi=>by
    simp only [hqi,Bool.true_and,Bool.not_eq_true',beq_eq_false_iff_ne];omega)
   simp only [beq_self_eq_true,Bool.not_true,Bool.and_false]
   split<;>simp<;>omega
  ·have ih:=GL q y n
   have he:(n ==y)=false:=by simpa using e
   simp only [he,Bool.not_false,Bool.and_true]
   omega
theorem D5 {p q:Nat->Bool} {x y n:Nat} (hx:x<n) (hp:p x=true) (hq:q x=false) (h:∀ i,i<n->i ≠ y->q i=true->p i=true):cnt q n<=cnt p n:=by
 have h1:=GL q y n
 have h2:=RG (p:=p) (q:=fun i=>q i && !(i ==y)) hp (by simp [hq]) n hx (fun i hi hqi=>by
  simp only [Bool.and_eq_true,Bool.not_eq_true',beq_eq_false_iff_ne] at hqi
  exact h i hi hqi.2 hqi.1)
 omega
def WI (m:Z4) (b:Nat):Bool:=(Z8 m.desks b).1 && decide ((atV m.smiths b m.smiths.length).length=0)
def SO (m:Z4) (i:Nat):Bool:=ZT (Z8 m.smiths i) && !VV (Yr m (i:Int)) 0 (YV m.rooms (Z8 m.smiths i).2.1)
def OI (m:Z4) (w b:Nat):Bool:=WI m b && (Ym m (w:Int) b && VV (Yr m (w:Int)) 0 (YV m.rooms (b:Int)))
def Wo (m:Z4) (w:Nat):Nat->Option Nat
 | 0=>none
 | k+1=>match Wo m w k with
  | some b=>some b
  | none=>if OI m w k then some k else none
def RU (m:Z4) (w:Nat):Option Nat:=if SO m w then Wo m w m.desks.length else none
def UH (m:Z4):Nat->Option (Nat × Nat)
 | 0=>none
 | k+1=>match UH m k with
  | some r=>some r
  | none=>(RU m k).map fun b=>(k,b)
def VR (m:Z4):Option (Nat × Nat):=if ZP m then UH m m.smiths.length else none
def QQ (m:Z4) (w b:Nat):Bool:=(Z8 m.smiths w).1 ==2 && Ym m (w:Int) b
def V0 (m:Z4) (b:Nat):Nat->Option Nat
 | 0=>none
 | k+1=>match V0 m b k with
  | some w=>some w
  | none=>if QQ m k b then some k else none
def Rw (m:Z4) (b:Nat):Option Nat:=if WI m b then V0 m b m.smiths.length else none
def Xt (m:Z4):Nat->Option (Nat × Nat)
 | 0=>none
 | k+1=>match Xt m k with
  | some r=>some r
  | none=>(Rw m k).map fun w=>(w,k)
def Wg (m:Z4):Option (Nat × Nat):=if ZP m then Xt m m.desks.length else none
def Vx (m:Z4):Option (Nat × Nat):=match VR m with
 | some r=>some r
 | none=>Wg m
theorem Na {w b:Nat} : ∀ {k},Wo m w k=some b->b<k/\OI m w b=true
 | 0,h=>by cases h
 | k+1,h=>by
  unfold Wo at h
  cases hg:Wo m w k with
  | some b'=>
   rw [hg] at h
   cases h
   have:=Na hg
   exact ⟨by omega,this.2⟩
  | none=>
   rw [hg] at h
   simp only at h
   split at h
   ·rename_i hh
    cases h
    exact ⟨by omega,hh⟩
   ·cases h
theorem KW {w b:Nat} : ∀ {k},UH m k=some (w,b)->w<k/\SO m w=true/\b<m.desks.length/\OI m w b=true
 | 0,h=>by cases h
 | k+1,h=>by
  unfold UH at h
  cases hg:UH m k with
  | some r=>
   rw [hg] at h
   cases h
   have:=KW hg
   exact ⟨by omega,this.2⟩
  | none=>
   rw [hg] at h
   simp only [Option.map_eq_some_iff,Prod.mk.injEq] at h
   obtain ⟨b',hb',rfl,rfl⟩:=h
   unfold RU at hb'
   split at hb'
   ·rename_i hh
    have:=Na hb'
    exact ⟨by omega,hh,this⟩
   ·cases hb'
theorem NM {w b:Nat} : ∀ {k},V0 m b k=some w->w<k/\QQ m w b=true
 | 0,h=>by cases h
 | k+1,h=>by
  unfold V0 at h
  cases hg:V0 m b k with
  | some w'=>
   rw [hg] at h
   cases h
   have:=NM hg
   exact ⟨by omega,this.2⟩
  | none=>
   rw [hg] at h
   simp only at h
   split at h
   ·rename_i hh
    cases h
    exact ⟨by omega,hh⟩
   ·cases h
theorem PK {w b:Nat} : ∀ {k},Xt m k=some (w,b)->b<k/\WI m b=true/\w<m.smiths.length/\QQ m w b=true
 | 0,h=>by cases h
 | k+1,h=>by
  unfold Xt at h
  cases hg:Xt m k with
  | some r=>
   rw [hg] at h
   cases h
   have:=PK hg
   exact ⟨by omega,this.2⟩
  | none=>
   rw [hg] at h
   simp only [Option.map_eq_some_iff,Prod.mk.injEq] at h
   obtain ⟨b',hb',rfl,rfl⟩:=h
   unfold Rw at hb'
   split at hb'
   ·rename_i hh
    have:=NM hb'
    exact ⟨by omega,hh,this⟩
   ·cases hb'
def U3 (m:Z4) (w b:Nat):Z4:=setS m w (putS m (Z8 m.smiths w) (b:Int))
def Vy (m:Z4) (w b:Nat):Z4:=ZV (U3 m w b)
structure Moves (m:Z4) (w b:Nat):Prop where
 right:ZP m=true
 who:w<m.smiths.length
 bench:b<m.desks.length
 pres:ZT (Z8 m.smiths w)=true
 may:Ym m (w:Int) b=true
 idle:WI m b=true
 why:(SO m w=true/\VV (Yr m (w:Int)) 0 (YV m.rooms (b:Int))=true)\/(Z8 m.smiths w).1=2
theorem F4 {w b:Nat} (h:VR m=some (w,b)):Moves m w b:=by
 unfold VR at h
 split at h
 ·rename_i hr
  obtain ⟨h1,h2,h3,h4⟩:=KW h
  unfold OI at h4
  simp only [Bool.and_eq_true] at h4
  have h2':=h2
  unfold SO at h2'
  simp only [Bool.and_eq_true] at h2'
  exact ⟨hr,h1,h3,h2'.1,h4.2.1,h4.1,.inl ⟨h2,h4.2.2⟩⟩
 ·cases h
theorem I4 {w b:Nat} (h:Wg m=some (w,b)):Moves m w b:=by
 unfold Wg at h
 split at h
 ·rename_i hr
  obtain ⟨h1,h2,h3,h4⟩:=PK h
  unfold QQ at h4
  simp only [Bool.and_eq_true,beq_iff_eq] at h4
  exact ⟨hr,h3,h1,by unfold ZT;rw [h4.1];rfl,h4.2,h2,.inr h4.1⟩
 ·cases h
theorem TD {w b:Nat} (h:Vx m=some (w,b)):Moves m w b:=by
 unfold Vx at h
 cases hm:VR m with
 | some r=>rw [hm] at h;cases h;exact F4 hm
 | none=>rw [hm] at h;exact I4 h
theorem Moves.loose {w b:Nat} (h:Moves m w b):Loose (U3 m w b):=by
 have hlo:=ZU h.right
 obtain ⟨p,g1,b1⟩:=hlo.limits h.who (by intro e;have:=h.pres;unfold ZT at this;rw [e] at this;cases this)
 obtain ⟨a0,a1,a2,a3,a4⟩:=hlo.at h.who h.pres
 have hm:=h.may
 unfold Ym at hm
 simp only [Bool.and_eq_true,Int.toNat_natCast] at hm
 have:=OW (m:=m) hlo (s:=Z8 m.smiths w) (b:=b) p h.pres g1 a0 a1 a4 h.bench hm.1 hm.2
 exact hlo.setS h.who this.1 this.2
theorem Moves.keeps {w b:Nat} (h:Moves m w b):ZP (Vy m w b)=true:=Y4 h.loose
theorem Mf {ss:List Z3} {b:Int} {n:Nat} : (atV ss b n).length=0 ↔ ∀ i,i<n-> ¬ ((Z8 ss i).2.1=b/\ZT (Z8 ss i)=true):=by
 constructor
 ·intro h i hi hp
  have hm:(XM (Z8 ss i),(i:Int)) ∈ atV ss b n:=(Yj ss b _ n).2 ⟨i,hi,hp.1,hp.2,rfl⟩
  rw [List.length_eq_zero_iff.1 h] at hm
  cases hm
 ·intro h
  rw [List.length_eq_zero_iff]
  refine List.eq_nil_iff_forall_not_mem.2 fun e he=> ?_
  obtain ⟨i,hi,h1,h2,_⟩:=(Yj ss b e n).1 he
  exact h i hi ⟨h1,h2⟩
theorem RY {w b:Nat} (hw:w<m.smiths.length) (i:Nat):Z8 (U3 m w b).smiths i=if i=w then putS m (Z8 m.smiths w) (b:Int) else Z8 m.smiths i:=ZJ hw i
theorem Vz (m:Z4) (w b:Nat):(U3 m w b).smiths.length=m.smiths.length:=by unfold U3 setS;simp
theorem NJ {i:Nat} (hi:i<m.smiths.length):(Z8 (ZV m).smiths i).2=(Z8 m.smiths i).2:=by
 unfold ZV
 rw [Yo m hi]
 split<;>rfl
theorem GA {i:Nat} (hi:i<m.smiths.length):ZT (Z8 (ZV m).smiths i)=ZT (Z8 m.smiths i):=(XV m m.desks.length i hi).2.1
theorem Gy (m:Z4) {b:Nat} (hb:b<m.desks.length):WI (ZV m) b=WI m b:=by
 unfold WI ZV
 rw [Ru,VJ m b _ (Nat.le_refl _),if_pos hb]
 congr 1
 unfold Xs
 split<;>rfl
theorem Fk (m:Z4) {i:Nat} (hi:i<m.smiths.length):SO (ZV m) i=SO m i:=by
 have h1:Yr (ZV m) (i:Int)=Yr m (i:Int):=by
  unfold Yr PL
  rw [Int.toNat_natCast,NJ hi,show (ZV m).guilds=m.guilds from (ZQ m m.desks.length).2.1]
 unfold SO
 rw [GA hi,h1,NJ hi,show (ZV m).rooms=m.rooms from (ZQ m m.desks.length).1]
def Qv (m:Z4):Nat:=cnt (WI m) m.desks.length
def MH (m:Z4):Nat:=cnt (SO m) m.smiths.length
def TP (m:Z4):Nat:=13*Qv m+MH m
theorem J1 {p q:Nat->Bool} (n:Nat) (h:∀ i,i<n->p i=q i):cnt p n=cnt q n:=
 Nat.le_antisymm (Ow n fun i hi hp=>by rw [<-h i hi];exact hp) (Ow n fun i hi hp=>by rw [h i hi];exact hp)
theorem JA (m:Z4):Qv (ZV m)=Qv m:=by
 unfold Qv
 rw [show (ZV m).desks.length=m.desks.length from (ZQ m m.desks.length).2.2.2.2.2]
 exact J1 _ fun i hi=>Gy m hi
theorem Gz (m:Z4):MH (ZV m)=MH m:=by
 unfold MH
 rw [show (ZV m).smiths.length=m.smiths.length from (ZQ m m.desks.length).2.2.2.2.1]
 exact J1 _ fun i hi=>Fk m hi
theorem EL {w b:Nat} (hw:w<m.smiths.length) (hp:ZT (Z8 m.smiths w)=true):WI (U3 m w b) b=false:=by
 unfold WI
 rw [decide_eq_false,Bool.and_false]
 intro h
 refine Mf.1 h w (by rw [Vz];exact hw) ?_
 rw [RY hw,if_pos rfl]
 exact ⟨rfl,hp⟩
theorem Ln {w b j:Nat} (hw:w<m.smiths.length) (hj:(Z8 m.smiths w).2.1 ≠ (j:Int)) (h:WI (U3 m w b) j=true):WI m j=true:=by
 unfold WI at h ⊢
 simp only [Bool.and_eq_true,decide_eq_true_eq] at h ⊢
 refine ⟨h.1,Mf.2 fun i hi hp=> ?_⟩
 have:=Mf.1 h.2 i (by rw [Vz];exact hi)
 rw [RY hw] at this
 by_cases e:i=w
 ·subst e;exact hj hp.1
 ·rw [if_neg e] at this;exact this hp
theorem DE {w b i:Nat} (hw:w<m.smiths.length) (hi:i ≠ w):SO (U3 m w b) i=SO m i:=by
 unfold SO Yr
 rw [Int.toNat_natCast,RY hw,if_neg hi]
 rfl
theorem EM {w b:Nat} (hw:w<m.smiths.length) (h:VV (Yr m (w:Int)) 0 (YV m.rooms (b:Int))=true):SO (U3 m w b) w=false:=by
 unfold SO Yr
 rw [Int.toNat_natCast,RY hw,if_pos rfl]
 have e:PL (U3 m w b).guilds (putS m (Z8 m.smiths w) (b:Int))=Yr m (w:Int):=by
  unfold Yr
  rw [Int.toNat_natCast]
  rfl
 rw [e]
 show (_ && !VV _ 0 (YV m.rooms (b:Int)))=false
 rw [h];simp
theorem JF (h:ZP m=true) {w:Nat} (hw:w<m.smiths.length) (h2:(Z8 m.smiths w).1=2):∃ i,i<m.smiths.length/\i ≠ w/\(Z8 m.smiths i).2.1=(Z8 m.smiths w).2.1/\ZT (Z8 m.smiths i)=true:=by
 have hlo:=ZU h
 have hp:ZT (Z8 m.smiths w)=true:=by unfold ZT;rw [h2];rfl
 obtain ⟨a0,a1,_⟩:=hlo.at hw hp
 obtain ⟨b,hb⟩:∃ b:Nat,(Z8 m.smiths w).2.1=(b:Int):=⟨(Z8 m.smiths w).2.1.toNat,by omega⟩
 have hbl:b<m.desks.length:=by omega
 have hok:YH m b=true:=by
  unfold ZP at h
  simp only [Bool.and_eq_true] at h
  exact Me h.2 hbl
 rw [<-NI] at hok
 unfold VZ at hok
 split at hok
 ·simp only [decide_eq_true_eq,List.length_eq_zero_iff] at hok
  have:(w:Int) ∈ ZX (atB (b:Int)) m.smiths m.smiths.length:=(WZ _ _ _ _).2 ⟨w,hw,rfl,by unfold atB;rw [h2,hb];simp⟩
  rw [hok] at this
  cases this
 ·simp only [Bool.and_eq_true,decide_eq_true_eq] at hok
  have hx:Z8 (ZX (Zs (b:Int)) m.smiths m.smiths.length) 0 ∈ ZX (Zs (b:Int)) m.smiths m.smiths.length:=Ta (by omega)
  obtain ⟨i,hi,_,hwk⟩:=(WZ _ _ _ _).1 hx
  unfold Zs at hwk
  simp only [Bool.and_eq_true,beq_iff_eq] at hwk
  exact ⟨i,hi,fun e=>by subst e;omega,by rw [hb];exact hwk.2,by unfold ZT;rw [hwk.1];rfl⟩
theorem Moves.falls {w b:Nat} (h:Moves m w b):TP (Vy m w b)<TP m:=by
 unfold TP Vy
 rw [JA,Gz]
 have hlo:=ZU h.right
 have h12:=Y3 hlo
 obtain ⟨a0,a1,_⟩:=hlo.at h.who h.pres
 have hmb:=D4 (SO (U3 m w b)) m.smiths.length
 have hbusy:=EL (b:=b) h.who h.pres
 rcases h.why with ⟨hmis,hfit⟩ | hwait
 ·have e1:Qv (U3 m w b)<=Qv m:=D5 (y:=(Z8 m.smiths w).2.1.toNat) h.bench h.idle hbusy fun i hi hne hq=>Ln h.who (by omega) hq
  have e2:MH (U3 m w b)+1<=MH m:=by
   unfold MH
   rw [Vz]
   refine RG hmis (EM h.who hfit) _ h.who fun i hi hq=> ?_
   by_cases e:i=w
   ·subst e;exact hmis
   ·rw [DE h.who e] at hq;exact hq
  omega
 ·have e1:Qv (U3 m w b)+1<=Qv m:=by
   refine RG h.idle hbusy _ h.bench fun j hj hq=> ?_
   by_cases e:(Z8 m.smiths w).2.1=(j:Int)
   ·exfalso
    obtain ⟨i,hi,hiw,hbe,hpr⟩:=JF h.right h.who hwait
    unfold WI at hq
    simp only [Bool.and_eq_true,decide_eq_true_eq] at hq
    have:=Mf.1 hq.2 i (by rw [Vz];exact hi)
    rw [RY h.who,if_neg hiw] at this
    exact this ⟨by rw [hbe,e],hpr⟩
   ·exact Ln h.who e hq
  have e2:MH (U3 m w b)<=12:=by
   unfold MH
   rw [Vz]
   omega
  omega
def Vv:Nat->Z4->Z4
 | 0,m=>m
 | k+1,m=>match Vx m with
  | none=>m
  | some (w,b)=>Vv k (Vy m w b)
def U2 (m:Z4):Z4:=Vv (TP m+1) m
theorem QF:∀ (j k:Nat) (m:Z4),TP m<j->TP m<k->Vv j m=Vv k m
 | 0,_,_,h,_=>by omega
 | _+1,0,_,_,h=>by omega
 | j+1,k+1,m,hj,hk=>by
  show (match Vx m with | none=>m | some (w,b)=>Vv j (Vy m w b))=(match Vx m with | none=>m | some (w,b)=>Vv k (Vy m w b))
  cases hm:Vx m with
  | none=>rfl
  | some r=>
   obtain ⟨w,b⟩:=r
   have hf:=(TD hm).falls
   exact QF j k (Vy m w b) (by omega) (by omega)
theorem KJ (h:Vx m=none):U2 m=m:=by
 unfold U2 Vv
 rw [h]
theorem Nk {w b:Nat} (h:Vx m=some (w,b)):U2 m=U2 (Vy m w b):=by
 have hf:=(TD h).falls
 have:U2 m=Vv (TP m) (Vy m w b):=by
  show (match Vx m with | none=>m | some (w,b)=>Vv (TP m) (Vy m w b))=_
  rw [h]
 rw [this]
 exact QF _ _ _ (by omega) (by omega)
theorem RR:∀ (k:Nat) (m:Z4),ZP m=true->ZP (Vv k m)=true
 | 0,m,h=>h
 | k+1,m,h=>by
  unfold Vv
  cases hm:Vx m with
  | none=>exact h
  | some r=>
   obtain ⟨w,b⟩:=r
   exact RR k (Vy m w b) (TD hm).keeps
theorem KK (h:ZP m=true):ZP (U2 m)=true:=RR _ m h
def WW (m:Z4):Z4:=if ZP m then U2 m else YM
set_option linter.unusedSimpArgs false
def TF (m:Z4) (b:Int):Z4 × Int:=
 if ZP m then (if Vq m b then (if (Z8 m.desks b.toNat).1 then (m,2) else (ZV (YJ m b.toNat true),0)) else (m,1)) else (YM,3)
theorem JU {b:Int} (h:Vq m b=true):∃ k:Nat,b=(k:Int)/\k<m.desks.length:=by
 have:=ZR (show inB b 0 ((m.desks.length:Int)-1)=true from h)
 exact ⟨b.toNat,by omega,by omega⟩
theorem I7 (h:ZP m=true) (b:Int):ZP (TF m b).1=true:=by
 unfold TF
 rw [h]
 simp only [if_true]
 split
 ·rename_i hw
  obtain ⟨k,rfl,hk⟩:=JU hw
  rw [show ((k:Int)).toNat=k by simp]
  split
  ·exact h
  ·exact Y4 (FT (ZU h) hk)
 ·exact h
theorem PC  (bench:Int) (h:Smy w v0 v1 v2 v3 v4 m) :
  Calls Tryz.prog 31 #[.agg #[v0,v1,v2,v3,v4,.int .i64 m.now],.int .i64 bench] w fun e w'=>TX w.heap.size (TF m bench).1 (TF m bench).2 e w'/\Below w.heap.size w w':=by
 obtain ⟨X,hX⟩:∃ x,TF m bench=x:=⟨_,rfl⟩
 rw [hX]
 have HX:=Z9 hX
 clear hX
 have Hv0:=Z9 h
 obtain ⟨a0,p0,a1,p1,a2,p2,a3,p3,a4,p4,rfl,rfl,rfl,rfl,rfl,_,_,_,_,_,_,_,_,_,_⟩:=h.five
 clear h
 obtain ⟨ok,hok⟩:∃ q,ZP m=q:=⟨_,rfl⟩
 have Hok:=Z9 hok
 clear hok
 go_enter Tryz.func31,Tryz.ntmps31
 go_wp2_with fail
 obtain ⟨W,hW,kb,kr,BB⟩:=YQ w 32 (S6 a0 p0 a1 p1 a2 p2 a3 p3 a4 p4 m) 32 E6
 have Hv:=Z9 ((uh Hv0).below (uh BB))
 clear Hv0
 rw [hW]
 clear hW
 refine (Yb (uh Hok) (uh Hv)).mono ?_
 rintro e w1 ⟨rfl,hb⟩
 replace kb:=bl kb hb
 replace kr:=bl kr hb
 replace Hv:=Z9 ((uh Hv).below hb)
 replace BB:=bt BB hb
 clear hb
 cases ok
 ·
  obtain ⟨c0,c1,c2,c3,c4,c5⟩:=(uh kb).c6
  go_wp2_with fail
  clear c0 c1 c2 c3 c4 c5
  refine (YC (uh Hv)).mono ?_
  rintro e w2 ⟨rfl,hb⟩
  replace kb:=bl kb hb
  replace kr:=bl kr hb
  replace Hv:=Z9 ((uh Hv).below hb)
  replace BB:=bt BB hb
  clear hb
  obtain ⟨o0,o1,o2,o3,o4,o5⟩:=(uh kr).c6
  obtain ⟨f0,f1,f2,f3,f4,f5⟩:=(uh kr).f6
  go_wp2_with fail
  have hX0:X=(YM,3):=by rw [<-uh HX];unfold TF;rw [uh Hok];rfl
  refine bodyPost_ret (v:= .tuple #[.agg E6,.int .i64 3]) (by simp [results,Tryz.results31,go_sem, *]) rfl ⟨?_,?_⟩
  ·rw [hX0];exact ⟨_,_,_,_,_,[],rfl,Zd _ _⟩
  ·iterate 6 (refine Below.setCell ?_ (by show _<=w.heap.size+1;omega) _)
   exact uh BB
 have hlo:=ZU (uh Hok)
 have HLo:=Z9 hlo
 have HFew:=Z9 (XO hlo)
 clear hlo
 obtain ⟨c0,c1,c2,c3,c4,c5⟩:=(uh kb).c6
 go_wp2_with fail
 clear c0 c1 c2 c3 c4 c5
 have hWs:w.heap.size+2<=w1.heap.size:=by have:=(uh kr).lt;omega
 refine (ZB (uh Hv) (uh HFew)).mono ?_
 rintro e w2 ⟨y0,y1,y2,y3,y4,oq,rfl,ho,hb⟩
 have k9:=ho.smy
 obtain ⟨b0,q0,b1,q1,b2,q2,b3,q3,b4,q4,rfl,rfl,rfl,rfl,rfl,_,_,_,_,_,_,_,_,_,_⟩:=k9.five
 clear k9
 replace kb:=bl kb hb
 replace kr:=bl kr hb
 replace Hv:=Z9 ((uh Hv).below hb)
 replace BB:=bt BB hb
 have HO:=Z9 (ho.mono hWs)
 have LO:Hid (∀ k,YG (.slice b0 m.rooms.length q0) (.slice b1 m.guilds.length q1) (.slice b2 m.smiths.length q2) (.slice b3 m.desks.length q3) (.slice b4 m.paces.length q4) oq k->w.heap.size+2<=k/\k<w2.heap.size):=Z9 (fun k e=>(uh HO).own e)
 have hsz9:=hb.size
 clear ho hb
 go_upto_region 4 with fail
 obtain ⟨W2,hW2,hba,ko⟩:=ZA w2 32 (S6 b0 q0 b1 q1 b2 q2 b3 q3 b4 q4 m)
 replace kb:=bl kb hba
 replace kr:=bl kr hba
 replace Hv:=Z9 ((uh Hv).below hba)
 replace HO:=Z9 ((uh HO).below hba)
 replace BB:=bt BB hba
 have hob:w.heap.size+2<=w2.heap.size:=Nat.le_trans hWs hsz9
 clear hba hsz9 hWs
 rw [hW2]
 clear hW2
 generalize w2.heap.size=ob at *
 obtain ⟨qw,hqw⟩:∃ q,Vq m bench=q:=⟨_,rfl⟩
 have Hqw:=Z9 hqw
 clear hqw
 obtain ⟨c0,c1,c2,c3,c4,c5⟩:=(uh kb).c6
 go_wp2_with fail
 clear c0 c1 c2 c3 c4 c5
 refine (OX (uh Hqw) (uh Hv)).mono ?_
 rintro e w3 ⟨rfl,hb⟩
 replace kb:=bl kb hb
 replace kr:=bl kr hb
 replace Hv:=Z9 ((uh Hv).below hb)
 replace HO:=Z9 ((uh HO).below hb)
 replace ko:=bl ko hb
 replace BB:=bt BB hb
 clear hb
 cases qw
 ·
  obtain ⟨x0,x1,x2,x3,x4,x5⟩:=(uh ko).c6
  obtain ⟨o0,o1,o2,o3,o4,o5⟩:=(uh kr).c6
  obtain ⟨f0,f1,f2,f3,f4,f5⟩:=(uh kr).f6
  go_wp2_with fail
  have hX0:X=(m,1):=by rw [<-uh HX];unfold TF;rw [uh Hok,uh Hqw];rfl
  refine bodyPost_ret (v:= .tuple #[.agg (S6 b0 q0 b1 q1 b2 q2 b3 q3 b4 q4 m),.int .i64 1]) (by simp [results,Tryz.results31,go_sem, *]) rfl ⟨?_,?_⟩
  ·rw [hX0];refine ⟨_,_,_,_,_,oq,rfl,?_⟩
   iterate 6 (refine FullSmy.set_off ?_ (fun k e=>by have:=(uh LO k e).1;omega) _ _)
   exact (uh HO).mono (by omega)
  ·iterate 6 (refine Below.setCell ?_ (by show _<=w.heap.size+1;omega) _)
   exact uh BB
 obtain ⟨k,rfl,hk⟩:=JU (uh Hqw)
 have hk1:(k:Int)<(m.desks.length:Int):=by omega
 obtain ⟨_,_,hde,_,_,r3⟩:=(uh Hv).desks
 cases hde
 rcases r3 with e0 | ⟨db,off,rfl,hbw,hcl⟩
 ·rw [e0] at hk;simp at hk
 obtain ⟨d0,_,_⟩:=Zp hcl hk
 clear hcl
 obtain ⟨op,hop⟩:∃ q,(Z8 m.desks k).1=q:=⟨_,rfl⟩
 rw [hop] at d0
 have Hop:=Z9 hop
 clear hop
 have c3:=(uh kb).cell (i:=3) (v:= .slice (some ⟨db,off,none⟩) m.desks.length p3) rfl
 cases op
 rotate_left
 ·
  obtain ⟨x0,x1,x2,x3,x4,x5⟩:=(uh ko).c6
  obtain ⟨o0,o1,o2,o3,o4,o5⟩:=(uh kr).c6
  obtain ⟨f0,f1,f2,f3,f4,f5⟩:=(uh kr).f6
  go_wp2_with fail
  have hX0:X=(m,2):=by rw [<-uh HX];unfold TF;rw [uh Hok,uh Hqw];simp only [if_true,Int.toNat_natCast];rw [uh Hop];rfl
  refine bodyPost_ret (v:= .tuple #[.agg (S6 b0 q0 b1 q1 b2 q2 b3 q3 b4 q4 m),.int .i64 2]) (by simp [results,Tryz.results31,go_sem, *]) rfl ⟨?_,?_⟩
  ·rw [hX0];refine ⟨_,_,_,_,_,oq,rfl,?_⟩
   iterate 6 (refine FullSmy.set_off ?_ (fun k e=>by have:=(uh LO k e).1;omega) _ _)
   exact (uh HO).mono (by omega)
  ·iterate 6 (refine Below.setCell ?_ (by show _<=w.heap.size+1;omega) _)
   exact uh BB
 obtain ⟨g3,hga,_,_,hc3,hz3⟩:=RecAt.view ZH (by omega) (uh HO).desks rfl (by omega)
 cases hga
 have s0:=hc3 k hk 0 _ rfl
 have f0:=hz3 (k*3)
 have x3:=(uh ko).cell (i:=3) (v:= .slice (some ⟨g3,0,none⟩) m.desks.length q3) rfl
 have hput:=(uh HO).putD rfl (j:=k) (i:=0) hk (by omega) (.bool true) (true,(Z8 m.desks k).2) rfl
 simp only [Nat.add_zero] at s0 hput
 have hg3o:=(uh LO g3 (.inr (.inr (.inr (.inr (.inl rfl))))))
 clear hc3 hz3
 go_upto_region 9 with fail
 clear s0 f0 x3 c3 d0
 have HP:=Z9 hput
 clear hput HO
 replace ko:Hid (Blk (w3.setCell ⟨g3,k*3,none⟩ (.bool true)) ob 32 (S6 b0 q0 b1 q1 b2 q2 (some ⟨g3,0,none⟩) q3 b4 q4 m)):=Z9 ((uh ko).other (a:=⟨g3,k*3,none⟩) (by show ob ≠ g3;omega) _)
 replace kr:Hid (Blk (w3.setCell ⟨g3,k*3,none⟩ (.bool true)) (w.heap.size+1) 32 E6):=Z9 ((uh kr).other (a:=⟨g3,k*3,none⟩) (by show w.heap.size+1 ≠ g3;omega) _)
 replace BB:Hid (Below w.heap.size w (w3.setCell ⟨g3,k*3,none⟩ (.bool true))):=Z9 ((uh BB).setCell (p:=⟨g3,k*3,none⟩) (by show w.heap.size<=g3;omega) _)
 clear kb Hv
 generalize w3.setCell ⟨g3,k*3,none⟩ (.bool true)=W3 at *
 have hfw:=uh HFew
 go_wp2_with fail
 have hofR:∀ k,YG (.slice b0 m.rooms.length q0) (.slice b1 m.guilds.length q1) (.slice b2 m.smiths.length q2) (.slice (some ⟨g3,0,none⟩) m.desks.length q3) (.slice b4 m.paces.length q4) oq k->k ≠ ob:=fun k e=>by have:=(uh LO k e).2;omega
 refine (Zf (m:=YJ m k true) (uh ko) (uh HP) (fun e=>hofR _ (.inr (.inr (.inr (.inl e)))) rfl) (fun e=>hofR _ (.inr (.inr (.inr (.inr (.inl e))))) rfl) (by show m.smiths.length<=800;have:=hfw.smiths;omega) (by show (m.desks.set k _).length<=_;rw [List.length_set];exact hfw.desks)).mono ?_
 rintro e w4 ⟨rfl,hf9,ht9⟩
 replace kr:=Z9 ((uh kr).two ht9 (fun e=>by have:=(uh LO _ (.inr (.inr (.inr (.inl e))))).1;omega) (fun e=>by have:=(uh LO _ (.inr (.inr (.inr (.inr (.inl e)))))).1;omega))
 replace BB:=Z9 ((uh BB).trans (ht9.below (uh BB).size (fun k e=>by have:=(uh LO k (.inr (.inr (.inr (.inl e))))).1;omega) (fun k e=>by have:=(uh LO k (.inr (.inr (.inr (.inr (.inl e)))))).1;omega)))
 have HF9:=Z9 hf9
 clear hf9 ht9 hofR
 obtain ⟨o0,o1,o2,o3,o4,o5⟩:=(uh kr).c6
 obtain ⟨f0,f1,f2,f3,f4,f5⟩:=(uh kr).f6
 go_wp2_with fail
 have hX0:X=(ZV (YJ m k true),0):=by rw [<-uh HX];unfold TF;rw [uh Hok,uh Hqw];simp only [if_true,Int.toNat_natCast];rw [uh Hop];rfl
 have hnow:(ZV (YJ m k true)).now=m.now:=(ZQ _ _).2.2.2.1
 refine bodyPost_ret (v:= .tuple #[.agg (S6 b0 q0 b1 q1 b2 q2 (some ⟨g3,0,none⟩) q3 b4 q4 m),.int .i64 0]) (by simp [results,Tryz.results31,go_sem,setS,U4,YJ,pushS, *]) rfl ⟨?_,?_⟩
 ·rw [hX0];refine ⟨_,_,_,_,_,oq,by rw [hnow],?_⟩
  iterate 6 (refine FullSmy.set_off ?_ (fun k e=>by have:=(uh LO k e).1;omega) _ _)
  exact (uh HF9).mono (by omega)
 ·iterate 6 (refine Below.setCell ?_ (by show _<=w.heap.size+1;omega) _)
  exact uh BB
set_option maxRecDepth 100000
theorem NU  {r:Nat} (h:Smy w v0 v1 v2 v3 v4 m) (hS:Sane m) (hr:r<m.rooms.length) :
  Calls Tryz.prog 348 #[.agg #[v0,v1,v2,v3,v4,.int .i64 m.now],.int .i64 (r:Int)] w fun e w'=>e= .returned (.int .i64 (Uw m r))/\Below w.heap.size w w':=by
 have Hv:=Z9 (h.alloc (.cells #[v0,v1,v2,v3,v4,.int .i64 m.now] 32))
 obtain ⟨a0,p0,a1,p1,a2,p2,a3,p3,a4,p4,rfl,rfl,rfl,rfl,rfl,_,_,_,_,_,_,_,_,_,_⟩:=h.five
 clear h
 have kb:Hid (Blk (w.alloc (.cells (S6 a0 p0 a1 p1 a2 p2 a3 p3 a4 p4 m) 32)) w.heap.size 32 (S6 a0 p0 a1 p1 a2 p2 a3 p3 a4 p4 m)):=Z9 (Blk.new w _ _)
 have BB:Hid (Below w.heap.size w (w.alloc (.cells (S6 a0 p0 a1 p1 a2 p2 a3 p3 a4 p4 m) 32))):=Z9 ((Below.refl _ _).alloc (Nat.le_refl _) _)
 obtain ⟨x,hx⟩:∃ x,Uw m r=x:=⟨_,rfl⟩
 rw [hx]
 obtain ⟨ms,hms⟩:∃ q,Zc m (r:Int) m.desks.length=q:=⟨_,rfl⟩
 have Hx:Hid (XN (ZW m.rooms r) ms.1=x):=Z9 (by rw [<-hx,<-hms];rfl)
 have Hms:=Z9 hms
 have HS:=Z9 hS
 have hr1:(r:Int)<(m.rooms.length:Int):=by omega
 clear hx hms hS
 obtain ⟨mo,al⟩:=ms
 go_enter Tryz.func348,Tryz.ntmps348
 go_wp2_with fail
 generalize w.alloc (.cells (S6 a0 p0 a1 p1 a2 p2 a3 p3 a4 p4 m) 32)=W at *
 refine (Qy (r:Int) (uh Hv) (uh HS)).mono ?_
 rw [uh Hms]
 rintro e w1 ⟨rfl,hb⟩
 replace Hv:=Z9 ((uh Hv).below hb)
 replace kb:=bl kb hb
 replace BB:=bt BB hb
 clear hb
 obtain ⟨_,_,hre,_,_,r0⟩:=(uh Hv).rooms
 cases hre
 rcases r0 with e0 | ⟨rb,off,rfl,hbw,hcl⟩
 ·rw [e0] at hr;simp at hr
 obtain ⟨d0,pv,d1,hpv⟩:=hcl r hr
 have Hpv:=Z9 hpv
 obtain ⟨pa,pc,rfl,_,_,_⟩:=hpv
 obtain ⟨⟨bn,ps⟩,hrm⟩:∃ q,ZW m.rooms r=q:=⟨_,rfl⟩
 rw [hrm] at d0 d1 Hpv Hx
 simp only at d0 d1
 clear hcl hrm
 have c0:=(uh kb).cell (i:=0) (v:= .slice (some ⟨rb,off,none⟩) m.rooms.length p0) rfl
 go_wp2_with fail
 refine (TU bn mo (uh Hpv)).mono ?_
 rintro e w2 ⟨rfl,hb⟩
 replace BB:=bt BB hb
 clear hb
 go_wp2_with fail
 go_ret
 exact ⟨Zy (uh Hx),uh BB⟩
theorem Qx  {b:Nat} (h:Smy w v0 v1 v2 v3 v4 m) (hb0:b<m.desks.length) (hl:m.smiths.length<=800) :
  Calls Tryz.prog 93 #[.agg #[v0,v1,v2,v3,v4,.int .i64 m.now],.int .i64 (b:Int)] w fun e w'=>e= .returned (.bool (WI m b))/\Below w.heap.size w w':=by
 have Hv:=Z9 (h.alloc (.cells #[v0,v1,v2,v3,v4,.int .i64 m.now] 32))
 obtain ⟨a0,p0,a1,p1,a2,p2,a3,p3,a4,p4,rfl,rfl,rfl,rfl,rfl,_,_,_,_,_,_,_,_,_,_⟩:=h.five
 clear h
 have kb:Hid (Blk (w.alloc (.cells (S6 a0 p0 a1 p1 a2 p2 a3 p3 a4 p4 m) 32)) w.heap.size 32 (S6 a0 p0 a1 p1 a2 p2 a3 p3 a4 p4 m)):=Z9 (Blk.new w _ _)
 have BB:Hid (Below w.heap.size w (w.alloc (.cells (S6 a0 p0 a1 p1 a2 p2 a3 p3 a4 p4 m) 32))):=Z9 ((Below.refl _ _).alloc (Nat.le_refl _) _)
 have hb1:(b:Int)<(m.desks.length:Int):=by omega
 obtain ⟨qs,hqs⟩:∃ q,atV m.smiths (b:Int) m.smiths.length=q:=⟨_,rfl⟩
 obtain ⟨op,hop⟩:∃ q,(Z8 m.desks b).1=q:=⟨_,rfl⟩
 have hI:WI m b=(op && decide (qs.length=0)):=by unfold WI;rw [hqs,hop]
 rw [hI]
 have Hqs:=Z9 hqs
 have Hop:=Z9 hop
 clear hI hqs hop
 go_enter Tryz.func93,Tryz.ntmps93
 go_upto_region 1 with fail
 generalize w.alloc (.cells (S6 a0 p0 a1 p1 a2 p2 a3 p3 a4 p4 m) 32)=W at *
 obtain ⟨_,_,hde,_,_,r3⟩:=(uh Hv).desks
 cases hde
 rcases r3 with e0 | ⟨db,off,rfl,hbw,hcl⟩
 ·rw [e0] at hb0;simp at hb0
 obtain ⟨d0,_,_⟩:=Zp hcl hb0
 rw [uh Hop] at d0
 clear hcl Hop
 obtain ⟨c0,c1,c2,c3,c4,c5⟩:=(uh kb).c6
 cases op
 ·go_wp2_with fail
  go_ret
  exact ⟨rfl,uh BB⟩
 go_wp2_with fail
 refine (SY (b:Int) (uh Hv) (by omega)).mono ?_
 rw [uh Hqs]
 rintro e w2 ⟨v',rfl,he,hb⟩
 obtain ⟨ua,uc,rfl⟩:=EntsAt.shape he
 replace BB:=bt BB hb
 clear hb he c0 c1 c2 c3 c4 c5
 go_wp2_with fail
 go_ret
 exact ⟨Z5 (by rw [Bool.true_and,Bool.eq_iff_iff];simp only [beq_iff_eq,decide_eq_true_eq];omega),uh BB⟩
def Gx:Option (Nat × Nat)->Value
 | none=> .tuple #[.int .i64 0,.int .i64 0,.bool false]
 | some (w,b)=> .tuple #[.int .i64 (w:Int),.int .i64 (b:Int),.bool true]
theorem GD {b w:Nat} {k n:Nat} (h:V0 m b k=some w) (hn:k<=n):V0 m b n=some w:=by
 obtain ⟨d,rfl⟩:∃ d,n=k+d:=⟨n-k,by omega⟩
 clear hn
 induction d with
 | zero=>exact h
 | succ d ih=>
  show V0 m b (k+d+1)=some w
  unfold V0
  rw [ih]
theorem JG {w b:Nat} {k n:Nat} (h:Xt m k=some (w,b)) (hn:k<=n):Xt m n=some (w,b):=by
 obtain ⟨d,rfl⟩:∃ d,n=k+d:=⟨n-k,by omega⟩
 clear hn
 induction d with
 | zero=>exact h
 | succ d ih=>
  show Xt m (k+d+1)=some (w,b)
  unfold Xt
  rw [ih]
theorem FI {w b:Nat} {k n:Nat} (h:Wo m w k=some b) (hn:k<=n):Wo m w n=some b:=by
 obtain ⟨d,rfl⟩:∃ d,n=k+d:=⟨n-k,by omega⟩
 clear hn
 induction d with
 | zero=>exact h
 | succ d ih=>
  show Wo m w (k+d+1)=some b
  unfold Wo
  rw [ih]
theorem EA {w b:Nat} {k n:Nat} (h:UH m k=some (w,b)) (hn:k<=n):UH m n=some (w,b):=by
 obtain ⟨d,rfl⟩:∃ d,n=k+d:=⟨n-k,by omega⟩
 clear hn
 induction d with
 | zero=>exact h
 | succ d ih=>
  show UH m (k+d+1)=some (w,b)
  unfold UH
  rw [ih]
end Go.Proofs.YtjhijildaceadaaGreatDoor
