/- Part 13 of what the proof rests on. No condition but those that a theorem names. -/
import Derived.Test.YtlcpgkakdieeaaaGreatXk07
import Derived.Test.YtlcpgkakdieeaaaGreatXk09
import Derived.Test.YtlcpgkakdieeaaaGreatXk10
import Derived.Test.YtlcpgkakdieeaaaGreatXk11
set_option maxHeartbeats 8000000
set_option maxRecDepth 100000
namespace Go.Proofs.YtlcpgkakdieeaaaGreat
open Go.ChangeShapes Go.WideShapes Go.ChangeAt Go.RowKit Go.Sort
set_option linter.unusedVariables false
structure Z6 where
 rm:List ZW
 gd:List Zv
 sm:List Z2
 dk:List Yd
 pc:List Int
 now:Int
structure Smy (w:World) (v0 v1 v2 v3 v4:Value) (m:Z6):Prop where
 rm:IsRooms w v0 m.rm
 gd:X8 w v1 m.gd
 sm:Xy w v2 m.sm
 dk:UY w v3 m.dk
 pc:PT w v4 m.pc
theorem Smy.below {w w':World} {v0 v1 v2 v3 v4:Value} {m:Z6} (h:Smy w v0 v1 v2 v3 v4 m) (hb:Below w.heap.size w w'):Smy w' v0 v1 v2 v3 v4 m:=
 ⟨h.rm.below hb,h.gd.below hb,h.sm.below hb,h.dk.below hb,h.pc.below hb⟩
theorem Smy.alloc {w:World} {v0 v1 v2 v3 v4:Value} {m:Z6} (h:Smy w v0 v1 v2 v3 v4 m) (o:Obj):Smy (w.alloc o) v0 v1 v2 v3 v4 m:=h.below ((ba _ _))
theorem RecAt.set_old {α:Type} {t k:Nat} {enc:α->List Value} {n₀:Nat} {w:World} {v:Value} {xs:List α} (h:RecAt t k enc n₀ w v xs) (g o:Nat) (u:Value) (hg:g<n₀):RecAt t k enc n₀ (w.setCell ⟨g,o,none⟩ u) v xs:=
 h.same fun i hi=>heap_setCell_other w _ i u (by have:=(h.lt hi).1;show i ≠ g;omega)
abbrev E6:Array Value:=#[.slice none 0 0,.slice none 0 0,.slice none 0 0,.slice none 0 0,.slice none 0 0,.int .i64 0]
abbrev S6 (a0:Option Addr) (p0:Nat) (a1:Option Addr) (p1:Nat) (a2:Option Addr) (p2:Nat) (a3:Option Addr) (p3:Nat) (a4:Option Addr) (p4:Nat) (m:Z6):Array Value:=#[.slice a0 m.rm.length p0,.slice a1 m.gd.length p1,.slice a2 m.sm.length p2,.slice a3 m.dk.length p3,.slice a4 m.pc.length p4,.int .i64 m.now]
theorem Smy.five {w:World} {v0 v1 v2 v3 v4:Value} {m:Z6} (h:Smy w v0 v1 v2 v3 v4 m):∃ a0 p0 a1 p1 a2 p2 a3 p3 a4 p4,v0= .slice a0 m.rm.length p0/\v1= .slice a1 m.gd.length p1/\v2= .slice a2 m.sm.length p2/\v3= .slice a3 m.dk.length p3/\v4= .slice a4 m.pc.length p4/\m.rm.length<=p0/\p0<=9223372036854775807/\m.gd.length<=p1/\p1<=9223372036854775807/\m.sm.length<=p2/\p2<=9223372036854775807/\m.dk.length<=p3/\p3<=9223372036854775807/\m.pc.length<=p4/\p4<=9223372036854775807:=by
 obtain ⟨a0,p0,e0,x0,y0,_⟩:=h.rm;obtain ⟨a1,p1,e1,x1,y1,_⟩:=h.gd;obtain ⟨a2,p2,e2,x2,y2,_⟩:=h.sm;obtain ⟨a3,p3,e3,x3,y3,_⟩:=h.dk;obtain ⟨a4,p4,e4,x4,y4,_⟩:=h.pc;exact ⟨a0,p0,a1,p1,a2,p2,a3,p3,a4,p4,e0,e1,e2,e3,e4,x0,y0,x1,y1,x2,y2,x3,y3,x4,y4⟩
def ZQ (s:Z2):Bool:=s.1 ==2 || s.1 ==3
def Xa (had XR:Int):Bool:=inB had (-1000000000000) 1000000000000 && (inB XR (-1000000000000) 1000000000000 && inB (had-XR) (-20000) 63000)
def VK (d:Yd):Bool:=inB d.2.2 (-900000000000) 900000000000
def Wu (m:Z6) (j:Nat):Bool:=inB (Z8 m.pc j) 0 (((ZR m.rm j).2.length:Int)-1)
def Yh (m:Z6) (s:Z2):Bool:=Zt s && (s.1 ==0 || (decide (s.2.2.2.2.1<m.gd.length) && decide (s.2.1<m.dk.length)))
def X9 (m:Z6) (s:Z2):Bool:= !ZQ s || ((Z8 m.dk s.2.1.toNat).1 && (Wc s.2.2.2.1 s.2.1 && Xa s.2.2.2.2.2.2.2.1 (Z8 m.dk s.2.1.toNat).2.2))
def YO (m:Z6):Bool:=Y1 m.rm && (Zl m.gd && (decide (m.sm.length<=12) && (decide ((m.dk.length:Int)=ZU m.rm) && (decide (m.pc.length=m.rm.length) && inB m.now 0 1000000))))
def Vv (m:Z6) (k:Nat):Bool:=(List.range k).all fun j=>VK (Z8 m.dk j)
def Uj (m:Z6) (k:Nat):Bool:=(List.range k).any fun j=>(Z8 m.dk j).1
def V9 (m:Z6) (k:Nat):Bool:=(List.range k).all fun j=>Wu m j
def Wa (m:Z6) (k:Nat):Bool:=(List.range k).all fun j=>Yh m (Z8 m.sm j) && X9 m (Z8 m.sm j)
def YL (m:Z6):Bool:=YO m && (Vv m m.dk.length && (V9 m m.pc.length && (Wa m m.sm.length && Uj m m.dk.length)))
theorem Uc {p:Nat->Bool} (k:Nat):(List.range (k+1)).all p=((List.range k).all p && p k):=by rw [List.range_succ,List.all_append];simp
theorem Cg {p:Nat->Bool} (k:Nat):(List.range (k+1)).any p=((List.range k).any p || p k):=by rw [List.range_succ,List.any_append];simp
theorem Ri {p:Nat->Bool} {k n:Nat} (hk:k<n) (h:p k=false):(List.range n).all p=false:=by
 rw [List.all_eq_false];exact ⟨k,List.mem_range.2 hk,by simp [h]⟩
theorem Ky {p:Nat->Bool} {k n:Nat} (h:(List.range n).all p=true) (hk:k<n):p k=true:=List.all_eq_true.1 h k (List.mem_range.2 hk)
theorem Wj {m:Z6} (h:YO m=false):YL m=false:=by unfold YL;rw [h];rfl
theorem Jl {m:Z6} {k:Nat} (hk:k<m.dk.length) (h:VK (Z8 m.dk k)=false):YL m=false:=by
 unfold YL Vv;rw [Ri hk h];simp
theorem Jm {m:Z6} {k:Nat} (hk:k<m.pc.length) (h:Wu m k=false):YL m=false:=by
 unfold YL V9;rw [Ri (p:=fun j=>Wu m j) hk h];simp
theorem KY {m:Z6} {k:Nat} (hk:k<m.sm.length) (h:(Yh m (Z8 m.sm k) && X9 m (Z8 m.sm k))=false):YL m=false:=by
 unfold YL Wa;rw [Ri (p:=fun j=>Yh m (Z8 m.sm j) && X9 m (Z8 m.sm j)) hk h];simp
theorem Gx {m:Z6} (h1:YO m=true) (h2:Vv m m.dk.length=true) (h3:V9 m m.pc.length=true) (h4:Wa m m.sm.length=true):YL m=Uj m m.dk.length:=by
 unfold YL;rw [h1,h2,h3,h4];rfl
theorem I4 {m:Z6} {s:Z2} (h:Yh m s=true) (hp:ZQ s=true):0<=s.2.1/\s.2.1<m.dk.length/\s.2.1<=7/\1<=s.2.2.2.1/\s.2.2.2.1<=255/\s.2.2.2.2.1<m.gd.length:=by
 obtain ⟨st,be,rk,my,gu,lo,hi,hd,ca,ut,wk⟩:=s
 have hst:st ≠ 0:=by
  intro e;subst e;cases hp
 unfold Yh at h;simp only [ZP,Bool.or_eq_true,Zc] at h;obtain ⟨h1,h2⟩:=h
 rcases h2 with h2 | ⟨h2,h3⟩
 ·exact absurd (by simpa using h2) hst
 ·have hs:Zt (st,be,rk,my,gu,lo,hi,hd,ca,ut,wk)=YY (st,be,rk,my,gu,lo,hi,hd,ca,ut,wk):=by unfold Zt;rw [Sj hst,Bool.false_or]
  rw [hs] at h1;obtain ⟨_,⟨b0,b1⟩,_,⟨m0,m1⟩,_⟩:=Zd h1;exact ⟨b0,h3,b1,m0,m1,h2⟩
def XS (ss:List Z2) (b:Int):Nat->Option (Int × Bool)
 | 0=>some (-1,false)
 | k+1=>match XS ss b k with
  | none=>none
  | some (wk,wt)=>if (Z8 ss k).2.1=b/\ZQ (Z8 ss k)=true then (if (Z8 ss k).1=2 then some (wk,true) else if 0<=wk then none else some ((k:Int),wt)) else some (wk,wt)
def Yq (m:Z6) (b:Nat):Bool:=match XS m.sm b m.sm.length with
 | none=>false
 | some (wk,wt)=>(Z8 m.dk b).2.1 ==wk && !(wt && decide (wk<0))
def ZI (m:Z6):Bool:=YL m && (List.range m.dk.length).all (Yq m)
def atV (ss:List Z2) (b:Int):Nat->List Z4
 | 0=>[]
 | k+1=>if (Z8 ss k).2.1=b/\ZQ (Z8 ss k)=true then UO (atV ss b k) ((Z8 ss k).2.2.2.2.2.2.2.1,(k:Int)) else atV ss b k
theorem S9 (ss:List Z2) (b:Int):∀ k,(atV ss b k).length<=k
 | 0=>Z0 _
 | k+1=>by
  have:=S9 ss b k;unfold atV
  split
  ·rw [JL];omega
  ·omega
theorem Nf {ss:List Z2} {b:Int} {k:Nat} (h:¬ ((Z8 ss k).2.1=b/\ZQ (Z8 ss k)=true)):atV ss b (k+1)=atV ss b k:=by rw [atV,if_neg h]
theorem Qw {ss:List Z2} {b:Int} {k:Nat} (h1:(Z8 ss k).2.1=b) (h2:ZQ (Z8 ss k)=true):atV ss b (k+1)=UO (atV ss b k) ((Z8 ss k).2.2.2.2.2.2.2.1,(k:Int)):=by rw [atV,if_pos ⟨h1,h2⟩]
def Yz (m:Z6) (b:Int):Bool:=inB b 0 ((m.dk.length:Int)-1)
def UR (m:Z6) (b:Int):List Z4:=if ZI m && Yz m b then atV m.sm b m.sm.length else []
theorem Ds {m:Z6} (h:ZI m=true):m.sm.length<=12:=by
 unfold ZI YL YO at h;simp only [ZP,Zc] at h;exact h.1.1.2.2.1
def XK (s:Z2):Int:=s.2.2.2.2.2.2.2.1
theorem Db {ps:List Z4} {x e:Z4} : e ∈ UO ps x ↔ e ∈ ps\/e=x:=by
 rw [(RU ps x).mem_iff];simp
theorem XO (ss:List Z2) (b:Int) (e:Z4):∀ k,e ∈ atV ss b k ↔ ∃ i:Nat,i<k/\(Z8 ss i).2.1=b/\ZQ (Z8 ss i)=true/\e=(XK (Z8 ss i),(i:Int))
 | 0=>by simp [atV]
 | k+1=>by
  have ih:=XO ss b e k;by_cases h:(Z8 ss k).2.1=b/\ZQ (Z8 ss k)=true
  ·rw [Qw h.1 h.2,Db,ih]
   constructor
   ·rintro (⟨i,hi,h1,h2,h3⟩ | h3)
    ·exact ⟨i,by omega,h1,h2,h3⟩
    ·exact ⟨k,by omega,h.1,h.2,h3⟩
   ·rintro ⟨i,hi,h1,h2,h3⟩
    by_cases hik:i=k
    ·subst hik;exact .inr h3
    ·exact .inl ⟨i,by omega,h1,h2,h3⟩
  ·rw [Nf h,ih]
   constructor
   ·rintro ⟨i,hi,h1,h2,h3⟩
    exact ⟨i,by omega,h1,h2,h3⟩
   ·rintro ⟨i,hi,h1,h2,h3⟩
    by_cases hik:i=k
    ·subst hik;exact absurd ⟨h1,h2⟩ h
    ·exact ⟨i,by omega,h1,h2,h3⟩
theorem OW (ss:List Z2) (b:Int):∀ k,Ris (atV ss b k)
 | 0=>List.Pairwise.nil
 | k+1=>by
  by_cases h:(Z8 ss k).2.1=b/\ZQ (Z8 ss k)=true
  ·rw [Qw h.1 h.2];exact JM (OW ss b k) _
  ·rw [Nf h];exact OW ss b k
theorem TE (ss:List Z2) (b:Int):∀ k,(atV ss b k).Pairwise fun x y=>x.2 ≠ y.2
 | 0=>List.Pairwise.nil
 | k+1=>by
  by_cases h:(Z8 ss k).2.1=b/\ZQ (Z8 ss k)=true
  ·rw [Qw h.1 h.2]
   refine (RU (atV ss b k) _).symm.pairwise ?_ (fun h=>Ne.symm h);rw [List.pairwise_append];refine ⟨TE ss b k,by simp,fun x hx y hy=> ?_⟩;obtain rfl:y=_:=by simpa using hy
   obtain ⟨i,hi,_,_,rfl⟩:=(XO ss b x k).1 hx;show (i:Int) ≠ (k:Int);omega
  ·rw [Nf h];exact TE ss b k
def Alike (ss ss':List Z2) (k:Nat):Prop:= ∀ i,i<k->(Z8 ss' i).2.1=(Z8 ss i).2.1/\ZQ (Z8 ss' i)=ZQ (Z8 ss i)/\XK (Z8 ss' i)=XK (Z8 ss i)
theorem PV {ss ss':List Z2} (b:Int):∀ k,Alike ss ss' k->atV ss' b k=atV ss b k
 | 0,_=>rfl
 | k+1,h=>by
  have ih:=PV b k (fun i hi=>h i (by omega));obtain ⟨h1,h2,h3⟩:=h k (by omega);unfold atV;rw [h1,h2,ih,show (Z8 ss' k).2.2.2.2.2.2.2.1=(Z8 ss k).2.2.2.2.2.2.2.1 from h3]
def Xm (ss:List Z2) (b:Int):Int:=match atV ss b ss.length with
 | []=> -1
 | h::_=>h.2
theorem Tc {ss:List Z2} {b:Int} {e:Z4} {t:List Z4} (h:atV ss b ss.length=e::t):Xm ss b=e.2/\ ∃ i:Nat,i<ss.length/\(Z8 ss i).2.1=b/\ZQ (Z8 ss i)=true/\e=(XK (Z8 ss i),(i:Int)):=by
 refine ⟨by unfold Xm;rw [h],?_⟩;exact (XO ss b e ss.length).1 (by rw [h];simp)
theorem Py {ss:List Z2} {b:Int} {e:Z4} {t:List Z4} (h:atV ss b ss.length=e::t) {i:Nat} (hi:i<ss.length) (h1:(Z8 ss i).2.1=b) (h2:ZQ (Z8 ss i)=true):e.1<=XK (Z8 ss i):=by
 have hm:(XK (Z8 ss i),(i:Int)) ∈ atV ss b ss.length:=(XO ss b _ ss.length).2 ⟨i,hi,h1,h2,rfl⟩;have hr:=OW ss b ss.length;rw [h] at hm hr
 rcases List.mem_cons.1 hm with he | ht
 ·rw [<-he];exact Int.le_refl _
 ·have:=(List.pairwise_cons.1 hr).1 _ ht
  rw [LR] at this;simp only at this;omega
def stS (s:Z2) (st:Int):Z2:=(st,s.2)
def ZF (ss:List Z2) (q:List Z4):List Z2:=q.foldl (fun ss e=>ss.set e.2.toNat (stS (Z8 ss e.2.toNat) 2)) ss
theorem Rc (ss:List Z2) (q:List Z4) (e:Z4):ZF ss (q++[e])=(ZF ss q).set e.2.toNat (stS (Z8 (ZF ss q) e.2.toNat) 2):=by
  unfold ZF;rw [List.foldl_append];rfl
theorem XW (q:List Z4):∀ ss:List Z2,(ZF ss q).length=ss.length:=by
  induction q with
  | nil=>intro ss;rfl
  | cons e q ih=>intro ss;show (ZF (ss.set e.2.toNat (stS (Z8 ss e.2.toNat) 2)) q).length=_;rw [ih,Wz]
theorem Rx (q:List Z4):∀ (ss:List Z2) (i:Nat),(∀ e ∈ q,0<=e.2/\e.2<ss.length)->((∃ e ∈ q,e.2=(i:Int))->Z8 (ZF ss q) i=stS (Z8 ss i) 2)/\((∀ e ∈ q,e.2 ≠ (i:Int))->Z8 (ZF ss q) i=Z8 ss i):=by
  induction q with
  | nil=>
    intro ss i h;exact ⟨fun ⟨e,he,_⟩=>(List.not_mem_nil he).elim,fun _=>rfl⟩
  | cons e q ih=>
    intro ss i h;obtain ⟨e0,e1⟩:=h e (by simp);have hs:=ZD (x:=stS (Z8 ss e.2.toNat) 2) (show e.2.toNat<ss.length by omega) i;obtain ⟨i1,i2⟩:=ih (ss.set e.2.toNat (stS (Z8 ss e.2.toNat) 2)) i (fun x hx=>by rw [Wz];exact h x (List.mem_cons_of_mem _ hx));show ((∃ x ∈ e::q,x.2=(i:Int))->Z8 (ZF (ss.set e.2.toNat (stS (Z8 ss e.2.toNat) 2)) q) i=_)/\((∀ x ∈ e::q,x.2 ≠ (i:Int))->Z8 (ZF (ss.set e.2.toNat (stS (Z8 ss e.2.toNat) 2)) q) i=_)
    constructor
    · rintro ⟨x,hx,hxi⟩
      by_cases hq:∃ y ∈ q,y.2=(i:Int)
      · rw [i1 hq,hs]
        split
        · rename_i he;rw [he];rfl
        · rfl
      · rw [i2 (fun y hy e=>hq ⟨y,hy,e⟩),hs]
        rcases List.mem_cons.1 hx with rfl | hx
        · rw [if_pos (by omega)]
          rw [show x.2.toNat=i by omega]
        · exact absurd ⟨x,hx,hxi⟩ hq
    · intro hn
      rw [i2 (fun y hy=>hn y (List.mem_cons_of_mem _ hy)),hs,if_neg];have:=hn e (by simp);omega
def Xe (ss:List Z2) (b:Int) (d:Yd):Yd:=match atV ss b ss.length with
  | []=>(d.1,-1,d.2.2)
  | e::_=>(d.1,e.2,Zz d.2.2 e.1)
def Xw (m:Z6) (b:Nat):Z6:=match atV m.sm b m.sm.length with
  | []=>{ m with dk:=m.dk.set b ((Z8 m.dk b).1,-1,(Z8 m.dk b).2.2) }
  | e::t=>{ m with sm:=(ZF m.sm (e::t)).set e.2.toNat (stS (Z8 (ZF m.sm (e::t)) e.2.toNat) 3),dk:=m.dk.set b ((Z8 m.dk b).1,e.2,Zz (Z8 m.dk b).2.2 e.1) }
def Zk (m:Z6):Nat->Z6
  | 0=>m
  | k+1=>Xw (Zk m k) k
def ZJ (m:Z6):Z6:=Zk m m.dk.length
theorem HH (m:Z6) (b:Nat):(Xw m b).rm=m.rm/\(Xw m b).gd=m.gd/\(Xw m b).pc=m.pc/\(Xw m b).now=m.now/\(Xw m b).sm.length=m.sm.length/\(Xw m b).dk.length=m.dk.length:=by
  unfold Xw
  split
  · simp
  · simp [XW]
theorem Zx (m:Z6):∀ k,(Zk m k).rm=m.rm/\(Zk m k).gd=m.gd/\(Zk m k).pc=m.pc/\(Zk m k).now=m.now/\(Zk m k).sm.length=m.sm.length/\(Zk m k).dk.length=m.dk.length
  | 0=>⟨rfl,rfl,rfl,rfl,rfl,rfl⟩
  | k+1=>by
    obtain ⟨h1,h2,h3,h4,h5,h6⟩:=Zx m k;obtain ⟨g1,g2,g3,g4,g5,g6⟩:=HH (Zk m k) k;exact ⟨g1.trans h1,g2.trans h2,g3.trans h3,g4.trans h4,g5.trans h5,g6.trans h6⟩
theorem PN (m : Z6) (b : Nat) {i : Nat} (hi : i < m.sm.length) : Z8 (Xw m b).sm i = if (Z8 m.sm i).2.1 = (b : Int) ∧ ZQ (Z8 m.sm i) = true then stS (Z8 m.sm i) (if Xm m.sm b = (i : Int) then 3 else 2) else Z8 m.sm i := by
  have hq := XO m.sm (b : Int)
  have hf : Xm m.sm (b : Int) = match atV m.sm (b : Int) m.sm.length with
    | [] => -1
    | h :: _ => h.2 := rfl
  unfold Xw
  split
  · rename_i h0
    rw [if_neg];intro hp;have := (hq (XK (Z8 m.sm i), (i : Int)) m.sm.length).2 ⟨i, hi, hp.1, hp.2, rfl⟩;rw [h0] at this;exact List.not_mem_nil this
  · rename_i e t h0
    rw [h0] at hf;simp only at hf
    have hin : ∀ x ∈ e :: t, 0 ≤ x.2 ∧ x.2 < m.sm.length := by
      intro x hx;rw [← h0] at hx;obtain ⟨j, hj, _, _, rfl⟩ := (hq x _).1 hx;exact ⟨by show (0 : Int) ≤ (j : Int); omega, by show (j : Int) < _; omega⟩
    obtain ⟨w1, w2⟩ := Rx (e :: t) m.sm i hin;obtain ⟨e0, e1⟩ := hin e (by simp);show Z8 ((ZF m.sm (e :: t)).set e.2.toNat _) i = _;rw [ZD (by rw [XW]; omega)];by_cases hp : (Z8 m.sm i).2.1 = (b : Int) ∧ ZQ (Z8 m.sm i) = true
    · have hmem : (XK (Z8 m.sm i), (i : Int)) ∈ e :: t := by rw [← h0]; exact (hq _ _).2 ⟨i, hi, hp.1, hp.2, rfl⟩
      rw [if_pos hp, hf];by_cases hie : i = e.2.toNat
      · rw [if_pos hie, if_pos (by omega), ← hie, w1 ⟨_, hmem, rfl⟩]
        rfl
      · rw [if_neg hie, if_neg (by omega), w1 ⟨_, hmem, rfl⟩]
    · have hnm : ∀ x ∈ e :: t, x.2 ≠ (i : Int) := by
        intro x hx hxi;rw [← h0] at hx;obtain ⟨j, hj, j1, j2, rfl⟩ := (hq x _).1 hx
        have : j = i := by have : (j : Int) = (i : Int) := hxi
                           omega
        subst this;exact hp ⟨j1, j2⟩
      rw [if_neg hp, if_neg (by have := hnm e (by simp); omega), w2 hnm]
theorem G9 (m:Z6) {b:Nat} (hb:b<m.dk.length) (j:Nat):Z8 (Xw m b).dk j=if j=b then Xe m.sm b (Z8 m.dk b) else Z8 m.dk j:=by
  have hf:Xe m.sm (b:Int) (Z8 m.dk b)=match atV m.sm (b:Int) m.sm.length with
    | []=>((Z8 m.dk b).1,-1,(Z8 m.dk b).2.2)
    | e::_=>((Z8 m.dk b).1,e.2,Zz (Z8 m.dk b).2.2 e.1):=rfl
  unfold Xw
  split
  · rename_i h0
    rw [h0] at hf;rw [hf,<-ZD hb]
  · rename_i e t h0
    rw [h0] at hf;rw [hf,<-ZD hb]
theorem J5 (m:Z6) (b:Nat):Alike m.sm (Xw m b).sm m.sm.length:=by
  intro i hi;rw [PN m b hi]
  split
  · rename_i hp
    refine ⟨rfl,?_,rfl⟩;rw [hp.2]
    split<;>rfl
  · exact ⟨rfl,rfl,rfl⟩
theorem Alike.trans {a b c:List Z2} {k:Nat} (h:Alike a b k) (g:Alike b c k):Alike a c k:=fun i hi=>⟨(g i hi).1.trans (h i hi).1,(g i hi).2.1.trans (h i hi).2.1,(g i hi).2.2.trans (h i hi).2.2⟩
theorem W7 (m:Z6):∀ k,Alike m.sm (Zk m k).sm m.sm.length
  | 0=>fun _ _=>⟨rfl,rfl,rfl⟩
  | k+1=>by
    have h:=J5 (Zk m k) k;rw [(Zx m k).2.2.2.2.1] at h;exact (W7 m k).trans h
theorem R1 (m:Z6) (k:Nat) (b:Int):atV (Zk m k).sm b (Zk m k).sm.length=atV m.sm b m.sm.length:=by
  rw [(Zx m k).2.2.2.2.1];exact PV b _ (W7 m k)
theorem J6 (m:Z6) (k:Nat) (b:Int):Xm (Zk m k).sm b=Xm m.sm b:=by unfold Xm;rw [R1]
theorem MZ (m:Z6) (k:Nat) (b:Int) (d:Yd):Xe (Zk m k).sm b d=Xe m.sm b d:=by unfold Xe;rw [R1]
theorem XV (m:Z6) {i:Nat} (hi:i<m.sm.length):∀ k:Nat,Z8 (Zk m k).sm i=if (0<=(Z8 m.sm i).2.1/\(Z8 m.sm i).2.1<(k:Int))/\ZQ (Z8 m.sm i)=true then stS (Z8 m.sm i) (if Xm m.sm (Z8 m.sm i).2.1=(i:Int) then 3 else 2) else Z8 m.sm i
  | 0=>by rw [if_neg (by omega)];rfl
  | k+1=>by
    have ih:=XV m hi k;have ha:=W7 m k i hi;show Z8 (Xw (Zk m k) k).sm i=_;rw [PN _ _ (by rw [(Zx m k).2.2.2.2.1];exact hi),ha.1,ha.2.1,J6];by_cases hp:ZQ (Z8 m.sm i)=true
    · by_cases hb:(Z8 m.sm i).2.1=(k:Int)
      · have hc:(0<=(Z8 m.sm i).2.1/\(Z8 m.sm i).2.1<((k+1:Nat):Int))/\ZQ (Z8 m.sm i)=true:=⟨by omega,hp⟩
        rw [if_pos ⟨hb,hp⟩,if_pos hc,ih,if_neg (by omega),hb]
      · rw [if_neg (fun h=>hb h.1),ih]
        by_cases hk:0<=(Z8 m.sm i).2.1/\(Z8 m.sm i).2.1<(k:Int)
        · have hc:(0<=(Z8 m.sm i).2.1/\(Z8 m.sm i).2.1<((k+1:Nat):Int))/\ZQ (Z8 m.sm i)=true:=⟨by omega,hp⟩
          rw [if_pos ⟨hk,hp⟩,if_pos hc]
        · rw [if_neg (fun h=>hk h.1),if_neg (fun h=>hk (by omega))]
    · rw [if_neg (fun h=>hp h.2),ih,if_neg (fun h=>hp h.2),if_neg (fun h=>hp h.2)]
theorem Wo (m:Z6) (j:Nat):∀ k:Nat,k<=m.dk.length->Z8 (Zk m k).dk j=if j<k then Xe m.sm j (Z8 m.dk j) else Z8 m.dk j
  | 0,_=>by rw [if_neg (by omega)];rfl
  | k+1,hk=>by
    have ih:=Wo m j k (by omega);show Z8 (Xw (Zk m k) k).dk j=_;rw [G9 _ (by rw [(Zx m k).2.2.2.2.2];omega)];by_cases hjk:j=k
    · subst hjk
      rw [if_pos rfl,if_pos (by omega),MZ,ih,if_neg (by omega)]
    · rw [if_neg hjk,ih]
      by_cases h:j<k
      · rw [if_pos h,if_pos (by omega)]
      · rw [if_neg h,if_neg (by omega)]
structure Loose (m:Z6):Prop where
  head:YO m=true
  desk:∀ j,j<m.dk.length->VK (Z8 m.dk j)=true
  pace:∀ j,j<m.pc.length->Wu m j=true
  here:∀ i,i<m.sm.length->Yh m (Z8 m.sm i)=true
  seat:∀ i,i<m.sm.length->X9 m (Z8 m.sm i)=true
  openD:∃ j,j<m.dk.length/\(Z8 m.dk j).1=true
theorem QO {m:Z6} (h:YL m=true):Loose m:=by
  unfold YL Vv V9 Wa Uj at h;simp only [ZP] at h;obtain ⟨h1,h2,h3,h4,h5⟩:=h;have h4':=fun i hi=>Ky h4 (k:=i) hi;simp only [ZP] at h4';obtain ⟨j,hj,ho⟩:=List.any_eq_true.1 h5;exact ⟨h1,fun j hj=>Ky h2 hj,fun j hj=>Ky h3 hj,fun i hi=>(h4' i hi).1,fun i hi=>(h4' i hi).2,j,List.mem_range.1 hj,ho⟩
theorem Loose.mk' {m:Z6} (h:Loose m):YL m=true:=by
  unfold YL Vv V9 Wa Uj;simp only [ZP];refine ⟨h.head,?_,?_,?_,?_⟩
  · exact List.all_eq_true.2 fun j hj=>h.desk j (List.mem_range.1 hj)
  · exact List.all_eq_true.2 fun j hj=>h.pace j (List.mem_range.1 hj)
  · exact List.all_eq_true.2 fun j hj=>by rw [h.here j (List.mem_range.1 hj),h.seat j (List.mem_range.1 hj)];rfl
  · obtain ⟨j,hj,ho⟩:=h.openD
    exact List.any_eq_true.2 ⟨j,List.mem_range.2 hj,ho⟩
theorem Loose.at {m:Z6} (h:Loose m) {i:Nat} (hi:i<m.sm.length) (hp:ZQ (Z8 m.sm i)=true):0<=(Z8 m.sm i).2.1/\(Z8 m.sm i).2.1<m.dk.length/\(Z8 m.dk (Z8 m.sm i).2.1.toNat).1=true/\Wc (Z8 m.sm i).2.2.2.1 (Z8 m.sm i).2.1=true/\Xa (XK (Z8 m.sm i)) (Z8 m.dk (Z8 m.sm i).2.1.toNat).2.2=true:=by
  obtain ⟨b0,b1,_⟩:=I4 (h.here i hi) hp;have hs:=h.seat i hi;unfold X9 at hs;rw [hp] at hs;simp only [Bool.not_true,Bool.false_or,ZP] at hs;exact ⟨b0,b1,hs.1,hs.2.1,hs.2.2⟩
theorem UA {had XR:Int} (h:Xa had XR=true) : -1000000000000<=had/\had<=1000000000000/\ -1000000000000<=XR/\XR<=1000000000000/\ -20000<=had-XR/\had-XR<=63000:=by
  unfold Xa at h;simp only [ZP] at h;have h1:=ZN h.1;have h2:=ZN h.2.1;have h3:=ZN h.2.2;omega
theorem OX {had XR:Int} (h0 : -1000000000000<=had) (h1:had<=1000000000000) (h2 : -1000000000000<=XR) (h3:XR<=1000000000000) (h4 : -20000<=had-XR) (h5:had-XR<=63000):Xa had XR=true:=by
  unfold Xa;rw [Zo h0 h1,Zo h2 h3,Zo h4 h5];rfl
theorem Sg {d:Yd} (h:VK d=true) : -900000000000<=d.2.2/\d.2.2<=900000000000:=ZN h
theorem EN {s:Z2} {st:Int} (h:Zt s=true) (hp:ZQ s=true) (h0:1<=st) (h1:st<=3):Zt (stS s st)=true:=by
  obtain ⟨x0,be,rk,my,gu,lo,hi,hd,ca,ut,wk⟩:=s;have hx:x0 ≠ 0:=by intro e;subst e;cases hp
  unfold Zt at h ⊢;rw [Sj (x:=(x0,be,rk,my,gu,lo,hi,hd,ca,ut,wk)) hx,Bool.false_or] at h;unfold YY at h;simp only [ZP] at h;obtain ⟨g0,g⟩:=h
  have:YY (stS (x0,be,rk,my,gu,lo,hi,hd,ca,ut,wk) st)=true:=by
    unfold YY stS;simp only [ZP];exact ⟨Zo h0 h1,g⟩
  rw [this,Bool.or_true]
theorem NC {m:Z6} {s:Z2} {st:Int} (h:Yh m s=true) (hp:ZQ s=true) (h0:1<=st) (h1:st<=3):Yh m (stS s st)=true:=by
  unfold Yh at h ⊢;simp only [ZP,Bool.or_eq_true] at h ⊢;refine ⟨EN h.1 hp h0 h1,.inr ?_⟩
  rcases h.2 with e | e
  · have:s.1=0:=by simpa using e
    unfold ZQ at hp;rw [this] at hp;cases hp
  · exact e
theorem WW {m m':Z6} (hg:m'.gd.length=m.gd.length) (hd:m'.dk.length=m.dk.length) (s:Z2):Yh m' s=Yh m s:=by unfold Yh;rw [hg,hd]
theorem H8 {m:Z6} (h:Loose m):Loose (ZJ m):=by
  obtain ⟨e1,e2,e3,e4,e5,e6⟩:=Zx m m.dk.length;have hd:=fun j=>Wo m j m.dk.length (Z0 _)
  have hopen:∀ j,(Z8 (ZJ m).dk j).1=(Z8 m.dk j).1:=by
    intro j;unfold ZJ;rw [hd j]
    split
    · unfold Xe;split<;>rfl
    · rfl
  have hmark:∀ j,j<m.dk.length->(-900000000000<=(Z8 (ZJ m).dk j).2.2/\(Z8 (ZJ m).dk j).2.2<=900000000000)/\(Z8 m.dk j).2.2<=(Z8 (ZJ m).dk j).2.2/\((Z8 (ZJ m).dk j).2.2<=(Z8 m.dk j).2.2\/ ∀ i,i<m.sm.length->(Z8 m.sm i).2.1=(j:Int)->ZQ (Z8 m.sm i)=true->(Z8 (ZJ m).dk j).2.2<=XK (Z8 m.sm i)):=by
    intro j hj;obtain ⟨k0,k1⟩:=Sg (h.desk j hj);unfold ZJ;rw [hd j,if_pos hj];unfold Xe
    split
    · exact ⟨⟨k0,k1⟩,Int.le_refl _,.inl (Int.le_refl _)⟩
    · rename_i e t hq
      obtain ⟨_,i,hi,hib,hip,rfl⟩:=Tc hq;obtain ⟨_,_,_,_,hband⟩:=h.at hi hip;obtain ⟨a0,a1,_⟩:=UA hband;have hm:=LU (m:=(Z8 m.dk j).2.2) (f:=XK (Z8 m.sm i)) (by omega) (by omega) a0 a1;show (-900000000000<=Zz _ _/\Zz _ _<=900000000000)/\_<=Zz _ _/\(Zz _ _<=_\/_)
      rw [hm];refine ⟨by omega,by omega,?_⟩;by_cases hc:XK (Z8 m.sm i)<=(Z8 m.dk j).2.2
      · left;omega
      · right
        intro i' hi' hb' hp';have:=Py hq hi' hb' hp';simp only at this;show min (max (Z8 m.dk j).2.2 (XK (Z8 m.sm i))) 900000000000<=_;omega
  refine ⟨?_,?_,?_,?_,?_,?_⟩
  · have:=h.head
    unfold YO at this ⊢;unfold ZJ;rw [e1,e2,e3,e4,e5,e6];exact this
  · intro j hj
    have hj':j<m.dk.length:=by unfold ZJ at hj;omega
    exact Zo (hmark j hj').1.1 (hmark j hj').1.2
  · intro j hj
    have hj':j<m.pc.length:=by unfold ZJ at hj;rw [e3] at hj;exact hj
    have:=h.pace j hj';unfold Wu at this ⊢;unfold ZJ;rw [e1,e3];exact this
  · intro i hi
    have hi':i<m.sm.length:=by unfold ZJ at hi;omega
    rw [WW (m:=m) (by unfold ZJ;rw [e2]) (by unfold ZJ;rw [e6])];unfold ZJ;rw [XV m hi']
    split
    · rename_i hp
      exact NC (h.here i hi') hp.2 (by split<;>omega) (by split<;>omega)
    · exact h.here i hi'
  · intro i hi
    have hi':i<m.sm.length:=by unfold ZJ at hi;omega
    have ha:=W7 m m.dk.length i hi';unfold X9;show (!ZQ (Z8 (Zk m m.dk.length).sm i) || _)=true;rw [ha.2.1];cases hp:ZQ (Z8 m.sm i)
    · rfl
    · obtain ⟨b0,b1,ho,hm,hband⟩:=h.at hi' hp
      obtain ⟨a0,a1,a2,a3,a4,a5⟩:=UA hband;obtain ⟨⟨q0,q1⟩,q2,q3⟩:=hmark (Z8 m.sm i).2.1.toNat (by omega)
      have hmay:(Z8 (Zk m m.dk.length).sm i).2.2.2.1=(Z8 m.sm i).2.2.2.1:=by
        rw [XV m hi'];split<;>rfl
      show (!true || ((Z8 (ZJ m).dk (Z8 (Zk m m.dk.length).sm i).2.1.toNat).1 && (Wc (Z8 (Zk m m.dk.length).sm i).2.2.2.1 (Z8 (Zk m m.dk.length).sm i).2.1 && Xa (XK (Z8 (Zk m m.dk.length).sm i)) (Z8 (ZJ m).dk (Z8 (Zk m m.dk.length).sm i).2.1.toNat).2.2)))=true;rw [ha.1,ha.2.2,hmay,hopen,ho,hm];rw [OX a0 a1 (by omega) (by omega) ?_ (by omega)]
      · rfl
      · rcases q3 with q3 | q3
        · omega
        · have:=q3 i hi' (by omega) hp
          omega
  · obtain ⟨j,hj,ho⟩:=h.openD
    exact ⟨j,by unfold ZJ;omega,by rw [hopen];exact ho⟩
theorem FL {ss : List Z2} {b f : Int} : ∀ k : Nat, (∀ i, i < k → (Z8 ss i).2.1 = b → ZQ (Z8 ss i) = true → ((Z8 ss i).1 = 2 ∧ (i : Int) ≠ f) ∨ ((Z8 ss i).1 = 3 ∧ (i : Int) = f)) →
    ∃ wk wt, XS ss b k = some (wk, wt) ∧ ((wk = -1 ∧ ∀ i, i < k → (Z8 ss i).2.1 = b → ZQ (Z8 ss i) = true → (i : Int) ≠ f) ∨ (wk = f ∧ ∃ i : Nat, i < k ∧ (Z8 ss i).2.1 = b ∧ ZQ (Z8 ss i) = true ∧ (i : Int) = f)) ∧ (wt = true → ∃ i, i < k ∧ (Z8 ss i).2.1 = b ∧ ZQ (Z8 ss i) = true)
  | 0, _ => ⟨-1, false, rfl, .inl ⟨rfl, fun i hi => by omega⟩, fun h => by cases h⟩
  | k + 1, h => by
    obtain ⟨wk, wt, hs, hw, ht⟩ := FL k (fun i hi => h i (by omega))
    have hu : XS ss b (k + 1) = if (Z8 ss k).2.1 = b ∧ ZQ (Z8 ss k) = true then (if (Z8 ss k).1 = 2 then some (wk, true) else if 0 ≤ wk then none else some ((k : Int), wt)) else some (wk, wt) := by
      show (match XS ss b k with
        | none => none
        | some (wk, wt) => _) = _
      rw [hs]
    rw [hu];by_cases hp : (Z8 ss k).2.1 = b ∧ ZQ (Z8 ss k) = true
    · rw [if_pos hp]
      rcases h k (by omega) hp.1 hp.2 with ⟨h2, hne⟩ | ⟨h3, hkf⟩
      · rw [if_pos h2]
        refine ⟨wk, true, rfl, ?_, fun _ => ⟨k, by omega, hp.1, hp.2⟩⟩
        rcases hw with ⟨e, hn⟩ | ⟨e, i, hi, hb, hpi, hif⟩
        · refine .inl ⟨e, fun i hi hb hpi => ?_⟩
          by_cases hik : i = k
          · subst hik; exact hne
          · exact hn i (by omega) hb hpi
        · exact .inr ⟨e, i, by omega, hb, hpi, hif⟩
      · rw [if_neg (by omega)]
        have hw1 : wk = -1 := by
          rcases hw with ⟨e, _⟩ | ⟨e, i, hi, hb, hpi, hif⟩
          · exact e
          · omega
        rw [if_neg (by omega)];exact ⟨k, wt, rfl, .inr ⟨hkf, k, by omega, hp.1, hp.2, hkf⟩, fun e => by obtain ⟨i, hi, r⟩ := ht e; exact ⟨i, by omega, r⟩⟩
    · rw [if_neg hp]
      refine ⟨wk, wt, rfl, ?_, fun e => by obtain ⟨i, hi, r⟩ := ht e; exact ⟨i, by omega, r⟩⟩
      rcases hw with ⟨e, hn⟩ | ⟨e, i, hi, r⟩
      · refine .inl ⟨e, fun i hi hb hpi => ?_⟩
        by_cases hik : i = k
        · subst hik; exact absurd ⟨hb, hpi⟩ hp
        · exact hn i (by omega) hb hpi
      · exact .inr ⟨e, i, by omega, r⟩
theorem YR {m:Z6} (h:Loose m):ZI (ZJ m)=true:=by
  unfold ZI;rw [ZP];refine ⟨(H8 h).mk',?_⟩;obtain ⟨e1,e2,e3,e4,e5,e6⟩:=Zx m m.dk.length;refine List.all_eq_true.2 fun b hb=> ?_;have hb:=List.mem_range.1 hb;have hb':b<m.dk.length:=by unfold ZJ at hb;omega
  have hn:(ZJ m).sm.length=m.sm.length:=e5;have ha:=W7 m m.dk.length
  have hstate:∀ i,i<m.sm.length->(Z8 (ZJ m).sm i).2.1=(b:Int)->ZQ (Z8 (ZJ m).sm i)=true->((Z8 (ZJ m).sm i).1=2/\(i:Int) ≠ Xm m.sm b)\/((Z8 (ZJ m).sm i).1=3/\(i:Int)=Xm m.sm b):=by
    intro i hi hib hip;have hib':(Z8 m.sm i).2.1=(b:Int):=(ha i hi).1.symm.trans hib;have hip':ZQ (Z8 m.sm i)=true:=(ha i hi).2.1.symm.trans hip;unfold ZJ;rw [XV m hi,if_pos ⟨by omega,hip'⟩,hib'];by_cases hf:Xm m.sm (b:Int)=(i:Int)
    · right;rw [if_pos hf];exact ⟨rfl,hf.symm⟩
    · left;rw [if_neg hf];exact ⟨rfl,fun e=>hf e.symm⟩
  obtain ⟨wk,wt,hs,hw,ht⟩:=FL (b:=(b:Int)) (f:=Xm m.sm b) (ss:=(ZJ m).sm) m.sm.length hstate;unfold Yq;rw [hn,hs];simp only;have hdesk:=Wo m b m.dk.length (Z0 _);rw [if_pos hb'] at hdesk;cases hq:atV m.sm (b:Int) m.sm.length with
  | nil=>
    have hempty:∀ i,i<m.sm.length-> ¬ ((Z8 (ZJ m).sm i).2.1=(b:Int)/\ZQ (Z8 (ZJ m).sm i)=true):=by
      rintro i hi ⟨hib,hip⟩;have:=(XO m.sm (b:Int) (XK (Z8 m.sm i),(i:Int)) m.sm.length).2 ⟨i,hi,(ha i hi).1.symm.trans hib,(ha i hi).2.1.symm.trans hip,rfl⟩;rw [hq] at this;exact List.not_mem_nil this
    have hwt:wt=false:=by
      cases wt
      · rfl
      · obtain ⟨i,hi,r⟩:=ht rfl
        exact absurd r (hempty i hi)
    have hwk:wk= -1:=by
      rcases hw with ⟨e,_⟩ | ⟨_,i,hi,hb,hp,_⟩
      · exact e
      · exact absurd ⟨hb,hp⟩ (hempty i hi)
    have hwho:(Z8 (ZJ m).dk b).2.1= -1:=by
      unfold ZJ;rw [hdesk];unfold Xe;rw [hq]
    rw [hwho,hwk,hwt];rfl
  | cons e t=>
    obtain ⟨hfe,i,hi,hib,hip,rfl⟩:=Tc hq
    have hwho:(Z8 (ZJ m).dk b).2.1=(i:Int):=by
      unfold ZJ;rw [hdesk];unfold Xe;rw [hq]
    have hwk:wk=(i:Int):=by
      rcases hw with ⟨_,hn⟩ | ⟨e,_⟩
      · exact absurd hfe.symm (hn i hi ((ha i hi).1.trans hib) ((ha i hi).2.1.trans hip))
      · exact e.trans hfe
    rw [hwho,hwk];have:decide ((i:Int)<0)=false:=Xs (by omega);rw [this];simp
def Re (gs:List Zv) (s:Z2):Int:=min (max s.2.2.2.2.2.2.2.2.2.1 (U6 (bnd gs s.2.2.2.2.1) s.2.2.2.2.2.1 s.2.2.2.2.2.2.1).1) (U6 (bnd gs s.2.2.2.2.1) s.2.2.2.2.2.1 s.2.2.2.2.2.2.1).2
def Y8 (m:Z6) (who:Int):Int:=Re m.gd (Z8 m.sm who.toNat)
theorem DK (gs:List Zv) (s:Z2):0<=Re gs s/\Re gs s<=1024:=by
 obtain ⟨b0,b1,b2⟩:=AX gs s.2.2.2.2.1;obtain ⟨n0,n1,n2⟩:=FC (lo:=s.2.2.2.2.2.1) (hi:=s.2.2.2.2.2.2.1) b0 b1 b2;unfold Re;omega
theorem Ki (m:Z6) (who:Int):0<=Y8 m who/\Y8 m who<=1024:=DK _ _
def Uw (m:Z6) (but:Int) (q:List Z4):Int:=q.foldl (fun n e=>if e.2=but then n else n+Y8 m e.2) 0
theorem Ib (m:Z6) (but:Int) (q:List Z4) (e:Z4):Uw m but (q++[e])=if e.2=but then Uw m but q else Uw m but q+Y8 m e.2:=by
 unfold Uw;rw [List.foldl_append];rfl
theorem Ke (m:Z6) (but:Int):∀ (q:List Z4) (n:Int),0<=n->0<=q.foldl (fun n e=>if e.2=but then n else n+Y8 m e.2) n/\q.foldl (fun n e=>if e.2=but then n else n+Y8 m e.2) n<=n+1024*q.length
 | [],n,h=>⟨h,by simp⟩
 | e::q,n,h=>by
  have hw:=Ki m e.2;have ih:=Ke m but q (if e.2=but then n else n+Y8 m e.2) (by split<;>omega);refine ⟨ih.1,Int.le_trans ih.2 ?_⟩;simp only [YN,Int.natCast_add,Int.natCast_one]
  split<;>omega
theorem Kf (m:Z6) (but:Int) (q:List Z4):0<=Uw m but q/\Uw m but q<=1024*q.length:=by
 have:=Ke m but q 0 (by omega);unfold Uw;omega
def Xf (m:Z6) (b but:Int):Int:=Uw m but (atV m.sm b m.sm.length)
theorem Kg (m:Z6) (b but:Int):0<=Xf m b but/\Xf m b but<=1024*m.sm.length:=by
 have h:=Kf m but (atV m.sm b m.sm.length);have hl:=S9 m.sm b m.sm.length;unfold Xf;refine ⟨h.1,Int.le_trans h.2 ?_⟩;omega
def YU (m:Z6) (room:Int):Nat->Int × Int
 | 0=>(0,0)
 | k+1=>if (Xc m.rm k:Int)=room then ((if (Z8 m.dk k).1 then max (YU m room k).1 (Xf m k (-1)) else (YU m room k).1),(YU m room k).2+Xf m k (-1)) else YU m room k
theorem Qt (m:Z6) (room:Int) (hl:m.sm.length<=12):∀ k:Nat,(0<=(YU m room k).1/\(YU m room k).1<=12288)/\0<=(YU m room k).2/\(YU m room k).2<=12288*k
 | 0=>by simp [YU]
 | k+1=>by
  have ih:=Qt m room hl k;have hu:=Kg m k (-1);unfold YU
  split
  ·simp only
   constructor
   ·split<;>omega
   ·push_cast;omega
  ·push_cast;omega
def P0 (m:Z6) (room:Nat):Int:=KU (ZR m.rm room) (YU m room m.dk.length).1 (YU m room m.dk.length).2
def Uf (m:Z6):Nat->Int
 | 0=>0
 | k+1=>Uf m k+P0 m k
def KH (m:Z6):Int:=Uf m m.rm.length
theorem Lv (m:Z6):∀ k:Nat,-(k:Int)<=Uf m k/\Uf m k<=1024000000*k
 | 0=>by simp [Uf]
 | k+1=>by
  have ih:=Lv m k;have hc:=IE (ZR m.rm k) (Xl (ZR m.rm k) (YU m k m.dk.length).1) (YU m k m.dk.length).2;unfold Uf P0 KU
  push_cast
  omega
def Qv (s:Z2) (b:Int):Z2:=(2,b,s.2.2)
def SR (m:Z6) (who b:Int):Z6:={ m with sm:=m.sm.set who.toNat (Qv (Z8 m.sm who.toNat) b) }
def Ya (m:Z6) (who b:Int):Int:=KH (SR m who b)
def YA (m:Z6) (who:Int) (b:Nat):Bool:=(Z8 m.dk b).1 && Wc (Z8 m.sm who.toNat).2.2.2.1 b
def Lx (m:Z6) (who:Int) (b:Nat):Bool:=YA m who b && YG (Y8 m who) (Xf m b who) (Zw m.rm b)
def UC (m:Z6) (who:Int):Nat->List Int
 | 0=>[]
 | k+1=>if Lx m who k then UC m who k++[(k:Int)] else UC m who k
def XQ (m:Z6) (who:Int):List Int:=UC m who m.dk.length
theorem P2 (m:Z6) (who:Int):∀ k,(UC m who k).length<=k
 | 0=>Z0 _
 | k+1=>by
  have:=P2 m who k;unfold UC
  split
  ·simp;omega
  ·omega
theorem Ly (m:Z6) (who:Int) (x:Int):∀ k,x ∈ UC m who k ↔ ∃ b:Nat,b<k/\x=(b:Int)/\Lx m who b=true
 | 0=>by simp [UC]
 | k+1=>by
  have ih:=Ly m who x k;unfold UC
  split
  ·rename_i hf
   rw [List.mem_append,ih];constructor
   ·rintro (⟨b,hb,e,h⟩ | h)
    ·exact ⟨b,by omega,e,h⟩
    ·exact ⟨k,by omega,by simpa using h,hf⟩
   ·rintro ⟨b,hb,e,h⟩
    by_cases hbk:b=k
    ·subst hbk;right;simp [e]
    ·left;exact ⟨b,by omega,e,h⟩
  ·rename_i hf
   rw [ih];constructor
   ·rintro ⟨b,hb,e,h⟩
    exact ⟨b,by omega,e,h⟩
   ·rintro ⟨b,hb,e,h⟩
    by_cases hbk:b=k
    ·subst hbk;exact absurd h hf
    ·exact ⟨b,by omega,e,h⟩
def QE (m:Z6) (b:Nat):Bool:=(Z8 m.dk b).1 && N7 (Xf m b (-1)) (Zw m.rm b)
def Ve (m:Z6):Bool:=(List.range m.dk.length).any (QE m)
def UT (m:Z6) (who:Int) (a:Int × Int) (b:Int):Int × Int:=if Ya m who b<a.2\/(Ya m who b=a.2/\b=(Z8 m.sm who.toNat).2.1) then (b,Ya m who b) else a
def Xg (m:Z6) (who:Int) (f:List Int) (k:Nat):Int × Int:=((f.take k).drop 1).foldl (UT m who) (Z8 f 0,Ya m who (Z8 f 0))
def Xn (m:Z6) (who:Int):Nat->Int × Int
 | 0=>(-1,0)
 | k+1=>if YA m who k && (decide ((Xn m who k).1<0) || decide ((Xn m who k).2<Ui (Xf m k who) (Zw m.rm k))) then ((k:Int),Ui (Xf m k who) (Zw m.rm k)) else Xn m who k
def Ym (m:Z6) (who:Int):Int:=if !Ve m && decide (0<(XQ m who).length) then (Xg m who (XQ m who) (XQ m who).length).1 else (Xn m who m.dk.length).1
theorem Ix (m:Z6) (who:Int) (P:Int->Prop):∀ (f:List Int) (a:Int × Int),P a.1->(∀ x ∈ f,P x)->P (f.foldl (UT m who) a).1
 | [],a,h,_=>h
 | b::f,a,h,hf=>by
  refine Ix m who P f (UT m who a b) ?_ (fun x hx=>hf x (List.mem_cons_of_mem _ hx));unfold UT
  split
  ·exact hf b (by simp)
  ·exact h
theorem FB (m:Z6) (who:Int):∀ k:Nat,((Xn m who k).1= -1/\ ∀ b,b<k->YA m who b=false)\/ ∃ b:Nat,b<k/\(Xn m who k).1=(b:Int)/\YA m who b=true
 | 0=> .inl ⟨rfl,fun b hb=>by omega⟩
 | k+1=>by
  have ih:=FB m who k;unfold Xn
  split
  ·rename_i h
   simp only [ZP] at h;exact .inr ⟨k,by omega,rfl,h.1⟩
  ·rename_i h
   rcases ih with ⟨e,hn⟩ | ⟨b,hb,e,hm⟩
   ·refine .inl ⟨e,fun b hb=> ?_⟩
    by_cases hbk:b=k
    ·subst hbk
     cases hm:YA m who b
     ·rfl
     ·exfalso
      apply h;rw [hm,e];rfl
    ·exact hn b (by omega)
   ·exact .inr ⟨b,by omega,e,hm⟩
theorem UU (m:Z6) (who:Int):(Ym m who= -1/\ ∀ b,b<m.dk.length->YA m who b=false)\/ ∃ b:Nat,b<m.dk.length/\Ym m who=(b:Int)/\YA m who b=true:=by
 unfold Ym
 split
 ·rename_i h
  simp only [ZP,Zc] at h;right
  have hin:∀ x ∈ XQ m who,∃ b:Nat,b<m.dk.length/\x=(b:Int)/\YA m who b=true:=by
   intro x hx;obtain ⟨b,hb,e,hf⟩:=(Ly m who x m.dk.length).1 hx;unfold Lx at hf;simp only [ZP] at hf;exact ⟨b,hb,e,hf.1⟩
  unfold Xg;exact Ix m who (fun x=> ∃ b:Nat,b<m.dk.length/\x=(b:Int)/\YA m who b=true) _ _ (hin _ (RW h.2)) (fun x hx=>hin x (List.mem_of_mem_take (List.mem_of_mem_drop hx)))
 ·exact FB m who m.dk.length
theorem TS {st be rk my gu lo hi hd ca ut wk:Int} (h0:1<=st/\st<=3) (h1:0<=be/\be<=7) (h2:inB rk (-5) 5=true) (h3:1<=my/\my<=255) (h4 : -1<=gu/\gu<=5) (h5:Ys lo hi=true) (h6 : -1000000000000<=hd/\hd<=1000000000000) (h7:0<=ca/\ca<=Zm rk-1) (h8:0<=ut/\ut<=1024) (h9:0<=wk/\wk<=100000000000) :
  YY (st,be,rk,my,gu,lo,hi,hd,ca,ut,wk)=true:=by
 unfold YY;simp only [ZP];exact ⟨Zo h0.1 h0.2,Zo h1.1 h1.2,h2,Zo h3.1 h3.2,Zo h4.1 h4.2,h5,Zo h6.1 h6.2,Zo h7.1 h7.2,Zo h8.1 h8.2,Zo h9.1 h9.2⟩
theorem XB {m:Z6} {s:Z2} : Yh m s=true ↔ s=Ub\/(YY s=true/\s.2.2.2.2.1<m.gd.length/\s.2.1<m.dk.length):=by
 unfold Yh Zt;simp only [ZP,Bool.or_eq_true,Zc];constructor
 ·rintro ⟨hg | hp,hr⟩
  ·exact .inl (Vl hg)
  ·right
   refine ⟨hp,?_⟩
   rcases hr with e | e
   ·have:s.1=0:=by simpa using e
    rw [Og this] at hp;cases hp
   ·exact e
 ·rintro (rfl | ⟨hp,hr⟩)
  ·exact ⟨.inl Ga,.inl rfl⟩
  ·exact ⟨.inr hp,.inr hr⟩
theorem UX {m:Z6} {s:Z2} (h:ZQ s=false):X9 m s=true:=by unfold X9;rw [h];rfl
theorem O0 {m:Z6} {s:Z2} (h1:(Z8 m.dk s.2.1.toNat).1=true) (h2:Wc s.2.2.2.1 s.2.1=true) (h3:Xa (XK s) (Z8 m.dk s.2.1.toNat).2.2=true):X9 m s=true:=by
 unfold X9;rw [h1,h2,show s.2.2.2.2.2.2.2.1=XK s from rfl,h3];simp
theorem ZM {m:Z6} (h:ZI m=true):Loose m:=by
 unfold ZI at h;simp only [ZP] at h;exact QO h.1
def setS (m:Z6) (k:Nat) (s:Z2):Z6:={ m with sm:=m.sm.set k s }
theorem Loose.setS {m:Z6} (h:Loose m) {k:Nat} (hk:k<m.sm.length) {s:Z2} (h1:Yh m s=true) (h2:X9 m s=true):Loose (setS m k s):=by
 refine ⟨?_,h.desk,h.pace,?_,?_,h.openD⟩
 ·have:=h.head
  unfold YO at this ⊢;unfold Go.Proofs.YtlcpgkakdieeaaaGreat.setS;simpa using this
 ·intro i hi
  have hi':i<m.sm.length:=by unfold Go.Proofs.YtlcpgkakdieeaaaGreat.setS at hi;simpa using hi
  show Yh (Go.Proofs.YtlcpgkakdieeaaaGreat.setS m k s) (Z8 (m.sm.set k s) i)=true;rw [WW (m:=m) (m':=Go.Proofs.YtlcpgkakdieeaaaGreat.setS m k s) rfl rfl,ZD hk]
  split
  ·exact h1
  ·exact h.here i hi'
 ·intro i hi
  have hi':i<m.sm.length:=by unfold Go.Proofs.YtlcpgkakdieeaaaGreat.setS at hi;simpa using hi
  show X9 m (Z8 (m.sm.set k s) i)=true;rw [ZD hk]
  split
  ·exact h2
  ·exact h.seat i hi'
theorem VG {α:Type} [Inhabited α] (xs:List α) (x:α) (i:Nat):Z8 (xs++[x]) i=if i=xs.length then x else Z8 xs i:=by
 unfold Z8
 split
 ·rename_i h;subst h;simp [List.getD]
 ·rename_i h
  rcases Nat.lt_or_ge i xs.length with hi | hi
  ·simp [List.getD,List.getElem?_append_left hi]
  ·simp [List.getD,List.getElem?_append_right hi,List.getElem?_eq_none hi]
   rw [List.getElem?_eq_none (by simp;omega)];rfl
def pushS (m:Z6) (s:Z2):Z6:={ m with sm:=m.sm++[s] }
theorem Loose.pushS {m:Z6} (h:Loose m) (hl:m.sm.length<12) {s:Z2} (h1:Yh m s=true) (h2:X9 m s=true):Loose (pushS m s):=by
 refine ⟨?_,h.desk,h.pace,?_,?_,h.openD⟩
 ·have:=h.head
  unfold YO at this ⊢;unfold Go.Proofs.YtlcpgkakdieeaaaGreat.pushS;simp only [ZP,Zc] at this ⊢;refine ⟨this.1,this.2.1,?_,this.2.2.2⟩;simp;omega
 ·intro i hi
  have hi':i<m.sm.length+1:=by unfold Go.Proofs.YtlcpgkakdieeaaaGreat.pushS at hi;simpa using hi
  show Yh (Go.Proofs.YtlcpgkakdieeaaaGreat.pushS m s) (Z8 (m.sm++[s]) i)=true;rw [WW (m:=m) (m':=Go.Proofs.YtlcpgkakdieeaaaGreat.pushS m s) rfl rfl,VG]
  split
  ·exact h1
  ·exact h.here i (by omega)
 ·intro i hi
  have hi':i<m.sm.length+1:=by unfold Go.Proofs.YtlcpgkakdieeaaaGreat.pushS at hi;simpa using hi
  show X9 m (Z8 (m.sm++[s]) i)=true;rw [VG]
  split
  ·exact h2
  ·exact h.seat i (by omega)
def XR (m:Z6) (b:Int):Int:=(Z8 m.dk b.toNat).2.2
def Qn (s:Z2) (b had:Int):Z2:=(2,b,s.2.2.1,s.2.2.2.1,s.2.2.2.2.1,s.2.2.2.2.2.1,s.2.2.2.2.2.2.1,had,s.2.2.2.2.2.2.2.2)
def putS (m:Z6) (s:Z2) (b:Int):Z2:=(s.1,b,s.2.2.1,s.2.2.2.1,s.2.2.2.2.1,s.2.2.2.2.2.1,s.2.2.2.2.2.2.1,Zs (XK s) (XR m s.2.1) (XR m b),s.2.2.2.2.2.2.2.2)
def SE (s:Z2) (may:Int):Z2:=(s.1,s.2.1,s.2.2.1,may,s.2.2.2.2)
def CL (s:Z2) (lo hi:Int):Z2:=(s.1,s.2.1,s.2.2.1,s.2.2.2.1,s.2.2.2.2.1,lo,hi,s.2.2.2.2.2.2.2)
def KI (s:Z2) (g:Int):Z2:=(s.1,s.2.1,s.2.2.1,s.2.2.2.1,g,s.2.2.2.2.2)
def Yk (rank may guild:Int):Z2:=(1,0,rank,may,guild,0,1024,0,0,0,0)
theorem We {m:Z6} (h:Loose m):m.dk.length<=8:=by
 have:=h.head;unfold YO at this;simp only [ZP,Zc] at this;have h8:=(Zi this.1).2.2.2;omega
theorem D5 {m:Z6} (h:Loose m):m.gd.length<=6:=by
 have:=h.head;unfold YO at this;simp only [ZP,Zc] at this;exact (Vy this.2.1).2
theorem Loose.limits {m:Z6} (h:Loose m) {k:Nat} (hk:k<m.sm.length) (hs:(Z8 m.sm k).1 ≠ 0):YY (Z8 m.sm k)=true/\(Z8 m.sm k).2.2.2.2.1<m.gd.length/\(Z8 m.sm k).2.1<m.dk.length:=by
 rcases XB.1 (h.here k hk) with e | e
 ·rw [e] at hs;exact absurd rfl hs
 ·exact e
theorem Eh {m:Z6} (h:Loose m) {k:Nat} (hk:k<m.sm.length) (hp:ZQ (Z8 m.sm k)=true):Loose (setS m k (stS (Z8 m.sm k) 1)):=
 h.setS hk (NC (h.here k hk) hp (by omega) (by omega)) (UX rfl)
theorem Gj {m:Z6} (h:Loose m) {k:Nat} (hk:k<m.sm.length):Loose (setS m k Ub):=
 h.setS hk (XB.2 (.inl rfl)) (UX rfl)
theorem Eg {m:Z6} (h:Loose m) {k:Nat} (hk:k<m.sm.length) {rank:Int} {s:Z2} (hr:Yb (Z8 m.sm k) rank=(s,true)):Loose (setS m k s):=by
 unfold Yb at hr
 split at hr
 ·rename_i hp
  split at hr
  ·rename_i hrk
   obtain ⟨rfl,_⟩:=Prod.mk.inj hr
   have hne:(Z8 m.sm k).1 ≠ 0:=by
    intro e;rw [Og e] at hp;cases hp
   obtain ⟨_,g1,b1⟩:=h.limits hk hne;refine h.setS hk (XB.2 (.inr ⟨QW hp hrk,g1,b1⟩)) ?_;have:=h.seat k hk;unfold X9 at this ⊢;exact this
  ·cases (Prod.mk.inj hr).2
 ·cases (Prod.mk.inj hr).2
theorem CF {m:Z6} (h:Loose m) {k:Nat} (hk:k<m.sm.length) (hs:(Z8 m.sm k).1 ≠ 0) {lo hi:Int} (hp:Ys lo hi=true):Loose (setS m k (CL (Z8 m.sm k) lo hi)):=by
 obtain ⟨p,g1,b1⟩:=h.limits hk hs;refine h.setS hk (XB.2 (.inr ⟨?_,g1,b1⟩)) ?_
 ·generalize Z8 m.sm k=s at *
  obtain ⟨st,be,rk,my,gu,lo',hi',hd,ca,ut,wk⟩:=s;obtain ⟨x0,x1,x2,x3,x4,x5,x6,x7,x8,x9⟩:=Zd p;exact TS x0 x1 x2 x3 x4 hp x6 x7 x8 x9
 ·have:=h.seat k hk
  unfold X9 at this ⊢;exact this
theorem Ee {m:Z6} (h:Loose m) {k:Nat} (hk:k<m.sm.length) (hs:(Z8 m.sm k).1 ≠ 0) {g:Int} (g0 : -1<=g) (g1:g<m.gd.length):Loose (setS m k (KI (Z8 m.sm k) g)):=by
 obtain ⟨p,_,b1⟩:=h.limits hk hs;have hg:=D5 h;refine h.setS hk (XB.2 (.inr ⟨?_,g1,b1⟩)) ?_
 ·generalize Z8 m.sm k=s at *
  obtain ⟨st,be,rk,my,gu,lo',hi',hd,ca,ut,wk⟩:=s;obtain ⟨x0,x1,x2,x3,x4,x5,x6,x7,x8,x9⟩:=Zd p;exact TS x0 x1 x2 x3 ⟨g0,by omega⟩ x5 x6 x7 x8 x9
 ·have:=h.seat k hk
  unfold X9 at this ⊢;exact this
theorem CG {m:Z6} (h:Loose m) {k:Nat} (hk:k<m.sm.length) (hs:(Z8 m.sm k).1 ≠ 0) {may:Int} (m0:1<=may) (m1:may<=255) (hb:ZQ (Z8 m.sm k)=false\/Wc may (Z8 m.sm k).2.1=true):Loose (setS m k (SE (Z8 m.sm k) may)):=by
 obtain ⟨p,g1,b1⟩:=h.limits hk hs;refine h.setS hk (XB.2 (.inr ⟨?_,g1,b1⟩)) ?_
 ·generalize Z8 m.sm k=s at *
  obtain ⟨st,be,rk,my,gu,lo',hi',hd,ca,ut,wk⟩:=s;obtain ⟨x0,x1,x2,x3,x4,x5,x6,x7,x8,x9⟩:=Zd p;exact TS x0 x1 x2 ⟨m0,m1⟩ x4 x5 x6 x7 x8 x9
 ·rcases hb with hb | hb
  ·exact UX hb
  ·have:=h.seat k hk
   unfold X9 at this;cases hp:ZQ (Z8 m.sm k)
   ·exact UX hp
   ·rw [hp] at this
    simp only [Bool.not_true,Bool.false_or,ZP] at this;exact O0 (s:=SE (Z8 m.sm k) may) this.1 hb this.2.2
theorem I9 {m:Z6} {s:Z2} {b:Nat} {had:Int} (h:Loose m) (hp:YY s=true) (hg:s.2.2.2.2.1<m.gd.length) (hb:b<m.dk.length) (ho:(Z8 m.dk b).1=true) (hm:Wc s.2.2.2.1 b=true) (hd:Xa had (Z8 m.dk b).2.2=true) :
  Yh m (Qn s b had)=true/\X9 m (Qn s b had)=true:=by
 have h8:=We h;obtain ⟨st,be,rk,my,gu,lo',hi',hd',ca,ut,wk⟩:=s;obtain ⟨x0,x1,x2,x3,x4,x5,x6,x7,x8,x9⟩:=Zd hp;obtain ⟨d0,d1,_⟩:=UA hd;refine ⟨XB.2 (.inr ⟨TS (by omega) ⟨by omega,by omega⟩ x2 x3 x4 x5 ⟨d0,d1⟩ x7 x8 x9,hg,?_⟩),?_⟩
 ·show (b:Int)<_;omega
 ·exact O0 (m:=m) (s:=Qn (st,be,rk,my,gu,lo',hi',hd',ca,ut,wk) b had) (by show (Z8 m.dk ((b:Int)).toNat).1=true;simpa using ho) hm (by show Xa had (Z8 m.dk ((b:Int)).toNat).2.2=true;simpa using hd)
theorem NQ {m:Z6} (h:Loose m) {s:Z2} {b:Nat} (hp:YY s=true) (hpr:ZQ s=true) (hg:s.2.2.2.2.1<m.gd.length) (b0:0<=s.2.1) (b1:s.2.1<m.dk.length) (hband:Xa (XK s) (XR m s.2.1)=true) (hb:b<m.dk.length) (ho:(Z8 m.dk b).1=true) (hm:Wc s.2.2.2.1 b=true) :
  Yh m (putS m s b)=true/\X9 m (putS m s b)=true:=by
 have h8:=We h;obtain ⟨k0,k1⟩:=Sg (h.desk s.2.1.toNat (by omega));obtain ⟨k2,k3⟩:=Sg (h.desk b hb);obtain ⟨a0,a1,a2,a3,a4,a5⟩:=UA hband;have hmk:XR m (b:Int)=(Z8 m.dk b).2.2:=by unfold XR;simp
 have hmv:Zs (XK s) (XR m s.2.1) (XR m b)=XK s-XR m s.2.1+XR m b:=C4 a0 a1 a2 a3 (by omega) (by omega);obtain ⟨st,be,rk,my,gu,lo',hi',hd',ca,ut,wk⟩:=s;obtain ⟨x0,x1,x2,x3,x4,x5,x6,x7,x8,x9⟩:=Zd hp;simp only at b0 b1 hmv a4 a5 k0 k1 hg hm;refine ⟨XB.2 (.inr ⟨?_,hg,?_⟩),?_⟩
 ·unfold putS
  simp only;rw [hmv];exact TS x0 ⟨by omega,by omega⟩ x2 x3 x4 x5 ⟨by omega,by omega⟩ x7 x8 x9
 ·show (b:Int)<_;omega
 ·refine O0 (m:=m) (s:=putS m (st,be,rk,my,gu,lo',hi',hd',ca,ut,wk) b) (by show (Z8 m.dk ((b:Int)).toNat).1=true;simpa using ho) hm ?_
  show Xa (Zs _ _ _) (Z8 m.dk ((b:Int)).toNat).2.2=true;rw [hmv,show ((b:Int)).toNat=b by simp,<-hmk];exact OX (by omega) (by omega) (by omega) (by omega) (by omega) (by omega)
def JY (m:Z6) (r:Nat) (p:Int):Z6:={ m with pc:=m.pc.set r p }
theorem LL {m:Z6} (h:Loose m) {r:Nat} (hr:r<m.rm.length) {p:Int} (p0:0<=p) (p1:p<(ZR m.rm r).2.length):Loose (JY m r p):=by
 have hd:=h.head
 have hpl:m.pc.length=m.rm.length:=by
  unfold YO at hd;simp only [ZP,Zc] at hd;exact hd.2.2.2.2.1
 refine ⟨?_,h.desk,?_,h.here,h.seat,h.openD⟩
 ·unfold YO at hd ⊢
  unfold JY;simpa using hd
 ·intro j hj
  have hj':j<m.pc.length:=by unfold JY at hj;simpa using hj
  have:=h.pace j hj';unfold Wu at this ⊢;unfold JY;simp only;rw [ZD (by omega)]
  split
  ·rename_i e;subst e;exact Zo p0 (by omega)
  ·exact this
def Xx (m:Z6) (b:Nat) (o:Bool):Z6:={ m with dk:=m.dk.set b (o,(Z8 m.dk b).2) }
theorem Ef {m:Z6} (h:Loose m) {b:Nat} (hb:b<m.dk.length):Loose (Xx m b true):=by
 have hat:∀ j,(Z8 (Xx m b true).dk j)=if j=b then (true,(Z8 m.dk b).2) else Z8 m.dk j:=fun j=>ZD hb j
 have hmk:∀ j,(Z8 (Xx m b true).dk j).2=(Z8 m.dk j).2:=fun j=>by
  rw [hat];by_cases e:j=b
  ·rw [if_pos e,e]
  ·rw [if_neg e]
 have hop:∀ j,(Z8 m.dk j).1=true->(Z8 (Xx m b true).dk j).1=true:=fun j e=>by
  rw [hat];by_cases e':j=b
  ·rw [if_pos e']
  ·rw [if_neg e'];exact e
 have hlen:(Xx m b true).dk.length=m.dk.length:=by unfold Xx;simp
 refine ⟨?_,?_,h.pace,?_,?_,?_⟩
 ·have:=h.head
  unfold YO at this ⊢;rw [hlen];exact this
 ·intro j hj
  have:=h.desk j (by omega);unfold VK at this ⊢;rw [hmk];exact this
 ·intro i hi
  rw [WW (m:=m) (m':=Xx m b true) rfl hlen];exact h.here i hi
 ·intro i hi
  have:=h.seat i hi;unfold X9 at this ⊢;show (!ZQ (Z8 m.sm i) || _)=true;cases hp:ZQ (Z8 m.sm i)
  ·rfl
  ·rw [hp] at this
   simp only [Bool.not_true,Bool.false_or,ZP] at this ⊢;refine ⟨hop _ this.1,this.2.1,?_⟩;show Xa _ (Z8 (Xx m b true).dk (Z8 m.sm i).2.1.toNat).2.2=true;rw [hmk];exact this.2.2
 ·exact ⟨b,by omega,by rw [hat,if_pos rfl]⟩
def ZO {α:Type} [Inhabited α] (p:α->Bool) (xs:List α):Nat->List Int
 | 0=>[]
 | k+1=>if p (Z8 xs k) then ZO p xs k++[(k:Int)] else ZO p xs k
theorem Yg {α:Type} [Inhabited α] {p:α->Bool} {xs:List α} {k:Nat} (h:p (Z8 xs k)=true):ZO p xs (k+1)=ZO p xs k++[(k:Int)]:=by rw [ZO,if_pos h]
theorem Xq {α:Type} [Inhabited α] {p:α->Bool} {xs:List α} {k:Nat} (h:p (Z8 xs k)=false):ZO p xs (k+1)=ZO p xs k:=by rw [ZO,if_neg (by simp [h])]
theorem Uy {α:Type} [Inhabited α] (p:α->Bool) (xs:List α):∀ k,(ZO p xs k).length<=k
 | 0=>Z0 _
 | k+1=>by
  have:=Uy p xs k;unfold ZO
  split
  ·simp;omega
  ·omega
theorem Wl {α:Type} [Inhabited α] (p:α->Bool) (xs:List α) (x:Int):∀ k,x ∈ ZO p xs k ↔ ∃ i:Nat,i<k/\x=(i:Int)/\p (Z8 xs i)=true
 | 0=>by simp [ZO]
 | k+1=>by
  have ih:=Wl p xs x k;cases h:p (Z8 xs k)
  ·rw [Xq h,ih]
   constructor
   ·rintro ⟨i,hi,h1,h2⟩
    exact ⟨i,by omega,h1,h2⟩
   ·rintro ⟨i,hi,h1,h2⟩
    by_cases hik:i=k
    ·subst hik;rw [h] at h2;cases h2
    ·exact ⟨i,by omega,h1,h2⟩
  ·rw [Yg h,List.mem_append,ih]
   constructor
   ·rintro (⟨i,hi,h1,h2⟩ | h1)
    ·exact ⟨i,by omega,h1,h2⟩
    ·exact ⟨k,by omega,by simpa using h1,h⟩
   ·rintro ⟨i,hi,h1,h2⟩
    by_cases hik:i=k
    ·subst hik;right;simp [h1]
    ·exact .inl ⟨i,by omega,h1,h2⟩
theorem PQ {α:Type} [Inhabited α] (p:α->Bool) (xs:List α):∀ k,decide (0<(ZO p xs k).length)=(List.range k).any fun j=>p (Z8 xs j)
 | 0=>rfl
 | k+1=>by
  have ih:=PQ p xs k;rw [Cg,<-ih];cases h:p (Z8 xs k)
  ·rw [Xq h];simp
  ·rw [Yg h];simp
def Yl {α:Type} [Inhabited α] (p:α->Bool) (xs:List α) (k:Nat):Bool:=(List.range k).all fun j=>p (Z8 xs j)
theorem Ip {α:Type} [Inhabited α] {p:α->Bool} {xs:List α} {k n:Nat} (hk:k<n) (h:p (Z8 xs k)=false):Yl p xs n=false:=Ri (p:=fun j=>p (Z8 xs j)) hk h
theorem Iq {α:Type} [Inhabited α] {p:α->Bool} {xs:List α} {k:Nat} (h:Yl p xs k=true) (h2:p (Z8 xs k)=true):Yl p xs (k+1)=true:=by unfold Yl at h ⊢;rw [Uc,h,h2];rfl
theorem PU {α:Type} [Inhabited α] (p q:α->Bool) (xs:List α):∀ k,(Yl p xs k && Yl q xs k)=Yl (fun x=>p x && q x) xs k
 | 0=>rfl
 | k+1=>by
  have ih:=PU p q xs k;unfold Yl at ih ⊢;rw [Uc,Uc,Uc,<-ih];generalize ((List.range k).all fun j=>p (Z8 xs j))=a;generalize ((List.range k).all fun j=>q (Z8 xs j))=b;cases a<;>cases b<;>cases hp:p (Z8 xs k)<;>cases hq:q (Z8 xs k)<;>simp [hp,hq]
theorem Io {α:Type} [Inhabited α] {p q:α->Bool} (xs:List α) (h:∀ x,p x=q x) (k:Nat):Yl p xs k=Yl q xs k:=by unfold Yl;congr 1;funext j;exact h _
def WA (n:Nat) (i:Int):Bool:=decide (0<=i) && decide (i<n)
def atB (b:Int) (s:Z2):Bool:=(s.1 ==2 || s.1 ==3) && s.2.1 ==b
def YM (b:Int) (s:Z2):Bool:=s.1 ==3 && s.2.1 ==b
def V8 (n:Nat) (s:Z2):Bool:=s.1 ==0 || (s.2.2.2.2.1 == -1 || WA n s.2.2.2.2.1)
def VF (ds:List Yd) (s:Z2):Bool:=s.1 ==0 || (WA ds.length s.2.1 && (s.1 ==1 || ((Z8 ds s.2.1.toNat).1 && (Vo s.2.2.2.1 s.2.1 && Vt s.2.2.2.2.2.2.2.1 (Z8 ds s.2.1.toNat).2.2))))
def TW (ss:List Z2) (n:Nat):Bool:=decide (ss.length<=12) && (Yl Zt ss ss.length && Yl (V8 n) ss ss.length)
def RL (ds:List Yd) (n:Int):Bool:=decide ((ds.length:Int)=n) && (Yl VK ds ds.length && decide (0<(ZO (fun d:Yd=>d.1) ds ds.length).length))
def Vu (ps:List Int) (rs:List ZW):Bool:=decide (ps.length=rs.length) && (List.range ps.length).all fun j=>WA (ZR rs j).2.length (Z8 ps j)
def QV (m:Z6):Bool:=Y1 m.rm && (Zl m.gd && (TW m.sm m.gd.length && (RL m.dk (ZU m.rm) && (Vu m.pc m.rm && inB m.now 0 1000000))))
def Wg (m:Z6):Bool:=QV m && Yl (VF m.dk) m.sm m.sm.length
def Vi (m:Z6) (b:Nat):Bool:=if (Z8 m.dk b).2.1= -1 then decide ((ZO (atB b) m.sm m.sm.length).length=0) else decide ((ZO (YM b) m.sm m.sm.length).length=1) && decide (Z8 (ZO (YM b) m.sm m.sm.length) 0=(Z8 m.dk b).2.1)
def Q9 (m:Z6):Bool:=(List.range m.dk.length).all (Vi m)
def Dt (m:Z6):Bool:=Wg m && Q9 m
theorem DP (h m:Int):Vt h m=Xa h m:=by
 unfold Vt Xa WE;rw [Bool.and_assoc]
theorem C6 (m:Z6) (s:Z2):(Zt s && (V8 m.gd.length s && VF m.dk s))=(Yh m s && X9 m s):=by
 cases hs:Zt s
 ·unfold Yh;rw [hs];rfl
 ·have hh:Yh m s=(s.1 ==0 || (decide (s.2.2.2.2.1<m.gd.length) && decide (s.2.1<m.dk.length))):=by unfold Yh;rw [hs];rfl
  rw [hh,Bool.true_and];unfold Zt at hs;simp only [Bool.or_eq_true] at hs
  rcases hs with hg | hp
  ·have e:=Vl hg
   subst e;rfl
  ·obtain ⟨st,be,rk,my,gu,lo,hi,hd,ca,ut,wk⟩:=s
   obtain ⟨⟨s1,s2⟩,⟨b1,b2⟩,_,⟨m1,m2⟩,⟨g1,g2⟩,_⟩:=Zd hp;have hmem:Vo my be=Wc my be:=CS (Zo (by omega) (by omega)) (Zo (by omega) (by omega));have hst0:(st ==0)=false:=by simp;omega
   have hgu:(gu == -1 || WA m.gd.length gu)=decide (gu<m.gd.length):=by
    unfold WA;by_cases e:gu= -1
    ·subst e;simp;omega
    ·have:(gu == -1)=false:=by simpa using e
     rw [this,Bool.false_or,show decide (0<=gu)=true from decide_eq_true (by omega),Bool.true_and]
   have hbe:WA m.dk.length be=decide (be<m.dk.length):=by
    unfold WA;rw [show decide (0<=be)=true from decide_eq_true (by omega),Bool.true_and]
   have hpr:ZQ (st,be,rk,my,gu,lo,hi,hd,ca,ut,wk)= !(st ==1):=by
    unfold ZQ
    rcases (by omega:st=1\/st=2\/st=3) with e | e | e<;>subst e<;>rfl
   unfold V8 VF X9;simp only;rw [hst0,hgu,hbe,hpr,hmem,DP,Bool.not_not];simp only [Bool.false_or,Bool.and_assoc]
theorem Mf (ss:List Z2) (b:Int):∀ k:Nat,
  (match XS ss b k with
   | none=>2<=(ZO (YM b) ss k).length
   | some (wk,wt)=>((wk= -1/\ZO (YM b) ss k=[])\/(0<=wk/\ZO (YM b) ss k=[wk]))/\((ZO (atB b) ss k=[]) ↔ (ZO (YM b) ss k=[]/\wt=false)))
 | 0=>by simp [XS,ZO]
 | k+1=>by
  have ih:=Mf ss b k;unfold XS;cases hsc:XS ss b k with
  | none=>
   rw [hsc] at ih;simp only at ih ⊢;unfold ZO
   split
   ·simp;omega
   ·exact ih
  | some r=>
   obtain ⟨wk,wt⟩:=r;rw [hsc] at ih;simp only at ih ⊢;by_cases hat:(Z8 ss k).2.1=b/\ZQ (Z8 ss k)=true
   ·rw [if_pos hat]
    have hA:atB b (Z8 ss k)=true:=by
     have h2:=hat.2;unfold ZQ at h2;unfold atB;rw [h2,hat.1];simp
    by_cases h2:(Z8 ss k).1=2
    ·rw [if_pos h2]
     have hW:YM b (Z8 ss k)=false:=by unfold YM;rw [h2];rfl
     rw [Xq hW,Yg hA];exact ⟨ih.1,by simp⟩
    ·rw [if_neg h2]
     have h3:(Z8 ss k).1=3:=by
      have:=hat.2;unfold ZQ at this;simp only [Bool.or_eq_true,beq_iff_eq] at this;omega
     have hW:YM b (Z8 ss k)=true:=by unfold YM;rw [h3,hat.1];simp
     rw [Yg hW,Yg hA];by_cases hwk:0<=wk
     ·rw [if_pos hwk]
      rcases ih.1 with ⟨e,_⟩ | ⟨_,e⟩
      ·omega
      ·simp only
       rw [e];simp
     ·rw [if_neg hwk]
      rcases ih.1 with ⟨_,e⟩ | ⟨e,_⟩
      ·simp only
       rw [e];simp
      ·omega
   ·rw [if_neg hat]
    have hA:atB b (Z8 ss k)=false:=by
     cases hc:atB b (Z8 ss k)
     ·rfl
     ·exfalso
      apply hat;unfold atB at hc;simp only [ZP,beq_iff_eq] at hc;exact ⟨hc.2,by unfold ZQ;exact hc.1⟩
    have hW:YM b (Z8 ss k)=false:=by
     cases hc:YM b (Z8 ss k)
     ·rfl
     ·exfalso
      apply hat;unfold YM at hc;simp only [ZP,beq_iff_eq] at hc;exact ⟨hc.2,by unfold ZQ;rw [hc.1];rfl⟩
    rw [Xq hW,Xq hA];exact ih
theorem Mo (m:Z6) (b:Nat):Vi m b=Yq m b:=by
 have h:=Mf m.sm b m.sm.length;unfold Vi Yq;cases hsc:XS m.sm b m.sm.length with
 | none=>
  rw [hsc] at h;simp only at h ⊢
  split
  ·have:ZO (atB b) m.sm m.sm.length ≠ []:=by
    intro e;have hx:Z8 (ZO (YM b) m.sm m.sm.length) 0 ∈ ZO (YM b) m.sm m.sm.length:=RW (by omega);obtain ⟨i,hi,_,hw⟩:=(Wl _ _ _ _).1 hx
    have:(i:Int) ∈ ZO (atB b) m.sm m.sm.length:=(Wl _ _ _ _).2 ⟨i,hi,rfl,by
     unfold YM at hw;simp only [ZP,beq_iff_eq] at hw;unfold atB
     rw [hw.1,hw.2];simp⟩
    rw [e] at this;cases this
   simp only [List.length_eq_zero_iff,this,decide_false]
  ·rw [show decide ((ZO (YM b) m.sm m.sm.length).length=1)=false from decide_eq_false (by omega),Bool.false_and]
 | some r=>
  obtain ⟨wk,wt⟩:=r;rw [hsc] at h;simp only at h ⊢;obtain ⟨h1,h2⟩:=h;generalize ZO (YM b) m.sm m.sm.length=ws at *;generalize ZO (atB b) m.sm m.sm.length=az at *;generalize (Z8 m.dk b).2.1=who at *;by_cases hw:who= -1
  ·subst hw
   simp only [if_true,List.length_eq_zero_iff]
   rcases h1 with ⟨rfl,rfl⟩ | ⟨hk,rfl⟩
   ·cases wt
    ·simp at h2;simp [h2]
    ·simp at h2;simp [h2]
   ·have hne:az ≠ []:=by
     intro e;have:=(h2.1 e).1;cases this
    have:((-1:Int) ==wk)=false:=by simp;omega
    rw [this];simp [hne]
  ·rw [if_neg hw]
   rcases h1 with ⟨rfl,rfl⟩ | ⟨hk,rfl⟩
   ·have:(who == -1)=false:=by simpa using hw
    rw [this];simp
   ·have h0:decide (wk<0)=false:=Xs (by omega)
    rw [h0,Bool.and_false,Bool.not_false,Bool.and_true];simp only [YN,Yx,decide_true,Bool.true_and];show decide (wk=who)=(who ==wk)
    by_cases e:wk=who
    ·subst e;simp
    ·rw [decide_eq_false e];symm;simp;omega
theorem A1 (n:Nat) (i:Int):WA n i=inB i 0 ((n:Int)-1):=by
 unfold WA inB;by_cases h0:0<=i<;>by_cases h1:i<n
 ·rw [decide_eq_true h0,decide_eq_true h1,decide_eq_true (show 0<=i/\i<=(n:Int)-1 by omega)];rfl
 ·rw [decide_eq_true h0,decide_eq_false h1,decide_eq_false (show ¬ (0<=i/\i<=(n:Int)-1) by omega)];rfl
 ·rw [decide_eq_false h0,decide_eq_false (show ¬ (0<=i/\i<=(n:Int)-1) by omega)];rfl
 ·rw [decide_eq_false h0,decide_eq_false (show ¬ (0<=i/\i<=(n:Int)-1) by omega)];rfl
theorem Rr (m:Z6):Wg m=YL m:=by
 have e1:Wa m m.sm.length=(Yl Zt m.sm m.sm.length && (Yl (V8 m.gd.length) m.sm m.sm.length && Yl (VF m.dk) m.sm m.sm.length)):=by
  rw [PU,PU];exact (Io m.sm (C6 m) m.sm.length).symm
 have e2:Vu m.pc m.rm=(decide (m.pc.length=m.rm.length) && V9 m m.pc.length):=by
  unfold Vu V9
  congr 2
  funext j
  unfold Wu;exact A1 _ _
 have e3:decide (0<(ZO (fun d:Yd=>d.1) m.dk m.dk.length).length)=Uj m m.dk.length:=PQ _ _ _;unfold Wg QV YL YO TW RL;rw [e1,e2,e3];have e4:Yl VK m.dk m.dk.length=Vv m m.dk.length:=rfl;rw [e4];generalize Y1 m.rm=x1;generalize Zl m.gd=x2;generalize decide (m.sm.length<=12)=x3;generalize Yl Zt m.sm m.sm.length=x4;generalize Yl (V8 m.gd.length) m.sm m.sm.length=x5;generalize decide ((m.dk.length:Int)=ZU m.rm)=x6;generalize Vv m m.dk.length=x7;generalize Uj m m.dk.length=x8;generalize decide (m.pc.length=m.rm.length)=x9;generalize V9 m m.pc.length=x10;generalize inB m.now 0 1000000=x11;generalize Yl (VF m.dk) m.sm m.sm.length=x12;rw [Bool.eq_iff_iff];simp only [ZP];constructor
 ·rintro ⟨⟨a1,a2,⟨a3,a4,a5⟩,⟨a6,a7,a8⟩,⟨a9,a10⟩,a11⟩,a12⟩
  exact ⟨⟨a1,a2,a3,a6,a9,a11⟩,a7,a10,⟨a4,a5,a12⟩,a8⟩
 ·rintro ⟨⟨a1,a2,a3,a6,a9,a11⟩,a7,a10,⟨a4,a5,a12⟩,a8⟩
  exact ⟨⟨a1,a2,⟨a3,a4,a5⟩,⟨a6,a7,a8⟩,⟨a9,a10⟩,a11⟩,a12⟩
theorem Du (m:Z6):Dt m=ZI m:=by
 unfold Dt ZI Q9;rw [Rr,show Vi m=Yq m from funext (Mo m)]
def WL (ss:List Z2) (ps:List Int):List Z4:=ps.foldl (fun q i=>UO q (XK (Z8 ss i.toNat),i)) []
theorem QX (ss:List Z2) (ps:List Int) (i:Int):WL ss (ps++[i])=UO (WL ss ps) (XK (Z8 ss i.toNat),i):=by unfold WL;rw [List.foldl_append];rfl
theorem Tq (ss:List Z2) (b:Int):∀ k,WL ss (ZO (atB b) ss k)=atV ss b k
 | 0=>rfl
 | k+1=>by
  have ih:=Tq ss b k;by_cases hat:(Z8 ss k).2.1=b/\ZQ (Z8 ss k)=true
  ·have hA:atB b (Z8 ss k)=true:=by
    have h2:=hat.2;unfold ZQ at h2;unfold atB;rw [h2,hat.1];simp
   rw [Yg hA,QX,ih,Qw hat.1 hat.2];rfl
  ·have hA:atB b (Z8 ss k)=false:=by
    cases hc:atB b (Z8 ss k)
    ·rfl
    ·exfalso
     apply hat;unfold atB at hc;simp only [ZP,beq_iff_eq] at hc;exact ⟨hc.2,by unfold ZQ;exact hc.1⟩
   rw [Xq hA,Nf hat,ih]
theorem Lo {ps:List Int} {k:Nat} (h:k<ps.length):ps.take (k+1)=ps.take k++[Z8 ps k]:=by
 unfold Z8;rw [List.take_add_one,List.getD,List.getElem?_eq_getElem h];rfl
theorem It {m:Z6} (h:Loose m) (b:Int) (k:Nat) (hk:k<=m.sm.length):Yv (atV m.sm b k)=true:=by
 have hd:=h.head;unfold YO at hd;simp only [ZP,Zc] at hd;have hl:=S9 m.sm b k;have h12:=hd.2.2.1;refine GM ⟨by omega,fun p hp=> ?_,?_,TE _ _ _⟩
 ·obtain ⟨i,hi,h1,h2,rfl⟩:=(XO m.sm b p k).1 hp
  have:=UA (h.at (i:=i) (by omega) h2).2.2.2.2;unfold Nu;rw [Zo (by omega) (by omega),Zo (by omega) (by show (i:Int)<=99;omega)];rfl
 ·refine ((OW m.sm b k).and (TE m.sm b k)).imp fun {x y} hxy=> ?_
  have h1:=hxy.1;have h2:=hxy.2;rw [LR] at h1;rw [CN];omega
theorem PR {α:Type} [Inhabited α] (p:α->Bool) (xs:List α):∀ n k:Nat,∃ j,j<=n/\(ZO p xs n).take k=ZO p xs j
 | 0,k=>⟨0,Z0 _,by simp [ZO]⟩
 | n+1,k=>by
  obtain ⟨j,hj,e⟩:=PR p xs n k;cases h:p (Z8 xs n)
  ·rw [Xq h];exact ⟨j,by omega,e⟩
  ·rw [Yg h]
   by_cases hk:k<=(ZO p xs n).length
   ·rw [List.take_append_of_le_length hk];exact ⟨j,by omega,e⟩
   ·refine ⟨n+1,Z0 _,?_⟩
    rw [Yg h,List.take_of_length_le (by simp;omega)]
theorem GI {m:Z6} (h:Loose m) (b:Int) (k:Nat):Yv (WL m.sm ((ZO (atB b) m.sm m.sm.length).take k))=true:=by
 obtain ⟨j,hj,e⟩:=PR (atB b) m.sm m.sm.length k;rw [e,Tq];exact It h b j hj
open Go.ChangeShapes Go.WideShapes Go.ChangeAt Go.RowKit Go.Sort Go.Proofs.Tryz
open Draw (St Off Row Cur)
theorem IS {ps:List Zv} {ab low hi:Int} (h:Zl ps=true) (hl:ps.length<=5) (a0:0<=ab) (a1:ab<(ps.length:Int)+1) (l0:0<=low) (l1:low<=hi) (h1:hi<=1024):Zl (ps++[(ab-1,low,hi)])=true:=by
 obtain ⟨hu,_⟩:=Vy h;unfold Zl;rw [List.length_append];show (Uv _ (ps.length+1) && decide (ps.length+1<=6))=true;rw [decide_eq_true (by omega),Bool.and_true,Rw]
 have hsame:Uv (ps++[(ab-1,low,hi)]) ps.length=true:=by
  unfold Uv;refine List.all_eq_true.2 fun j hj=> ?_;have hj':=List.mem_range.1 hj;rw [VG,if_neg (by omega)];exact Kc hu hj'
 rw [hsame,VG,if_pos rfl,Bool.true_and];unfold XA Ys;simp only [ZP,Zc];exact ⟨Zo (by omega) (by omega),⟨Zo l0 (by omega),Zo (by omega) h1⟩,l1⟩
theorem KT (a:Option Addr) (len cap bc:Nat) (w:World) (hs:St a len cap bc w) :
  Calls prog 146 #[.pointer (some ⟨bc,0,none⟩)] w fun e w'=> ∃ v ps,e= .returned v/\Zl ps=true/\Gbox a len cap bc w w' v ps:=by
 have Hs:=Z9 hs;have hbc:=V0 hs;clear hs;go_enter func146,ntmps146;go_wp2_with fail;have HE:Hid (GuildsAt w.heap.size (w.alloc (.cells #[] 70)) (.slice (some ⟨w.heap.size,0,none⟩) 0 0) []):=Z9 (YW rfl (Z0 _));refine (Draw.below_any a len cap bc 5 (by omega) (by omega) _ ((uh Hs).alloc _)).mono ?_;rintro e w1 ⟨n,rfl,n0,n1,s1,o1⟩;have HG1:Hid (Gbox a len cap bc w w1 (.slice (some ⟨w.heap.size,0,none⟩) 0 0) []):=Z9 (Gbox.step ⟨(uh Hs).alloc _,(Off.refl _ _).alloc _,hbc,uh HE⟩ s1 o1);clear s1 o1 HE;go_wp2_with fail
 go_loopw [3,4] (fun s i wr=> ∃ (k:Nat) (ps:List Zv),ps.length+k<=4/\Zl ps=true/\i= .int .i64 k/\Gbox a len cap bc w wr s ps) (fun _ i _=>(intOf i).toNat)
 case atStart=>exact ⟨n.toNat,[],by simp;omega,rfl,by rw [show ((n.toNat:Nat):Int)=n by omega],uh HG1⟩
 case round=>
  obtain ⟨k,ps,hk,hgs,rfl,hG⟩:=hrel;have Hgs:=Z9 hgs;clear hgs;obtain ⟨ra,rcap,rfl⟩:=RecAt.shape hG.row;have HG:=Z9 hG;clear hG;by_cases hk0:0<k
  ·go_wp2_with fail
   refine (Draw.below_any a len cap bc 600 (by omega) (by omega) _ (uh HG).st).mono ?_;rintro e w2 ⟨low,rfl,l0,l1,s2,o2⟩;have HG2:=Z9 ((uh HG).step s2 o2);clear s2 o2 HG;go_wp2_with fail;refine (Draw.below_any a len cap bc _ (by omega) (by omega) _ (uh HG2).st).mono ?_;rintro e w3 ⟨ab,rfl,a0,a1,s3,o3⟩;have HG3:=Z9 ((uh HG2).step s3 o3);clear s3 o3 HG2;go_wp2_with fail;refine (Draw.from_any a len cap bc low 1024 (by omega) (by omega) (by omega) _ (uh HG3).st).mono ?_;rintro e w4 ⟨hi,rfl,h0,h1,s4,o4⟩;have HG4:=Z9 ((uh HG3).step s4 o4);have hsz:=(uh HG4).off.size;clear s4 o4 HG3;go_wp2_with (at_builtin;refine ZH FO rfl (.tmp 15) (.tmp 27) 27 underlying27 rfl w.heap.size _ _ ps [(ab-1,low,hi)] rfl rfl ((uh HG4).alloc _).row (NA _ _ _ rfl (Z0 _) (by omega)) (by simp;omega) (by simp;omega) ?_;intro v' w5 hown hgrow hat)
   have HG5:=Z9 (((uh HG4).alloc _).grown hgrow hown);clear hown hgrow hat;go_wp2_with fail;go_roundw
   case rel=>exact ⟨k-1,ps++[(ab-1,low,hi)],by simp;omega,IS (uh Hgs) (by omega) (by omega) (by omega) (by omega) (by omega) (by omega),by rw [show ((k:Int)-1)=((k-1:Nat):Int) by omega],uh HG5⟩
   case measure=>exact ms
  ·obtain rfl:k=0:=by omega
   go_wp2_with fail;go_ret;exact ⟨_,ps,rfl,uh Hgs,uh HG⟩
structure Bx (w W:World) (R:Nat) (a0:Option Addr) (p0:Nat) (a1:Option Addr) (p1:Nat) (a2:Option Addr) (p2:Nat) (a3:Option Addr) (p3:Nat) (a4:Option Addr) (p4:Nat) (m:Z6):Prop where
 smy:Smy W (.slice a0 m.rm.length p0) (.slice a1 m.gd.length p1) (.slice a2 m.sm.length p2) (.slice a3 m.dk.length p3) (.slice a4 m.pc.length p4) m
 blk:Blk W R 32 (S6 a0 p0 a1 p1 a2 p2 a3 p3 a4 p4 m)
 bb:Below w.heap.size w W
section
variable {w W X : World} {R : Nat} {a0 a1 a2 a3 a4 : Option Addr} {p0 p1 p2 p3 p4 : Nat} {m : Z6}
theorem Bx.next (h:Bx w W R a0 p0 a1 p1 a2 p2 a3 p3 a4 p4 m) (hb:Below W.heap.size W X):Bx w X R a0 p0 a1 p1 a2 p2 a3 p3 a4 p4 m:=⟨h.smy.below hb,h.blk.below hb h.blk.lt,h.bb.trans (hb.mono h.bb.size)⟩
theorem Bx.alloc (h:Bx w W R a0 p0 a1 p1 a2 p2 a3 p3 a4 p4 m) (o:Obj):Bx w (W.alloc o) R a0 p0 a1 p1 a2 p2 a3 p3 a4 p4 m:=h.next ((ba _ _))
theorem Bx.cells (h:Bx w W R a0 p0 a1 p1 a2 p2 a3 p3 a4 p4 m):W.cell? ⟨R,0,none⟩=some (.slice a0 m.rm.length p0)/\W.cell? ⟨R,1,none⟩=some (.slice a1 m.gd.length p1)/\W.cell? ⟨R,2,none⟩=some (.slice a2 m.sm.length p2)/\W.cell? ⟨R,3,none⟩=some (.slice a3 m.dk.length p3)/\W.cell? ⟨R,4,none⟩=some (.slice a4 m.pc.length p4)/\W.cell? ⟨R,5,none⟩=some (.int .i64 m.now):=h.blk.c6
end
theorem Bx.new {w:World} {v0 v1 v2 v3 v4:Value} {m:Z6} (h:Smy w v0 v1 v2 v3 v4 m):∃ a0 p0 a1 p1 a2 p2 a3 p3 a4 p4,v0= .slice a0 m.rm.length p0/\v1= .slice a1 m.gd.length p1/\v2= .slice a2 m.sm.length p2/\v3= .slice a3 m.dk.length p3/\v4= .slice a4 m.pc.length p4/\Bx w (w.alloc (.cells (S6 a0 p0 a1 p1 a2 p2 a3 p3 a4 p4 m) 32)) w.heap.size a0 p0 a1 p1 a2 p2 a3 p3 a4 p4 m:=by
 obtain ⟨a0,p0,a1,p1,a2,p2,a3,p3,a4,p4,rfl,rfl,rfl,rfl,rfl,_⟩:=h.five;exact ⟨a0,p0,a1,p1,a2,p2,a3,p3,a4,p4,rfl,rfl,rfl,rfl,rfl,h.alloc _,Blk.new _ _ _,(ba _ _)⟩
theorem Bx.put {w W:World} {v0 v1 v2 v3 v4:Value} {m:Z6} (h:Smy W v0 v1 v2 v3 v4 m) (hb:Below w.heap.size w W):∃ a0 p0 a1 p1 a2 p2 a3 p3 a4 p4,v0= .slice a0 m.rm.length p0/\v1= .slice a1 m.gd.length p1/\v2= .slice a2 m.sm.length p2/\v3= .slice a3 m.dk.length p3/\v4= .slice a4 m.pc.length p4/\Bx w (W.alloc (.cells (S6 a0 p0 a1 p1 a2 p2 a3 p3 a4 p4 m) 32)) W.heap.size a0 p0 a1 p1 a2 p2 a3 p3 a4 p4 m:=by
 obtain ⟨a0,p0,a1,p1,a2,p2,a3,p3,a4,p4,rfl,rfl,rfl,rfl,rfl,_⟩:=h.five;exact ⟨a0,p0,a1,p1,a2,p2,a3,p3,a4,p4,rfl,rfl,rfl,rfl,rfl,h.alloc _,Blk.new _ _ _,hb.trans (((ba _ _)).mono hb.size)⟩
theorem Bx.grown {w W X:World} {R:Nat} {a0 a1 a2 a3 a4:Option Addr} {p0 p1 p2 p3 p4:Nat} {m:Z6} {r:Option Nat} (h:Bx w W R a0 p0 a1 p1 a2 p2 a3 p3 a4 p4 m) (hs:Smy w (.slice a0 m.rm.length p0) (.slice a1 m.gd.length p1) (.slice a2 m.sm.length p2) (.slice a3 m.dk.length p3) (.slice a4 m.pc.length p4) m) (hg:W.grownBy X r) (hr:∀ k,r=some k->w.heap.size<=k/\k ≠ R):Bx w X R a0 p0 a1 p1 a2 p2 a3 p3 a4 p4 m:=by
 have hb:Below w.heap.size w X:=h.bb.grown hg h.bb.size (fun k e=>(hr k e).1);exact ⟨hs.below hb,(hg.block _ h.blk.lt (fun e=>(hr R e.symm).2 rfl)).trans h.blk,hb⟩
end Go.Proofs.YtlcpgkakdieeaaaGreat
namespace Go.Proofs.YtlcpgkakdieeaaaGreat
open Go.ChangeShapes Go.WideShapes Go.ChangeAt Go.RowKit Go.Sort Go.Proofs.Tryz
set_option linter.unusedVariables false
theorem JK (st be rk my gu lo hi hd ca ut wk:Int) (w:World):Calls prog 20 #[.agg (I11 st be rk my gu lo hi hd ca ut wk)] w fun e w'=>
  e= .returned (.bool (ZQ (st,be,rk,my,gu,lo,hi,hd,ca,ut,wk)))/\Below w.heap.size w w':=by
 unfold ZQ;simp only;cases h2:(st ==2)
 all_goals
  go_enter func20,ntmps20;go_wp2_with fail;go_ret;exact ⟨by first | rfl | (simp),(ba _ _)⟩
theorem Ma {st be rk my gu lo hi hd ca ut wk:Int} {q:Bool} (h:ZQ (st,be,rk,my,gu,lo,hi,hd,ca,ut,wk)=q) (w:World):cB 20 #[.agg (I11 st be rk my gu lo hi hd ca ut wk)] w (.bool q):=by
 have:=JK st be rk my gu lo hi hd ca ut wk w;rw [h] at this;exact this
end Go.Proofs.YtlcpgkakdieeaaaGreat
