/- Part 13 of what the proof rests on. No condition but those that a theorem names. -/
import Derived.Test.YtgdpaigcmoifbaaGreatXw07
import Derived.Test.YtgdpaigcmoifbaaGreatXw09
import Derived.Test.YtgdpaigcmoifbaaGreatXw10
import Derived.Test.YtgdpaigcmoifbaaGreatXw11
set_option maxHeartbeats 8000000
set_option maxRecDepth 100000
namespace Go.Proofs.YtgdpaigcmoifbaaGreat
open Go.ChangeShapes Go.WideShapes Go.ChangeAt Go.RowKit Go.Sort
set_option linter.unusedVariables false
structure Z6 where
 rm:List ZY
 gd:List Zs
 sm:List Z2
 dk:List Yg
 pc:List Int
 now:Int
structure Smy (w:World) (v0 v1 v2 v3 v4:Value) (m:Z6):Prop where
 rm:IsRooms w v0 m.rm
 gd:XF w v1 m.gd
 sm:Xc w v2 m.sm
 dk:Us w v3 m.dk
 pc:OI w v4 m.pc
theorem Smy.below {w w':World} {v0 v1 v2 v3 v4:Value} {m:Z6} (h:Smy w v0 v1 v2 v3 v4 m) (hb:Below w.heap.size w w'):Smy w' v0 v1 v2 v3 v4 m:=
 ⟨h.rm.below hb,h.gd.below hb,h.sm.below hb,h.dk.below hb,h.pc.below hb⟩
theorem Smy.alloc {w:World} {v0 v1 v2 v3 v4:Value} {m:Z6} (h:Smy w v0 v1 v2 v3 v4 m) (o:Obj):Smy (w.alloc o) v0 v1 v2 v3 v4 m:=h.below ((ba _ _))
theorem RecAt.set_old {α:Type} {t k:Nat} {enc:α->List Value} {n₀:Nat} {w:World} {v:Value} {xs:List α} (h:RecAt t k enc n₀ w v xs) (g o:Nat) (u:Value) (hg:g<n₀):RecAt t k enc n₀ (w.setCell ⟨g,o,none⟩ u) v xs:=
 h.same fun i hi=>heap_setCell_other w _ i u (by have:=(h.lt hi).1;show i ≠ g;omega)
abbrev E6:Array Value:=#[.slice none 0 0,.slice none 0 0,.slice none 0 0,.slice none 0 0,.slice none 0 0,.int .i64 0]
abbrev S6 (a0:Option Addr) (p0:Nat) (a1:Option Addr) (p1:Nat) (a2:Option Addr) (p2:Nat) (a3:Option Addr) (p3:Nat) (a4:Option Addr) (p4:Nat) (m:Z6):Array Value:=#[.slice a0 m.rm.length p0,.slice a1 m.gd.length p1,.slice a2 m.sm.length p2,.slice a3 m.dk.length p3,.slice a4 m.pc.length p4,.int .i64 m.now]
theorem Smy.five {w:World} {v0 v1 v2 v3 v4:Value} {m:Z6} (h:Smy w v0 v1 v2 v3 v4 m):∃ a0 p0 a1 p1 a2 p2 a3 p3 a4 p4,v0= .slice a0 m.rm.length p0/\v1= .slice a1 m.gd.length p1/\v2= .slice a2 m.sm.length p2/\v3= .slice a3 m.dk.length p3/\v4= .slice a4 m.pc.length p4/\m.rm.length<=p0/\p0<=9223372036854775807/\m.gd.length<=p1/\p1<=9223372036854775807/\m.sm.length<=p2/\p2<=9223372036854775807/\m.dk.length<=p3/\p3<=9223372036854775807/\m.pc.length<=p4/\p4<=9223372036854775807:=by
 obtain ⟨a0,p0,e0,x0,y0,_⟩:=h.rm;obtain ⟨a1,p1,e1,x1,y1,_⟩:=h.gd;obtain ⟨a2,p2,e2,x2,y2,_⟩:=h.sm;obtain ⟨a3,p3,e3,x3,y3,_⟩:=h.dk;obtain ⟨a4,p4,e4,x4,y4,_⟩:=h.pc;exact ⟨a0,p0,a1,p1,a2,p2,a3,p3,a4,p4,e0,e1,e2,e3,e4,x0,y0,x1,y1,x2,y2,x3,y3,x4,y4⟩
def ZL (s:Z2):Bool:=s.1 ==2 || s.1 ==3
def Wt (had WO:Int):Bool:=inB had (-1000000000000) 1000000000000 && (inB WO (-1000000000000) 1000000000000 && inB (had-WO) (-20000) 63000)
def Vr (d:Yg):Bool:=inB d.2.2 (-900000000000) 900000000000
def VX (m:Z6) (j:Nat):Bool:=inB (Z8 m.pc j) 0 (((ZQ m.rm j).2.length:Int)-1)
def XR (m:Z6) (s:Z2):Bool:=Zm s && (s.1 ==0 || (decide (s.2.2.2.2.1<m.gd.length) && decide (s.2.1<m.dk.length)))
def XL (m:Z6) (s:Z2):Bool:= !ZL s || ((Z8 m.dk s.2.1.toNat).1 && (V6 s.2.2.2.1 s.2.1 && Wt s.2.2.2.2.2.2.2.1 (Z8 m.dk s.2.1.toNat).2.2))
def Yx (m:Z6):Bool:=YW m.rm && (Za m.gd && (decide (m.sm.length<=12) && (decide ((m.dk.length:Int)=ZW m.rm) && (decide (m.pc.length=m.rm.length) && inB m.now 0 1000000))))
def Vd (m:Z6) (k:Nat):Bool:=(List.range k).all fun j=>Vr (Z8 m.dk j)
def Tp (m:Z6) (k:Nat):Bool:=(List.range k).any fun j=>(Z8 m.dk j).1
def VE (m:Z6) (k:Nat):Bool:=(List.range k).all fun j=>VX m j
def VF (m:Z6) (k:Nat):Bool:=(List.range k).all fun j=>XR m (Z8 m.sm j) && XL m (Z8 m.sm j)
def YA (m:Z6):Bool:=Yx m && (Vd m m.dk.length && (VE m m.pc.length && (VF m m.sm.length && Tp m m.dk.length)))
theorem Tg {p:Nat->Bool} (k:Nat):(List.range (k+1)).all p=((List.range k).all p && p k):=by rw [List.range_succ,List.all_append];simp
theorem IW {p:Nat->Bool} (k:Nat):(List.range (k+1)).any p=((List.range k).any p || p k):=by rw [List.range_succ,List.any_append];simp
theorem P4 {p:Nat->Bool} {k n:Nat} (hk:k<n) (h:p k=false):(List.range n).all p=false:=by
 rw [List.all_eq_false];exact ⟨k,List.mem_range.2 hk,by simp [h]⟩
theorem IV {p:Nat->Bool} {k n:Nat} (h:(List.range n).all p=true) (hk:k<n):p k=true:=List.all_eq_true.1 h k (List.mem_range.2 hk)
theorem VN {m:Z6} (h:Yx m=false):YA m=false:=by unfold YA;rw [h];rfl
theorem GD {m:Z6} {k:Nat} (hk:k<m.dk.length) (h:Vr (Z8 m.dk k)=false):YA m=false:=by
 unfold YA Vd;rw [P4 hk h];simp
theorem GF {m:Z6} {k:Nat} (hk:k<m.pc.length) (h:VX m k=false):YA m=false:=by
 unfold YA VE;rw [P4 (p:=fun j=>VX m j) hk h];simp
theorem Ji {m:Z6} {k:Nat} (hk:k<m.sm.length) (h:(XR m (Z8 m.sm k) && XL m (Z8 m.sm k))=false):YA m=false:=by
 unfold YA VF;rw [P4 (p:=fun j=>XR m (Z8 m.sm j) && XL m (Z8 m.sm j)) hk h];simp
theorem Ew {m:Z6} (h1:Yx m=true) (h2:Vd m m.dk.length=true) (h3:VE m m.pc.length=true) (h4:VF m m.sm.length=true):YA m=Tp m m.dk.length:=by
 unfold YA;rw [h1,h2,h3,h4];rfl
theorem Gl {m:Z6} {s:Z2} (h:XR m s=true) (hp:ZL s=true):0<=s.2.1/\s.2.1<m.dk.length/\s.2.1<=7/\1<=s.2.2.2.1/\s.2.2.2.1<=255/\s.2.2.2.2.1<m.gd.length:=by
 obtain ⟨st,be,rk,my,gu,lo,hi,hd,ca,ut,wk⟩:=s
 have hst:st ≠ 0:=by
  intro e;subst e;cases hp
 unfold XR at h;simp only [ZO,Bool.or_eq_true,YZ] at h;obtain ⟨h1,h2⟩:=h
 rcases h2 with h2 | ⟨h2,h3⟩
 ·exact absurd (by simpa using h2) hst
 ·have hs:Zm (st,be,rk,my,gu,lo,hi,hd,ca,ut,wk)=YN (st,be,rk,my,gu,lo,hi,hd,ca,ut,wk):=by unfold Zm;rw [Q9 hst,Bool.false_or]
  rw [hs] at h1;obtain ⟨_,⟨b0,b1⟩,_,⟨m0,m1⟩,_⟩:=Y2 h1;exact ⟨b0,h3,b1,m0,m1,h2⟩
def XA (ss:List Z2) (b:Int):Nat->Option (Int × Bool)
 | 0=>some (-1,false)
 | k+1=>match XA ss b k with
  | none=>none
  | some (wk,wt)=>if (Z8 ss k).2.1=b/\ZL (Z8 ss k)=true then (if (Z8 ss k).1=2 then some (wk,true) else if 0<=wk then none else some ((k:Int),wt)) else some (wk,wt)
def Yc (m:Z6) (b:Nat):Bool:=match XA m.sm b m.sm.length with
 | none=>false
 | some (wk,wt)=>(Z8 m.dk b).2.1 ==wk && !(wt && decide (wk<0))
def ZM (m:Z6):Bool:=YA m && (List.range m.dk.length).all (Yc m)
def atV (ss:List Z2) (b:Int):Nat->List Z4
 | 0=>[]
 | k+1=>if (Z8 ss k).2.1=b/\ZL (Z8 ss k)=true then Vm (atV ss b k) ((Z8 ss k).2.2.2.2.2.2.2.1,(k:Int)) else atV ss b k
theorem R7 (ss:List Z2) (b:Int):∀ k,(atV ss b k).length<=k
 | 0=>Z0 _
 | k+1=>by
  have:=R7 ss b k;unfold atV
  split
  ·rw [G5];omega
  ·omega
theorem TJ {ss:List Z2} {b:Int} {k:Nat} (h:¬ ((Z8 ss k).2.1=b/\ZL (Z8 ss k)=true)):atV ss b (k+1)=atV ss b k:=by rw [atV,if_neg h]
theorem U7 {ss:List Z2} {b:Int} {k:Nat} (h1:(Z8 ss k).2.1=b) (h2:ZL (Z8 ss k)=true):atV ss b (k+1)=Vm (atV ss b k) ((Z8 ss k).2.2.2.2.2.2.2.1,(k:Int)):=by rw [atV,if_pos ⟨h1,h2⟩]
def Y1 (m:Z6) (b:Int):Bool:=inB b 0 ((m.dk.length:Int)-1)
def UM (m:Z6) (b:Int):List Z4:=if ZM m && Y1 m b then atV m.sm b m.sm.length else []
theorem PQ {m:Z6} (h:ZM m=true):m.sm.length<=12:=by
 unfold ZM YA Yx at h;simp only [ZO,YZ] at h;exact h.1.1.2.2.1
def Xs (s:Z2):Int:=s.2.2.2.2.2.2.2.1
theorem AO {ps:List Z4} {x e:Z4} : e ∈ Vm ps x ↔ e ∈ ps\/e=x:=by
 rw [(QM ps x).mem_iff];simp
theorem XQ (ss:List Z2) (b:Int) (e:Z4):∀ k,e ∈ atV ss b k ↔ ∃ i:Nat,i<k/\(Z8 ss i).2.1=b/\ZL (Z8 ss i)=true/\e=(Xs (Z8 ss i),(i:Int))
 | 0=>by simp [atV]
 | k+1=>by
  have ih:=XQ ss b e k;by_cases h:(Z8 ss k).2.1=b/\ZL (Z8 ss k)=true
  ·rw [U7 h.1 h.2,AO,ih]
   constructor
   ·rintro (⟨i,hi,h1,h2,h3⟩ | h3)
    ·exact ⟨i,by omega,h1,h2,h3⟩
    ·exact ⟨k,by omega,h.1,h.2,h3⟩
   ·rintro ⟨i,hi,h1,h2,h3⟩
    by_cases hik:i=k
    ·subst hik;exact .inr h3
    ·exact .inl ⟨i,by omega,h1,h2,h3⟩
  ·rw [TJ h,ih]
   constructor
   ·rintro ⟨i,hi,h1,h2,h3⟩
    exact ⟨i,by omega,h1,h2,h3⟩
   ·rintro ⟨i,hi,h1,h2,h3⟩
    by_cases hik:i=k
    ·subst hik;exact absurd ⟨h1,h2⟩ h
    ·exact ⟨i,by omega,h1,h2,h3⟩
theorem Ns (ss:List Z2) (b:Int):∀ k,Ris (atV ss b k)
 | 0=>List.Pairwise.nil
 | k+1=>by
  by_cases h:(Z8 ss k).2.1=b/\ZL (Z8 ss k)=true
  ·rw [U7 h.1 h.2];exact G6 (Ns ss b k) _
  ·rw [TJ h];exact Ns ss b k
theorem TK (ss:List Z2) (b:Int):∀ k,(atV ss b k).Pairwise fun x y=>x.2 ≠ y.2
 | 0=>List.Pairwise.nil
 | k+1=>by
  by_cases h:(Z8 ss k).2.1=b/\ZL (Z8 ss k)=true
  ·rw [U7 h.1 h.2]
   refine (QM (atV ss b k) _).symm.pairwise ?_ (fun h=>Ne.symm h);rw [List.pairwise_append];refine ⟨TK ss b k,by simp,fun x hx y hy=> ?_⟩;obtain rfl:y=_:=by simpa using hy
   obtain ⟨i,hi,_,_,rfl⟩:=(XQ ss b x k).1 hx;show (i:Int) ≠ (k:Int);omega
  ·rw [TJ h];exact TK ss b k
def Alike (ss ss':List Z2) (k:Nat):Prop:= ∀ i,i<k->(Z8 ss' i).2.1=(Z8 ss i).2.1/\ZL (Z8 ss' i)=ZL (Z8 ss i)/\Xs (Z8 ss' i)=Xs (Z8 ss i)
theorem JL {ss ss':List Z2} (b:Int):∀ k,Alike ss ss' k->atV ss' b k=atV ss b k
 | 0,_=>rfl
 | k+1,h=>by
  have ih:=JL b k (fun i hi=>h i (by omega));obtain ⟨h1,h2,h3⟩:=h k (by omega);unfold atV;rw [h1,h2,ih,show (Z8 ss' k).2.2.2.2.2.2.2.1=(Z8 ss k).2.2.2.2.2.2.2.1 from h3]
def Xp (ss:List Z2) (b:Int):Int:=match atV ss b ss.length with
 | []=> -1
 | h::_=>h.2
theorem I7 {ss:List Z2} {b:Int} (h:atV ss b ss.length=[]):Xp ss b= -1:=by unfold Xp;rw [h]
theorem Vx {ss:List Z2} {b:Int} {e:Z4} {t:List Z4} (h:atV ss b ss.length=e::t):Xp ss b=e.2/\ ∃ i:Nat,i<ss.length/\(Z8 ss i).2.1=b/\ZL (Z8 ss i)=true/\e=(Xs (Z8 ss i),(i:Int)):=by
 refine ⟨by unfold Xp;rw [h],?_⟩;exact (XQ ss b e ss.length).1 (by rw [h];simp)
theorem Q8 {ss:List Z2} {b:Int} {e:Z4} {t:List Z4} (h:atV ss b ss.length=e::t) {i:Nat} (hi:i<ss.length) (h1:(Z8 ss i).2.1=b) (h2:ZL (Z8 ss i)=true):e.1<=Xs (Z8 ss i):=by
 have hm:(Xs (Z8 ss i),(i:Int)) ∈ atV ss b ss.length:=(XQ ss b _ ss.length).2 ⟨i,hi,h1,h2,rfl⟩;have hr:=Ns ss b ss.length;rw [h] at hm hr
 rcases List.mem_cons.1 hm with he | ht
 ·rw [<-he];exact Int.le_refl _
 ·have:=(List.pairwise_cons.1 hr).1 _ ht
  rw [J4] at this;simp only at this;omega
def stS (s:Z2) (st:Int):Z2:=(st,s.2)
def ZE (ss:List Z2) (q:List Z4):List Z2:=q.foldl (fun ss e=>ss.set e.2.toNat (stS (Z8 ss e.2.toNat) 2)) ss
theorem P0 (ss:List Z2) (q:List Z4) (e:Z4):ZE ss (q++[e])=(ZE ss q).set e.2.toNat (stS (Z8 (ZE ss q) e.2.toNat) 2):=by
  unfold ZE;rw [List.foldl_append];rfl
theorem XC (q:List Z4):∀ ss:List Z2,(ZE ss q).length=ss.length:=by
  induction q with
  | nil=>intro ss;rfl
  | cons e q ih=>intro ss;show (ZE (ss.set e.2.toNat (stS (Z8 ss e.2.toNat) 2)) q).length=_;rw [ih,V1]
theorem Qm (q:List Z4):∀ (ss:List Z2) (i:Nat),(∀ e ∈ q,0<=e.2/\e.2<ss.length)->((∃ e ∈ q,e.2=(i:Int))->Z8 (ZE ss q) i=stS (Z8 ss i) 2)/\((∀ e ∈ q,e.2 ≠ (i:Int))->Z8 (ZE ss q) i=Z8 ss i):=by
  induction q with
  | nil=>
    intro ss i h;exact ⟨fun ⟨e,he,_⟩=>(List.not_mem_nil he).elim,fun _=>rfl⟩
  | cons e q ih=>
    intro ss i h;obtain ⟨e0,e1⟩:=h e (by simp);have hs:=ZD (x:=stS (Z8 ss e.2.toNat) 2) (show e.2.toNat<ss.length by omega) i;obtain ⟨i1,i2⟩:=ih (ss.set e.2.toNat (stS (Z8 ss e.2.toNat) 2)) i (fun x hx=>by rw [V1];exact h x (List.mem_cons_of_mem _ hx));show ((∃ x ∈ e::q,x.2=(i:Int))->Z8 (ZE (ss.set e.2.toNat (stS (Z8 ss e.2.toNat) 2)) q) i=_)/\((∀ x ∈ e::q,x.2 ≠ (i:Int))->Z8 (ZE (ss.set e.2.toNat (stS (Z8 ss e.2.toNat) 2)) q) i=_)
    constructor
    · rintro ⟨x,hx,hxi⟩
      by_cases hq:∃ y ∈ q,y.2=(i:Int)
      · rw [i1 hq,hs]
        split
        · rename_i he;rw [he];rfl
        · rfl
      · rw [i2 (fun y hy e=>hq ⟨y,hy,e⟩),hs]
        rcases List.mem_cons.1 hx with rfl | hx
        · rw [if_pos (by omega)]
          rw [show x.2.toNat=i by omega]
        · exact absurd ⟨x,hx,hxi⟩ hq
    · intro hn
      rw [i2 (fun y hy=>hn y (List.mem_cons_of_mem _ hy)),hs,if_neg];have:=hn e (by simp);omega
def Xq (ss:List Z2) (b:Int) (d:Yg):Yg:=match atV ss b ss.length with
  | []=>(d.1,-1,d.2.2)
  | e::_=>(d.1,e.2,Zw d.2.2 e.1)
def WZ (m:Z6) (b:Nat):Z6:=match atV m.sm b m.sm.length with
  | []=>{ m with dk:=m.dk.set b ((Z8 m.dk b).1,-1,(Z8 m.dk b).2.2) }
  | e::t=>{ m with sm:=(ZE m.sm (e::t)).set e.2.toNat (stS (Z8 (ZE m.sm (e::t)) e.2.toNat) 3),dk:=m.dk.set b ((Z8 m.dk b).1,e.2,Zw (Z8 m.dk b).2.2 e.1) }
def YU (m:Z6):Nat->Z6
  | 0=>m
  | k+1=>WZ (YU m k) k
def ZH (m:Z6):Z6:=YU m m.dk.length
theorem Fd (m:Z6) (b:Nat):(WZ m b).rm=m.rm/\(WZ m b).gd=m.gd/\(WZ m b).pc=m.pc/\(WZ m b).now=m.now/\(WZ m b).sm.length=m.sm.length/\(WZ m b).dk.length=m.dk.length:=by
  unfold WZ
  split
  · simp
  · simp [XC]
theorem Zv (m:Z6):∀ k,(YU m k).rm=m.rm/\(YU m k).gd=m.gd/\(YU m k).pc=m.pc/\(YU m k).now=m.now/\(YU m k).sm.length=m.sm.length/\(YU m k).dk.length=m.dk.length
  | 0=>⟨rfl,rfl,rfl,rfl,rfl,rfl⟩
  | k+1=>by
    obtain ⟨h1,h2,h3,h4,h5,h6⟩:=Zv m k;obtain ⟨g1,g2,g3,g4,g5,g6⟩:=Fd (YU m k) k;exact ⟨g1.trans h1,g2.trans h2,g3.trans h3,g4.trans h4,g5.trans h5,g6.trans h6⟩
theorem OB (m : Z6) (b : Nat) {i : Nat} (hi : i < m.sm.length) : Z8 (WZ m b).sm i = if (Z8 m.sm i).2.1 = (b : Int) ∧ ZL (Z8 m.sm i) = true then stS (Z8 m.sm i) (if Xp m.sm b = (i : Int) then 3 else 2) else Z8 m.sm i := by
  have hq := XQ m.sm (b : Int)
  have hf : Xp m.sm (b : Int) = match atV m.sm (b : Int) m.sm.length with
    | [] => -1
    | h :: _ => h.2 := rfl
  unfold WZ
  split
  · rename_i h0
    rw [if_neg];intro hp;have := (hq (Xs (Z8 m.sm i), (i : Int)) m.sm.length).2 ⟨i, hi, hp.1, hp.2, rfl⟩;rw [h0] at this;exact List.not_mem_nil this
  · rename_i e t h0
    rw [h0] at hf;simp only at hf
    have hin : ∀ x ∈ e :: t, 0 ≤ x.2 ∧ x.2 < m.sm.length := by
      intro x hx;rw [← h0] at hx;obtain ⟨j, hj, _, _, rfl⟩ := (hq x _).1 hx;exact ⟨by show (0 : Int) ≤ (j : Int); omega, by show (j : Int) < _; omega⟩
    obtain ⟨w1, w2⟩ := Qm (e :: t) m.sm i hin;obtain ⟨e0, e1⟩ := hin e (by simp);show Z8 ((ZE m.sm (e :: t)).set e.2.toNat _) i = _;rw [ZD (by rw [XC]; omega)];by_cases hp : (Z8 m.sm i).2.1 = (b : Int) ∧ ZL (Z8 m.sm i) = true
    · have hmem : (Xs (Z8 m.sm i), (i : Int)) ∈ e :: t := by rw [← h0]; exact (hq _ _).2 ⟨i, hi, hp.1, hp.2, rfl⟩
      rw [if_pos hp, hf];by_cases hie : i = e.2.toNat
      · rw [if_pos hie, if_pos (by omega), ← hie, w1 ⟨_, hmem, rfl⟩]
        rfl
      · rw [if_neg hie, if_neg (by omega), w1 ⟨_, hmem, rfl⟩]
    · have hnm : ∀ x ∈ e :: t, x.2 ≠ (i : Int) := by
        intro x hx hxi;rw [← h0] at hx;obtain ⟨j, hj, j1, j2, rfl⟩ := (hq x _).1 hx
        have : j = i := by have : (j : Int) = (i : Int) := hxi
                           omega
        subst this;exact hp ⟨j1, j2⟩
      rw [if_neg hp, if_neg (by have := hnm e (by simp); omega), w2 hnm]
theorem Fb (m:Z6) {b:Nat} (hb:b<m.dk.length) (j:Nat):Z8 (WZ m b).dk j=if j=b then Xq m.sm b (Z8 m.dk b) else Z8 m.dk j:=by
  have hf:Xq m.sm (b:Int) (Z8 m.dk b)=match atV m.sm (b:Int) m.sm.length with
    | []=>((Z8 m.dk b).1,-1,(Z8 m.dk b).2.2)
    | e::_=>((Z8 m.dk b).1,e.2,Zw (Z8 m.dk b).2.2 e.1):=rfl
  unfold WZ
  split
  · rename_i h0
    rw [h0] at hf;rw [hf,<-ZD hb]
  · rename_i e t h0
    rw [h0] at hf;rw [hf,<-ZD hb]
theorem Iv (m:Z6) (b:Nat):Alike m.sm (WZ m b).sm m.sm.length:=by
  intro i hi;rw [OB m b hi]
  split
  · rename_i hp
    refine ⟨rfl,?_,rfl⟩;rw [hp.2]
    split<;>rfl
  · exact ⟨rfl,rfl,rfl⟩
theorem Alike.trans {a b c:List Z2} {k:Nat} (h:Alike a b k) (g:Alike b c k):Alike a c k:=fun i hi=>⟨(g i hi).1.trans (h i hi).1,(g i hi).2.1.trans (h i hi).2.1,(g i hi).2.2.trans (h i hi).2.2⟩
theorem W6 (m:Z6):∀ k,Alike m.sm (YU m k).sm m.sm.length
  | 0=>fun _ _=>⟨rfl,rfl,rfl⟩
  | k+1=>by
    have h:=Iv (YU m k) k;rw [(Zv m k).2.2.2.2.1] at h;exact (W6 m k).trans h
theorem QT (m:Z6) (k:Nat) (b:Int):atV (YU m k).sm b (YU m k).sm.length=atV m.sm b m.sm.length:=by
  rw [(Zv m k).2.2.2.2.1];exact JL b _ (W6 m k)
theorem Iw (m:Z6) (k:Nat) (b:Int):Xp (YU m k).sm b=Xp m.sm b:=by unfold Xp;rw [QT]
theorem Lh (m:Z6) (k:Nat) (b:Int) (d:Yg):Xq (YU m k).sm b d=Xq m.sm b d:=by unfold Xq;rw [QT]
theorem XB (m:Z6) {i:Nat} (hi:i<m.sm.length):∀ k:Nat,Z8 (YU m k).sm i=if (0<=(Z8 m.sm i).2.1/\(Z8 m.sm i).2.1<(k:Int))/\ZL (Z8 m.sm i)=true then stS (Z8 m.sm i) (if Xp m.sm (Z8 m.sm i).2.1=(i:Int) then 3 else 2) else Z8 m.sm i
  | 0=>by rw [if_neg (by omega)];rfl
  | k+1=>by
    have ih:=XB m hi k;have ha:=W6 m k i hi;show Z8 (WZ (YU m k) k).sm i=_;rw [OB _ _ (by rw [(Zv m k).2.2.2.2.1];exact hi),ha.1,ha.2.1,Iw];by_cases hp:ZL (Z8 m.sm i)=true
    · by_cases hb:(Z8 m.sm i).2.1=(k:Int)
      · have hc:(0<=(Z8 m.sm i).2.1/\(Z8 m.sm i).2.1<((k+1:Nat):Int))/\ZL (Z8 m.sm i)=true:=⟨by omega,hp⟩
        rw [if_pos ⟨hb,hp⟩,if_pos hc,ih,if_neg (by omega),hb]
      · rw [if_neg (fun h=>hb h.1),ih]
        by_cases hk:0<=(Z8 m.sm i).2.1/\(Z8 m.sm i).2.1<(k:Int)
        · have hc:(0<=(Z8 m.sm i).2.1/\(Z8 m.sm i).2.1<((k+1:Nat):Int))/\ZL (Z8 m.sm i)=true:=⟨by omega,hp⟩
          rw [if_pos ⟨hk,hp⟩,if_pos hc]
        · rw [if_neg (fun h=>hk h.1),if_neg (fun h=>hk (by omega))]
    · rw [if_neg (fun h=>hp h.2),ih,if_neg (fun h=>hp h.2),if_neg (fun h=>hp h.2)]
theorem VT (m:Z6) (j:Nat):∀ k:Nat,k<=m.dk.length->Z8 (YU m k).dk j=if j<k then Xq m.sm j (Z8 m.dk j) else Z8 m.dk j
  | 0,_=>by rw [if_neg (by omega)];rfl
  | k+1,hk=>by
    have ih:=VT m j k (by omega);show Z8 (WZ (YU m k) k).dk j=_;rw [Fb _ (by rw [(Zv m k).2.2.2.2.2];omega)];by_cases hjk:j=k
    · subst hjk
      rw [if_pos rfl,if_pos (by omega),Lh,ih,if_neg (by omega)]
    · rw [if_neg hjk,ih]
      by_cases h:j<k
      · rw [if_pos h,if_pos (by omega)]
      · rw [if_neg h,if_neg (by omega)]
structure Loose (m:Z6):Prop where
  head:Yx m=true
  desk:∀ j,j<m.dk.length->Vr (Z8 m.dk j)=true
  pace:∀ j,j<m.pc.length->VX m j=true
  here:∀ i,i<m.sm.length->XR m (Z8 m.sm i)=true
  seat:∀ i,i<m.sm.length->XL m (Z8 m.sm i)=true
  openD:∃ j,j<m.dk.length/\(Z8 m.dk j).1=true
theorem Ro {m:Z6} (h:YA m=true):Loose m:=by
  unfold YA Vd VE VF Tp at h;simp only [ZO] at h;obtain ⟨h1,h2,h3,h4,h5⟩:=h;have h4':=fun i hi=>IV h4 (k:=i) hi;simp only [ZO] at h4';obtain ⟨j,hj,ho⟩:=List.any_eq_true.1 h5;exact ⟨h1,fun j hj=>IV h2 hj,fun j hj=>IV h3 hj,fun i hi=>(h4' i hi).1,fun i hi=>(h4' i hi).2,j,List.mem_range.1 hj,ho⟩
theorem Loose.mk' {m:Z6} (h:Loose m):YA m=true:=by
  unfold YA Vd VE VF Tp;simp only [ZO];refine ⟨h.head,?_,?_,?_,?_⟩
  · exact List.all_eq_true.2 fun j hj=>h.desk j (List.mem_range.1 hj)
  · exact List.all_eq_true.2 fun j hj=>h.pace j (List.mem_range.1 hj)
  · exact List.all_eq_true.2 fun j hj=>by rw [h.here j (List.mem_range.1 hj),h.seat j (List.mem_range.1 hj)];rfl
  · obtain ⟨j,hj,ho⟩:=h.openD
    exact List.any_eq_true.2 ⟨j,List.mem_range.2 hj,ho⟩
theorem Loose.at {m:Z6} (h:Loose m) {i:Nat} (hi:i<m.sm.length) (hp:ZL (Z8 m.sm i)=true):0<=(Z8 m.sm i).2.1/\(Z8 m.sm i).2.1<m.dk.length/\(Z8 m.dk (Z8 m.sm i).2.1.toNat).1=true/\V6 (Z8 m.sm i).2.2.2.1 (Z8 m.sm i).2.1=true/\Wt (Xs (Z8 m.sm i)) (Z8 m.dk (Z8 m.sm i).2.1.toNat).2.2=true:=by
  obtain ⟨b0,b1,_⟩:=Gl (h.here i hi) hp;have hs:=h.seat i hi;unfold XL at hs;rw [hp] at hs;simp only [Bool.not_true,Bool.false_or,ZO] at hs;exact ⟨b0,b1,hs.1,hs.2.1,hs.2.2⟩
theorem TL {had WO:Int} (h:Wt had WO=true) : -1000000000000<=had/\had<=1000000000000/\ -1000000000000<=WO/\WO<=1000000000000/\ -20000<=had-WO/\had-WO<=63000:=by
  unfold Wt at h;simp only [ZO] at h;have h1:=ZN h.1;have h2:=ZN h.2.1;have h3:=ZN h.2.2;omega
theorem Pn {had WO:Int} (h0 : -1000000000000<=had) (h1:had<=1000000000000) (h2 : -1000000000000<=WO) (h3:WO<=1000000000000) (h4 : -20000<=had-WO) (h5:had-WO<=63000):Wt had WO=true:=by
  unfold Wt;rw [Zn h0 h1,Zn h2 h3,Zn h4 h5];rfl
theorem SL {d:Yg} (h:Vr d=true) : -900000000000<=d.2.2/\d.2.2<=900000000000:=ZN h
theorem Cy {s:Z2} {st:Int} (h:Zm s=true) (hp:ZL s=true) (h0:1<=st) (h1:st<=3):Zm (stS s st)=true:=by
  obtain ⟨x0,be,rk,my,gu,lo,hi,hd,ca,ut,wk⟩:=s;have hx:x0 ≠ 0:=by intro e;subst e;cases hp
  unfold Zm at h ⊢;rw [Q9 (x:=(x0,be,rk,my,gu,lo,hi,hd,ca,ut,wk)) hx,Bool.false_or] at h;unfold YN at h;simp only [ZO] at h;obtain ⟨g0,g⟩:=h
  have:YN (stS (x0,be,rk,my,gu,lo,hi,hd,ca,ut,wk) st)=true:=by
    unfold YN stS;simp only [ZO];exact ⟨Zn h0 h1,g⟩
  rw [this,Bool.or_true]
theorem L7 {m:Z6} {s:Z2} {st:Int} (h:XR m s=true) (hp:ZL s=true) (h0:1<=st) (h1:st<=3):XR m (stS s st)=true:=by
  unfold XR at h ⊢;simp only [ZO,Bool.or_eq_true] at h ⊢;refine ⟨Cy h.1 hp h0 h1,.inr ?_⟩
  rcases h.2 with e | e
  · have:s.1=0:=by simpa using e
    unfold ZL at hp;rw [this] at hp;cases hp
  · exact e
theorem Wj {m m':Z6} (hg:m'.gd.length=m.gd.length) (hd:m'.dk.length=m.dk.length) (s:Z2):XR m' s=XR m s:=by unfold XR;rw [hg,hd]
theorem Fg {m:Z6} (h:Loose m):Loose (ZH m):=by
  obtain ⟨e1,e2,e3,e4,e5,e6⟩:=Zv m m.dk.length;have hd:=fun j=>VT m j m.dk.length (Z0 _)
  have hopen:∀ j,(Z8 (ZH m).dk j).1=(Z8 m.dk j).1:=by
    intro j;unfold ZH;rw [hd j]
    split
    · unfold Xq;split<;>rfl
    · rfl
  have hmark:∀ j,j<m.dk.length->(-900000000000<=(Z8 (ZH m).dk j).2.2/\(Z8 (ZH m).dk j).2.2<=900000000000)/\(Z8 m.dk j).2.2<=(Z8 (ZH m).dk j).2.2/\((Z8 (ZH m).dk j).2.2<=(Z8 m.dk j).2.2\/ ∀ i,i<m.sm.length->(Z8 m.sm i).2.1=(j:Int)->ZL (Z8 m.sm i)=true->(Z8 (ZH m).dk j).2.2<=Xs (Z8 m.sm i)):=by
    intro j hj;obtain ⟨k0,k1⟩:=SL (h.desk j hj);unfold ZH;rw [hd j,if_pos hj];unfold Xq
    split
    · exact ⟨⟨k0,k1⟩,Int.le_refl _,.inl (Int.le_refl _)⟩
    · rename_i e t hq
      obtain ⟨_,i,hi,hib,hip,rfl⟩:=Vx hq;obtain ⟨_,_,_,_,hband⟩:=h.at hi hip;obtain ⟨a0,a1,_⟩:=TL hband;have hm:=J6 (m:=(Z8 m.dk j).2.2) (f:=Xs (Z8 m.sm i)) (by omega) (by omega) a0 a1;show (-900000000000<=Zw _ _/\Zw _ _<=900000000000)/\_<=Zw _ _/\(Zw _ _<=_\/_)
      rw [hm];refine ⟨by omega,by omega,?_⟩;by_cases hc:Xs (Z8 m.sm i)<=(Z8 m.dk j).2.2
      · left;omega
      · right
        intro i' hi' hb' hp';have:=Q8 hq hi' hb' hp';simp only at this;show min (max (Z8 m.dk j).2.2 (Xs (Z8 m.sm i))) 900000000000<=_;omega
  refine ⟨?_,?_,?_,?_,?_,?_⟩
  · have:=h.head
    unfold Yx at this ⊢;unfold ZH;rw [e1,e2,e3,e4,e5,e6];exact this
  · intro j hj
    have hj':j<m.dk.length:=by unfold ZH at hj;omega
    exact Zn (hmark j hj').1.1 (hmark j hj').1.2
  · intro j hj
    have hj':j<m.pc.length:=by unfold ZH at hj;rw [e3] at hj;exact hj
    have:=h.pace j hj';unfold VX at this ⊢;unfold ZH;rw [e1,e3];exact this
  · intro i hi
    have hi':i<m.sm.length:=by unfold ZH at hi;omega
    rw [Wj (m:=m) (by unfold ZH;rw [e2]) (by unfold ZH;rw [e6])];unfold ZH;rw [XB m hi']
    split
    · rename_i hp
      exact L7 (h.here i hi') hp.2 (by split<;>omega) (by split<;>omega)
    · exact h.here i hi'
  · intro i hi
    have hi':i<m.sm.length:=by unfold ZH at hi;omega
    have ha:=W6 m m.dk.length i hi';unfold XL;show (!ZL (Z8 (YU m m.dk.length).sm i) || _)=true;rw [ha.2.1];cases hp:ZL (Z8 m.sm i)
    · rfl
    · obtain ⟨b0,b1,ho,hm,hband⟩:=h.at hi' hp
      obtain ⟨a0,a1,a2,a3,a4,a5⟩:=TL hband;obtain ⟨⟨q0,q1⟩,q2,q3⟩:=hmark (Z8 m.sm i).2.1.toNat (by omega)
      have hmay:(Z8 (YU m m.dk.length).sm i).2.2.2.1=(Z8 m.sm i).2.2.2.1:=by
        rw [XB m hi'];split<;>rfl
      show (!true || ((Z8 (ZH m).dk (Z8 (YU m m.dk.length).sm i).2.1.toNat).1 && (V6 (Z8 (YU m m.dk.length).sm i).2.2.2.1 (Z8 (YU m m.dk.length).sm i).2.1 && Wt (Xs (Z8 (YU m m.dk.length).sm i)) (Z8 (ZH m).dk (Z8 (YU m m.dk.length).sm i).2.1.toNat).2.2)))=true;rw [ha.1,ha.2.2,hmay,hopen,ho,hm];rw [Pn a0 a1 (by omega) (by omega) ?_ (by omega)]
      · rfl
      · rcases q3 with q3 | q3
        · omega
        · have:=q3 i hi' (by omega) hp
          omega
  · obtain ⟨j,hj,ho⟩:=h.openD
    exact ⟨j,by unfold ZH;omega,by rw [hopen];exact ho⟩
theorem DD {ss : List Z2} {b f : Int} : ∀ k : Nat, (∀ i, i < k → (Z8 ss i).2.1 = b → ZL (Z8 ss i) = true → ((Z8 ss i).1 = 2 ∧ (i : Int) ≠ f) ∨ ((Z8 ss i).1 = 3 ∧ (i : Int) = f)) →
    ∃ wk wt, XA ss b k = some (wk, wt) ∧ ((wk = -1 ∧ ∀ i, i < k → (Z8 ss i).2.1 = b → ZL (Z8 ss i) = true → (i : Int) ≠ f) ∨ (wk = f ∧ ∃ i : Nat, i < k ∧ (Z8 ss i).2.1 = b ∧ ZL (Z8 ss i) = true ∧ (i : Int) = f)) ∧ (wt = true → ∃ i, i < k ∧ (Z8 ss i).2.1 = b ∧ ZL (Z8 ss i) = true)
  | 0, _ => ⟨-1, false, rfl, .inl ⟨rfl, fun i hi => by omega⟩, fun h => by cases h⟩
  | k + 1, h => by
    obtain ⟨wk, wt, hs, hw, ht⟩ := DD k (fun i hi => h i (by omega))
    have hu : XA ss b (k + 1) = if (Z8 ss k).2.1 = b ∧ ZL (Z8 ss k) = true then (if (Z8 ss k).1 = 2 then some (wk, true) else if 0 ≤ wk then none else some ((k : Int), wt)) else some (wk, wt) := by
      show (match XA ss b k with
        | none => none
        | some (wk, wt) => _) = _
      rw [hs]
    rw [hu];by_cases hp : (Z8 ss k).2.1 = b ∧ ZL (Z8 ss k) = true
    · rw [if_pos hp]
      rcases h k (by omega) hp.1 hp.2 with ⟨h2, hne⟩ | ⟨h3, hkf⟩
      · rw [if_pos h2]
        refine ⟨wk, true, rfl, ?_, fun _ => ⟨k, by omega, hp.1, hp.2⟩⟩
        rcases hw with ⟨e, hn⟩ | ⟨e, i, hi, hb, hpi, hif⟩
        · refine .inl ⟨e, fun i hi hb hpi => ?_⟩
          by_cases hik : i = k
          · subst hik; exact hne
          · exact hn i (by omega) hb hpi
        · exact .inr ⟨e, i, by omega, hb, hpi, hif⟩
      · rw [if_neg (by omega)]
        have hw1 : wk = -1 := by
          rcases hw with ⟨e, _⟩ | ⟨e, i, hi, hb, hpi, hif⟩
          · exact e
          · omega
        rw [if_neg (by omega)];exact ⟨k, wt, rfl, .inr ⟨hkf, k, by omega, hp.1, hp.2, hkf⟩, fun e => by obtain ⟨i, hi, r⟩ := ht e; exact ⟨i, by omega, r⟩⟩
    · rw [if_neg hp]
      refine ⟨wk, wt, rfl, ?_, fun e => by obtain ⟨i, hi, r⟩ := ht e; exact ⟨i, by omega, r⟩⟩
      rcases hw with ⟨e, hn⟩ | ⟨e, i, hi, r⟩
      · refine .inl ⟨e, fun i hi hb hpi => ?_⟩
        by_cases hik : i = k
        · subst hik; exact absurd ⟨hb, hpi⟩ hp
        · exact hn i (by omega) hb hpi
      · exact .inr ⟨e, i, by omega, r⟩
theorem YS {m:Z6} (h:Loose m):ZM (ZH m)=true:=by
  unfold ZM;rw [ZO];refine ⟨(Fg h).mk',?_⟩;obtain ⟨e1,e2,e3,e4,e5,e6⟩:=Zv m m.dk.length;refine List.all_eq_true.2 fun b hb=> ?_;have hb:=List.mem_range.1 hb;have hb':b<m.dk.length:=by unfold ZH at hb;omega
  have hn:(ZH m).sm.length=m.sm.length:=e5;have ha:=W6 m m.dk.length
  have hstate:∀ i,i<m.sm.length->(Z8 (ZH m).sm i).2.1=(b:Int)->ZL (Z8 (ZH m).sm i)=true->((Z8 (ZH m).sm i).1=2/\(i:Int) ≠ Xp m.sm b)\/((Z8 (ZH m).sm i).1=3/\(i:Int)=Xp m.sm b):=by
    intro i hi hib hip;have hib':(Z8 m.sm i).2.1=(b:Int):=(ha i hi).1.symm.trans hib;have hip':ZL (Z8 m.sm i)=true:=(ha i hi).2.1.symm.trans hip;unfold ZH;rw [XB m hi,if_pos ⟨by omega,hip'⟩,hib'];by_cases hf:Xp m.sm (b:Int)=(i:Int)
    · right;rw [if_pos hf];exact ⟨rfl,hf.symm⟩
    · left;rw [if_neg hf];exact ⟨rfl,fun e=>hf e.symm⟩
  obtain ⟨wk,wt,hs,hw,ht⟩:=DD (b:=(b:Int)) (f:=Xp m.sm b) (ss:=(ZH m).sm) m.sm.length hstate;unfold Yc;rw [hn,hs];simp only;have hdesk:=VT m b m.dk.length (Z0 _);rw [if_pos hb'] at hdesk;cases hq:atV m.sm (b:Int) m.sm.length with
  | nil=>
    have hempty:∀ i,i<m.sm.length-> ¬ ((Z8 (ZH m).sm i).2.1=(b:Int)/\ZL (Z8 (ZH m).sm i)=true):=by
      rintro i hi ⟨hib,hip⟩;have:=(XQ m.sm (b:Int) (Xs (Z8 m.sm i),(i:Int)) m.sm.length).2 ⟨i,hi,(ha i hi).1.symm.trans hib,(ha i hi).2.1.symm.trans hip,rfl⟩;rw [hq] at this;exact List.not_mem_nil this
    have hwt:wt=false:=by
      cases wt
      · rfl
      · obtain ⟨i,hi,r⟩:=ht rfl
        exact absurd r (hempty i hi)
    have hwk:wk= -1:=by
      rcases hw with ⟨e,_⟩ | ⟨_,i,hi,hb,hp,_⟩
      · exact e
      · exact absurd ⟨hb,hp⟩ (hempty i hi)
    have hwho:(Z8 (ZH m).dk b).2.1= -1:=by
      unfold ZH;rw [hdesk];unfold Xq;rw [hq]
    rw [hwho,hwk,hwt];rfl
  | cons e t=>
    obtain ⟨hfe,i,hi,hib,hip,rfl⟩:=Vx hq
    have hwho:(Z8 (ZH m).dk b).2.1=(i:Int):=by
      unfold ZH;rw [hdesk];unfold Xq;rw [hq]
    have hwk:wk=(i:Int):=by
      rcases hw with ⟨_,hn⟩ | ⟨e,_⟩
      · exact absurd hfe.symm (hn i hi ((ha i hi).1.trans hib) ((ha i hi).2.1.trans hip))
      · exact e.trans hfe
    rw [hwho,hwk];have:decide ((i:Int)<0)=false:=Yb (by omega);rw [this];simp
def TG (gs:List Zs) (s:Z2):Int:=min (max s.2.2.2.2.2.2.2.2.2.1 (Uy (bnd gs s.2.2.2.2.1) s.2.2.2.2.2.1 s.2.2.2.2.2.2.1).1) (Uy (bnd gs s.2.2.2.2.1) s.2.2.2.2.2.1 s.2.2.2.2.2.2.1).2
def ZC (m:Z6) (who:Int):Int:=TG m.gd (Z8 m.sm who.toNat)
theorem Bq (gs:List Zs) (s:Z2):0<=TG gs s/\TG gs s<=1024:=by
 obtain ⟨b0,b1,b2⟩:=yp gs s.2.2.2.2.1;obtain ⟨n0,n1,n2⟩:=Dr (lo:=s.2.2.2.2.2.1) (hi:=s.2.2.2.2.2.2.1) b0 b1 b2;unfold TG;omega
theorem Wr (m:Z6) (who:Int):0<=ZC m who/\ZC m who<=1024:=Bq _ _
def UE (m:Z6) (but:Int) (q:List Z4):Int:=q.foldl (fun n e=>if e.2=but then n else n+ZC m e.2) 0
theorem Fi (m:Z6) (but:Int) (q:List Z4) (e:Z4):UE m but (q++[e])=if e.2=but then UE m but q else UE m but q+ZC m e.2:=by
 unfold UE;rw [List.foldl_append];rfl
theorem IB (m:Z6) (but:Int):∀ (q:List Z4) (n:Int),0<=n->0<=q.foldl (fun n e=>if e.2=but then n else n+ZC m e.2) n/\q.foldl (fun n e=>if e.2=but then n else n+ZC m e.2) n<=n+1024*q.length
 | [],n,h=>⟨h,by simp⟩
 | e::q,n,h=>by
  have hw:=Wr m e.2;have ih:=IB m but q (if e.2=but then n else n+ZC m e.2) (by split<;>omega);refine ⟨ih.1,Int.le_trans ih.2 ?_⟩;simp only [YL,Int.natCast_add,Int.natCast_one]
  split<;>omega
theorem IC (m:Z6) (but:Int) (q:List Z4):0<=UE m but q/\UE m but q<=1024*q.length:=by
 have:=IB m but q 0 (by omega);unfold UE;omega
def Zx (m:Z6) (b but:Int):Int:=UE m but (atV m.sm b m.sm.length)
theorem U4 (m:Z6) (b but:Int):0<=Zx m b but/\Zx m b but<=1024*m.sm.length:=by
 have h:=IC m but (atV m.sm b m.sm.length);have hl:=R7 m.sm b m.sm.length;unfold Zx;refine ⟨h.1,Int.le_trans h.2 ?_⟩;omega
def Y3 (m:Z6) (room:Int):Nat->Int × Int
 | 0=>(0,0)
 | k+1=>if (Xl m.rm k:Int)=room then ((if (Z8 m.dk k).1 then max (Y3 m room k).1 (Zx m k (-1)) else (Y3 m room k).1),(Y3 m room k).2+Zx m k (-1)) else Y3 m room k
theorem QU (m:Z6) (room:Int) (hl:m.sm.length<=12):∀ k:Nat,(0<=(Y3 m room k).1/\(Y3 m room k).1<=12288)/\0<=(Y3 m room k).2/\(Y3 m room k).2<=12288*k
 | 0=>by simp [Y3]
 | k+1=>by
  have ih:=QU m room hl k;have hu:=U4 m k (-1);unfold Y3
  split
  ·simp only
   constructor
   ·split<;>omega
   ·push_cast;omega
  ·push_cast;omega
def Wv (m:Z6) (room:Nat):Int:=Qc (ZQ m.rm room) (Y3 m room m.dk.length).1 (Y3 m room m.dk.length).2
def Xg (m:Z6):Nat->Int
 | 0=>0
 | k+1=>Xg m k+Wv m k
def WK (m:Z6):Int:=Xg m m.rm.length
theorem OO (m:Z6):∀ k:Nat,-(k:Int)<=Xg m k/\Xg m k<=1024000000*k
 | 0=>by simp [Xg]
 | k+1=>by
  have ih:=OO m k;have hc:=FR (ZQ m.rm k) (Xk (ZQ m.rm k) (Y3 m k m.dk.length).1) (Y3 m k m.dk.length).2;unfold Xg Wv Qc
  push_cast
  omega
def Qy (s:Z2) (b:Int):Z2:=(2,b,s.2.2)
def WJ (m:Z6) (who b:Int):Z6:={ m with sm:=m.sm.set who.toNat (Qy (Z8 m.sm who.toNat) b) }
def ZS (m:Z6) (who b:Int):Int:=WK (WJ m who b)
def Zk (m:Z6) (who:Int) (b:Nat):Bool:=(Z8 m.dk b).1 && V6 (Z8 m.sm who.toNat).2.2.2.1 b
def Pv (m:Z6) (who:Int) (b:Nat):Bool:=Zk m who b && WW (ZC m who) (Zx m b who) (Zo m.rm b)
def VI (m:Z6) (who:Int):Nat->List Int
 | 0=>[]
 | k+1=>if Pv m who k then VI m who k++[(k:Int)] else VI m who k
def Zr (m:Z6) (who:Int):List Int:=VI m who m.dk.length
theorem OR (m:Z6) (who:Int):∀ k,(VI m who k).length<=k
 | 0=>Z0 _
 | k+1=>by
  have:=OR m who k;unfold VI
  split
  ·simp;omega
  ·omega
theorem SP (m:Z6) (who:Int) (x:Int):∀ k,x ∈ VI m who k ↔ ∃ b:Nat,b<k/\x=(b:Int)/\Pv m who b=true
 | 0=>by simp [VI]
 | k+1=>by
  have ih:=SP m who x k;unfold VI
  split
  ·rename_i hf
   rw [List.mem_append,ih];constructor
   ·rintro (⟨b,hb,e,h⟩ | h)
    ·exact ⟨b,by omega,e,h⟩
    ·exact ⟨k,by omega,by simpa using h,hf⟩
   ·rintro ⟨b,hb,e,h⟩
    by_cases hbk:b=k
    ·subst hbk;right;simp [e]
    ·left;exact ⟨b,by omega,e,h⟩
  ·rename_i hf
   rw [ih];constructor
   ·rintro ⟨b,hb,e,h⟩
    exact ⟨b,by omega,e,h⟩
   ·rintro ⟨b,hb,e,h⟩
    by_cases hbk:b=k
    ·subst hbk;exact absurd h hf
    ·exact ⟨b,by omega,e,h⟩
def Vv (m:Z6) (b:Nat):Bool:=(Z8 m.dk b).1 && V4 (Zx m b (-1)) (Zo m.rm b)
def XT (m:Z6):Bool:=(List.range m.dk.length).any (Vv m)
def YP (m:Z6) (who:Int) (a:Int × Int) (b:Int):Int × Int:=if ZS m who b<a.2\/(ZS m who b=a.2/\b=(Z8 m.sm who.toNat).2.1) then (b,ZS m who b) else a
def XE (m:Z6) (who:Int) (f:List Int) (k:Nat):Int × Int:=((f.take k).drop 1).foldl (YP m who) (Z8 f 0,ZS m who (Z8 f 0))
def YX (m:Z6) (who:Int):Nat->Int × Int
 | 0=>(-1,0)
 | k+1=>if Zk m who k && (decide ((YX m who k).1<0) || decide ((YX m who k).2<XX (Zx m k who) (Zo m.rm k))) then ((k:Int),XX (Zx m k who) (Zo m.rm k)) else YX m who k
def Zl (m:Z6) (who:Int):Int:=if !XT m && decide (0<(Zr m who).length) then (XE m who (Zr m who) (Zr m who).length).1 else (YX m who m.dk.length).1
theorem FH (m:Z6) (who:Int) (P:Int->Prop):∀ (f:List Int) (a:Int × Int),P a.1->(∀ x ∈ f,P x)->P (f.foldl (YP m who) a).1
 | [],a,h,_=>h
 | b::f,a,h,hf=>by
  refine FH m who P f (YP m who a b) ?_ (fun x hx=>hf x (List.mem_cons_of_mem _ hx));unfold YP
  split
  ·exact hf b (by simp)
  ·exact h
theorem Jn (m:Z6) (who:Int):∀ k:Nat,((YX m who k).1= -1/\ ∀ b,b<k->Zk m who b=false)\/ ∃ b:Nat,b<k/\(YX m who k).1=(b:Int)/\Zk m who b=true
 | 0=> .inl ⟨rfl,fun b hb=>by omega⟩
 | k+1=>by
  have ih:=Jn m who k;unfold YX
  split
  ·rename_i h
   simp only [ZO] at h;exact .inr ⟨k,by omega,rfl,h.1⟩
  ·rename_i h
   rcases ih with ⟨e,hn⟩ | ⟨b,hb,e,hm⟩
   ·refine .inl ⟨e,fun b hb=> ?_⟩
    by_cases hbk:b=k
    ·subst hbk
     cases hm:Zk m who b
     ·rfl
     ·exfalso
      apply h;rw [hm,e];rfl
    ·exact hn b (by omega)
   ·exact .inr ⟨b,by omega,e,hm⟩
theorem Ul (m:Z6) (who:Int):(Zl m who= -1/\ ∀ b,b<m.dk.length->Zk m who b=false)\/ ∃ b:Nat,b<m.dk.length/\Zl m who=(b:Int)/\Zk m who b=true:=by
 unfold Zl
 split
 ·rename_i h
  simp only [ZO,YZ] at h;right
  have hin:∀ x ∈ Zr m who,∃ b:Nat,b<m.dk.length/\x=(b:Int)/\Zk m who b=true:=by
   intro x hx;obtain ⟨b,hb,e,hf⟩:=(SP m who x m.dk.length).1 hx;unfold Pv at hf;simp only [ZO] at hf;exact ⟨b,hb,e,hf.1⟩
  unfold XE;exact FH m who (fun x=> ∃ b:Nat,b<m.dk.length/\x=(b:Int)/\Zk m who b=true) _ _ (hin _ (Wd h.2)) (fun x hx=>hin x (List.mem_of_mem_take (List.mem_of_mem_drop hx)))
 ·exact Jn m who m.dk.length
theorem Ud {st be rk my gu lo hi hd ca ut wk:Int} (h0:1<=st/\st<=3) (h1:0<=be/\be<=7) (h2:inB rk (-5) 5=true) (h3:1<=my/\my<=255) (h4 : -1<=gu/\gu<=5) (h5:Ye lo hi=true) (h6 : -1000000000000<=hd/\hd<=1000000000000) (h7:0<=ca/\ca<=Zb rk-1) (h8:0<=ut/\ut<=1024) (h9:0<=wk/\wk<=100000000000) :
  YN (st,be,rk,my,gu,lo,hi,hd,ca,ut,wk)=true:=by
 unfold YN;simp only [ZO];exact ⟨Zn h0.1 h0.2,Zn h1.1 h1.2,h2,Zn h3.1 h3.2,Zn h4.1 h4.2,h5,Zn h6.1 h6.2,Zn h7.1 h7.2,Zn h8.1 h8.2,Zn h9.1 h9.2⟩
theorem Xi {m:Z6} {s:Z2} : XR m s=true ↔ s=Tf\/(YN s=true/\s.2.2.2.2.1<m.gd.length/\s.2.1<m.dk.length):=by
 unfold XR Zm;simp only [ZO,Bool.or_eq_true,YZ];constructor
 ·rintro ⟨hg | hp,hr⟩
  ·exact .inl (UT hg)
  ·right
   refine ⟨hp,?_⟩
   rcases hr with e | e
   ·have:s.1=0:=by simpa using e
    rw [MD this] at hp;cases hp
   ·exact e
 ·rintro (rfl | ⟨hp,hr⟩)
  ·exact ⟨.inl D9,.inl rfl⟩
  ·exact ⟨.inr hp,.inr hr⟩
theorem Uq {m:Z6} {s:Z2} (h:ZL s=false):XL m s=true:=by unfold XL;rw [h];rfl
theorem Ny {m:Z6} {s:Z2} (h1:(Z8 m.dk s.2.1.toNat).1=true) (h2:V6 s.2.2.2.1 s.2.1=true) (h3:Wt (Xs s) (Z8 m.dk s.2.1.toNat).2.2=true):XL m s=true:=by
 unfold XL;rw [h1,h2,show s.2.2.2.2.2.2.2.1=Xs s from rfl,h3];simp
theorem ZU {m:Z6} (h:ZM m=true):Loose m:=by
 unfold ZM at h;simp only [ZO] at h;exact Ro h.1
def setS (m:Z6) (k:Nat) (s:Z2):Z6:={ m with sm:=m.sm.set k s }
theorem Loose.setS {m:Z6} (h:Loose m) {k:Nat} (hk:k<m.sm.length) {s:Z2} (h1:XR m s=true) (h2:XL m s=true):Loose (setS m k s):=by
 refine ⟨?_,h.desk,h.pace,?_,?_,h.openD⟩
 ·have:=h.head
  unfold Yx at this ⊢;unfold Go.Proofs.YtgdpaigcmoifbaaGreat.setS;simpa using this
 ·intro i hi
  have hi':i<m.sm.length:=by unfold Go.Proofs.YtgdpaigcmoifbaaGreat.setS at hi;simpa using hi
  show XR (Go.Proofs.YtgdpaigcmoifbaaGreat.setS m k s) (Z8 (m.sm.set k s) i)=true;rw [Wj (m:=m) (m':=Go.Proofs.YtgdpaigcmoifbaaGreat.setS m k s) rfl rfl,ZD hk]
  split
  ·exact h1
  ·exact h.here i hi'
 ·intro i hi
  have hi':i<m.sm.length:=by unfold Go.Proofs.YtgdpaigcmoifbaaGreat.setS at hi;simpa using hi
  show XL m (Z8 (m.sm.set k s) i)=true;rw [ZD hk]
  split
  ·exact h2
  ·exact h.seat i hi'
theorem Vn {α:Type} [Inhabited α] (xs:List α) (x:α) (i:Nat):Z8 (xs++[x]) i=if i=xs.length then x else Z8 xs i:=by
 unfold Z8
 split
 ·rename_i h;subst h;simp [List.getD]
 ·rename_i h
  rcases Nat.lt_or_ge i xs.length with hi | hi
  ·simp [List.getD,List.getElem?_append_left hi]
  ·simp [List.getD,List.getElem?_append_right hi,List.getElem?_eq_none hi]
   rw [List.getElem?_eq_none (by simp;omega)];rfl
def pushS (m:Z6) (s:Z2):Z6:={ m with sm:=m.sm++[s] }
theorem Loose.pushS {m:Z6} (h:Loose m) (hl:m.sm.length<12) {s:Z2} (h1:XR m s=true) (h2:XL m s=true):Loose (pushS m s):=by
 refine ⟨?_,h.desk,h.pace,?_,?_,h.openD⟩
 ·have:=h.head
  unfold Yx at this ⊢;unfold Go.Proofs.YtgdpaigcmoifbaaGreat.pushS;simp only [ZO,YZ] at this ⊢;refine ⟨this.1,this.2.1,?_,this.2.2.2⟩;simp;omega
 ·intro i hi
  have hi':i<m.sm.length+1:=by unfold Go.Proofs.YtgdpaigcmoifbaaGreat.pushS at hi;simpa using hi
  show XR (Go.Proofs.YtgdpaigcmoifbaaGreat.pushS m s) (Z8 (m.sm++[s]) i)=true;rw [Wj (m:=m) (m':=Go.Proofs.YtgdpaigcmoifbaaGreat.pushS m s) rfl rfl,Vn]
  split
  ·exact h1
  ·exact h.here i (by omega)
 ·intro i hi
  have hi':i<m.sm.length+1:=by unfold Go.Proofs.YtgdpaigcmoifbaaGreat.pushS at hi;simpa using hi
  show XL m (Z8 (m.sm++[s]) i)=true;rw [Vn]
  split
  ·exact h2
  ·exact h.seat i (by omega)
def WO (m:Z6) (b:Int):Int:=(Z8 m.dk b.toNat).2.2
def Jw (s:Z2) (b had:Int):Z2:=(2,b,s.2.2.1,s.2.2.2.1,s.2.2.2.2.1,s.2.2.2.2.2.1,s.2.2.2.2.2.2.1,had,s.2.2.2.2.2.2.2.2)
def putS (m:Z6) (s:Z2) (b:Int):Z2:=(s.1,b,s.2.2.1,s.2.2.2.1,s.2.2.2.2.1,s.2.2.2.2.2.1,s.2.2.2.2.2.2.1,YY (Xs s) (WO m s.2.1) (WO m b),s.2.2.2.2.2.2.2.2)
def Sn (s:Z2) (may:Int):Z2:=(s.1,s.2.1,s.2.2.1,may,s.2.2.2.2)
def Av (s:Z2) (lo hi:Int):Z2:=(s.1,s.2.1,s.2.2.1,s.2.2.2.1,s.2.2.2.2.1,lo,hi,s.2.2.2.2.2.2.2)
def I8 (s:Z2) (g:Int):Z2:=(s.1,s.2.1,s.2.2.1,s.2.2.2.1,g,s.2.2.2.2.2)
def XV (rank may guild:Int):Z2:=(1,0,rank,may,guild,0,1024,0,0,0,0)
theorem V8 {m:Z6} (h:Loose m):m.dk.length<=8:=by
 have:=h.head;unfold Yx at this;simp only [ZO,YZ] at this;have h8:=(Zj this.1).2.2.2;omega
theorem BO {m:Z6} (h:Loose m):m.gd.length<=6:=by
 have:=h.head;unfold Yx at this;simp only [ZO,YZ] at this;exact (Vh this.2.1).2
theorem Loose.limits {m:Z6} (h:Loose m) {k:Nat} (hk:k<m.sm.length) (hs:(Z8 m.sm k).1 ≠ 0):YN (Z8 m.sm k)=true/\(Z8 m.sm k).2.2.2.2.1<m.gd.length/\(Z8 m.sm k).2.1<m.dk.length:=by
 rcases Xi.1 (h.here k hk) with e | e
 ·rw [e] at hs;exact absurd rfl hs
 ·exact e
theorem BY {m:Z6} (h:Loose m) {k:Nat} (hk:k<m.sm.length) (hp:ZL (Z8 m.sm k)=true):Loose (setS m k (stS (Z8 m.sm k) 1)):=
 h.setS hk (L7 (h.here k hk) hp (by omega) (by omega)) (Uq rfl)
theorem Ei {m:Z6} (h:Loose m) {k:Nat} (hk:k<m.sm.length):Loose (setS m k Tf):=
 h.setS hk (Xi.2 (.inl rfl)) (Uq rfl)
theorem BX {m:Z6} (h:Loose m) {k:Nat} (hk:k<m.sm.length) {rank:Int} {s:Z2} (hr:XM (Z8 m.sm k) rank=(s,true)):Loose (setS m k s):=by
 unfold XM at hr
 split at hr
 ·rename_i hp
  split at hr
  ·rename_i hrk
   obtain ⟨rfl,_⟩:=Prod.mk.inj hr
   have hne:(Z8 m.sm k).1 ≠ 0:=by
    intro e;rw [MD e] at hp;cases hp
   obtain ⟨_,g1,b1⟩:=h.limits hk hne;refine h.setS hk (Xi.2 (.inr ⟨PI hp hrk,g1,b1⟩)) ?_;have:=h.seat k hk;unfold XL at this ⊢;exact this
  ·cases (Prod.mk.inj hr).2
 ·cases (Prod.mk.inj hr).2
theorem An {m:Z6} (h:Loose m) {k:Nat} (hk:k<m.sm.length) (hs:(Z8 m.sm k).1 ≠ 0) {lo hi:Int} (hp:Ye lo hi=true):Loose (setS m k (Av (Z8 m.sm k) lo hi)):=by
 obtain ⟨p,g1,b1⟩:=h.limits hk hs;refine h.setS hk (Xi.2 (.inr ⟨?_,g1,b1⟩)) ?_
 ·generalize Z8 m.sm k=s at *
  obtain ⟨st,be,rk,my,gu,lo',hi',hd,ca,ut,wk⟩:=s;obtain ⟨x0,x1,x2,x3,x4,x5,x6,x7,x8,x9⟩:=Y2 p;exact Ud x0 x1 x2 x3 x4 hp x6 x7 x8 x9
 ·have:=h.seat k hk
  unfold XL at this ⊢;exact this
theorem BU {m:Z6} (h:Loose m) {k:Nat} (hk:k<m.sm.length) (hs:(Z8 m.sm k).1 ≠ 0) {g:Int} (g0 : -1<=g) (g1:g<m.gd.length):Loose (setS m k (I8 (Z8 m.sm k) g)):=by
 obtain ⟨p,_,b1⟩:=h.limits hk hs;have hg:=BO h;refine h.setS hk (Xi.2 (.inr ⟨?_,g1,b1⟩)) ?_
 ·generalize Z8 m.sm k=s at *
  obtain ⟨st,be,rk,my,gu,lo',hi',hd,ca,ut,wk⟩:=s;obtain ⟨x0,x1,x2,x3,x4,x5,x6,x7,x8,x9⟩:=Y2 p;exact Ud x0 x1 x2 x3 ⟨g0,by omega⟩ x5 x6 x7 x8 x9
 ·have:=h.seat k hk
  unfold XL at this ⊢;exact this
theorem Ao {m:Z6} (h:Loose m) {k:Nat} (hk:k<m.sm.length) (hs:(Z8 m.sm k).1 ≠ 0) {may:Int} (m0:1<=may) (m1:may<=255) (hb:ZL (Z8 m.sm k)=false\/V6 may (Z8 m.sm k).2.1=true):Loose (setS m k (Sn (Z8 m.sm k) may)):=by
 obtain ⟨p,g1,b1⟩:=h.limits hk hs;refine h.setS hk (Xi.2 (.inr ⟨?_,g1,b1⟩)) ?_
 ·generalize Z8 m.sm k=s at *
  obtain ⟨st,be,rk,my,gu,lo',hi',hd,ca,ut,wk⟩:=s;obtain ⟨x0,x1,x2,x3,x4,x5,x6,x7,x8,x9⟩:=Y2 p;exact Ud x0 x1 x2 ⟨m0,m1⟩ x4 x5 x6 x7 x8 x9
 ·rcases hb with hb | hb
  ·exact Uq hb
  ·have:=h.seat k hk
   unfold XL at this;cases hp:ZL (Z8 m.sm k)
   ·exact Uq hp
   ·rw [hp] at this
    simp only [Bool.not_true,Bool.false_or,ZO] at this;exact Ny (s:=Sn (Z8 m.sm k) may) this.1 hb this.2.2
theorem Gr {m:Z6} {s:Z2} {b:Nat} {had:Int} (h:Loose m) (hp:YN s=true) (hg:s.2.2.2.2.1<m.gd.length) (hb:b<m.dk.length) (ho:(Z8 m.dk b).1=true) (hm:V6 s.2.2.2.1 b=true) (hd:Wt had (Z8 m.dk b).2.2=true) :
  XR m (Jw s b had)=true/\XL m (Jw s b had)=true:=by
 have h8:=V8 h;obtain ⟨st,be,rk,my,gu,lo',hi',hd',ca,ut,wk⟩:=s;obtain ⟨x0,x1,x2,x3,x4,x5,x6,x7,x8,x9⟩:=Y2 hp;obtain ⟨d0,d1,_⟩:=TL hd;refine ⟨Xi.2 (.inr ⟨Ud (by omega) ⟨by omega,by omega⟩ x2 x3 x4 x5 ⟨d0,d1⟩ x7 x8 x9,hg,?_⟩),?_⟩
 ·show (b:Int)<_;omega
 ·exact Ny (m:=m) (s:=Jw (st,be,rk,my,gu,lo',hi',hd',ca,ut,wk) b had) (by show (Z8 m.dk ((b:Int)).toNat).1=true;simpa using ho) hm (by show Wt had (Z8 m.dk ((b:Int)).toNat).2.2=true;simpa using hd)
theorem Ml {m:Z6} (h:Loose m) {s:Z2} {b:Nat} (hp:YN s=true) (hpr:ZL s=true) (hg:s.2.2.2.2.1<m.gd.length) (b0:0<=s.2.1) (b1:s.2.1<m.dk.length) (hband:Wt (Xs s) (WO m s.2.1)=true) (hb:b<m.dk.length) (ho:(Z8 m.dk b).1=true) (hm:V6 s.2.2.2.1 b=true) :
  XR m (putS m s b)=true/\XL m (putS m s b)=true:=by
 have h8:=V8 h;obtain ⟨k0,k1⟩:=SL (h.desk s.2.1.toNat (by omega));obtain ⟨k2,k3⟩:=SL (h.desk b hb);obtain ⟨a0,a1,a2,a3,a4,a5⟩:=TL hband;have hmk:WO m (b:Int)=(Z8 m.dk b).2.2:=by unfold WO;simp
 have hmv:YY (Xs s) (WO m s.2.1) (WO m b)=Xs s-WO m s.2.1+WO m b:=AF a0 a1 a2 a3 (by omega) (by omega);obtain ⟨st,be,rk,my,gu,lo',hi',hd',ca,ut,wk⟩:=s;obtain ⟨x0,x1,x2,x3,x4,x5,x6,x7,x8,x9⟩:=Y2 hp;simp only at b0 b1 hmv a4 a5 k0 k1 hg hm;refine ⟨Xi.2 (.inr ⟨?_,hg,?_⟩),?_⟩
 ·unfold putS
  simp only;rw [hmv];exact Ud x0 ⟨by omega,by omega⟩ x2 x3 x4 x5 ⟨by omega,by omega⟩ x7 x8 x9
 ·show (b:Int)<_;omega
 ·refine Ny (m:=m) (s:=putS m (st,be,rk,my,gu,lo',hi',hd',ca,ut,wk) b) (by show (Z8 m.dk ((b:Int)).toNat).1=true;simpa using ho) hm ?_
  show Wt (YY _ _ _) (Z8 m.dk ((b:Int)).toNat).2.2=true;rw [hmv,show ((b:Int)).toNat=b by simp,<-hmk];exact Pn (by omega) (by omega) (by omega) (by omega) (by omega) (by omega)
def Ik (m:Z6) (r:Nat) (p:Int):Z6:={ m with pc:=m.pc.set r p }
theorem J0 {m:Z6} (h:Loose m) {r:Nat} (hr:r<m.rm.length) {p:Int} (p0:0<=p) (p1:p<(ZQ m.rm r).2.length):Loose (Ik m r p):=by
 have hd:=h.head
 have hpl:m.pc.length=m.rm.length:=by
  unfold Yx at hd;simp only [ZO,YZ] at hd;exact hd.2.2.2.2.1
 refine ⟨?_,h.desk,?_,h.here,h.seat,h.openD⟩
 ·unfold Yx at hd ⊢
  unfold Ik;simpa using hd
 ·intro j hj
  have hj':j<m.pc.length:=by unfold Ik at hj;simpa using hj
  have:=h.pace j hj';unfold VX at this ⊢;unfold Ik;simp only;rw [ZD (by omega)]
  split
  ·rename_i e;subst e;exact Zn p0 (by omega)
  ·exact this
def Xb (m:Z6) (b:Nat) (o:Bool):Z6:={ m with dk:=m.dk.set b (o,(Z8 m.dk b).2) }
theorem BV {m:Z6} (h:Loose m) {b:Nat} (hb:b<m.dk.length):Loose (Xb m b true):=by
 have hat:∀ j,(Z8 (Xb m b true).dk j)=if j=b then (true,(Z8 m.dk b).2) else Z8 m.dk j:=fun j=>ZD hb j
 have hmk:∀ j,(Z8 (Xb m b true).dk j).2=(Z8 m.dk j).2:=fun j=>by
  rw [hat];by_cases e:j=b
  ·rw [if_pos e,e]
  ·rw [if_neg e]
 have hop:∀ j,(Z8 m.dk j).1=true->(Z8 (Xb m b true).dk j).1=true:=fun j e=>by
  rw [hat];by_cases e':j=b
  ·rw [if_pos e']
  ·rw [if_neg e'];exact e
 have hlen:(Xb m b true).dk.length=m.dk.length:=by unfold Xb;simp
 refine ⟨?_,?_,h.pace,?_,?_,?_⟩
 ·have:=h.head
  unfold Yx at this ⊢;rw [hlen];exact this
 ·intro j hj
  have:=h.desk j (by omega);unfold Vr at this ⊢;rw [hmk];exact this
 ·intro i hi
  rw [Wj (m:=m) (m':=Xb m b true) rfl hlen];exact h.here i hi
 ·intro i hi
  have:=h.seat i hi;unfold XL at this ⊢;show (!ZL (Z8 m.sm i) || _)=true;cases hp:ZL (Z8 m.sm i)
  ·rfl
  ·rw [hp] at this
   simp only [Bool.not_true,Bool.false_or,ZO] at this ⊢;refine ⟨hop _ this.1,this.2.1,?_⟩;show Wt _ (Z8 (Xb m b true).dk (Z8 m.sm i).2.1.toNat).2.2=true;rw [hmk];exact this.2.2
 ·exact ⟨b,by omega,by rw [hat,if_pos rfl]⟩
def ZP {α:Type} [Inhabited α] (p:α->Bool) (xs:List α):Nat->List Int
 | 0=>[]
 | k+1=>if p (Z8 xs k) then ZP p xs k++[(k:Int)] else ZP p xs k
theorem Yy {α:Type} [Inhabited α] {p:α->Bool} {xs:List α} {k:Nat} (h:p (Z8 xs k)=true):ZP p xs (k+1)=ZP p xs k++[(k:Int)]:=by rw [ZP,if_pos h]
theorem XZ {α:Type} [Inhabited α] {p:α->Bool} {xs:List α} {k:Nat} (h:p (Z8 xs k)=false):ZP p xs (k+1)=ZP p xs k:=by rw [ZP,if_neg (by simp [h])]
theorem U6 {α:Type} [Inhabited α] (p:α->Bool) (xs:List α):∀ k,(ZP p xs k).length<=k
 | 0=>Z0 _
 | k+1=>by
  have:=U6 p xs k;unfold ZP
  split
  ·simp;omega
  ·omega
theorem Ws {α:Type} [Inhabited α] (p:α->Bool) (xs:List α) (x:Int):∀ k,x ∈ ZP p xs k ↔ ∃ i:Nat,i<k/\x=(i:Int)/\p (Z8 xs i)=true
 | 0=>by simp [ZP]
 | k+1=>by
  have ih:=Ws p xs x k;cases h:p (Z8 xs k)
  ·rw [XZ h,ih]
   constructor
   ·rintro ⟨i,hi,h1,h2⟩
    exact ⟨i,by omega,h1,h2⟩
   ·rintro ⟨i,hi,h1,h2⟩
    by_cases hik:i=k
    ·subst hik;rw [h] at h2;cases h2
    ·exact ⟨i,by omega,h1,h2⟩
  ·rw [Yy h,List.mem_append,ih]
   constructor
   ·rintro (⟨i,hi,h1,h2⟩ | h1)
    ·exact ⟨i,by omega,h1,h2⟩
    ·exact ⟨k,by omega,by simpa using h1,h⟩
   ·rintro ⟨i,hi,h1,h2⟩
    by_cases hik:i=k
    ·subst hik;right;simp [h1]
    ·exact .inl ⟨i,by omega,h1,h2⟩
theorem OE {α:Type} [Inhabited α] (p:α->Bool) (xs:List α):∀ k,decide (0<(ZP p xs k).length)=(List.range k).any fun j=>p (Z8 xs j)
 | 0=>rfl
 | k+1=>by
  have ih:=OE p xs k;rw [IW,<-ih];cases h:p (Z8 xs k)
  ·rw [XZ h];simp
  ·rw [Yy h];simp
def X8 {α:Type} [Inhabited α] (p:α->Bool) (xs:List α) (k:Nat):Bool:=(List.range k).all fun j=>p (Z8 xs j)
theorem Fx {α:Type} [Inhabited α] {p:α->Bool} {xs:List α} {k n:Nat} (hk:k<n) (h:p (Z8 xs k)=false):X8 p xs n=false:=P4 (p:=fun j=>p (Z8 xs j)) hk h
theorem Fy {α:Type} [Inhabited α] {p:α->Bool} {xs:List α} {k:Nat} (h:X8 p xs k=true) (h2:p (Z8 xs k)=true):X8 p xs (k+1)=true:=by unfold X8 at h ⊢;rw [Tg,h,h2];rfl
theorem OK {α:Type} [Inhabited α] (p q:α->Bool) (xs:List α):∀ k,(X8 p xs k && X8 q xs k)=X8 (fun x=>p x && q x) xs k
 | 0=>rfl
 | k+1=>by
  have ih:=OK p q xs k;unfold X8 at ih ⊢;rw [Tg,Tg,Tg,<-ih];generalize ((List.range k).all fun j=>p (Z8 xs j))=a;generalize ((List.range k).all fun j=>q (Z8 xs j))=b;cases a<;>cases b<;>cases hp:p (Z8 xs k)<;>cases hq:q (Z8 xs k)<;>simp [hp,hq]
theorem Fw {α:Type} [Inhabited α] {p q:α->Bool} (xs:List α) (h:∀ x,p x=q x) (k:Nat):X8 p xs k=X8 q xs k:=by unfold X8;congr 1;funext j;exact h _
def Xa (n:Nat) (i:Int):Bool:=decide (0<=i) && decide (i<n)
def atB (b:Int) (s:Z2):Bool:=(s.1 ==2 || s.1 ==3) && s.2.1 ==b
def Yw (b:Int) (s:Z2):Bool:=s.1 ==3 && s.2.1 ==b
def VD (n:Nat) (s:Z2):Bool:=s.1 ==0 || (s.2.2.2.2.1 == -1 || Xa n s.2.2.2.2.1)
def Vl (ds:List Yg) (s:Z2):Bool:=s.1 ==0 || (Xa ds.length s.2.1 && (s.1 ==1 || ((Z8 ds s.2.1.toNat).1 && (UL s.2.2.2.1 s.2.1 && Va s.2.2.2.2.2.2.2.1 (Z8 ds s.2.1.toNat).2.2))))
def Tb (ss:List Z2) (n:Nat):Bool:=decide (ss.length<=12) && (X8 Zm ss ss.length && X8 (VD n) ss ss.length)
def QC (ds:List Yg) (n:Int):Bool:=decide ((ds.length:Int)=n) && (X8 Vr ds ds.length && decide (0<(ZP (fun d:Yg=>d.1) ds ds.length).length))
def Vb (ps:List Int) (rs:List ZY):Bool:=decide (ps.length=rs.length) && (List.range ps.length).all fun j=>Xa (ZQ rs j).2.length (Z8 ps j)
def PG (m:Z6):Bool:=YW m.rm && (Za m.gd && (Tb m.sm m.gd.length && (QC m.dk (ZW m.rm) && (Vb m.pc m.rm && inB m.now 0 1000000))))
def VK (m:Z6):Bool:=PG m && X8 (Vl m.dk) m.sm m.sm.length
def UO (m:Z6) (b:Nat):Bool:=if (Z8 m.dk b).2.1= -1 then decide ((ZP (atB b) m.sm m.sm.length).length=0) else decide ((ZP (Yw b) m.sm m.sm.length).length=1) && decide (Z8 (ZP (Yw b) m.sm m.sm.length) 0=(Z8 m.dk b).2.1)
def PX (m:Z6):Bool:=(List.range m.dk.length).all (UO m)
def A7 (m:Z6):Bool:=VK m && PX m
theorem Bz (h m:Int):Va h m=Wt h m:=by
 unfold Va Wt UU;rw [Bool.and_assoc]
theorem AJ (m:Z6) (s:Z2):(Zm s && (VD m.gd.length s && Vl m.dk s))=(XR m s && XL m s):=by
 cases hs:Zm s
 ·unfold XR;rw [hs];rfl
 ·have hh:XR m s=(s.1 ==0 || (decide (s.2.2.2.2.1<m.gd.length) && decide (s.2.1<m.dk.length))):=by unfold XR;rw [hs];rfl
  rw [hh,Bool.true_and];unfold Zm at hs;simp only [Bool.or_eq_true] at hs
  rcases hs with hg | hp
  ·have e:=UT hg
   subst e;rfl
  ·obtain ⟨st,be,rk,my,gu,lo,hi,hd,ca,ut,wk⟩:=s
   obtain ⟨⟨s1,s2⟩,⟨b1,b2⟩,_,⟨m1,m2⟩,⟨g1,g2⟩,_⟩:=Y2 hp;have hmem:UL my be=V6 my be:=AD (Zn (by omega) (by omega)) (Zn (by omega) (by omega));have hst0:(st ==0)=false:=by simp;omega
   have hgu:(gu == -1 || Xa m.gd.length gu)=decide (gu<m.gd.length):=by
    unfold Xa;by_cases e:gu= -1
    ·subst e;simp;omega
    ·have:(gu == -1)=false:=by simpa using e
     rw [this,Bool.false_or,show decide (0<=gu)=true from decide_eq_true (by omega),Bool.true_and]
   have hbe:Xa m.dk.length be=decide (be<m.dk.length):=by
    unfold Xa;rw [show decide (0<=be)=true from decide_eq_true (by omega),Bool.true_and]
   have hpr:ZL (st,be,rk,my,gu,lo,hi,hd,ca,ut,wk)= !(st ==1):=by
    unfold ZL
    rcases (by omega:st=1\/st=2\/st=3) with e | e | e<;>subst e<;>rfl
   unfold VD Vl XL;simp only;rw [hst0,hgu,hbe,hpr,hmem,Bz,Bool.not_not];simp only [Bool.false_or,Bool.and_assoc]
theorem Kl (ss:List Z2) (b:Int):∀ k:Nat,
  (match XA ss b k with
   | none=>2<=(ZP (Yw b) ss k).length
   | some (wk,wt)=>((wk= -1/\ZP (Yw b) ss k=[])\/(0<=wk/\ZP (Yw b) ss k=[wk]))/\((ZP (atB b) ss k=[]) ↔ (ZP (Yw b) ss k=[]/\wt=false)))
 | 0=>by simp [XA,ZP]
 | k+1=>by
  have ih:=Kl ss b k;unfold XA;cases hsc:XA ss b k with
  | none=>
   rw [hsc] at ih;simp only at ih ⊢;unfold ZP
   split
   ·simp;omega
   ·exact ih
  | some r=>
   obtain ⟨wk,wt⟩:=r;rw [hsc] at ih;simp only at ih ⊢;by_cases hat:(Z8 ss k).2.1=b/\ZL (Z8 ss k)=true
   ·rw [if_pos hat]
    have hA:atB b (Z8 ss k)=true:=by
     have h2:=hat.2;unfold ZL at h2;unfold atB;rw [h2,hat.1];simp
    by_cases h2:(Z8 ss k).1=2
    ·rw [if_pos h2]
     have hW:Yw b (Z8 ss k)=false:=by unfold Yw;rw [h2];rfl
     rw [XZ hW,Yy hA];exact ⟨ih.1,by simp⟩
    ·rw [if_neg h2]
     have h3:(Z8 ss k).1=3:=by
      have:=hat.2;unfold ZL at this;simp only [Bool.or_eq_true,beq_iff_eq] at this;omega
     have hW:Yw b (Z8 ss k)=true:=by unfold Yw;rw [h3,hat.1];simp
     rw [Yy hW,Yy hA];by_cases hwk:0<=wk
     ·rw [if_pos hwk]
      rcases ih.1 with ⟨e,_⟩ | ⟨_,e⟩
      ·omega
      ·simp only
       rw [e];simp
     ·rw [if_neg hwk]
      rcases ih.1 with ⟨_,e⟩ | ⟨e,_⟩
      ·simp only
       rw [e];simp
      ·omega
   ·rw [if_neg hat]
    have hA:atB b (Z8 ss k)=false:=by
     cases hc:atB b (Z8 ss k)
     ·rfl
     ·exfalso
      apply hat;unfold atB at hc;simp only [ZO,beq_iff_eq] at hc;exact ⟨hc.2,by unfold ZL;exact hc.1⟩
    have hW:Yw b (Z8 ss k)=false:=by
     cases hc:Yw b (Z8 ss k)
     ·rfl
     ·exfalso
      apply hat;unfold Yw at hc;simp only [ZO,beq_iff_eq] at hc;exact ⟨hc.2,by unfold ZL;rw [hc.1];rfl⟩
    rw [XZ hW,XZ hA];exact ih
theorem Kw (m:Z6) (b:Nat):UO m b=Yc m b:=by
 have h:=Kl m.sm b m.sm.length;unfold UO Yc;cases hsc:XA m.sm b m.sm.length with
 | none=>
  rw [hsc] at h;simp only at h ⊢
  split
  ·have:ZP (atB b) m.sm m.sm.length ≠ []:=by
    intro e;have hx:Z8 (ZP (Yw b) m.sm m.sm.length) 0 ∈ ZP (Yw b) m.sm m.sm.length:=Wd (by omega);obtain ⟨i,hi,_,hw⟩:=(Ws _ _ _ _).1 hx
    have:(i:Int) ∈ ZP (atB b) m.sm m.sm.length:=(Ws _ _ _ _).2 ⟨i,hi,rfl,by
     unfold Yw at hw;simp only [ZO,beq_iff_eq] at hw;unfold atB
     rw [hw.1,hw.2];simp⟩
    rw [e] at this;cases this
   simp only [List.length_eq_zero_iff,this,decide_false]
  ·rw [show decide ((ZP (Yw b) m.sm m.sm.length).length=1)=false from decide_eq_false (by omega),Bool.false_and]
 | some r=>
  obtain ⟨wk,wt⟩:=r;rw [hsc] at h;simp only at h ⊢;obtain ⟨h1,h2⟩:=h;generalize ZP (Yw b) m.sm m.sm.length=ws at *;generalize ZP (atB b) m.sm m.sm.length=az at *;generalize (Z8 m.dk b).2.1=who at *;by_cases hw:who= -1
  ·subst hw
   simp only [if_true,List.length_eq_zero_iff]
   rcases h1 with ⟨rfl,rfl⟩ | ⟨hk,rfl⟩
   ·cases wt
    ·simp at h2;simp [h2]
    ·simp at h2;simp [h2]
   ·have hne:az ≠ []:=by
     intro e;have:=(h2.1 e).1;cases this
    have:((-1:Int) ==wk)=false:=by simp;omega
    rw [this];simp [hne]
  ·rw [if_neg hw]
   rcases h1 with ⟨rfl,rfl⟩ | ⟨hk,rfl⟩
   ·have:(who == -1)=false:=by simpa using hw
    rw [this];simp
   ·have h0:decide (wk<0)=false:=Yb (by omega)
    rw [h0,Bool.and_false,Bool.not_false,Bool.and_true];simp only [YL,YF,decide_true,Bool.true_and];show decide (wk=who)=(who ==wk)
    by_cases e:wk=who
    ·subst e;simp
    ·rw [decide_eq_false e];symm;simp;omega
theorem Jd (n:Nat) (i:Int):Xa n i=inB i 0 ((n:Int)-1):=by
 unfold Xa inB;by_cases h0:0<=i<;>by_cases h1:i<n
 ·rw [decide_eq_true h0,decide_eq_true h1,decide_eq_true (show 0<=i/\i<=(n:Int)-1 by omega)];rfl
 ·rw [decide_eq_true h0,decide_eq_false h1,decide_eq_false (show ¬ (0<=i/\i<=(n:Int)-1) by omega)];rfl
 ·rw [decide_eq_false h0,decide_eq_false (show ¬ (0<=i/\i<=(n:Int)-1) by omega)];rfl
 ·rw [decide_eq_false h0,decide_eq_false (show ¬ (0<=i/\i<=(n:Int)-1) by omega)];rfl
theorem Qd (m:Z6):VK m=YA m:=by
 have e1:VF m m.sm.length=(X8 Zm m.sm m.sm.length && (X8 (VD m.gd.length) m.sm m.sm.length && X8 (Vl m.dk) m.sm m.sm.length)):=by
  rw [OK,OK];exact (Fw m.sm (AJ m) m.sm.length).symm
 have e2:Vb m.pc m.rm=(decide (m.pc.length=m.rm.length) && VE m m.pc.length):=by
  unfold Vb VE
  congr 2
  funext j
  unfold VX;exact Jd _ _
 have e3:decide (0<(ZP (fun d:Yg=>d.1) m.dk m.dk.length).length)=Tp m m.dk.length:=OE _ _ _;unfold VK PG YA Yx Tb QC;rw [e1,e2,e3];have e4:X8 Vr m.dk m.dk.length=Vd m m.dk.length:=rfl;rw [e4];generalize YW m.rm=x1;generalize Za m.gd=x2;generalize decide (m.sm.length<=12)=x3;generalize X8 Zm m.sm m.sm.length=x4;generalize X8 (VD m.gd.length) m.sm m.sm.length=x5;generalize decide ((m.dk.length:Int)=ZW m.rm)=x6;generalize Vd m m.dk.length=x7;generalize Tp m m.dk.length=x8;generalize decide (m.pc.length=m.rm.length)=x9;generalize VE m m.pc.length=x10;generalize inB m.now 0 1000000=x11;generalize X8 (Vl m.dk) m.sm m.sm.length=x12;rw [Bool.eq_iff_iff];simp only [ZO];constructor
 ·rintro ⟨⟨a1,a2,⟨a3,a4,a5⟩,⟨a6,a7,a8⟩,⟨a9,a10⟩,a11⟩,a12⟩
  exact ⟨⟨a1,a2,a3,a6,a9,a11⟩,a7,a10,⟨a4,a5,a12⟩,a8⟩
 ·rintro ⟨⟨a1,a2,a3,a6,a9,a11⟩,a7,a10,⟨a4,a5,a12⟩,a8⟩
  exact ⟨⟨a1,a2,⟨a3,a4,a5⟩,⟨a6,a7,a8⟩,⟨a9,a10⟩,a11⟩,a12⟩
theorem A8 (m:Z6):A7 m=ZM m:=by
 unfold A7 ZM PX;rw [Qd,show UO m=Yc m from funext (Kw m)]
def Wc (ss:List Z2) (ps:List Int):List Z4:=ps.foldl (fun q i=>Vm q (Xs (Z8 ss i.toNat),i)) []
theorem PK (ss:List Z2) (ps:List Int) (i:Int):Wc ss (ps++[i])=Vm (Wc ss ps) (Xs (Z8 ss i.toNat),i):=by unfold Wc;rw [List.foldl_append];rfl
theorem Sx (ss:List Z2) (b:Int):∀ k,Wc ss (ZP (atB b) ss k)=atV ss b k
 | 0=>rfl
 | k+1=>by
  have ih:=Sx ss b k;by_cases hat:(Z8 ss k).2.1=b/\ZL (Z8 ss k)=true
  ·have hA:atB b (Z8 ss k)=true:=by
    have h2:=hat.2;unfold ZL at h2;unfold atB;rw [h2,hat.1];simp
   rw [Yy hA,PK,ih,U7 hat.1 hat.2];rfl
  ·have hA:atB b (Z8 ss k)=false:=by
    cases hc:atB b (Z8 ss k)
    ·rfl
    ·exfalso
     apply hat;unfold atB at hc;simp only [ZO,beq_iff_eq] at hc;exact ⟨hc.2,by unfold ZL;exact hc.1⟩
   rw [XZ hA,TJ hat,ih]
theorem PU {ps:List Int} {k:Nat} (h:k<ps.length):ps.take (k+1)=ps.take k++[Z8 ps k]:=by
 unfold Z8;rw [List.take_add_one,List.getD,List.getElem?_eq_getElem h];rfl
theorem FB {m:Z6} (h:Loose m) (b:Int) (k:Nat) (hk:k<=m.sm.length):Yh (atV m.sm b k)=true:=by
 have hd:=h.head;unfold Yx at hd;simp only [ZO,YZ] at hd;have hl:=R7 m.sm b k;have h12:=hd.2.2.1;refine EL ⟨by omega,fun p hp=> ?_,?_,TK _ _ _⟩
 ·obtain ⟨i,hi,h1,h2,rfl⟩:=(XQ m.sm b p k).1 hp
  have:=TL (h.at (i:=i) (by omega) h2).2.2.2.2;unfold LP;rw [Zn (by omega) (by omega),Zn (by omega) (by show (i:Int)<=99;omega)];rfl
 ·refine ((Ns m.sm b k).and (TK m.sm b k)).imp fun {x y} hxy=> ?_
  have h1:=hxy.1;have h2:=hxy.2;rw [J4] at h1;rw [Ax];omega
theorem OF {α:Type} [Inhabited α] (p:α->Bool) (xs:List α):∀ n k:Nat,∃ j,j<=n/\(ZP p xs n).take k=ZP p xs j
 | 0,k=>⟨0,Z0 _,by simp [ZP]⟩
 | n+1,k=>by
  obtain ⟨j,hj,e⟩:=OF p xs n k;cases h:p (Z8 xs n)
  ·rw [XZ h];exact ⟨j,by omega,e⟩
  ·rw [Yy h]
   by_cases hk:k<=(ZP p xs n).length
   ·rw [List.take_append_of_le_length hk];exact ⟨j,by omega,e⟩
   ·refine ⟨n+1,Z0 _,?_⟩
    rw [Yy h,List.take_of_length_le (by simp;omega)]
theorem EH {m:Z6} (h:Loose m) (b:Int) (k:Nat):Yh (Wc m.sm ((ZP (atB b) m.sm m.sm.length).take k))=true:=by
 obtain ⟨j,hj,e⟩:=OF (atB b) m.sm m.sm.length k;rw [e,Sx];exact FB h b j hj
structure Bx (w W:World) (R:Nat) (a0:Option Addr) (p0:Nat) (a1:Option Addr) (p1:Nat) (a2:Option Addr) (p2:Nat) (a3:Option Addr) (p3:Nat) (a4:Option Addr) (p4:Nat) (m:Z6):Prop where
 smy:Smy W (.slice a0 m.rm.length p0) (.slice a1 m.gd.length p1) (.slice a2 m.sm.length p2) (.slice a3 m.dk.length p3) (.slice a4 m.pc.length p4) m
 blk:Blk W R 32 (S6 a0 p0 a1 p1 a2 p2 a3 p3 a4 p4 m)
 bb:Below w.heap.size w W
section
variable {w W X : World} {R : Nat} {a0 a1 a2 a3 a4 : Option Addr} {p0 p1 p2 p3 p4 : Nat} {m : Z6}
theorem Bx.next (h:Bx w W R a0 p0 a1 p1 a2 p2 a3 p3 a4 p4 m) (hb:Below W.heap.size W X):Bx w X R a0 p0 a1 p1 a2 p2 a3 p3 a4 p4 m:=⟨h.smy.below hb,h.blk.below hb h.blk.lt,h.bb.trans (hb.mono h.bb.size)⟩
theorem Bx.alloc (h:Bx w W R a0 p0 a1 p1 a2 p2 a3 p3 a4 p4 m) (o:Obj):Bx w (W.alloc o) R a0 p0 a1 p1 a2 p2 a3 p3 a4 p4 m:=h.next ((ba _ _))
theorem Bx.drew (h:Bx w W R a0 p0 a1 p1 a2 p2 a3 p3 a4 p4 m):Bx w W.drew R a0 p0 a1 p1 a2 p2 a3 p3 a4 p4 m:=h.next (Z3 _ _).drew
theorem Bx.cells (h:Bx w W R a0 p0 a1 p1 a2 p2 a3 p3 a4 p4 m):W.cell? ⟨R,0,none⟩=some (.slice a0 m.rm.length p0)/\W.cell? ⟨R,1,none⟩=some (.slice a1 m.gd.length p1)/\W.cell? ⟨R,2,none⟩=some (.slice a2 m.sm.length p2)/\W.cell? ⟨R,3,none⟩=some (.slice a3 m.dk.length p3)/\W.cell? ⟨R,4,none⟩=some (.slice a4 m.pc.length p4)/\W.cell? ⟨R,5,none⟩=some (.int .i64 m.now):=h.blk.c6
end
theorem Bx.new {w:World} {v0 v1 v2 v3 v4:Value} {m:Z6} (h:Smy w v0 v1 v2 v3 v4 m):∃ a0 p0 a1 p1 a2 p2 a3 p3 a4 p4,v0= .slice a0 m.rm.length p0/\v1= .slice a1 m.gd.length p1/\v2= .slice a2 m.sm.length p2/\v3= .slice a3 m.dk.length p3/\v4= .slice a4 m.pc.length p4/\Bx w (w.alloc (.cells (S6 a0 p0 a1 p1 a2 p2 a3 p3 a4 p4 m) 32)) w.heap.size a0 p0 a1 p1 a2 p2 a3 p3 a4 p4 m:=by
 obtain ⟨a0,p0,a1,p1,a2,p2,a3,p3,a4,p4,rfl,rfl,rfl,rfl,rfl,_⟩:=h.five;exact ⟨a0,p0,a1,p1,a2,p2,a3,p3,a4,p4,rfl,rfl,rfl,rfl,rfl,h.alloc _,Blk.new _ _ _,(ba _ _)⟩
theorem Bx.put {w W:World} {v0 v1 v2 v3 v4:Value} {m:Z6} (h:Smy W v0 v1 v2 v3 v4 m) (hb:Below w.heap.size w W):∃ a0 p0 a1 p1 a2 p2 a3 p3 a4 p4,v0= .slice a0 m.rm.length p0/\v1= .slice a1 m.gd.length p1/\v2= .slice a2 m.sm.length p2/\v3= .slice a3 m.dk.length p3/\v4= .slice a4 m.pc.length p4/\Bx w (W.alloc (.cells (S6 a0 p0 a1 p1 a2 p2 a3 p3 a4 p4 m) 32)) W.heap.size a0 p0 a1 p1 a2 p2 a3 p3 a4 p4 m:=by
 obtain ⟨a0,p0,a1,p1,a2,p2,a3,p3,a4,p4,rfl,rfl,rfl,rfl,rfl,_⟩:=h.five;exact ⟨a0,p0,a1,p1,a2,p2,a3,p3,a4,p4,rfl,rfl,rfl,rfl,rfl,h.alloc _,Blk.new _ _ _,hb.trans (((ba _ _)).mono hb.size)⟩
theorem Bx.grown {w W X:World} {R:Nat} {a0 a1 a2 a3 a4:Option Addr} {p0 p1 p2 p3 p4:Nat} {m:Z6} {r:Option Nat} (h:Bx w W R a0 p0 a1 p1 a2 p2 a3 p3 a4 p4 m) (hs:Smy w (.slice a0 m.rm.length p0) (.slice a1 m.gd.length p1) (.slice a2 m.sm.length p2) (.slice a3 m.dk.length p3) (.slice a4 m.pc.length p4) m) (hg:W.grownBy X r) (hr:∀ k,r=some k->w.heap.size<=k/\k ≠ R):Bx w X R a0 p0 a1 p1 a2 p2 a3 p3 a4 p4 m:=by
 have hb:Below w.heap.size w X:=h.bb.grown hg h.bb.size (fun k e=>(hr k e).1);exact ⟨hs.below hb,(hg.block _ h.blk.lt (fun e=>(hr R e.symm).2 rfl)).trans h.blk,hb⟩
end Go.Proofs.YtgdpaigcmoifbaaGreat
namespace Go.Proofs.YtgdpaigcmoifbaaGreat
open Go.ChangeShapes Go.WideShapes Go.ChangeAt Go.RowKit Go.Sort Go.Proofs.Tryz
open Draw (St Off Row Cur)
set_option linter.unusedVariables false
theorem DI:Ob 145 3 (.agg #[.int .i64 0,.int .i64 0,.int .i64 0]) Wh:=
 ⟨BP,rfl,Xy,by omega,by omega,fun x u hu=>by
  unfold Wh at hu;simp only [List.mem_cons,List.not_mem_nil,or_false] at hu
  rcases hu with rfl | rfl | rfl<;>rfl⟩
theorem LY {w:World} (x0 x1 x2:Int) {g c:Nat} (hg:g=w.heap.size) (hc:1<=c) (hc2:c<=4000):XF (w.alloc (.cells #[.int .i64 x0,.int .i64 x1,.int .i64 x2] 145)) (.slice (some ⟨g,0,none⟩) 1 c) [(x0,x1,x2)]:=
 WH (e:=145) (enc:=Wh) (x0,x1,x2) hg hc hc2
theorem RecAt.away {α:Type} {t k:Nat} {enc:α->List Value} {n₀ bc:Nat} {w w':World} {v:Value} {xs:List α} (h:RecAt t k enc n₀ w v xs) (ho:Off bc w w') (hb:bc<n₀):RecAt t k enc n₀ w' v xs:=
 h.same fun i hi=>ho.block i (h.lt hi).2 (by have:=(h.lt hi).1;omega)
structure Gbox (a:Option Addr) (len cap bc:Nat) (w0 w:World) (v:Value) (ps:List Zs):Prop where
 st:St a len cap bc w
 off:Off bc w0 w
 gt:bc<w0.heap.size
 row:GuildsAt w0.heap.size w v ps
section
variable {a : Option Addr} {len cap bc : Nat} {w0 w w' : World} {v : Value} {ps : List Zs}
theorem Gbox.step (h:Gbox a len cap bc w0 w v ps) (hs:St a len cap bc w') (ho:Off bc w w'):Gbox a len cap bc w0 w' v ps:=⟨hs,h.off.trans ho,h.gt,RecAt.away h.row ho h.gt⟩
theorem Gbox.alloc (h:Gbox a len cap bc w0 w v ps) (o:Obj):Gbox a len cap bc w0 (w.alloc o) v ps:=h.step (h.st.alloc _) ((Off.refl _ _).alloc _)
theorem Gbox.grown (h:Gbox a len cap bc w0 w v ps) {v':Value} {qs:List Zs} (hg:w.grownBy w' v.ownBlock) (hr:GuildsAt w0.heap.size w' v' qs):Gbox a len cap bc w0 w' v' qs:=by
 have hk:∀ k,v.ownBlock=some k->w0.heap.size<=k:=fun k e=>(RecAt.lt h.row e).1;have h1:=h.gt;have h2:=h.off.size;have hb:Below w0.heap.size w w':=(Z3 _ _).grown hg h2 hk;exact ⟨Xn h.st (hb.mono (by omega)),SY h.off hb,h.gt,hr⟩
end
theorem Er (a:Option Addr) (len cap bc:Nat) (w:World) (hs:St a len cap bc w) :
  Calls prog 177 #[.pointer (some ⟨bc,0,none⟩)] w fun e w'=> ∃ v ps,e= .returned v/\ps.length<=4/\Gbox a len cap bc w w' v ps:=by
 have Hs:=Z9 hs;have hbc:=WI hs;clear hs;go_enter func177,ntmps177;go_wp2_with fail;have HE:Hid (GuildsAt w.heap.size (w.alloc (.cells #[] 145)) (.slice (some ⟨w.heap.size,0,none⟩) 0 0) []):=Z9 (Zq rfl (Z0 _));refine (Draw.below_any a len cap bc 5 (by omega) (by omega) _ ((uh Hs).alloc _)).mono ?_;rintro e w1 ⟨n,rfl,n0,n1,s1,o1⟩;have HG1:Hid (Gbox a len cap bc w w1 (.slice (some ⟨w.heap.size,0,none⟩) 0 0) []):=Z9 (Gbox.step ⟨(uh Hs).alloc _,(Off.refl _ _).alloc _,hbc,uh HE⟩ s1 o1);clear s1 o1 HE;go_wp2_with fail
 go_loopw [3,4] (fun s i wr=> ∃ (k:Nat) (ps:List Zs),ps.length+k<=4/\i= .int .i64 k/\Gbox a len cap bc w wr s ps) (fun _ i _=>(intOf i).toNat)
 case atStart=>exact ⟨n.toNat,[],by simp;omega,by rw [show ((n.toNat:Nat):Int)=n by omega],uh HG1⟩
 case round=>
  obtain ⟨k,ps,hk,rfl,hG⟩:=hrel;obtain ⟨ra,rcap,rfl⟩:=RecAt.shape hG.row;have HG:=Z9 hG;clear hG;by_cases hk0:0<k
  ·go_wp2_with fail
   refine (Draw.below_any a len cap bc 600 (by omega) (by omega) _ (uh HG).st).mono ?_;rintro e w2 ⟨low,rfl,l0,l1,s2,o2⟩;have HG2:=Z9 ((uh HG).step s2 o2);clear s2 o2 HG;go_wp2_with fail;refine (Draw.below_any a len cap bc _ (by omega) (by omega) _ (uh HG2).st).mono ?_;rintro e w3 ⟨ab,rfl,a0,a1,s3,o3⟩;have HG3:=Z9 ((uh HG2).step s3 o3);clear s3 o3 HG2;go_wp2_with fail;refine (Draw.from_any a len cap bc low 1024 (by omega) (by omega) (by omega) _ (uh HG3).st).mono ?_;rintro e w4 ⟨hi,rfl,h0,h1,s4,o4⟩;have HG4:=Z9 ((uh HG3).step s4 o4);have hsz:=(uh HG4).off.size;clear s4 o4 HG3;go_wp2_with (at_builtin;refine ZG DI rfl (.tmp 15) (.tmp 27) 27 underlying27 rfl w.heap.size _ _ ps [(ab-1,low,hi)] rfl rfl ((uh HG4).alloc _).row (LY _ _ _ rfl (Z0 _) (by omega)) (by simp;omega) (by simp;omega) ?_;intro v' w5 hown hgrow hat)
   have HG5:=Z9 (((uh HG4).alloc _).grown hgrow hown);clear hown hgrow hat;go_wp2_with fail;go_roundw
   case rel=>exact ⟨k-1,ps++[(ab-1,low,hi)],by simp;omega,by rw [show ((k:Int)-1)=((k-1:Nat):Int) by omega],uh HG5⟩
   case measure=>exact ms
  ·obtain rfl:k=0:=by omega
   go_wp2_with fail;go_ret;exact ⟨_,ps,rfl,by omega,uh HG⟩
end Go.Proofs.YtgdpaigcmoifbaaGreat
namespace Go.Proofs.YtgdpaigcmoifbaaGreat
open Go.ChangeShapes Go.WideShapes Go.ChangeAt Go.RowKit Go.Sort Go.Proofs.Tryz
open Draw (St Off Row Cur)
set_option linter.unusedVariables false
theorem Ga {ps:List Zs} {ab low hi:Int} (h:Za ps=true) (hl:ps.length<=5) (a0:0<=ab) (a1:ab<(ps.length:Int)+1) (l0:0<=low) (l1:low<=hi) (h1:hi<=1024):Za (ps++[(ab-1,low,hi)])=true:=by
 obtain ⟨hu,_⟩:=Vh h;unfold Za;rw [List.length_append];show (TF _ (ps.length+1) && decide (ps.length+1<=6))=true;rw [decide_eq_true (by omega),Bool.and_true,Qj]
 have hsame:TF (ps++[(ab-1,low,hi)]) ps.length=true:=by
  unfold TF;refine List.all_eq_true.2 fun j hj=> ?_;have hj':=List.mem_range.1 hj;rw [Vn,if_neg (by omega)];exact Iz hu hj'
 rw [hsame,Vn,if_pos rfl,Bool.true_and];unfold Xh Ye;simp only [ZO,YZ];exact ⟨Zn (by omega) (by omega),⟨Zn l0 (by omega),Zn (by omega) h1⟩,l1⟩
theorem Jh (a:Option Addr) (len cap bc:Nat) (w:World) (hs:St a len cap bc w) :
  Calls prog 177 #[.pointer (some ⟨bc,0,none⟩)] w fun e w'=> ∃ v ps,e= .returned v/\Za ps=true/\Gbox a len cap bc w w' v ps:=by
 have Hs:=Z9 hs;have hbc:=WI hs;clear hs;go_enter func177,ntmps177;go_wp2_with fail;have HE:Hid (GuildsAt w.heap.size (w.alloc (.cells #[] 145)) (.slice (some ⟨w.heap.size,0,none⟩) 0 0) []):=Z9 (Zq rfl (Z0 _));refine (Draw.below_any a len cap bc 5 (by omega) (by omega) _ ((uh Hs).alloc _)).mono ?_;rintro e w1 ⟨n,rfl,n0,n1,s1,o1⟩;have HG1:Hid (Gbox a len cap bc w w1 (.slice (some ⟨w.heap.size,0,none⟩) 0 0) []):=Z9 (Gbox.step ⟨(uh Hs).alloc _,(Off.refl _ _).alloc _,hbc,uh HE⟩ s1 o1);clear s1 o1 HE;go_wp2_with fail
 go_loopw [3,4] (fun s i wr=> ∃ (k:Nat) (ps:List Zs),ps.length+k<=4/\Za ps=true/\i= .int .i64 k/\Gbox a len cap bc w wr s ps) (fun _ i _=>(intOf i).toNat)
 case atStart=>exact ⟨n.toNat,[],by simp;omega,rfl,by rw [show ((n.toNat:Nat):Int)=n by omega],uh HG1⟩
 case round=>
  obtain ⟨k,ps,hk,hgs,rfl,hG⟩:=hrel;have Hgs:=Z9 hgs;clear hgs;obtain ⟨ra,rcap,rfl⟩:=RecAt.shape hG.row;have HG:=Z9 hG;clear hG;by_cases hk0:0<k
  ·go_wp2_with fail
   refine (Draw.below_any a len cap bc 600 (by omega) (by omega) _ (uh HG).st).mono ?_;rintro e w2 ⟨low,rfl,l0,l1,s2,o2⟩;have HG2:=Z9 ((uh HG).step s2 o2);clear s2 o2 HG;go_wp2_with fail;refine (Draw.below_any a len cap bc _ (by omega) (by omega) _ (uh HG2).st).mono ?_;rintro e w3 ⟨ab,rfl,a0,a1,s3,o3⟩;have HG3:=Z9 ((uh HG2).step s3 o3);clear s3 o3 HG2;go_wp2_with fail;refine (Draw.from_any a len cap bc low 1024 (by omega) (by omega) (by omega) _ (uh HG3).st).mono ?_;rintro e w4 ⟨hi,rfl,h0,h1,s4,o4⟩;have HG4:=Z9 ((uh HG3).step s4 o4);have hsz:=(uh HG4).off.size;clear s4 o4 HG3;go_wp2_with (at_builtin;refine ZG DI rfl (.tmp 15) (.tmp 27) 27 underlying27 rfl w.heap.size _ _ ps [(ab-1,low,hi)] rfl rfl ((uh HG4).alloc _).row (LY _ _ _ rfl (Z0 _) (by omega)) (by simp;omega) (by simp;omega) ?_;intro v' w5 hown hgrow hat)
   have HG5:=Z9 (((uh HG4).alloc _).grown hgrow hown);clear hown hgrow hat;go_wp2_with fail;go_roundw
   case rel=>exact ⟨k-1,ps++[(ab-1,low,hi)],by simp;omega,Ga (uh Hgs) (by omega) (by omega) (by omega) (by omega) (by omega) (by omega),by rw [show ((k:Int)-1)=((k-1:Nat):Int) by omega],uh HG5⟩
   case measure=>exact ms
  ·obtain rfl:k=0:=by omega
   go_wp2_with fail;go_ret;exact ⟨_,ps,rfl,uh Hgs,uh HG⟩
theorem Gbox.put {a:Option Addr} {len cap bc:Nat} {w0 w:World} {g n rcap:Nat} {ps:List Zs} (h:Gbox a len cap bc w0 w (.slice (some ⟨g,0,none⟩) n rcap) ps) (hn:n=ps.length) {j i:Nat} (hj:j<ps.length) (hi:i<3) (y:Int) :
  ∃ qs:List Zs,qs.length=ps.length/\Gbox a len cap bc w0 (w.setCell ⟨g,j*3+i,none⟩ (.int .i64 y)) (.slice (some ⟨g,0,none⟩) n rcap) qs:=by
 have key:∃ x:Zs,Wh x=(Wh (Z8 ps j)).set i (.int .i64 y):=by
  generalize Z8 ps j=p;obtain ⟨p0,p1,p2⟩:=p
  rcases (show i=0\/i=1\/i=2 by omega) with rfl | rfl | rfl
  ·exact ⟨(y,p1,p2),rfl⟩
  ·exact ⟨(p0,y,p2),rfl⟩
  ·exact ⟨(p0,p1,y),rfl⟩
 obtain ⟨x,hx⟩:=key;obtain ⟨h1,h2⟩:=RecAt.put1 Xy (by omega) h.row hn hj hi (.int .i64 y) x hx;exact ⟨ps.set j x,by simp,h.grown h2 h1⟩
theorem KR (a:Option Addr) (len cap bc:Nat) (w:World) (hs:St a len cap bc w) :
  Calls prog 119 #[.pointer (some ⟨bc,0,none⟩)] w fun e w'=> ∃ v ps,e= .returned v/\ps.length<=4/\Gbox a len cap bc w w' v ps:=by
 have Hs:=Z9 hs;clear hs;go_enter func119,ntmps119;go_wp2_with fail;refine (Er a len cap bc _ (uh Hs)).mono ?_;rintro e w1 ⟨v,ps,rfl,hl,hG⟩;obtain ⟨ra,rcap,rfl⟩:=RecAt.shape hG.row;have HG:=Z9 hG;clear hG Hs;by_cases hz:0<ps.length
 ·go_wp2_with fail
  refine (Draw.once_any a len cap bc 6 (by omega) (by omega) _ (uh HG).st).mono ?_;rintro e w2 ⟨b,rfl,s2,o2⟩;have HG2:=Z9 ((uh HG).step s2 o2);clear s2 o2 HG;cases b
  ·go_wp2_with fail
   go_ret;exact ⟨_,ps,rfl,hl,uh HG2⟩
  ·go_wp2_with fail
   refine (Draw.below_any a len cap bc _ (by omega) (by omega) _ (uh HG2).st).mono ?_;rintro e w3 ⟨x,rfl,x0,x1,s3,o3⟩;have HG3:=Z9 ((uh HG2).step s3 o3);clear s3 o3 HG2;obtain ⟨j,rfl⟩:∃ j:Nat,x=j:=⟨x.toNat,by omega⟩
   have hj:j<ps.length:=by omega
   obtain ⟨g,rfl,_⟩:=RecAt.view Xy (by omega) (uh HG3).row rfl hz;go_wp2_with fail;refine (Draw.below_any a len cap bc 3 (by omega) (by omega) _ (uh HG3).st).mono ?_;rintro e w4 ⟨y,rfl,y0,y1,s4,o4⟩;have HG4:=Z9 ((uh HG3).step s4 o4);clear s4 o4 HG3
   rcases (show y=0\/y=1\/y=2 by omega) with rfl | rfl | rfl
   ·go_wp2_with fail
    refine (Draw.from_any a len cap bc (-2) ps.length (by omega) (by omega) (by omega) _ (uh HG4).st).mono ?_;rintro e w5 ⟨z,rfl,z0,z1,s5,o5⟩;have HG5:=Z9 ((uh HG4).step s5 o5);clear s5 o5 HG4;obtain ⟨g',hg',_,_,hcells,hfz⟩:=RecAt.view Xy (by omega) (uh HG5).row rfl hz;cases hg';have c0:=hcells j hj 0 _ rfl;have f0:=hfz (j*3);simp only [Nat.add_zero] at c0;obtain ⟨qs,hq,hG6⟩:=(uh HG5).put rfl hj (i:=0) (by omega) z;have HG6:=Z9 hG6;clear hcells hfz hG6;go_wp2_with fail;go_ret;exact ⟨_,qs,rfl,by omega,uh HG6⟩
   ·go_wp2_with fail
    refine (Draw.drawForce_any a len cap bc _ (uh HG4).st).mono ?_;rintro e w5 ⟨z,rfl,s5,o5⟩;have HG5:=Z9 ((uh HG4).step s5 o5);clear s5 o5 HG4;obtain ⟨g',hg',_,_,hcells,hfz⟩:=RecAt.view Xy (by omega) (uh HG5).row rfl hz;cases hg';have c0:=hcells j hj 1 _ rfl;have f0:=hfz (j*3+1);obtain ⟨qs,hq,hG6⟩:=(uh HG5).put rfl hj (i:=1) (by omega) z;have HG6:=Z9 hG6;clear hcells hfz hG6;go_wp2_with fail;go_ret;exact ⟨_,qs,rfl,by omega,uh HG6⟩
   ·go_wp2_with fail
    refine (Draw.drawForce_any a len cap bc _ (uh HG4).st).mono ?_;rintro e w5 ⟨z,rfl,s5,o5⟩;have HG5:=Z9 ((uh HG4).step s5 o5);clear s5 o5 HG4;obtain ⟨g',hg',_,_,hcells,hfz⟩:=RecAt.view Xy (by omega) (uh HG5).row rfl hz;cases hg';have c0:=hcells j hj 2 _ rfl;have f0:=hfz (j*3+2);obtain ⟨qs,hq,hG6⟩:=(uh HG5).put rfl hj (i:=2) (by omega) z;have HG6:=Z9 hG6;clear hcells hfz hG6;go_wp2_with fail;go_ret;exact ⟨_,qs,rfl,by omega,uh HG6⟩
 ·obtain rfl:ps=[]:=List.eq_nil_of_length_eq_zero (by omega)
  go_wp2_with fail;go_ret;exact ⟨_,[],rfl,by simp,uh HG⟩
end Go.Proofs.YtgdpaigcmoifbaaGreat
