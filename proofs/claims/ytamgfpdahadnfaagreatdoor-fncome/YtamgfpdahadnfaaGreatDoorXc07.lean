/- Part 7 of what the proof rests on. No condition but those that a theorem names. -/
import Derived.Test.YtamgfpdahadnfaaGreatDoorXc06
import Derived.RangeFuncNested
import Derived.RangeFuncBound
import Derived.RangeFuncCalls
import Derived.RangeFuncLeaves
import Derived.RangeFuncBox
import Derived.Shelf.Abstract
import Derived.OwnWalkIn
import Derived.TacticsInMore
import Derived.LoopNIn
import Derived.LoopIn
set_option maxHeartbeats 8000000
set_option maxRecDepth 100000
namespace Go.Proofs.YtamgfpdahadnfaaGreatDoor
open Go.ChangeShapes Go.WideShapes Go.ChangeAt Go.RowKit Go.Sort
set_option linter.unusedVariables false
def ZO {α:Type} [Inhabited α] (p:α->Bool) (xs:List α):Nat->List Int
 | 0=>[]
 | k+1=>if p (Z8 xs k) then ZO p xs k++[(k:Int)] else ZO p xs k
theorem Yq {α:Type} [Inhabited α] {p:α->Bool} {xs:List α} {k:Nat} (h:p (Z8 xs k)=true):ZO p xs (k+1)=ZO p xs k++[(k:Int)]:=by rw [ZO,if_pos h]
theorem XK {α:Type} [Inhabited α] {p:α->Bool} {xs:List α} {k:Nat} (h:p (Z8 xs k)=false):ZO p xs (k+1)=ZO p xs k:=by rw [ZO,if_neg (by simp [h])]
theorem VW {α:Type} [Inhabited α] (p:α->Bool) (xs:List α):∀ k,(ZO p xs k).length<=k
 | 0=>Z1 _
 | k+1=>by
  have:=VW p xs k;unfold ZO
  split
  ·simp;omega
  ·omega
theorem Wu {α:Type} [Inhabited α] (p:α->Bool) (xs:List α) (x:Int):∀ k,x ∈ ZO p xs k ↔ ∃ i:Nat,i<k/\x=(i:Int)/\p (Z8 xs i)=true
 | 0=>by simp [ZO]
 | k+1=>by
  have ih:=Wu p xs x k;cases h:p (Z8 xs k)
  ·rw [XK h,ih]
   constructor
   ·rintro ⟨i,hi,h1,h2⟩
    exact ⟨i,by omega,h1,h2⟩
   ·rintro ⟨i,hi,h1,h2⟩
    by_cases hik:i=k
    ·subst hik;rw [h] at h2;cases h2
    ·exact ⟨i,by omega,h1,h2⟩
  ·rw [Yq h,List.mem_append,ih]
   constructor
   ·rintro (⟨i,hi,h1,h2⟩ | h1)
    ·exact ⟨i,by omega,h1,h2⟩
    ·exact ⟨k,by omega,by simpa using h1,h⟩
   ·rintro ⟨i,hi,h1,h2⟩
    by_cases hik:i=k
    ·subst hik;right;simp [h1]
    ·exact .inl ⟨i,by omega,h1,h2⟩
theorem OH {α:Type} [Inhabited α] (p:α->Bool) (xs:List α):∀ k,decide (0<(ZO p xs k).length)=(List.range k).any fun j=>p (Z8 xs j)
 | 0=>rfl
 | k+1=>by
  have ih:=OH p xs k;rw [zV,<-ih];cases h:p (Z8 xs k)
  ·rw [XK h];simp
  ·rw [Yq h];simp
def XX {α:Type} [Inhabited α] (p:α->Bool) (xs:List α) (k:Nat):Bool:=(List.range k).all fun j=>p (Z8 xs j)
theorem Pr {α:Type} [Inhabited α] {p:α->Bool} {xs:List α} {k n:Nat} (hk:k<n) (h:p (Z8 xs k)=false):XX p xs n=false:=Qh (p:=fun j=>p (Z8 xs j)) hk h
theorem Ps {α:Type} [Inhabited α] {p:α->Bool} {xs:List α} {k:Nat} (h:XX p xs k=true) (h2:p (Z8 xs k)=true):XX p xs (k+1)=true:=by unfold XX at h ⊢;rw [TB,h,h2];rfl
theorem OL {α:Type} [Inhabited α] (p q:α->Bool) (xs:List α):∀ k,(XX p xs k && XX q xs k)=XX (fun x=>p x && q x) xs k
 | 0=>rfl
 | k+1=>by
  have ih:=OL p q xs k;unfold XX at ih ⊢;rw [TB,TB,TB,<-ih];generalize ((List.range k).all fun j=>p (Z8 xs j))=a;generalize ((List.range k).all fun j=>q (Z8 xs j))=b;cases a<;>cases b<;>cases hp:p (Z8 xs k)<;>cases hq:q (Z8 xs k)<;>simp [hp,hq]
theorem FN {α:Type} [Inhabited α] {p q:α->Bool} (xs:List α) (h:∀ x,p x=q x) (k:Nat):XX p xs k=XX q xs k:=by unfold XX;congr 1;funext j;exact h _
def Xf (n:Nat) (i:Int):Bool:=decide (0<=i) && decide (i<n)
def atB (b:Int) (s:Z3):Bool:=(s.1 ==2 || s.1 ==3) && s.2.1 ==b
def YY (b:Int) (s:Z3):Bool:=s.1 ==3 && s.2.1 ==b
def Xu (n:Nat) (s:Z3):Bool:=s.1 ==0 || (s.2.2.2.2.1 == -1 || Xf n s.2.2.2.2.1)
def Wr (ds:List XN) (s:Z3):Bool:=s.1 ==0 || (Xf ds.length s.2.1 && (s.1 ==1 || ((Z8 ds s.2.1.toNat).1 && (Vx s.2.2.2.1 s.2.1 && V2 s.2.2.2.2.2.2.2.1 (Z8 ds s.2.1.toNat).2.2))))
def Tu (ss:List Z3) (n:Nat):Bool:=decide (ss.length<=12) && (XX Zw ss ss.length && XX (Xu n) ss ss.length)
def QX (ds:List XN) (n:Int):Bool:=decide ((ds.length:Int)=n) && (XX Vv ds ds.length && decide (0<(ZO (fun d:XN=>d.1) ds ds.length).length))
def Vj (ps:List Int) (rs:List ZX):Bool:=decide (ps.length=rs.length) && (List.range ps.length).all fun j=>Xf (ZQ rs j).2.length (Z8 ps j)
def PO (m:Z6):Bool:=Y2 m.rm && (Zh m.gd && (Tu m.sm m.gd.length && (QX m.dk (ZW m.rm) && (Vj m.pc m.rm && inB m.now 0 1000000))))
def VS (m:Z6):Bool:=PO m && XX (Wr m.dk) m.sm m.sm.length
def U1 (m:Z6) (b:Nat):Bool:=if (Z8 m.dk b).2.1= -1 then decide ((ZO (atB b) m.sm m.sm.length).length=0) else decide ((ZO (YY b) m.sm m.sm.length).length=1) && decide (Z8 (ZO (YY b) m.sm m.sm.length) 0=(Z8 m.dk b).2.1)
def Qb (m:Z6):Bool:=(List.range m.dk.length).all (U1 m)
def Bk (m:Z6):Bool:=VS m && Qb m
theorem BP (h m:Int):V2 h m=Yd h m:=by
 unfold V2 Yd Xe;rw [Bool.and_assoc]
theorem AV (m:Z6) (s:Z3):(Zw s && (Xu m.gd.length s && Wr m.dk s))=(XY m s && XI m s):=by
 cases hs:Zw s
 ·unfold XY;rw [hs];rfl
 ·have hh:XY m s=(s.1 ==0 || (decide (s.2.2.2.2.1<m.gd.length) && decide (s.2.1<m.dk.length))):=by unfold XY;rw [hs];rfl
  rw [hh,Bool.true_and];unfold Zw at hs;simp only [Bool.or_eq_true] at hs
  rcases hs with hg | hp
  ·have e:=U5 hg
   subst e;rfl
  ·obtain ⟨st,be,rk,my,gu,lo,hi,hd,ca,ut,wk⟩:=s
   obtain ⟨⟨s1,s2⟩,⟨b1,b2⟩,_,⟨m1,m2⟩,⟨g1,g2⟩,_⟩:=Zo hp;have hmem:Vx my be=VX my be:=EM (Zp (by omega) (by omega)) (Zp (by omega) (by omega));have hst0:(st ==0)=false:=by simp;omega
   have hgu:(gu == -1 || Xf m.gd.length gu)=decide (gu<m.gd.length):=by
    unfold Xf;by_cases e:gu= -1
    ·subst e;simp;omega
    ·have:(gu == -1)=false:=by simpa using e
     rw [this,Bool.false_or,show decide (0<=gu)=true from decide_eq_true (by omega),Bool.true_and]
   have hbe:Xf m.dk.length be=decide (be<m.dk.length):=by
    unfold Xf;rw [show decide (0<=be)=true from decide_eq_true (by omega),Bool.true_and]
   have hpr:ZK (st,be,rk,my,gu,lo,hi,hd,ca,ut,wk)= !(st ==1):=by
    unfold ZK
    rcases (by omega:st=1\/st=2\/st=3) with e | e | e<;>subst e<;>rfl
   unfold Xu Wr XI;simp only;rw [hst0,hgu,hbe,hpr,hmem,BP,Bool.not_not];simp only [Bool.false_or,Bool.and_assoc]
theorem Kz (ss:List Z3) (b:Int):∀ k:Nat,
  (match Yk ss b k with
   | none=>2<=(ZO (YY b) ss k).length
   | some (wk,wt)=>((wk= -1/\ZO (YY b) ss k=[])\/(0<=wk/\ZO (YY b) ss k=[wk]))/\((ZO (atB b) ss k=[]) ↔ (ZO (YY b) ss k=[]/\wt=false)))
 | 0=>by simp [Yk,ZO]
 | k+1=>by
  have ih:=Kz ss b k;unfold Yk;cases hsc:Yk ss b k with
  | none=>
   rw [hsc] at ih;simp only at ih ⊢;unfold ZO
   split
   ·simp;omega
   ·exact ih
  | some r=>
   obtain ⟨wk,wt⟩:=r;rw [hsc] at ih;simp only at ih ⊢;by_cases hat:(Z8 ss k).2.1=b/\ZK (Z8 ss k)=true
   ·rw [if_pos hat]
    have hA:atB b (Z8 ss k)=true:=by
     have h2:=hat.2;unfold ZK at h2;unfold atB;rw [h2,hat.1];simp
    by_cases h2:(Z8 ss k).1=2
    ·rw [if_pos h2]
     have hW:YY b (Z8 ss k)=false:=by unfold YY;rw [h2];rfl
     rw [XK hW,Yq hA];exact ⟨ih.1,by simp⟩
    ·rw [if_neg h2]
     have h3:(Z8 ss k).1=3:=by
      have:=hat.2;unfold ZK at this;simp only [Bool.or_eq_true,beq_iff_eq] at this;omega
     have hW:YY b (Z8 ss k)=true:=by unfold YY;rw [h3,hat.1];simp
     rw [Yq hW,Yq hA];by_cases hwk:0<=wk
     ·rw [if_pos hwk]
      rcases ih.1 with ⟨e,_⟩ | ⟨_,e⟩
      ·omega
      ·simp only
       rw [e];simp
     ·rw [if_neg hwk]
      rcases ih.1 with ⟨_,e⟩ | ⟨e,_⟩
      ·simp only
       rw [e];simp
      ·omega
   ·rw [if_neg hat]
    have hA:atB b (Z8 ss k)=false:=by
     cases hc:atB b (Z8 ss k)
     ·rfl
     ·exfalso
      apply hat;unfold atB at hc;simp only [ZP,beq_iff_eq] at hc;exact ⟨hc.2,by unfold ZK;exact hc.1⟩
    have hW:YY b (Z8 ss k)=false:=by
     cases hc:YY b (Z8 ss k)
     ·rfl
     ·exfalso
      apply hat;unfold YY at hc;simp only [ZP,beq_iff_eq] at hc;exact ⟨hc.2,by unfold ZK;rw [hc.1];rfl⟩
    rw [XK hW,XK hA];exact ih
theorem KQ (m:Z6) (b:Nat):U1 m b=Yh m b:=by
 have h:=Kz m.sm b m.sm.length;unfold U1 Yh;cases hsc:Yk m.sm b m.sm.length with
 | none=>
  rw [hsc] at h;simp only at h ⊢
  split
  ·have:ZO (atB b) m.sm m.sm.length ≠ []:=by
    intro e;have hx:Z8 (ZO (YY b) m.sm m.sm.length) 0 ∈ ZO (YY b) m.sm m.sm.length:=Vs (by omega);obtain ⟨i,hi,_,hw⟩:=(Wu _ _ _ _).1 hx
    have:(i:Int) ∈ ZO (atB b) m.sm m.sm.length:=(Wu _ _ _ _).2 ⟨i,hi,rfl,by
     unfold YY at hw;simp only [ZP,beq_iff_eq] at hw;unfold atB
     rw [hw.1,hw.2];simp⟩
    rw [e] at this;cases this
   simp only [List.length_eq_zero_iff,this,decide_false]
  ·rw [show decide ((ZO (YY b) m.sm m.sm.length).length=1)=false from decide_eq_false (by omega),Bool.false_and]
 | some r=>
  obtain ⟨wk,wt⟩:=r;rw [hsc] at h;simp only at h ⊢;obtain ⟨h1,h2⟩:=h;generalize ZO (YY b) m.sm m.sm.length=ws at *;generalize ZO (atB b) m.sm m.sm.length=az at *;generalize (Z8 m.dk b).2.1=who at *;by_cases hw:who= -1
  ·subst hw
   simp only [if_true,List.length_eq_zero_iff]
   rcases h1 with ⟨rfl,rfl⟩ | ⟨hk,rfl⟩
   ·cases wt
    ·simp at h2;simp [h2]
    ·simp at h2;simp [h2]
   ·have hne:az ≠ []:=by
     intro e;have:=(h2.1 e).1;cases this
    have:((-1:Int) ==wk)=false:=by simp;omega
    rw [this];simp [hne]
  ·rw [if_neg hw]
   rcases h1 with ⟨rfl,rfl⟩ | ⟨hk,rfl⟩
   ·have:(who == -1)=false:=by simpa using hw
    rw [this];simp
   ·have h0:decide (wk<0)=false:=XE (by omega)
    rw [h0,Bool.and_false,Bool.not_false,Bool.and_true];simp only [YQ,YC,decide_true,Bool.true_and];show decide (wk=who)=(who ==wk)
    by_cases e:wk=who
    ·subst e;simp
    ·rw [decide_eq_false e];symm;simp;omega
theorem Au (n:Nat) (i:Int):Xf n i=inB i 0 ((n:Int)-1):=by
 unfold Xf inB;by_cases h0:0<=i<;>by_cases h1:i<n
 ·rw [decide_eq_true h0,decide_eq_true h1,decide_eq_true (show 0<=i/\i<=(n:Int)-1 by omega)];rfl
 ·rw [decide_eq_true h0,decide_eq_false h1,decide_eq_false (show ¬ (0<=i/\i<=(n:Int)-1) by omega)];rfl
 ·rw [decide_eq_false h0,decide_eq_false (show ¬ (0<=i/\i<=(n:Int)-1) by omega)];rfl
 ·rw [decide_eq_false h0,decide_eq_false (show ¬ (0<=i/\i<=(n:Int)-1) by omega)];rfl
theorem Qq (m:Z6):VS m=YK m:=by
 have e1:VM m m.sm.length=(XX Zw m.sm m.sm.length && (XX (Xu m.gd.length) m.sm m.sm.length && XX (Wr m.dk) m.sm m.sm.length)):=by
  rw [OL,OL];exact (FN m.sm (AV m) m.sm.length).symm
 have e2:Vj m.pc m.rm=(decide (m.pc.length=m.rm.length) && VL m m.pc.length):=by
  unfold Vj VL
  congr 2
  funext j
  unfold V3;exact Au _ _
 have e3:decide (0<(ZO (fun d:XN=>d.1) m.dk m.dk.length).length)=TL m m.dk.length:=OH _ _ _;unfold VS PO YK YA Tu QX;rw [e1,e2,e3];have e4:XX Vv m.dk m.dk.length=Vk m m.dk.length:=rfl;rw [e4];generalize Y2 m.rm=x1;generalize Zh m.gd=x2;generalize decide (m.sm.length<=12)=x3;generalize XX Zw m.sm m.sm.length=x4;generalize XX (Xu m.gd.length) m.sm m.sm.length=x5;generalize decide ((m.dk.length:Int)=ZW m.rm)=x6;generalize Vk m m.dk.length=x7;generalize TL m m.dk.length=x8;generalize decide (m.pc.length=m.rm.length)=x9;generalize VL m m.pc.length=x10;generalize inB m.now 0 1000000=x11;generalize XX (Wr m.dk) m.sm m.sm.length=x12;rw [Bool.eq_iff_iff];simp only [ZP];constructor
 ·rintro ⟨⟨a1,a2,⟨a3,a4,a5⟩,⟨a6,a7,a8⟩,⟨a9,a10⟩,a11⟩,a12⟩
  exact ⟨⟨a1,a2,a3,a6,a9,a11⟩,a7,a10,⟨a4,a5,a12⟩,a8⟩
 ·rintro ⟨⟨a1,a2,a3,a6,a9,a11⟩,a7,a10,⟨a4,a5,a12⟩,a8⟩
  exact ⟨⟨a1,a2,⟨a3,a4,a5⟩,⟨a6,a7,a8⟩,⟨a9,a10⟩,a11⟩,a12⟩
theorem Bl (m:Z6):Bk m=ZJ m:=by
 unfold Bk ZJ Qb;rw [Qq,show U1 m=Yh m from funext (KQ m)]
def VK (ss:List Z3) (ps:List Int):List Z4:=ps.foldl (fun q i=>Vd q (WN (Z8 ss i.toNat),i)) []
theorem PT (ss:List Z3) (ps:List Int) (i:Int):VK ss (ps++[i])=Vd (VK ss ps) (WN (Z8 ss i.toNat),i):=by unfold VK;rw [List.foldl_append];rfl
theorem Qt (ss:List Z3) (b:Int):∀ k,VK ss (ZO (atB b) ss k)=atV ss b k
 | 0=>rfl
 | k+1=>by
  have ih:=Qt ss b k;by_cases hat:(Z8 ss k).2.1=b/\ZK (Z8 ss k)=true
  ·have hA:atB b (Z8 ss k)=true:=by
    have h2:=hat.2;unfold ZK at h2;unfold atB;rw [h2,hat.1];simp
   rw [Yq hA,PT,ih,UD hat.1 hat.2];rfl
  ·have hA:atB b (Z8 ss k)=false:=by
    cases hc:atB b (Z8 ss k)
    ·rfl
    ·exfalso
     apply hat;unfold atB at hc;simp only [ZP,beq_iff_eq] at hc;exact ⟨hc.2,by unfold ZK;exact hc.1⟩
   rw [XK hA,TD hat,ih]
theorem P8 {ps:List Int} {k:Nat} (h:k<ps.length):ps.take (k+1)=ps.take k++[Z8 ps k]:=by
 unfold Z8;rw [List.take_add_one,List.getD,List.getElem?_eq_getElem h];rfl
theorem FR {m:Z6} (h:Loose m) (b:Int) (k:Nat) (hk:k<=m.sm.length):Yf (atV m.sm b k)=true:=by
 have hd:=h.head;unfold YA at hd;simp only [ZP,Y0] at hd;have hl:=Sk m.sm b k;have h12:=hd.2.2.1;refine E5 ⟨by omega,fun p hp=> ?_,?_,S8 _ _ _⟩
 ·obtain ⟨i,hi,h1,h2,rfl⟩:=(XC m.sm b p k).1 hp
  have:=TY (h.at (i:=i) (by omega) h2).2.2.2.2;unfold L6;rw [Zp (by omega) (by omega),Zp (by omega) (by show (i:Int)<=99;omega)];rfl
 ·refine ((NB m.sm b k).and (S8 m.sm b k)).imp fun {x y} hxy=> ?_
  have h1:=hxy.1;have h2:=hxy.2;rw [Kh] at h1;rw [AK];omega
theorem OI {α:Type} [Inhabited α] (p:α->Bool) (xs:List α):∀ n k:Nat,∃ j,j<=n/\(ZO p xs n).take k=ZO p xs j
 | 0,k=>⟨0,Z1 _,by simp [ZO]⟩
 | n+1,k=>by
  obtain ⟨j,hj,e⟩:=OI p xs n k;cases h:p (Z8 xs n)
  ·rw [XK h];exact ⟨j,by omega,e⟩
  ·rw [Yq h]
   by_cases hk:k<=(ZO p xs n).length
   ·rw [List.take_append_of_le_length hk];exact ⟨j,by omega,e⟩
   ·refine ⟨n+1,Z1 _,?_⟩
    rw [Yq h,List.take_of_length_le (by simp;omega)]
theorem EV {m:Z6} (h:Loose m) (b:Int) (k:Nat):Yf (VK m.sm ((ZO (atB b) m.sm m.sm.length).take k))=true:=by
 obtain ⟨j,hj,e⟩:=OI (atB b) m.sm m.sm.length k;rw [e,Qt];exact FR h b j hj
def Re (m:Z6) (who:Int):Int:=if ZJ m && WL m who then Zs m who else -1
theorem Xt {w:World} {v0 v1 v2 v3 v4:Value} {m:Z6} {q:Bool} (hq:ZJ m=q) (h:Smy w v0 v1 v2 v3 v4 m):Calls Tryz.prog 12 #[.agg #[v0,v1,v2,v3,v4,.int .i64 m.now]] w fun e w'=>e= .returned (.bool q)/\Below w.heap.size w w':=by
 have:=Pl h;rw [hq] at this;exact this
theorem Mt {w:World} {v0 v1 v2 v3 v4:Value} {m:Z6} {b:Int} {q:Bool} (hq:Ud m b=q) (h:Smy w v0 v1 v2 v3 v4 m) :
  Calls Tryz.prog 85 #[.agg #[v0,v1,v2,v3,v4,.int .i64 m.now],.int .i64 b] w fun e w'=>e= .returned (.bool q)/\Below w.heap.size w w':=by
 have hq2:inB b 0 ((m.dk.length:Int)-1)=q:=hq;clear hq;obtain ⟨a0,p0,rfl,_,_⟩:=IsRooms.shape h.rm;obtain ⟨a1,p1,rfl,_,_⟩:=IsRec.shape h.gd;obtain ⟨a2,p2,rfl,_,_⟩:=IsRec.shape h.sm;obtain ⟨a3,p3,rfl,hc3,hm3⟩:=IsRec.shape h.dk;obtain ⟨a4,p4,rfl,_,_⟩:=IsRec.shape h.pc;clear h;go_enter Tryz.func85,Tryz.ntmps85;go_wp2_with (go_at_call 59;refine (ZV _ _ _ _).mono ?_;rw [hq2];rintro e w' ⟨rfl,h9⟩;subst w')
 go_ret;exact ⟨rfl,(ba _ _)⟩
def NG (m:Z6) (r:Int):Bool:=inB r 0 ((m.rm.length:Int)-1)
theorem DR {m:Z6} {b:Int} (h:NG m b=true):∃ k:Nat,b=(k:Int)/\k<m.rm.length:=by
 have:=ZN (show inB b 0 ((m.rm.length:Int)-1)=true from h);exact ⟨b.toNat,by omega,by omega⟩
theorem Co {w:World} {v0 v1 v2 v3 v4:Value} {m:Z6} {b:Int} {q:Bool} (hq:NG m b=q) (h:Smy w v0 v1 v2 v3 v4 m) :
  Calls Tryz.prog 281 #[.agg #[v0,v1,v2,v3,v4,.int .i64 m.now],.int .i64 b] w fun e w'=>e= .returned (.bool q)/\Below w.heap.size w w':=by
 have hq2:inB b 0 ((m.rm.length:Int)-1)=q:=hq;clear hq;obtain ⟨a0,p0,rfl,hc3,hm3⟩:=IsRooms.shape h.rm;obtain ⟨a1,p1,rfl,_,_⟩:=IsRec.shape h.gd;obtain ⟨a2,p2,rfl,_,_⟩:=IsRec.shape h.sm;obtain ⟨a3,p3,rfl,_,_⟩:=IsRec.shape h.dk;obtain ⟨a4,p4,rfl,_,_⟩:=IsRec.shape h.pc;clear h;go_enter Tryz.func281,Tryz.ntmps281;go_wp2_with (go_at_call 59;refine (ZV _ _ _ _).mono ?_;rw [hq2];rintro e w' ⟨rfl,h9⟩;subst w')
 go_ret;exact ⟨rfl,(ba _ _)⟩
def Qw (m:Z6):List Z4->Int
 | []=>0
 | e::q=>Zs m e.2+Qw m q
def U0 (m:Z6):List Int->Int
 | []=>0
 | x::q=>Zs m x+U0 m q
theorem IA (m:Z6) (a b:List Z4):Qw m (a++b)=Qw m a+Qw m b:=by
 induction a with
 | nil=>show Qw m b=0+Qw m b;omega
 | cons e a ih=>show Zs m e.2+Qw m (a++b)=Zs m e.2+Qw m a+Qw m b;omega
theorem Bu (m:Z6) (a b:List Int):U0 m (a++b)=U0 m a+U0 m b:=by
 induction a with
 | nil=>show U0 m b=0+U0 m b;omega
 | cons e a ih=>show Zs m e+U0 m (a++b)=Zs m e+U0 m a+U0 m b;omega
theorem KJ (m:Z6) (a:List Int) (x:Int):U0 m (a++[x])=U0 m a+Zs m x:=by rw [Bu];show _+(Zs m x+0)=_;omega
theorem DV (m:Z6):∀ a:List Int,0<=U0 m a/\U0 m a<=1024*a.length
 | []=>by simp [U0]
 | x::a=>by
  have ih:=DV m a;have hw:=R1 m x;show 0<=Zs m x+U0 m a/\Zs m x+U0 m a<=1024*((a.length+1:Nat):Int);omega
theorem Bt (m:Z6) (q:List Z4) (e:Z4):Qw m (Vd q e)=Qw m q+Zs m e.2:=by
 have h:=IA m (q.take (XG e q)) (q.drop (XG e q));rw [List.take_append_drop] at h;unfold Vd;rw [IA,h];show _+(Zs m e.2+_)=_;omega
theorem KU (m:Z6) (but:Int):∀ (q:List Z4) (n:Int),(∀ e ∈ q,e.2 ≠ but)->q.foldl (fun n e=>if e.2=but then n else n+Zs m e.2) n=n+Qw m q
 | [],n,_=>by show n=n+0;omega
 | e::q,n,h=>by
  have h0:=h e (by simp);have ih:=KU m but q (if e.2=but then n else n+Zs m e.2) (fun x hx=>h x (by simp [hx]));rw [List.foldl_cons,ih,if_neg h0];show _=n+(Zs m e.2+Qw m q);omega
theorem C5 (m:Z6) (b:Int):Zc m b (-1)=Qw m (atV m.sm b m.sm.length):=by
 have:=KU m (-1) (atV m.sm b m.sm.length) 0 (fun e he=>by
  obtain ⟨i,_,_,_,rfl⟩:=(XC m.sm b e m.sm.length).1 he;show (i:Int) ≠ -1
  omega)
 unfold Zc US;omega
theorem yT (b:Int) (s:Z3):atB b s=decide (s.2.1=b/\ZK s=true):=by
 unfold atB ZK;rw [Bool.eq_iff_iff];simp only [ZP,Y0,beq_iff_eq];exact ⟨fun h=>⟨h.2,h.1⟩,fun h=>⟨h.2,h.1⟩⟩
theorem KW (m:Z6) (ss:List Z3) (b:Int):∀ k,U0 m (ZO (atB b) ss k)=Qw m (atV ss b k)
 | 0=>rfl
 | k+1=>by
  have ih:=KW m ss b k;by_cases hat:(Z8 ss k).2.1=b/\ZK (Z8 ss k)=true
  ·rw [Yq (by rw [yT];exact decide_eq_true hat),KJ,UD hat.1 hat.2,Bt,ih]
  ·rw [XK (by rw [yT];exact decide_eq_false hat),TD hat,ih]
theorem FC (m:Z6) (b:Int):U0 m (ZO (atB b) m.sm m.sm.length)=Zc m b (-1):=by rw [KW,C5]
theorem CU (m:Z6) {ws:List Int} {k:Nat} (h:k<ws.length):U0 m (ws.take (k+1))=U0 m (ws.take k)+Zs m (Z8 ws k):=by rw [P8 h,KJ]
structure Wants (m:Z6):Prop where
 gd:Zh m.gd=true
 each:∀ i,i<m.sm.length->(Z8 m.sm i).1 ≠ 0->isB m.gd (Z8 m.sm i).2.2.2.2.1=true/\Ya (Z8 m.sm i).2.2.2.2.2.1 (Z8 m.sm i).2.2.2.2.2.2.1=true
theorem Loose.wants {m:Z6} (h:Loose m):Wants m:=by
 have hd:=h.head;unfold YA at hd;simp only [ZP,Y0] at hd;refine ⟨hd.2.1,fun i hi hs=> ?_⟩;obtain ⟨hp,hg,_⟩:=h.limits hi hs;have hgs:=hd.2.1;generalize Z8 m.sm i=s at *;obtain ⟨st,be,rk,my,gu,lo,hi,hd,ca,ut,wk⟩:=s;obtain ⟨_,_,_,_,⟨g0,g5⟩,hpair,_⟩:=Zo hp;simp only at hg;exact ⟨by unfold isB;rw [hgs,Zp g0 (by omega)];rfl,hpair⟩
theorem BJ (m:Z6) {k:Nat} (hk:k<m.sm.length) (b:Int) (i:Nat):Z8 (Wv m (k:Int) b).sm i=if i=k then QV (Z8 m.sm k) b else Z8 m.sm i:=by
 unfold Wv;simp only [Zy];exact ZF hk i
theorem Wants.with {m:Z6} (h:Wants m) {k:Nat} (hk:k<m.sm.length) (hs:(Z8 m.sm k).1 ≠ 0) (b:Int):Wants (Wv m (k:Int) b):=by
 refine ⟨h.gd,fun i hi hne=> ?_⟩;have hi':i<m.sm.length:=by unfold Wv at hi;simpa using hi
 rw [BJ m hk] at hne ⊢;by_cases e:i=k
 ·rw [if_pos e];exact h.each k hk hs
 ·rw [if_neg e] at hne ⊢;exact h.each i hi' hne
def Um (m:Z6) (b:Int):Bool:=Xf m.dk.length b && (Z8 m.dk b.toNat).1
def Va (m:Z6) (bs:List Int):Int:=bs.foldl (fun n b=>if Um m b then max n (Zc m b (-1)) else n) 0
def Ux (m:Z6) (bs:List Int):Int:=bs.foldl (fun n b=>n+Zc m b (-1)) 0
theorem MF (m:Z6) (bs:List Int) (b:Int):Va m (bs++[b])=if Um m b then max (Va m bs) (Zc m b (-1)) else Va m bs:=by unfold Va;rw [List.foldl_append];rfl
theorem Ny (m:Z6) (bs:List Int) (b:Int):Ux m (bs++[b])=Ux m bs+Zc m b (-1):=by unfold Ux;rw [List.foldl_append];rfl
theorem GW (m:Z6) (hl:m.sm.length<=12):∀ (bs:List Int) (n:Int),0<=n->n<=12288->0<=bs.foldl (fun n b=>if Um m b then max n (Zc m b (-1)) else n) n/\bs.foldl (fun n b=>if Um m b then max n (Zc m b (-1)) else n) n<=12288
 | [],n,h0,h1=>⟨h0,h1⟩
 | b::bs,n,h0,h1=>by
  have hu:=Tz m b (-1);refine GW m hl bs (if Um m b then max n (Zc m b (-1)) else n) ?_ ?_<;>split<;>omega
theorem AS (m:Z6) (hl:m.sm.length<=12) (bs:List Int):0<=Va m bs/\Va m bs<=12288:=GW m hl bs 0 (by omega) (by omega)
theorem IU (m:Z6) (hl:m.sm.length<=12):∀ (bs:List Int) (n:Int),0<=n->0<=bs.foldl (fun n b=>n+Zc m b (-1)) n/\bs.foldl (fun n b=>n+Zc m b (-1)) n<=n+12288*bs.length
 | [],n,h0=>⟨h0,by simp⟩
 | b::bs,n,h0=>by
  have hu:=Tz m b (-1);have ih:=IU m hl bs (n+Zc m b (-1)) (by omega);refine ⟨ih.1,Int.le_trans ih.2 ?_⟩;simp only [YQ,Int.natCast_add,Int.natCast_one];omega
theorem BK (m:Z6) (hl:m.sm.length<=12) (bs:List Int):0<=Ux m bs/\Ux m bs<=12288*bs.length:=by
 have:=IU m hl bs 0 (by omega);unfold Ux;omega
theorem Io {m:Z6} (h:Sane m) {r:Nat} (hr:r<m.rm.length) {b:Nat} (hb:b<8):Vx (Vf m.rm (r:Int)) (b:Int)=true ↔ b<m.dk.length/\(Xr m.rm b:Int)=(r:Int):=by
 have hR:Ue m.rm (r:Int)=true:=by unfold Ue;rw [h.hall,Zp (by omega) (by omega)];rfl
 have ha:=(Zl h.hall).2.2.1;have h0:=WM h.hall r (by omega);have h1:=WM h.hall (r+1) (by omega);have hm:=Vh ha (i:=r) 1 (by omega);have hm0:=Vh ha (i:=r+1) (m.rm.length-(r+1)) (by omega);rw [show r+1+(m.rm.length-(r+1))=m.rm.length by omega,List.take_length] at hm0;have h8:=h.eight;have hd:=h.dk;rw [Be hR,Zy,Ab h0.1 hm (by omega) (by omega) (by omega),decide_eq_true_iff];constructor
 ·intro hx
  have hbd:b<m.dk.length:=by omega
  exact ⟨hbd,by rw [(DQ (h.bench hbd) hr).2 hx]⟩
 ·rintro ⟨hbd,e⟩
  exact (DQ (h.bench hbd) hr).1 (by omega)
theorem Kw {m:Z6} (h:Sane m) {r:Nat} (hr:r<m.rm.length):∀ k:Nat,k<=m.dk.length->Va m (UP (Vf m.rm (r:Int)) k)=(YU m r k).1/\Ux m (UP (Vf m.rm (r:Int)) k)=(YU m r k).2
 | 0,_=>⟨rfl,rfl⟩
 | k+1,hk=>by
  have ih:=Kw h hr k (by omega);have h8:=h.eight;have hs:=Io h hr (b:=k) (by omega);by_cases e:(Xr m.rm k:Int)=(r:Int)
  ·rw [RZ (hs.2 ⟨by omega,e⟩),MF,Ny,ih.1,ih.2]
   have ho:Um m (k:Int)=(Z8 m.dk k).1:=by
    unfold Um Xf;rw [Zy,decide_eq_true (show (0:Int)<=(k:Int) by omega),decide_eq_true (show (k:Int)<(m.dk.length:Int) by omega)];simp
   rw [ho];show _=(if _ then _ else _:Int × Int).1/\_=(if _ then _ else _:Int × Int).2;rw [if_pos e];exact ⟨rfl,rfl⟩
  ·have hn:Vx (Vf m.rm (r:Int)) (k:Int)=false:=by
    cases hc:Vx (Vf m.rm (r:Int)) (k:Int)
    ·rfl
    ·exact absurd (hs.1 hc).2 e
   rw [UB hn];show _=(if _ then _ else _:Int × Int).1/\_=(if _ then _ else _:Int × Int).2;rw [if_neg e];exact ih
theorem CJ {m:Z6} (h:Sane m) {r:Nat} (hr:r<m.rm.length):Va m (SJ (Vf m.rm (r:Int)))=(YU m r m.dk.length).1/\Ux m (SJ (Vf m.rm (r:Int)))=(YU m r m.dk.length).2:=by
 have key:∀ d k:Nat,m.dk.length+d=k->k<=8->UP (Vf m.rm (r:Int)) k=UP (Vf m.rm (r:Int)) m.dk.length:=by
  intro d
  induction d with
  | zero=>intro k hk _;rw [<-hk];rfl
  | succ d ih=>
   intro k hk h8;obtain ⟨j,rfl⟩:∃ j,k=j+1:=⟨k-1,by omega⟩
   have hn:Vx (Vf m.rm (r:Int)) (j:Int)=false:=by
    cases hc:Vx (Vf m.rm (r:Int)) (j:Int)
    ·rfl
    ·have:=((Io h hr (b:=j) (by omega)).1 hc).1;omega
   rw [UB hn];exact ih j (by omega) (by omega)
 have h8:=h.eight;have e:=key (8-m.dk.length) 8 (by omega) (by omega);unfold SJ;rw [e];exact Kw h hr m.dk.length (Z1 _)
def yU (s:Z3):Z3:=(1,s.2)
def WY (m:Z6) (who:Int):Z6:={ m with sm:=m.sm.set who.toNat (yU (Z8 m.sm who.toNat)) }
theorem NC (m:Z6) {k:Nat} (hk:k<m.sm.length) (i:Nat):Z8 (WY m (k:Int)).sm i=if i=k then yU (Z8 m.sm k) else Z8 m.sm i:=by
 unfold WY;simp only [Zy];exact ZF hk i
theorem LK (m:Z6) (who:Int):(WY m who).sm.length=m.sm.length:=by unfold WY;simp
theorem BO (m:Z6) {k:Nat} (hk:k<m.sm.length) (x:Int):Zs (WY m (k:Int)) x=Zs m x:=by
 unfold Zs;rw [NC m hk];by_cases e:x.toNat=k
 ·rw [if_pos e,e];rfl
 ·rw [if_neg e];rfl
def QR (m:Z6) (but:Int):List Z4->Int
 | []=>0
 | e::q=>(if e.2=but then 0 else Zs m e.2)+QR m but q
theorem Iz (m:Z6) (but:Int) (a b:List Z4):QR m but (a++b)=QR m but a+QR m but b:=by
 induction a with
 | nil=>show QR m but b=0+QR m but b;omega
 | cons e a ih=>show _+QR m but (a++b)=_+QR m but a+QR m but b;omega
theorem Nl (m:Z6) (but:Int) (q:List Z4) (e:Z4):QR m but (Vd q e)=QR m but q+(if e.2=but then 0 else Zs m e.2):=by
 have h:=Iz m but (q.take (XG e q)) (q.drop (XG e q));rw [List.take_append_drop] at h;unfold Vd;rw [Iz,h];show _+((if e.2=but then 0 else Zs m e.2)+_)=_;omega
theorem DY (m:Z6) (but:Int):∀ (q:List Z4) (n:Int),q.foldl (fun n e=>if e.2=but then n else n+Zs m e.2) n=n+QR m but q
 | [],n=>by show n=n+0;omega
 | e::q,n=>by
  have ih:=DY m but q (if e.2=but then n else n+Zs m e.2);rw [List.foldl_cons,ih];show _=n+((if e.2=but then 0 else Zs m e.2)+QR m but q)
  split<;>omega
theorem DZ (m:Z6) (b but:Int):Zc m b but=QR m but (atV m.sm b m.sm.length):=by
 have:=DY m but (atV m.sm b m.sm.length) 0;unfold Zc US;omega
theorem IB (m:Z6) {k:Nat} (hk:k<m.sm.length) (b:Int):∀ j,QR (WY m (k:Int)) (-1) (atV (WY m (k:Int)).sm b j)=QR m (k:Int) (atV m.sm b j)
 | 0=>rfl
 | j+1=>by
  have ih:=IB m hk b j;by_cases e:j=k
  ·subst e
   rw [TD (ss:=(WY m (j:Int)).sm) (by rw [NC m hk,if_pos rfl];rintro ⟨_,h⟩;cases h),ih];by_cases hat:(Z8 m.sm j).2.1=b/\ZK (Z8 m.sm j)=true
   ·rw [UD hat.1 hat.2,Nl,if_pos rfl];omega
   ·rw [TD hat]
  ·have hr:Z8 (WY m (k:Int)).sm j=Z8 m.sm j:=by rw [NC m hk,if_neg e]
   by_cases hat:(Z8 m.sm j).2.1=b/\ZK (Z8 m.sm j)=true
   ·rw [UD (ss:=(WY m (k:Int)).sm) (by rw [hr];exact hat.1) (by rw [hr];exact hat.2),UD hat.1 hat.2,Nl,Nl,ih,BO m hk]
    show _+(if (j:Int)= -1 then 0 else Zs m (j:Int))=_+(if (j:Int)=(k:Int) then 0 else Zs m (j:Int));rw [if_neg (by omega),if_neg (by omega)]
   ·rw [TD (ss:=(WY m (k:Int)).sm) (by rw [hr];exact hat),TD hat,ih]
theorem C6 (m:Z6) {k:Nat} (hk:k<m.sm.length) (b:Int):Zc (WY m (k:Int)) b (-1)=Zc m b (k:Int):=by
 rw [DZ,DZ,LK];exact IB m hk b _
theorem Wants.away {m:Z6} (h:Wants m) {k:Nat} (hk:k<m.sm.length) (hs:(Z8 m.sm k).1 ≠ 0):Wants (WY m (k:Int)):=by
 refine ⟨h.gd,fun i hi hne=> ?_⟩;rw [LK] at hi;rw [NC m hk] at hne ⊢;by_cases e:i=k
 ·rw [if_pos e];exact h.each k hk hs
 ·rw [if_neg e] at hne ⊢;exact h.each i hi hne
abbrev Yn:=Int × Int × Int
def Sm (m:Z6) (k:Nat):Yn:=((k:Int),Zc m (k:Int) (-1),Zd m.rm (k:Int))
def XH (m:Z6):Nat->List Yn
 | 0=>[]
 | k+1=>if (Z8 m.dk k).1 then XH m k++[Sm m k] else XH m k
theorem Qs {m:Z6} {k:Nat} (h:(Z8 m.dk k).1=true):XH m (k+1)=XH m k++[Sm m k]:=by show (if _ then _ else _)=_;rw [if_pos h]
theorem O7 {m:Z6} {k:Nat} (h:(Z8 m.dk k).1=false):XH m (k+1)=XH m k:=by show (if _ then _ else _)=_;rw [h];rfl
theorem SL (m:Z6):∀ k,(XH m k).length<=k
 | 0=>Z1 _
 | k+1=>by
  have:=SL m k;unfold XH
  split
  ·simp;omega
  ·omega
theorem SM (m:Z6) (x:Yn):∀ k,x ∈ XH m k ↔ ∃ b:Nat,b<k/\(Z8 m.dk b).1=true/\x=Sm m b
 | 0=>by simp [XH]
 | k+1=>by
  have ih:=SM m x k;cases ho:(Z8 m.dk k).1
  ·rw [O7 ho,ih]
   constructor
   ·rintro ⟨b,hb,h⟩;exact ⟨b,by omega,h⟩
   ·rintro ⟨b,hb,h1,h2⟩
    by_cases e:b=k
    ·subst e;rw [ho] at h1;cases h1
    ·exact ⟨b,by omega,h1,h2⟩
  ·rw [Qs ho,List.mem_append,ih]
   constructor
   ·rintro (⟨b,hb,h⟩ | h)
    ·exact ⟨b,by omega,h⟩
    ·exact ⟨k,by omega,ho,by simpa using h⟩
   ·rintro ⟨b,hb,h1,h2⟩
    by_cases e:b=k
    ·subst e;right;simp [h2]
    ·left;exact ⟨b,by omega,h1,h2⟩
def BT (m:Z6) (who:Int) (k:Nat):Yn:=((k:Int),Zc m (k:Int) who,Zd m.rm (k:Int))
def VI (m:Z6) (who:Int):Nat->List Yn
 | 0=>[]
 | k+1=>if YH m who k then VI m who k++[BT m who k] else VI m who k
theorem O4 {m:Z6} {who:Int} {k:Nat} (h:YH m who k=true):VI m who (k+1)=VI m who k++[BT m who k]:=by show (if _ then _ else _)=_;rw [if_pos h]
theorem PL {m:Z6} {who:Int} {k:Nat} (h:YH m who k=false):VI m who (k+1)=VI m who k:=by show (if _ then _ else _)=_;rw [h];rfl
theorem Kl (m:Z6) (who:Int):∀ k,(VI m who k).length<=k
 | 0=>Z1 _
 | k+1=>by
  have:=Kl m who k;unfold VI
  split
  ·simp;omega
  ·omega
def TN (m:Z6) (k:Nat) (x:Yn):Bool:=VX (Z8 m.sm k).2.2.2.1 x.1
theorem G0 (m:Z6) {k:Nat} (hk:k<m.sm.length):∀ n,(XH (WY m (k:Int)) n).filter (TN m k)=VI m (k:Int) n
 | 0=>rfl
 | n+1=>by
  have ih:=G0 m hk n;have hd:(WY m (k:Int)).dk=m.dk:=rfl;have hm:YH m (k:Int) n=((Z8 m.dk n).1 && VX (Z8 m.sm k).2.2.2.1 (n:Int)):=rfl;have hi:TN m k (Sm (WY m (k:Int)) n)=VX (Z8 m.sm k).2.2.2.1 (n:Int):=rfl;cases ho:(Z8 m.dk n).1
  ·rw [O7 (by rw [hd];exact ho),ih,PL (by rw [hm,ho];rfl)]
  ·rw [Qs (by rw [hd];exact ho),List.filter_append,ih]
   cases hb:VX (Z8 m.sm k).2.2.2.1 (n:Int)
   ·rw [PL (by rw [hm,ho,hb];rfl),List.filter_cons_of_neg (by rw [hi,hb];simp)]
    simp
   ·rw [O4 (by rw [hm,ho,hb];rfl),List.filter_cons_of_pos (by rw [hi,hb])]
    have hv:Sm (WY m (k:Int)) n=BT m (k:Int) n:=by unfold Sm BT;rw [C6 m hk];rfl
    rw [hv];rfl
def ZG (m:Z6) (who:Int):Int:=if ZJ m && WL m who then Y3 m who else -1
def WC (wn:Int) (x:Yn):Bool:=Wk wn x.2.1 x.2.2
theorem JD (m:Z6) (who:Int):∀ k,((VI m who k).filter (WC (Zs m who))).map (·.1)=UR m who k
 | 0=>rfl
 | k+1=>by
  have ih:=JD m who k;have hf:Oh m who k=(YH m who k && WC (Zs m who) (BT m who k)):=rfl;cases hm:YH m who k
  ·rw [PL hm,ih]
   show _=if _ then _ else _
   rw [hf,hm];rfl
  ·rw [O4 hm,List.filter_append,List.map_append,ih]
   show _=if _ then _ else _
   cases ht:WC (Zs m who) (BT m who k)
   ·rw [hf,hm,ht,List.filter_cons_of_neg (by rw [ht];simp)];simp
   ·rw [hf,hm,ht,List.filter_cons_of_pos ht];rfl
def PV (a:Int × Int) (x:Yn):Int × Int:=if a.1= -1\/a.2<XJ x.2.1 x.2.2 then (x.1,XJ x.2.1 x.2.2) else a
def RS (l:List Yn):Int × Int:=l.foldl PV (-1,0)
theorem MV (l:List Yn) (x:Yn):RS (l++[x])=PV (RS l) x:=by unfold RS;rw [List.foldl_append];rfl
theorem GS (m:Z6) (who:Int):∀ k,RS (VI m who k)=YB m who k
 | 0=>rfl
 | k+1=>by
  have ih:=GS m who k;have ho:=JG m who k
  have hn:((YB m who k).1<0) ↔ (YB m who k).1= -1:=by
   rcases ho with ⟨e,_⟩ | ⟨b,_,e,_⟩
   ·rw [e];omega
   ·rw [e];omega
  have hM:YB m who (k+1)=if YH m who k && (decide ((YB m who k).1<0) || decide ((YB m who k).2<XJ (Zc m k who) (Zd m.rm k))) then ((k:Int),XJ (Zc m k who) (Zd m.rm k)) else YB m who k:=rfl
  rw [hM];cases hm:YH m who k
  ·rw [PL hm,ih];rfl
  ·rw [O4 hm,MV,ih]
   show (if (YB m who k).1= -1\/(YB m who k).2<XJ (Zc m k who) (Zd m.rm k) then _ else _)=_;by_cases hc:(YB m who k).1= -1\/(YB m who k).2<XJ (Zc m k who) (Zd m.rm k)
   ·rw [if_pos hc,if_pos (by rw [Bool.true_and,Bool.or_eq_true,decide_eq_true_iff,decide_eq_true_iff,hn];exact hc)];rfl
   ·rw [if_neg hc,if_neg (by rw [Bool.true_and,Bool.or_eq_true,decide_eq_true_iff,decide_eq_true_iff,hn];exact hc)]
def Xk (m:Z6) (who:Int) (a:Int × Int) (b:Int):Int × Int:=if a.1= -1\/Za m who b<a.2\/(Za m who b=a.2/\b=(Z8 m.sm who.toNat).2.1) then (b,Za m who b) else a
def UU (m:Z6) (who:Int) (f:List Int):Int × Int:=f.foldl (Xk m who) (-1,0)
theorem F4 (m:Z6) (who:Int) (f:List Int) (b:Int):UU m who (f++[b])=Xk m who (UU m who f) b:=by unfold UU;rw [List.foldl_append];rfl
theorem LS (m:Z6) (who:Int):∀ (f:List Int) (a:Int × Int),0<=a.1->(∀ x ∈ f,0<=x)->f.foldl (Xk m who) a=f.foldl (WJ m who) a
 | [],a,_,_=>rfl
 | b::f,a,h0,hf=>by
  have e:Xk m who a b=WJ m who a b:=by
   unfold Xk WJ;by_cases hc:Za m who b<a.2\/(Za m who b=a.2/\b=(Z8 m.sm who.toNat).2.1)
   ·rw [if_pos hc,if_pos (.inr hc)]
   ·rw [if_neg hc,if_neg (not_or.2 ⟨by omega,hc⟩)]
  rw [List.foldl_cons,List.foldl_cons,e];refine LS m who f _ ?_ (fun x hx=>hf x (List.mem_cons_of_mem _ hx));unfold WJ
  split
  ·exact hf b (by simp)
  ·exact h0
theorem D8 (m:Z6) (who:Int) {f:List Int} (h:0<f.length) (hf:∀ x ∈ f,0<=x):UU m who f=Xj m who f f.length:=by
 obtain ⟨x,r,rfl⟩:∃ x r,f=x::r:=by
  cases f with
  | nil=>simp at h
  | cons x r=>exact ⟨x,r,rfl⟩
 unfold UU Xj;rw [List.take_length,List.foldl_cons];show r.foldl (Xk m who) (Xk m who (-1,0) x)=r.foldl (WJ m who) (x,Za m who x);have e:Xk m who (-1,0) x=(x,Za m who x):=by unfold Xk;rw [if_pos (.inl rfl)]
 rw [e];exact LS m who r _ (hf x (by simp)) (fun y hy=>hf y (by simp [hy]))
theorem Al {m:Z6} {who x:Int} (h:x ∈ YI m who):∃ b:Nat,b<m.dk.length/\x=(b:Int)/\YH m who b=true:=by
 obtain ⟨b,hb,e,hf⟩:=(OS m who x m.dk.length).1 h;unfold Oh at hf;simp only [ZP] at hf;exact ⟨b,hb,e,hf.1⟩
theorem SX {α:Type} [Inhabited α] {l:List α} {k:Nat} (h:k<l.length):l.take (k+1)=l.take k++[Z8 l k]:=by
 rw [List.take_succ_eq_append_getElem h,Rb h]
theorem AN {m:Z6} (h:Loose m) {k:Nat} (hk:k<m.sm.length) (hs:(Z8 m.sm k).1 ≠ 0):0<=(Z8 m.sm k).2.2.2.1/\(Z8 m.sm k).2.2.2.1<=255:=by
 obtain ⟨hp,_,_⟩:=h.limits hk hs;generalize Z8 m.sm k=s at *;obtain ⟨st,be,rk,my,gu,lo,hi,hd,ca,ut,wk⟩:=s;obtain ⟨_,_,_,⟨y0,y1⟩,_⟩:=Zo hp;show 0<=my/\my<=255;omega
theorem zG {m:Z6} {k:Nat} (hk:k<m.dk.length):Um m (k:Int)=(Z8 m.dk k).1:=by
 unfold Um Xf;rw [Zy,decide_eq_true (show (0:Int)<=(k:Int) by omega),decide_eq_true (show (k:Int)<(m.dk.length:Int) by omega)];simp
theorem BY (m:Z6):(XH m m.dk.length).any (fun x=>VJ x.2.1 x.2.2)=WB m:=by
 unfold WB;rw [Bool.eq_iff_iff,List.any_eq_true,List.any_eq_true];constructor
 ·rintro ⟨x,hx,hm⟩
  obtain ⟨b,hb,ho,rfl⟩:=(SM m x _).1 hx;exact ⟨b,List.mem_range.2 hb,by unfold So;rw [ho];exact hm⟩
 ·rintro ⟨b,hb,hc⟩
  unfold So at hc;simp only [ZP] at hc;exact ⟨Sm m b,(SM m _ _).2 ⟨b,List.mem_range.1 hb,hc.1,rfl⟩,hc.2⟩
theorem yp {α:Type} [Inhabited α] {p:α->Bool} {l:List α} (h:∀ i,i<l.length->p (Z8 l i)=false):l.any p=false:=by
 rw [List.any_eq_false];intro x hx;obtain ⟨i,hi,rfl⟩:=List.getElem_of_mem hx;rw [<-Rb hi,h i hi];simp
theorem zp {α:Type} [Inhabited α] {p:α->Bool} {l:List α} {i:Nat} (hi:i<l.length) (h:p (Z8 l i)=true):l.any p=true:=List.any_eq_true.2 ⟨_,Vs hi,h⟩
theorem L8 {α:Type} [Inhabited α] {p:α->Bool} {l:List α} {j:Nat} (hj:j<l.length) (h:p (Z8 l j)=true):(l.take (j+1)).filter p=(l.take j).filter p++[Z8 l j]:=by
 rw [SX hj,List.filter_append,List.filter_cons_of_pos h];rfl
theorem J1 {α:Type} [Inhabited α] {p:α->Bool} {l:List α} {j:Nat} (hj:j<l.length) (h:p (Z8 l j)=false):(l.take (j+1)).filter p=(l.take j).filter p:=by
 rw [SX hj,List.filter_append,List.filter_cons_of_neg (by rw [h];simp)];simp
theorem CK {l:List Yn} {j:Nat} (hj:j<l.length):RS (l.take (j+1))=PV (RS (l.take j)) (Z8 l j):=by rw [SX hj,MV]
theorem D9 {m:Z6} {who:Int} {l:List Int} {j:Nat} (hj:j<l.length):UU m who (l.take (j+1))=Xk m who (UU m who (l.take j)) (Z8 l j):=by rw [SX hj,F4]
def QE (m X:Z6) (c:Int):Z6 × Int:=if ZJ m then (if c=0 then (Zn X,0) else (m,c)) else (Ye,3)
theorem PB {m:Z6} (h:ZJ m=false) (X:Z6) (c:Int):QE m X c=(Ye,3):=by unfold QE;rw [h];rfl
theorem PC {m:Z6} (h:ZJ m=true) (X:Z6):QE m X 0=(Zn X,0):=by unfold QE;rw [h];rfl
theorem UF {m:Z6} (h:ZJ m=true) (X:Z6) {c:Int} (hc:c ≠ 0):QE m X c=(m,c):=by unfold QE;rw [h,if_pos rfl,if_neg hc]
theorem KS {m:Z6} (h:Loose m):Zn m=ZM m:=by unfold Zn;rw [h.mk',if_pos rfl]
theorem Ky (ss:List Z3) {s:Z3} (hp:ZK s=false) (b:Int):∀ k,k<=ss.length->Yk (ss++[s]) b k=Yk ss b k
 | 0,_=>rfl
 | k+1,h=>by
  have ih:=Ky ss hp b k (by omega);have e:Z8 (ss++[s]) k=Z8 ss k:=by rw [XW,if_neg (by omega)]
  show (match Yk (ss++[s]) b k with | none=>none | some (wk,wt)=>_)=_;rw [ih,e];rfl
theorem EX {m:Z6} (h:ZJ m=true) {s:Z3} (hl:m.sm.length<12) (h1:XY m s=true) (hp:ZK s=false):ZJ (pushS m s)=true:=by
 have hlo:=(ZR h).pushS hl h1 (Vt hp);unfold ZJ at h ⊢;simp only [ZP] at h ⊢;refine ⟨hlo.mk',List.all_eq_true.2 fun b hb=> ?_⟩;have hb:=List.mem_range.1 hb;have hk:=List.all_eq_true.1 h.2 b (List.mem_range.2 hb);unfold Yh at hk ⊢
 have e:Yk (pushS m s).sm (b:Int) (pushS m s).sm.length=Yk m.sm (b:Int) m.sm.length:=by
  show Yk (m.sm++[s]) (b:Int) (m.sm++[s]).length=_;rw [List.length_append,List.length_singleton];show (match Yk (m.sm++[s]) (b:Int) m.sm.length with | none=>none | some (wk,wt)=>_)=_;rw [Ky m.sm hp _ _ (Nat.le_refl _),XW,if_pos rfl,hp];cases Yk m.sm (b:Int) m.sm.length with
  | none=>rfl
  | some p=>obtain ⟨wk,wt⟩:=p;simp
 rw [e];exact hk
def V9 (m:Z6) (who:Int):Int:=if WL m who then (if (Z8 m.sm who.toNat).1=1 then (if ZG m who= -1 then 2 else (if Yd (Wz m (Z8 m.sm who.toNat) (ZG m who)) (Yo m (ZG m who)) then 0 else 4)) else 2) else 1
theorem Nq {m:Z6} (h:Loose m) {k b:Nat} (hk:k<m.sm.length) (hs:(Z8 m.sm k).1 ≠ 0) (hb:b<m.dk.length) (hm:YH m (k:Int) b=true):YK (Yl m k (b:Int))=Yd (Wz m (Z8 m.sm k) (b:Int)) (Yo m (b:Int)):=by
 have hmk:Yo m (b:Int)=(Z8 m.dk b).2.2:=by unfold Yo;rw [Zy]
 have hbx:(Z8 m.dk ((b:Int)).toNat)=Z8 m.dk b:=by rw [Zy]
 obtain ⟨hp,hg,hbe⟩:=h.limits hk hs
 have hat:Z8 (Yl m k (b:Int)).sm k=Uq (Z8 m.sm k) (b:Int) (Wz m (Z8 m.sm k) (b:Int)):=by
  unfold Yl setS;rw [ZF hk,if_pos rfl]
 have hlen:k<(Yl m k (b:Int)).sm.length:=by unfold Yl setS;simpa using hk
 unfold YH at hm;simp only [ZP,Zy] at hm;cases hx:Yd (Wz m (Z8 m.sm k) (b:Int)) (Yo m (b:Int))
 ·cases hy:YK (Yl m k (b:Int))
  ·rfl
  ·exfalso
   have:=(Tk hy).at hlen (by rw [hat];rfl);rw [hat] at this;have h5:=this.2.2.2.2;have h6:Yd (Wz m (Z8 m.sm k) (b:Int)) (Z8 m.dk ((b:Int)).toNat).2.2=true:=h5;rw [hbx,<-hmk,hx] at h6;cases h6
 ·have hin:=hx
  unfold Yd at hin;simp only [ZP] at hin;have hhad:=ZN hin.1;refine (h.setS hk ?_ ?_).mk'
  ·refine XT.2 (.inr ⟨?_,hg,?_⟩)
   ·obtain ⟨⟨st,be,rk,my,gu,lo,hi,hd,ca,ut,wk⟩,hrk⟩:∃ d,Z8 m.sm k=d:=⟨_,rfl⟩
    rw [hrk] at hp hhad ⊢;obtain ⟨x0,x1,x2,x3,x4,x5,x6,x7,x8,x9⟩:=Zo hp;have h8:=Xi h;exact Vc (by omega) (by omega) x2 x3 x4 x5 hhad x7 x8 x9
   ·show (b:Int)<(m.dk.length:Int)
    omega
  ·refine Rc ?_ ?_ ?_
   ·show (Z8 m.dk ((b:Int)).toNat).1=true
    rw [hbx];exact hm.1
   ·exact hm.2
   ·show Yd (Wz m (Z8 m.sm k) (b:Int)) (Z8 m.dk ((b:Int)).toNat).2.2=true
    rw [hbx,<-hmk];exact hx
theorem zU (m:Z6) (who:Int):WA m who=QE m (Yl m who.toNat (ZG m who)) (V9 m who):=by
 cases h:ZJ m
 ·rw [PB h];unfold WA;rw [h];rfl
 have hlo:=ZR h;unfold WA V9;rw [h];simp only [if_true];by_cases hw:WL m who=true;rotate_left
 ·rw [if_neg hw,if_neg hw,UF h _ (by omega)]
 have hch:ZG m who=Y3 m who:=by unfold ZG;rw [h,hw];rfl
 rw [if_pos hw,if_pos hw,hch];by_cases e:(Z8 m.sm who.toNat).1=1;rotate_left
 ·rw [if_neg e,if_neg e,UF h _ (by omega)]
 rw [if_pos e,if_pos e];obtain ⟨k,rfl,hk,hs⟩:=XS hw;rw [Zy]
 rcases XB m (k:Int) with ⟨ec,_⟩ | ⟨b,hb,ec,hm⟩
 ·have h1:(-1:Int)<0:=by omega
  rw [ec,if_pos h1,if_pos rfl,UF h _ (by omega)]
 ·have h1:¬ (b:Int)<0:=by omega
  have h2:¬ (b:Int)= -1:=by omega
  rw [ec,if_neg h1,if_neg h2,Nq hlo hk hs hb hm];cases hx:Yd (Wz m (Z8 m.sm k) (b:Int)) (Yo m (b:Int))
  ·rw [if_neg (by simp),if_neg (by simp),UF h _ (by omega)]
  ·rw [if_pos rfl,if_pos rfl,PC h,KS (Tk (by rw [Nq hlo hk hs hb hm,hx]))]
def VB (m:Z6) (rank may guild:Int):Int:=if Zw (Zt rank may guild) && decide (guild<m.gd.length) then (if 12<=m.sm.length then 4 else (if ZG (pushS m (Zt rank may guild)) (m.sm.length:Int)= -1 then 2 else 0)) else 3
def UQ (m:Z6) (rank may guild:Int):Z6:=setS (pushS m (Zt rank may guild)) m.sm.length (Uq (Zt rank may guild) (ZG (pushS m (Zt rank may guild)) (m.sm.length:Int)) (Yo m (ZG (pushS m (Zt rank may guild)) (m.sm.length:Int))))
theorem J0 {m:Z6} (h:ZJ m=true) {rank may guild:Int} (hs:Zw (Zt rank may guild)=true) (hg:guild<m.gd.length) (hl:m.sm.length<12):ZJ (pushS m (Zt rank may guild))=true/\ZG (pushS m (Zt rank may guild)) (m.sm.length:Int)=T0 m (Zt rank may guild):=by
 obtain ⟨j,hj,_⟩:=(ZR h).openD;have hr:=EX h hl (XT.2 (.inr ⟨Tm hs,hg,by show (0:Int)<_;omega⟩)) (s:=Zt rank may guild) rfl;refine ⟨hr,?_⟩;unfold ZG T0;rw [hr]
 have hat:Z8 (pushS m (Zt rank may guild)).sm m.sm.length=Zt rank may guild:=by
  show Z8 (m.sm++[Zt rank may guild]) m.sm.length=_;rw [XW,if_pos rfl]
 have hw:WL (pushS m (Zt rank may guild)) (m.sm.length:Int)=true:=by
  unfold WL;rw [Zy,hat,Zp (by omega) (by show (m.sm.length:Int)<=((m.sm++[Zt rank may guild]).length:Int)-1;simp)];rfl
 rw [hw];rfl
theorem zw (m:Z6) (rank may guild:Int):Ww m rank may guild=QE m (UQ m rank may guild) (VB m rank may guild):=by
 cases h:ZJ m
 ·rw [PB h];unfold Ww;rw [h];rfl
 have hlo:=ZR h;have h12:=YS hlo;have hr:=Ql h rank may guild;unfold Ww at hr ⊢;unfold VB;rw [h] at hr ⊢;simp only [if_true] at hr ⊢;by_cases hs:(Zw (Zt rank may guild) && decide (guild<(m.gd.length:Int)))=true;rotate_left
 ·rw [if_neg hs,if_neg hs,UF h _ (by omega)]
 rw [if_pos hs] at hr ⊢;rw [if_pos hs];simp only [ZP,Y0] at hs;by_cases hl:m.sm.length=12
 ·have hl9:12<=m.sm.length:=by omega
  rw [if_pos hl,if_pos hl9,UF h _ (by omega)]
 rw [if_neg hl] at hr ⊢;obtain ⟨_,hc⟩:=J0 h hs.1 hs.2 (by omega);unfold UQ;have hl9:¬ 12<=m.sm.length:=by omega
 rw [if_neg hl9,hc]
 rcases XB (pushS m (Zt rank may guild)) (m.sm.length:Int) with ⟨e,_⟩ | ⟨b,hb,e,hm⟩
 ·have e':T0 m (Zt rank may guild)= -1:=e
  have h1:(-1:Int)<0:=by omega
  rw [e',if_pos h1,if_pos rfl,UF h _ (by omega)]
 ·have e':T0 m (Zt rank may guild)=(b:Int):=e
  have h1:¬ (b:Int)<0:=by omega
  have h2:¬ (b:Int)= -1:=by omega
  rw [e',if_neg h1,if_neg h2,PC h];rw [KS];have hbd:b<m.dk.length:=hb;have hpl:m.sm.length<(pushS m (Zt rank may guild)).sm.length:=by show _<(m.sm++[_]).length;simp
  rcases MG hlo hs.1 hs.2 with hx | hx
  rotate_left
  ·omega
  have hat:Z8 (pushS m (Zt rank may guild)).sm m.sm.length=Zt rank may guild:=by
   show Z8 (m.sm++[Zt rank may guild]) m.sm.length=_;rw [XW,if_pos rfl]
  unfold YH at hm;simp only [ZP,Zy] at hm;rw [hat] at hm;have hbx:(Z8 m.dk ((b:Int)).toNat)=Z8 m.dk b:=by rw [Zy]
  have hmk:Yo m (b:Int)=(Z8 m.dk b).2.2:=by unfold Yo;rw [hbx]
  have hband:=Kj hlo hbd;have h8:=Xi hlo;refine hx.setS hpl ?_ ?_
  ·refine XT.2 (.inr ⟨?_,hs.2,by show (b:Int)<(m.dk.length:Int);omega⟩)
   obtain ⟨x0,x1,x2,x3,x4,x5,x6,x7,x8,x9⟩:=Zo (Tm hs.1);have hin:=hband;unfold Yd at hin;simp only [ZP] at hin;exact Vc (by omega) (by omega) x2 x3 x4 x5 (ZN hin.1) x7 x8 x9
  ·refine Rc ?_ ?_ ?_
   ·show (Z8 m.dk ((b:Int)).toNat).1=true
    rw [hbx];exact hm.1
   ·exact hm.2
   ·show Yd (Yo m (b:Int)) (Z8 m.dk ((b:Int)).toNat).2.2=true
    rw [hbx];exact hband
def Ta (x:Yn):List Value:=[.iface 273 (.agg #[.int .i64 x.1,.int .i64 x.2.1,.int .i64 x.2.2])]
theorem Wb (x:Yn):(Ta x).length=1:=rfl
abbrev Yr (n₀:Nat) (w:World) (v:Value) (xs:List Yn):Prop:=RecAt 227 1 Ta n₀ w v xs
theorem J4:(Tryz.prog.info? 227).map (fun i=>(i.zero,i.size,i.bytes))=some (some .nilIface,1,16):=by kernel_rfl
theorem Sn {w:World} {g:Nat} {xs:List Yn} (h:∀ j,j<xs.length-> ∀ i u,(Ta (Z8 xs j))[i]?=some u->w.cell? ⟨g,j*1+i,none⟩=some u) {j:Nat} (hj:j<xs.length):w.cell? ⟨g,j,none⟩=some (.iface 273 (.agg #[.int .i64 (Z8 xs j).1,.int .i64 (Z8 xs j).2.1,.int .i64 (Z8 xs j).2.2])):=by
 have:=h j hj 0 _ rfl;simpa using this
theorem Pe {w:World} {base t ty:Nat} (ht:Tryz.prog.underlying t=some (.slice 227)) {v x:Value} {ps qs:List Yn} (hown:Yr base w v ps) (hx:IsRec 1 Ta w x qs) (hb:ps.length+qs.length<=4000) (hbase:base<=w.heap.size) :
  ∃ v' w',(Builtin.append_ #[t,t] ty #[v,x]).run Tryz.prog w= .ok v' w'/\Yr base w' v' (ps++qs)/\w.grownBy w' v.ownBlock/\(v'.ownBlock=v.ownBlock\/v'.ownBlock=some w.heap.size):=by
 obtain ⟨i0,hi,hz0,hz1,hz2⟩:=PQ J4;obtain ⟨a,c,rfl,hc,hm,hr⟩:=hx;by_cases h0:qs=[]
 ·subst h0
  refine ⟨v,w,Sc ht hi hown a c,by simpa using hown,Sv _ _,.inl rfl⟩
 ·rcases hr with hr | ⟨b,off,rfl,hlt,hcl⟩
  ·exact absurd hr h0
  ·obtain ⟨v',w',hr,h2,h3,_,h5⟩:=run_append_own_at (P:=Tryz.prog) w base t ty 227 i0 .nilIface 1 16 ht hi hz0 hz1 hz2 rfl (by omega) v ps.length _ hown ⟨b,off,none⟩ qs.length c (UH Ta qs) (V6 Wb qs)
    (Ku Wb (by omega) hcl) (Gl (fun x u hu=>by rcases List.mem_singleton.1 hu with rfl;rfl) qs) (by simp only [maxLen];omega) (by omega) hbase
   refine ⟨v',w',hr,?_,h3,h5⟩;unfold Yr RecAt;rw [Oi,List.length_append];exact h2
theorem UT {w:World} {ops:Array Oper} {rest:List Oper} {o:Oper} {a:Act} {Q:Exit->Act->World->Prop} (hgd:o.guard=none) (s x:Operand) (t:TypeId) (ht:Tryz.prog.underlying t=some (.slice 227))
  (ho:o.op= .call { callee:= .builtin .append,args:=#[s,x],argTypes:=#[t,t] }) (base:Nat) (v u:Value) (ps qs:List Yn) (hs:a.eval s=v) (hx:a.eval x=u) (hown:Yr base w v ps) (hr:IsRec 1 Ta w u qs)
  (hb:ps.length+qs.length<=4000) (hbase:base<=w.heap.size)
  (h:∀ v' w',Yr base w' v' (ps++qs)->w.grownBy w' v.ownBlock->(v'.ownBlock=v.ownBlock\/v'.ownBlock=some w.heap.size)->wpList Tryz.prog ops Q rest (a.put o.dst v') w') :
  wpList Tryz.prog ops Q (o::rest) a w:=by
 refine wpList_plain hgd fun K hK=> ?_;obtain ⟨v',w',hrun,h2,h3,h5⟩:=Pe (ty:=o.type) ht hown hr hb hbase;unfold Oper.wp execOp;simp only [ho,resolve,invoke,builtin,Sem.run_bind,Sem.run_pure,Result.andThen_ok,List.map_toArray,List.map_cons,List.map_nil,hs,hx,hrun];exact hK _ _ (h v' w' h2 h3 h5)
open Go.ChangeShapes Go.WideShapes Go.ChangeAt Go.RowKit Go.Shelf
attribute [local go_sem] Oper.semAt_some
def KeepsBox (Bn:Nat) (t:TypeId) (W W':World):Prop:= ∀ v,Boxed W Bn t v->Boxed W' Bn t v
theorem KeepsBox.trans {Bn:Nat} {t:TypeId} {A B C:World} (h:KeepsBox Bn t A B) (k:KeepsBox Bn t B C):KeepsBox Bn t A C:=fun v hv=>k v (h v hv)
theorem KeepsBox.putObj {Bn:Nat} {t:TypeId} {n:Nat} (h:Bn<n) (W:World) (l:Nat) (o o':Obj) (hl:n<=l) (_:W.heap[l]?=some o) (_:o.isCells=false) (_:o.isWalk=false):KeepsBox Bn t W (W.putObj l o'):=
 fun v hv=>hv.kept (grownBy_putObj' W l o') (fun e=>by cases e;omega)
theorem GU (n:Nat) (hn:1<=n) (l Bn:Nat) (s:Int) (J Jx:List Int->World->Prop)
  (hY:∀ pre x W,J pre W->pre.length<8->YieldAt Fence.wide (n-1) Tryz.prog l #[.int .i64 x] W fun e W'=>
   (e= .returned (.bool true)/\J (pre++[x]) W'/\KeepsBox Bn 2 W W')\/(e= .returned (.bool false)/\Jx (pre++[x]) W'))
  (W:World) (hBn:Boxed W Bn 2 (.int .i64 s)) (h0:J [] W) :
  CallsIn Fence.wide n Tryz.prog 267 #[.func (.yield l) #[] #[],.pointer (some ⟨Bn,0,none⟩)] W fun e W'=>(∃ v,e= .returned v)/\
   ((∃ ys,ys=SJ s/\J ys W')\/(∃ pre,pre <+: SJ s/\Jx pre W')):=by
 refine callsIn_of_wp Tryz.func267 rfl trivial ?_ rfl;simp only [Tryz.ntmps267,List.size_toArray,YQ,YC,Nat.reduceAdd,Nat.reduceSub,Array.replicate_succ,Array.replicate_zero,List.push_toArray,List.append_toArray,List.nil_append,List.cons_append]
 gi_wp2
 gi_loopw [4] (fun i wr=> ∃ k:Nat,k<=8/\i= .int .i64 k/\Boxed wr Bn 2 (.int .i64 s)/\J (UP s k) wr)
  (fun i wr=>8-(intOf i).toNat)
 case atStart=>exact ⟨0,by omega,rfl,hBn,h0⟩
 case round=>
  obtain ⟨k,hk,rfl,hbx,hJ⟩:=hrel;have hul:=IL s k;have hc:=hbx.cell;have Hb:=Z9 hbx;clear hbx;by_cases hlt:(k:Int)<8
  ·cases hm:Vx s k
   ·gi_wp2_with (refine ⟨trivial,?_⟩;gi_at_call 136;refine (callsIn_wide.2 (Vi _ _ _)).mono ?_;rintro e w' ⟨rfl,rfl⟩)
    refine ⟨fun _ h=>(by cases h),?_⟩
    gi_wp2
    go_roundw
    case rel=>exact ⟨k+1,by omega,by go_num,uh Hb,by rw [UB hm];exact hJ⟩
    case measure=>exact ms
   ·obtain ⟨fn,tmps,assign,body,hy,hR⟩:=hY (UP s k) k wr hJ (by omega)
    gi_wp2_with (refine ⟨trivial,?_⟩;gi_at_call 136;refine (callsIn_wide.2 (Vi _ _ _)).mono ?_;rintro e w' ⟨rfl,rfl⟩)
    refine hR.mono ?_;rintro e W3 (⟨rfl,hJ3,hk3⟩ | ⟨rfl,hJx3⟩)
    ·gi_wp2
     go_roundw
     case rel=>exact ⟨k+1,by omega,by go_num,hk3 _ (uh Hb),by rw [RZ hm];exact hJ3⟩
     case measure=>exact ms
    ·gi_wp2
     refine ZS (results_none rfl _ _ _) rfl ?_;exact ⟨⟨_,rfl⟩,.inr ⟨UP s k++[(k:Int)],by rw [<-RZ hm];exact BC s (k+1) (by omega),hJx3⟩⟩
  ·obtain rfl:k=8:=by omega
   gi_wp2
   go_end0
   exact ⟨⟨_,rfl⟩,.inl hJ⟩
theorem SI (n:Nat) (s:Int) (w:World) :
  CallsIn Fence.wide n Tryz.prog 238 #[.int .i64 s] w fun e w'=>e= .returned (.func (.func 267) #[] #[.pointer (some ⟨w.heap.size,0,none⟩)])/\w'=w.alloc (.cells #[.int .i64 s] 2):=by
 refine callsIn_of_wp Tryz.func238 rfl trivial ?_ rfl;simp only [Tryz.ntmps238,List.size_toArray,YQ,YC,Nat.reduceAdd,Nat.reduceSub,Array.replicate_succ,Array.replicate_zero,List.push_toArray,List.append_toArray,List.nil_append,List.cons_append]
 gi_wp2
 go_ret;exact ⟨rfl,rfl⟩
theorem TI (n:Nat) (hn:1<=n) (Bn:Nat) (s:Int) (w:World) (hBn:Boxed w Bn 2 (.int .i64 s)) :
  SeqStopsK Fence.wide n Tryz.prog 267 #[.pointer (some ⟨Bn,0,none⟩)] (fun x:Int=>#[Value.int .i64 x]) (KeepsBox Bn 2) (fun ys=>ys=SJ s) (fun pre=>pre <+: SJ s) 8 w:=fun l J Jx W hW _ _ hY h0=>
 GU n hn l Bn s J Jx hY W ((hW.block Bn hBn.lt).trans hBn) h0
theorem Mh (n:Nat) (hn:3<=n) (s:Int) (w:World) :
  CallsIn Fence.wide n Tryz.prog 193 #[.int .i64 s] w fun e w'=>e= .returned (.int .i64 (VE s))/\Below w.heap.size w w':=by
 have h1:1<=n:=by omega
 refine callsIn_of_wp_marks Tryz.func193 rfl trivial ?_ rfl;simp only [Tryz.ntmps193,List.size_toArray,YQ,YC,Nat.reduceAdd,Nat.reduceSub,Array.replicate_succ,Array.replicate_zero,List.push_toArray,List.append_toArray,List.nil_append,List.cons_append]
 gi_wp2_with (refine ⟨trivial,?_⟩;gi_at_call 238;refine (SI (n-1) _ _).mono ?_;rintro e w' ⟨rfl,rfl⟩)
 have bR:=Boxed.new w 2 (.int .i64 0);have bN:=Boxed.new (w.alloc (.cells #[.int .i64 0] 2)) 2 (.int .i64 s);simp only [Y1] at bN;have hB0:Below w.heap.size w ((w.alloc (.cells #[.int .i64 0] 2)).alloc (.cells #[.int .i64 s] 2)):=((ZZ _ w).alloc (Z1 _) _).alloc (by simp) _
 refine wpIn_rangeFunc_ownG rfl h1 (gf:=267) (lb:=#[.pointer (some ⟨w.heap.size+1,0,none⟩)]) rfl trivial (enters_of Tryz.func267 (by kernel_rfl) rfl)
  (TI (n-1) (by omega) (w.heap.size+1) s _ bN) (fun h k=>h.trans k) (KeepsBox.putObj (by simp)) (ZZ _ _) (fun _=>rfl)
  (fun pre W=>(pre=[]/\Boxed W w.heap.size 2 (.int .i64 0))/\Below w.heap.size w W)
  (fun c pre W=>(c= .ret/\ ∃ x,pre=[x]/\Boxed W w.heap.size 2 (.int .i64 x))/\Below w.heap.size w W)
  (OwnFrom.and (Own.from (fun s A B row hs hg hr=>⟨hs.1,hs.2.kept hg (fun e=>by obtain ⟨o,ho,hc⟩:=hr _ e.symm;rw [show A.heap[w.heap.size]?=_ from hs.2] at ho;cases ho;cases hc)⟩) _) (ownFrom_below (Z1 _) (by simp;omega)))
  (fun c=>OwnFrom.and (Own.from (fun s A B row hs hg hr=>by obtain ⟨e1,x,e2,hb⟩:=hs;exact ⟨e1,x,e2,hb.kept hg (fun e=>by obtain ⟨o,ho,hc⟩:=hr _ e.symm;rw [show A.heap[w.heap.size]?=_ from hb] at ho;cases ho;cases hc)⟩) _) (ownFrom_below (Z1 _) (by simp;omega)))
  ⟨⟨rfl,bR.alloc _⟩,hB0⟩
  (fun x=>{ tmps:=#[.int .i64 s,undef,.pointer (some ⟨w.heap.size,0,none⟩),.int .i64 x,.int .i64 s,.func (.func 267) #[] #[.pointer (some ⟨w.heap.size+1,0,none⟩)],.int .i64 x,undef],defers:=[] }) ?assign ?body ?done ?stop
 case assign=>
  intro l x W K hK
  gi_wp2
  exact hK
 case body=>
  rintro l pre x W ⟨⟨rfl,hb⟩,hB⟩ _;have hc:=hb.cell;have hf:=hb.frozen
  gi_wp2
  exact ⟨(KeepsOthers.setCell _ _ _).from _,⟨rfl,x,rfl,hb.set _⟩,hB.setCell (p:=⟨w.heap.size,0,none⟩) (Z1 _) _⟩
 case done=>
  rintro D ys W hD hys ⟨⟨hp,hb⟩,hB⟩ hK;have hc:=hb.cell;have hf:=hb.frozen
  gi_wp2
  have hK':=(KeepsOthers.setCell W ⟨w.heap.size,0,none⟩ (.int .i64 (-1))).same D _ hK rfl;refine ⟨by simp,.inl ⟨_,_,rfl,run_takeDeferred hK',?_⟩⟩;have hc5:=cell_kept (hb.set (.int .i64 (-1))).cell (grownBy_putObj' _ D (.deferred none)) (fun r e=>by cases e;exact ⟨_,hK',rfl⟩);have hm:SJ s=[]:=hys.symm.trans hp;refine ⟨.int .i64 (-1),?_,ZC (by unfold VE;rw [hm];rfl),(hB.setCell (p:=⟨w.heap.size,0,none⟩) (Z1 _) _).trans (belowK_b (w:=w) (Z1 _) _ D _ _ (by simp at hD;omega) hK' rfl rfl)⟩;simp [results,Tryz.f193,go_sem,hc5]
 case stop=>
  rintro D c pre W hD hpre ⟨⟨rfl,x,rfl,hb⟩,hB⟩ hK
  gi_wp2
  refine ⟨by simp,.inl ⟨_,_,rfl,run_takeDeferred hK,?_⟩⟩;have hc5:=cell_kept hb.cell (grownBy_putObj' _ D (.deferred none)) (fun r e=>by cases e;exact ⟨_,hK,rfl⟩);have hx:VE s=x:=by obtain ⟨r,hr⟩:=hpre;unfold VE;rw [<-hr];rfl
  refine ⟨.int .i64 x,?_,ZC hx.symm,hB.trans (belowK_b (w:=w) (Z1 _) W D _ _ (by simp at hD;omega) hK rfl rfl)⟩;simp [results,Tryz.f193,go_sem,hc5]
theorem NQ (s:Int) (w:World):Calls Tryz.prog 193 #[.int .i64 s] w fun e w'=>e= .returned (.int .i64 (VE s))/\Below w.heap.size w w':=
 callsIn_wide.1 (Mh 3 (Z1 _) s w)
end Go.Proofs.YtamgfpdahadnfaaGreatDoor
namespace Go.Proofs.YtamgfpdahadnfaaGreatDoor
open Go.ChangeShapes Go.WideShapes Go.ChangeAt Go.RowKit Go.Sort
set_option linter.unusedVariables false
theorem B8:∀ k:Fin 256,(VE (k.val:Int) != -1)=inB (k.val:Int) 1 255:=by decide +kernel
theorem Ca (s:Int):(VE s != -1)=inB s 1 255:=by
 cases h:inB s 0 255
 ·have hf:VE s= -1:=by unfold VE SJ;rw [KT h];rfl
  have h2:s<0\/255<s:=by
   rcases Int.lt_or_le s 0 with h1 | h1
   ·exact .inl h1
   ·rcases Int.lt_or_le 255 s with h2 | h2
    ·exact .inr h2
    ·rw [Zp h1 h2] at h;cases h
  rw [hf,Wn (by omega)];rfl
 ·obtain ⟨h0,h1⟩:=ZN h
  obtain ⟨n,rfl⟩:=Int.eq_ofNat_of_zero_le h0;exact B8 ⟨n,by omega⟩
theorem Ld {s f:Int} (h:VE s=f) (w:World):Calls Tryz.prog 193 #[.int .i64 s] w fun e w'=>e= .returned (.int .i64 f)/\Below w.heap.size w w':=by
 have:=NQ s w;rw [h] at this;exact this
theorem Ci (s:Int) (w:World):Calls Tryz.prog 135 #[.int .i64 s] w fun e w'=>e= .returned (.bool (inB s 1 255))/\Below w.heap.size w w':=by
 have hf:=Ca s;obtain ⟨f,hv⟩:∃ f,VE s=f:=⟨_,rfl⟩
 have Hv:=Z9 hv;rw [hv] at hf;have Hf:=Z9 hf;clear hf hv;go_enter Tryz.func135,Tryz.ntmps135;go_wp2_with fail;refine ck (Ld (uh Hv) _) fun w1 hb=> ?_;go_wp2_with fail;go_ret;exact ⟨Z5 (uh Hf),hb⟩
theorem GD (c r:Int) (w:World):Calls Tryz.prog 261 #[.int .i64 c,.int .i64 r] w fun e w'=>e= .returned (.bool (inB c 0 (Zi r-1)))/\w'=w:=by
 obtain ⟨x,hv⟩:∃ x,Zi r=x:=⟨_,rfl⟩
 have Hv:=Z9 hv;rw [hv];clear hv;by_cases h0:0<=c
 ·by_cases h1:c<x
  ·rw [Zp (x:=c) (lo:=0) (hi:=x-1) h0 (by omega)]
   go_enter Tryz.func261,Tryz.ntmps261;go_wp2_with (go_at_call 190;refine (Rx (uh Hv) _).mono ?_;rintro e w' ⟨rfl,rfl⟩)
   go_ret;exact ⟨rfl,rfl⟩
  ·rw [Wn (x:=c) (lo:=0) (hi:=x-1) (by omega)]
   go_enter Tryz.func261,Tryz.ntmps261;go_wp2_with (go_at_call 190;refine (Rx (uh Hv) _).mono ?_;rintro e w' ⟨rfl,rfl⟩)
   go_ret;exact ⟨Z5 (b:=false) (by rw [decide_eq_false_iff_not];omega),rfl⟩
 ·rw [Wn (x:=c) (lo:=0) (hi:=x-1) (by omega)]
  go_enter Tryz.func261,Tryz.ntmps261;go_wp2_with fail;go_ret;exact ⟨rfl,rfl⟩
theorem P1 (n:Int) (w:World):Calls Tryz.prog 260 #[.int .i64 n] w fun e w'=>e= .returned (.bool (inB n (-1000000000000) 1000000000000))/\w'=w:=by
 go_enter Tryz.func260,Tryz.ntmps260;go_wp2_with (go_at_call 181;refine (Zv _ _ _ _).mono ?_;rintro e w' ⟨rfl,rfl⟩)
 go_ret;exact ⟨rfl,rfl⟩
theorem J7 {c r:Int} {q:Bool} (h:inB c 0 (Zi r-1)=q) (w:World):Calls Tryz.prog 261 #[.int .i64 c,.int .i64 r] w fun e w'=>e= .returned (.bool q)/\w'=w:=by
 have:=GD c r w;rw [h] at this;exact this
theorem Ax (x:Int):inB x 0 (0-1)=false:=by
 refine Wn ?_
 rcases Int.lt_or_le x 0 with h | h
 ·exact .inl h
 ·exact .inr (by omega)
theorem AZ (st be rk my gu lo hi hd ca ut wk:Int):YR (st,be,rk,my,gu,lo,hi,hd,ca,ut,wk)=(inB st 1 3 && (inB be 0 7 && (inB my 1 255 && (inB gu (-1) 5 && (Ya lo hi && (inB hd (-1000000000000) 1000000000000 && (inB ca 0 (Zi rk-1) && (inB ut 0 1024 && (inB wk 0 100000000000))))))))):=by
 unfold YR;simp only;cases hr:inB rk (-5) 5
 ·rw [VN hr,show inB ca 0 (0-1)=false from Ax ca]
  simp
 ·simp only [Bool.true_and]
theorem QF (st be rk my gu lo hi hd ca ut wk:Int) (w:World):Calls Tryz.prog 217 #[.agg (I11 st be rk my gu lo hi hd ca ut wk)] w fun e w'=>e= .returned (.bool (YR (st,be,rk,my,gu,lo,hi,hd,ca,ut,wk)))/\Below w.heap.size w w':=by
 rw [AZ];obtain ⟨qc,hqc⟩:∃ q,inB ca 0 (Zi rk-1)=q:=⟨_,rfl⟩
 have Hc:=Z9 hqc;rw [hqc];clear hqc;cases h_st:inB st 1 3;rotate_left;cases h_be:inB be 0 7;rotate_left;cases h_my:inB my 1 255;rotate_left;cases h_gu:inB gu (-1) 5;rotate_left;cases h_pr:Ya lo hi;rotate_left;cases h_hd:inB hd (-1000000000000) 1000000000000;rotate_left;cases qc;rotate_left;cases h_ut:inB ut 0 1024;rotate_left;cases h_wk:inB wk 0 100000000000
 all_goals
  go_enter Tryz.func217,Tryz.ntmps217;go_wp2_with (first | (go_at_call 181;refine (Zv _ _ _ _).mono ?_;rintro e w' ⟨rfl,rfl⟩) | (go_at_call 195;refine (U6 _ _).mono ?_;rintro e w' ⟨rfl,rfl⟩) | (go_at_call 139;refine (TC _ _ _).mono ?_;rintro e w' ⟨rfl,rfl⟩) | (go_at_call 260;refine (P1 _ _).mono ?_;rintro e w' ⟨rfl,rfl⟩) | (go_at_call 261;refine (J7 (uh Hc) _).mono ?_;rintro e w' ⟨rfl,rfl⟩) | (go_at_call 262;refine (Mr _ _).mono ?_;rintro e w' ⟨rfl,rfl⟩))
  try
   refine ck (Ci _ _) fun w1 hb=> ?_;have c2:w1.cell? ⟨w.heap.size,2,none⟩=some (.int .i64 rk):=(hb.cell (p:=⟨w.heap.size,2,none⟩) (by simp)).trans (Zg _ rfl);have c4:w1.cell? ⟨w.heap.size,4,none⟩=some (.int .i64 gu):=(hb.cell (p:=⟨w.heap.size,4,none⟩) (by simp)).trans (Zg _ rfl);have c5:w1.cell? ⟨w.heap.size,5,none⟩=some (.int .i64 lo):=(hb.cell (p:=⟨w.heap.size,5,none⟩) (by simp)).trans (Zg _ rfl);have c6:w1.cell? ⟨w.heap.size,6,none⟩=some (.int .i64 hi):=(hb.cell (p:=⟨w.heap.size,6,none⟩) (by simp)).trans (Zg _ rfl);have c7:w1.cell? ⟨w.heap.size,7,none⟩=some (.int .i64 hd):=(hb.cell (p:=⟨w.heap.size,7,none⟩) (by simp)).trans (Zg _ rfl);have c8:w1.cell? ⟨w.heap.size,8,none⟩=some (.int .i64 ca):=(hb.cell (p:=⟨w.heap.size,8,none⟩) (by simp)).trans (Zg _ rfl);have c9:w1.cell? ⟨w.heap.size,9,none⟩=some (.int .i64 ut):=(hb.cell (p:=⟨w.heap.size,9,none⟩) (by simp)).trans (Zg _ rfl);have c10:w1.cell? ⟨w.heap.size,10,none⟩=some (.int .i64 wk):=(hb.cell (p:=⟨w.heap.size,10,none⟩) (by simp)).trans (Zg _ rfl);have Hb:=Z9 (((ZZ w.heap.size w).alloc (Z1 _) _).trans (hb.mono (by simp)));clear hb;go_wp2_with (first | (go_at_call 181;refine (Zv _ _ _ _).mono ?_;rintro e w' ⟨rfl,rfl⟩) | (go_at_call 195;refine (U6 _ _).mono ?_;rintro e w' ⟨rfl,rfl⟩) | (go_at_call 139;refine (TC _ _ _).mono ?_;rintro e w' ⟨rfl,rfl⟩) | (go_at_call 260;refine (P1 _ _).mono ?_;rintro e w' ⟨rfl,rfl⟩) | (go_at_call 261;refine (J7 (uh Hc) _).mono ?_;rintro e w' ⟨rfl,rfl⟩) | (go_at_call 262;refine (Mr _ _).mono ?_;rintro e w' ⟨rfl,rfl⟩))
  go_ret
  first | exact ⟨rfl,uh Hb⟩ | exact ⟨rfl,(ba _ _)⟩
attribute [local go_sem ↓] KF Pg
theorem JM (w:World):Calls Tryz.prog 163 #[.agg E11] w fun e w'=>e= .returned (.iface 212 (.agg #[]))/\Below w.heap.size w w':=by
 have hz:Tt (0,0,0,0,0,0,0,0,0,0,0) (0,0,0,0,0,0,0,0,0,0,0)=true:=rfl;go_enter Tryz.func163,Tryz.ntmps163;go_wp2_with fail;go_ret;exact ⟨rfl,(ba _ _)⟩
theorem JN {st be rk my gu lo hi hd ca ut wk:Int} (hg:U4 (st,be,rk,my,gu,lo,hi,hd,ca,ut,wk)=false) (hp:YR (st,be,rk,my,gu,lo,hi,hd,ca,ut,wk)=true) (w:World):Calls Tryz.prog 163 #[.agg (I11 st be rk my gu lo hi hd ca ut wk)] w fun e w'=>e= .returned (.iface 214 (.agg (I11 st be rk my gu lo hi hd ca ut wk)))/\Below w.heap.size w w':=by
 have hz:Tt (st,be,rk,my,gu,lo,hi,hd,ca,ut,wk) (0,0,0,0,0,0,0,0,0,0,0)=false:=hg;have Hp:=Z9 hp;clear hg hp;go_enter Tryz.func163,Tryz.ntmps163;go_wp2_with fail;refine (QF st be rk my gu lo hi hd ca ut wk _).mono ?_;rw [uh Hp];rintro e w1 ⟨rfl,hb⟩;have c0:w1.cell? ⟨w.heap.size,0,none⟩=some (.int .i64 st):=(hb.cell (p:=⟨w.heap.size,0,none⟩) (by simp)).trans (Zg _ rfl);have c1:w1.cell? ⟨w.heap.size,1,none⟩=some (.int .i64 be):=(hb.cell (p:=⟨w.heap.size,1,none⟩) (by simp)).trans (Zg _ rfl);have c2:w1.cell? ⟨w.heap.size,2,none⟩=some (.int .i64 rk):=(hb.cell (p:=⟨w.heap.size,2,none⟩) (by simp)).trans (Zg _ rfl);have c3:w1.cell? ⟨w.heap.size,3,none⟩=some (.int .i64 my):=(hb.cell (p:=⟨w.heap.size,3,none⟩) (by simp)).trans (Zg _ rfl);have c4:w1.cell? ⟨w.heap.size,4,none⟩=some (.int .i64 gu):=(hb.cell (p:=⟨w.heap.size,4,none⟩) (by simp)).trans (Zg _ rfl);have c5:w1.cell? ⟨w.heap.size,5,none⟩=some (.int .i64 lo):=(hb.cell (p:=⟨w.heap.size,5,none⟩) (by simp)).trans (Zg _ rfl);have c6:w1.cell? ⟨w.heap.size,6,none⟩=some (.int .i64 hi):=(hb.cell (p:=⟨w.heap.size,6,none⟩) (by simp)).trans (Zg _ rfl);have c7:w1.cell? ⟨w.heap.size,7,none⟩=some (.int .i64 hd):=(hb.cell (p:=⟨w.heap.size,7,none⟩) (by simp)).trans (Zg _ rfl);have c8:w1.cell? ⟨w.heap.size,8,none⟩=some (.int .i64 ca):=(hb.cell (p:=⟨w.heap.size,8,none⟩) (by simp)).trans (Zg _ rfl);have c9:w1.cell? ⟨w.heap.size,9,none⟩=some (.int .i64 ut):=(hb.cell (p:=⟨w.heap.size,9,none⟩) (by simp)).trans (Zg _ rfl);have c10:w1.cell? ⟨w.heap.size,10,none⟩=some (.int .i64 wk):=(hb.cell (p:=⟨w.heap.size,10,none⟩) (by simp)).trans (Zg _ rfl);have Hb:=Z9 (((ZZ w.heap.size w).alloc (Z1 _) _).trans (hb.mono (by simp)));clear hb;go_wp2_with fail;go_ret;exact ⟨rfl,uh Hb⟩
theorem Lt {st be rk my gu lo hi hd ca ut wk:Int} (hg:U4 (st,be,rk,my,gu,lo,hi,hd,ca,ut,wk)=false) (hp:YR (st,be,rk,my,gu,lo,hi,hd,ca,ut,wk)=false) (w:World):Calls Tryz.prog 163 #[.agg (I11 st be rk my gu lo hi hd ca ut wk)] w fun e w'=>e= .returned (.iface 215 (.agg #[]))/\Below w.heap.size w w':=by
 have hz:Tt (st,be,rk,my,gu,lo,hi,hd,ca,ut,wk) (0,0,0,0,0,0,0,0,0,0,0)=false:=hg;have Hp:=Z9 hp;clear hg hp;go_enter Tryz.func163,Tryz.ntmps163;go_wp2_with fail;refine (QF st be rk my gu lo hi hd ca ut wk _).mono ?_;rw [uh Hp];rintro e w1 ⟨rfl,hb⟩;have Hb:=Z9 (((ZZ w.heap.size w).alloc (Z1 _) _).trans (hb.mono (by simp)));clear hb;go_wp2_with fail;go_ret;exact ⟨rfl,uh Hb⟩
theorem yG (w : World) : (method 428 212 (.agg #[]) "loop.example/g00553/impl.isSmith").run Tryz.prog w = .ok (359, .agg #[]) w := by kernel_rfl
theorem zD (w : World) : (method 428 215 (.agg #[]) "loop.example/g00553/impl.isSmith").run Tryz.prog w = .ok (361, .agg #[]) w := by kernel_rfl
theorem yH (st be rk my gu lo hi hd ca ut wk : Int) (w : World) : (method 428 214 (.agg (I11 st be rk my gu lo hi hd ca ut wk)) "loop.example/g00553/impl.isSmith").run Tryz.prog w = .ok (360, .agg (I11 st be rk my gu lo hi hd ca ut wk)) w := by kernel_rfl
theorem En (w:World):Calls Tryz.prog 359 #[.agg #[]] w fun e w'=>e= .returned (.bool true)/\Below w.heap.size w w':=by
 go_enter Tryz.func359,Tryz.ntmps359;go_wp2_with fail;go_ret;exact ⟨rfl,(ba _ _)⟩
theorem IW (w:World):Calls Tryz.prog 361 #[.agg #[]] w fun e w'=>e= .returned (.bool false)/\Below w.heap.size w w':=by
 go_enter Tryz.func361,Tryz.ntmps361;go_wp2_with fail;go_ret;exact ⟨rfl,(ba _ _)⟩
theorem EW (st be rk my gu lo hi hd ca ut wk:Int) (w:World):Calls Tryz.prog 360 #[.agg (I11 st be rk my gu lo hi hd ca ut wk)] w fun e w'=>e= .returned (.bool true)/\Below w.heap.size w w':=by
 go_enter Tryz.func360,Tryz.ntmps360;go_wp2_with fail;go_ret;exact ⟨rfl,(ba _ _)⟩
attribute [local go_sem] yG zD yH
theorem R8 (st be rk my gu lo hi hd ca ut wk:Int) (w:World):Calls Tryz.prog 96 #[.agg (I11 st be rk my gu lo hi hd ca ut wk)] w fun e w'=>e= .returned (.bool (Zw (st,be,rk,my,gu,lo,hi,hd,ca,ut,wk)))/\Below w.heap.size w w':=by
 unfold Zw;cases hg:U4 (st,be,rk,my,gu,lo,hi,hd,ca,ut,wk)
 ·cases hp:YR (st,be,rk,my,gu,lo,hi,hd,ca,ut,wk)
  ·rw [show (false || false)=false from rfl]
   have Hg:=Z9 hg;have Hp:=Z9 hp;clear hg hp;go_enter Tryz.func96,Tryz.ntmps96;go_wp2_with fail;refine ck (Lt (uh Hg) (uh Hp) _) fun w1 hb=> ?_;have B1:=Z9 (((ZZ w.heap.size w).alloc (Z1 _) _).trans (hb.mono (by simp)));clear hb;go_wp2_with fail;refine ck (IW _) fun w2 hb=> ?_;have B2:=Z9 ((uh B1).trans (hb.mono (uh B1).size));clear hb;go_wp2_with fail;go_ret;exact ⟨rfl,uh B2⟩
  ·rw [show (false || true)=true from rfl]
   have Hg:=Z9 hg;have Hp:=Z9 hp;clear hg hp;go_enter Tryz.func96,Tryz.ntmps96;go_wp2_with fail;refine ck (JN (uh Hg) (uh Hp) _) fun w1 hb=> ?_;have B1:=Z9 (((ZZ w.heap.size w).alloc (Z1 _) _).trans (hb.mono (by simp)));clear hb;go_wp2_with fail;refine ck (EW _ _ _ _ _ _ _ _ _ _ _ _) fun w2 hb=> ?_;have B2:=Z9 ((uh B1).trans (hb.mono (uh B1).size));clear hb;go_wp2_with fail;go_ret;exact ⟨rfl,uh B2⟩
 ·rw [Bool.true_or]
  cases U5 hg;clear hg;go_enter Tryz.func96,Tryz.ntmps96;go_wp2_with fail;refine ck (JM _) fun w1 hb=> ?_;have B1:=Z9 (((ZZ w.heap.size w).alloc (Z1 _) _).trans (hb.mono (by simp)));clear hb;go_wp2_with fail;refine ck (En _) fun w2 hb=> ?_;have B2:=Z9 ((uh B1).trans (hb.mono (uh B1).size));clear hb;go_wp2_with fail;go_ret;exact ⟨rfl,uh B2⟩
end Go.Proofs.YtamgfpdahadnfaaGreatDoor
