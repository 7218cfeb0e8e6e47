/- Part 20 of what the proof rests on. No condition but those that a theorem names. -/
import Derived.Test.YtamgfpdahadnfaaGreatDoorXf14
import Derived.Test.YtamgfpdahadnfaaGreatDoorXf15
set_option maxHeartbeats 8000000
set_option maxRecDepth 100000
namespace Go.Proofs.YtamgfpdahadnfaaGreatDoor
open Go.ChangeShapes Go.WideShapes Go.ChangeAt Go.RowKit Go.Sort
set_option linter.unusedVariables false
variable {w w' w0 w1 w2 w3 w₀ wr W W' X A B C : World} {v v0 v1 v2 v3 v4 u u0 u1 u2 u3 u4 : Value} {m : Z6}
def ZO {α:Type} [Inhabited α] (p:α->Bool) (xs:List α):Nat->List Int
 | 0=>[]
 | k+1=>if p (Z8 xs k) then ZO p xs k++[(k:Int)] else ZO p xs k
theorem Ym {α:Type} [Inhabited α] {p:α->Bool} {xs:List α} {k:Nat} (h:p (Z8 xs k)=true):ZO p xs (k+1)=ZO p xs k++[(k:Int)]:=by rw [ZO,if_pos h]
theorem XG {α:Type} [Inhabited α] {p:α->Bool} {xs:List α} {k:Nat} (h:p (Z8 xs k)=false):ZO p xs (k+1)=ZO p xs k:=by rw [ZO,if_neg (by simp [h])]
theorem VZ {α:Type} [Inhabited α] (p:α->Bool) (xs:List α):∀ k,(ZO p xs k).length<=k
 | 0=>Z2 _
 | k+1=>by
  have:=VZ p xs k;unfold ZO
  split
  ·simp;omega
  ·omega
theorem Xt {α:Type} [Inhabited α] (p:α->Bool) (xs:List α) (x:Int):∀ k,x ∈ ZO p xs k ↔ ∃ i:Nat,i<k/\x=(i:Int)/\p (Z8 xs i)=true
 | 0=>by simp [ZO]
 | k+1=>by
  have ih:=Xt p xs x k;cases h:p (Z8 xs k)
  ·rw [XG h,ih]
   constructor
   ·rintro ⟨i,hi,h1,h2⟩
    exact ⟨i,by omega,h1,h2⟩
   ·rintro ⟨i,hi,h1,h2⟩
    by_cases hik:i=k
    ·subst hik;rw [h] at h2;cases h2
    ·exact ⟨i,by omega,h1,h2⟩
  ·rw [Ym h,List.mem_append,ih]
   constructor
   ·rintro (⟨i,hi,h1,h2⟩ | h1)
    ·exact ⟨i,by omega,h1,h2⟩
    ·exact ⟨k,by omega,by simpa using h1,h⟩
   ·rintro ⟨i,hi,h1,h2⟩
    by_cases hik:i=k
    ·subst hik;right;simp [h1]
    ·exact .inl ⟨i,by omega,h1,h2⟩
theorem Ou {α:Type} [Inhabited α] (p:α->Bool) (xs:List α):∀ k,decide (0<(ZO p xs k).length)=(List.range k).any fun j=>p (Z8 xs j)
 | 0=>rfl
 | k+1=>by
  have ih:=Ou p xs k;rw [zy,<-ih];cases h:p (Z8 xs k)
  ·rw [XG h];simp
  ·rw [Ym h];simp
def XX {α:Type} [Inhabited α] (p:α->Bool) (xs:List α) (k:Nat):Bool:=(List.range k).all fun j=>p (Z8 xs j)
theorem Pf {α:Type} [Inhabited α] {p:α->Bool} {xs:List α} {k n:Nat} (hk:k<n) (h:p (Z8 xs k)=false):XX p xs n=false:=P2 (p:=fun j=>p (Z8 xs j)) hk h
theorem Pg {α:Type} [Inhabited α] {p:α->Bool} {xs:List α} {k:Nat} (h:XX p xs k=true) (h2:p (Z8 xs k)=true):XX p xs (k+1)=true:=by unfold XX at h ⊢;rw [Tz,h,h2];rfl
theorem Oy {α:Type} [Inhabited α] (p q:α->Bool) (xs:List α):∀ k,(XX p xs k && XX q xs k)=XX (fun x=>p x && q x) xs k
 | 0=>rfl
 | k+1=>by
  have ih:=Oy p q xs k;unfold XX at ih ⊢;rw [Tz,Tz,Tz,<-ih];generalize ((List.range k).all fun j=>p (Z8 xs j))=a;generalize ((List.range k).all fun j=>q (Z8 xs j))=b;cases a<;>cases b<;>cases hp:p (Z8 xs k)<;>cases hq:q (Z8 xs k)<;>simp [hp,hq]
theorem FC {α:Type} [Inhabited α] {p q:α->Bool} (xs:List α) (h:∀ x,p x=q x) (k:Nat):XX p xs k=XX q xs k:=by unfold XX;congr 1;funext j;exact h _
def WR (n:Nat) (i:Int):Bool:=decide (0<=i) && decide (i<n)
def atB (b:Int) (s:Z3):Bool:=(s.1 ==2 || s.1 ==3) && s.2.1 ==b
def YX (b:Int) (s:Z3):Bool:=s.1 ==3 && s.2.1 ==b
def WL (n:Nat) (s:Z3):Bool:=s.1 ==0 || (s.2.2.2.2.1 == -1 || WR n s.2.2.2.2.1)
def Wz (ds:List XW) (s:Z3):Bool:=s.1 ==0 || (WR ds.length s.2.1 && (s.1 ==1 || ((Z8 ds s.2.1.toNat).1 && (UU s.2.2.2.1 s.2.1 && Vg s.2.2.2.2.2.2.2.1 (Z8 ds s.2.1.toNat).2.2))))
def Tp (ss:List Z3) (n:Nat):Bool:=decide (ss.length<=12) && (XX Zs ss ss.length && XX (WL n) ss ss.length)
def QQ (ds:List XW) (n:Int):Bool:=decide ((ds.length:Int)=n) && (XX VB ds ds.length && decide (0<(ZO (fun d:XW=>d.1) ds ds.length).length))
def Vh (ps:List Int) (rs:List ZZ):Bool:=decide (ps.length=rs.length) && (List.range ps.length).all fun j=>WR (ZN rs j).2.length (Z8 ps j)
def PD (m:Z6):Bool:=Y0 m.rm && (Zg m.gd && (Tp m.sm m.gd.length && (QQ m.dk (ZW m.rm) && (Vh m.pc m.rm && inB m.now 0 1000000))))
def VT (m:Z6):Bool:=PD m && XX (Wz m.dk) m.sm m.sm.length
def UX (m:Z6) (b:Nat):Bool:=if (Z8 m.dk b).2.1= -1 then decide ((ZO (atB b) m.sm m.sm.length).length=0) else decide ((ZO (YX b) m.sm m.sm.length).length=1) && decide (Z8 (ZO (YX b) m.sm m.sm.length) 0=(Z8 m.dk b).2.1)
def PU (m:Z6):Bool:=(List.range m.dk.length).all (UX m)
def A3 (m:Z6):Bool:=VT m && PU m
theorem Bz (h m:Int):Vg h m=WE h m:=by
 unfold Vg WE Wi;rw [Bool.and_assoc]
theorem AA (m:Z6) (s:Z3):(Zs s && (WL m.gd.length s && Wz m.dk s))=(Yb m s && XQ m s):=by
 cases hs:Zs s
 ·unfold Yb;rw [hs];rfl
 ·have hh:Yb m s=(s.1 ==0 || (decide (s.2.2.2.2.1<m.gd.length) && decide (s.2.1<m.dk.length))):=by unfold Yb;rw [hs];rfl
  rw [hh,Bool.true_and];unfold Zs at hs;simp only [Bool.or_eq_true] at hs
  rcases hs with hg | hp
  ·have e:=U2 hg
   subst e;rfl
  ·obtain ⟨st,be,rk,my,gu,lo,hi,hd,ca,ut,wk⟩:=s
   obtain ⟨⟨s1,s2⟩,⟨b1,b2⟩,_,⟨m1,m2⟩,⟨g1,g2⟩,_⟩:=Zj hp;have hmem:UU my be=V0 my be:=As (Zp (by omega) (by omega)) (Zp (by omega) (by omega));have hst0:(st ==0)=false:=by simp;omega
   have hgu:(gu == -1 || WR m.gd.length gu)=decide (gu<m.gd.length):=by
    unfold WR;by_cases e:gu= -1
    ·subst e;simp;omega
    ·have:(gu == -1)=false:=by simpa using e
     rw [this,Bool.false_or,show decide (0<=gu)=true from decide_eq_true (by omega),Bool.true_and]
   have hbe:WR m.dk.length be=decide (be<m.dk.length):=by
    unfold WR;rw [show decide (0<=be)=true from decide_eq_true (by omega),Bool.true_and]
   have hpr:ZR (st,be,rk,my,gu,lo,hi,hd,ca,ut,wk)= !(st ==1):=by
    unfold ZR
    rcases (by omega:st=1\/st=2\/st=3) with e | e | e<;>subst e<;>rfl
   unfold WL Wz XQ;simp only;rw [hst0,hgu,hbe,hpr,hmem,Bz,Bool.not_not];simp only [Bool.false_or,Bool.and_assoc]
theorem Km (ss:List Z3) (b:Int):∀ k:Nat,
  (match Xq ss b k with
   | none=>2<=(ZO (YX b) ss k).length
   | some (wk,wt)=>((wk= -1/\ZO (YX b) ss k=[])\/(0<=wk/\ZO (YX b) ss k=[wk]))/\((ZO (atB b) ss k=[]) ↔ (ZO (YX b) ss k=[]/\wt=false)))
 | 0=>by simp [Xq,ZO]
 | k+1=>by
  have ih:=Km ss b k;unfold Xq;cases hsc:Xq ss b k with
  | none=>
   rw [hsc] at ih;simp only at ih ⊢;unfold ZO
   split
   ·simp;omega
   ·exact ih
  | some r=>
   obtain ⟨wk,wt⟩:=r;rw [hsc] at ih;simp only at ih ⊢;by_cases hat:(Z8 ss k).2.1=b/\ZR (Z8 ss k)=true
   ·rw [if_pos hat]
    have hA:atB b (Z8 ss k)=true:=by
     have h2:=hat.2;unfold ZR at h2;unfold atB;rw [h2,hat.1];simp
    by_cases h2:(Z8 ss k).1=2
    ·rw [if_pos h2]
     have hW:YX b (Z8 ss k)=false:=by unfold YX;rw [h2];rfl
     rw [XG hW,Ym hA];exact ⟨ih.1,by simp⟩
    ·rw [if_neg h2]
     have h3:(Z8 ss k).1=3:=by
      have:=hat.2;unfold ZR at this;simp only [Bool.or_eq_true,beq_iff_eq] at this;omega
     have hW:YX b (Z8 ss k)=true:=by unfold YX;rw [h3,hat.1];simp
     rw [Ym hW,Ym hA];by_cases hwk:0<=wk
     ·rw [if_pos hwk]
      rcases ih.1 with ⟨e,_⟩ | ⟨_,e⟩
      ·omega
      ·simp only
       rw [e];simp
     ·rw [if_neg hwk]
      rcases ih.1 with ⟨_,e⟩ | ⟨e,_⟩
      ·simp only
       rw [e];simp
      ·omega
   ·rw [if_neg hat]
    have hA:atB b (Z8 ss k)=false:=by
     cases hc:atB b (Z8 ss k)
     ·rfl
     ·exfalso
      apply hat;unfold atB at hc;simp only [ZL,beq_iff_eq] at hc;exact ⟨hc.2,by unfold ZR;exact hc.1⟩
    have hW:YX b (Z8 ss k)=false:=by
     cases hc:YX b (Z8 ss k)
     ·rfl
     ·exfalso
      apply hat;unfold YX at hc;simp only [ZL,beq_iff_eq] at hc;exact ⟨hc.2,by unfold ZR;rw [hc.1];rfl⟩
    rw [XG hW,XG hA];exact ih
theorem KA (m:Z6) (b:Nat):UX m b=XZ m b:=by
 have h:=Km m.sm b m.sm.length;unfold UX XZ;cases hsc:Xq m.sm b m.sm.length with
 | none=>
  rw [hsc] at h;simp only at h ⊢
  split
  ·have:ZO (atB b) m.sm m.sm.length ≠ []:=by
    intro e;have hx:Z8 (ZO (YX b) m.sm m.sm.length) 0 ∈ ZO (YX b) m.sm m.sm.length:=Vt (by omega);obtain ⟨i,hi,_,hw⟩:=(Xt _ _ _ _).1 hx
    have:(i:Int) ∈ ZO (atB b) m.sm m.sm.length:=(Xt _ _ _ _).2 ⟨i,hi,rfl,by
     unfold YX at hw;simp only [ZL,beq_iff_eq] at hw;unfold atB
     rw [hw.1,hw.2];simp⟩
    rw [e] at this;cases this
   simp only [List.length_eq_zero_iff,this,decide_false]
  ·rw [show decide ((ZO (YX b) m.sm m.sm.length).length=1)=false from decide_eq_false (by omega),Bool.false_and]
 | some r=>
  obtain ⟨wk,wt⟩:=r;rw [hsc] at h;simp only at h ⊢;obtain ⟨h1,h2⟩:=h;generalize ZO (YX b) m.sm m.sm.length=ws at *;generalize ZO (atB b) m.sm m.sm.length=az at *;generalize (Z8 m.dk b).2.1=who at *;by_cases hw:who= -1
  ·subst hw
   simp only [if_true,List.length_eq_zero_iff]
   rcases h1 with ⟨rfl,rfl⟩ | ⟨hk,rfl⟩
   ·cases wt
    ·simp at h2;simp [h2]
    ·simp at h2;simp [h2]
   ·have hne:az ≠ []:=by
     intro e;have:=(h2.1 e).1;cases this
    have:((-1:Int) ==wk)=false:=by simp;omega
    rw [this];simp [hne]
  ·rw [if_neg hw]
   rcases h1 with ⟨rfl,rfl⟩ | ⟨hk,rfl⟩
   ·have:(who == -1)=false:=by simpa using hw
    rw [this];simp
   ·have h0:decide (wk<0)=false:=Xn (by omega)
    rw [h0,Bool.and_false,Bool.not_false,Bool.and_true];simp only [Y4,YQ,decide_true,Bool.true_and];show decide (wk=who)=(who ==wk)
    by_cases e:wk=who
    ·subst e;simp
    ·rw [decide_eq_false e];symm;simp;omega
theorem xR (n:Nat) (i:Int):WR n i=inB i 0 ((n:Int)-1):=by
 unfold WR inB;by_cases h0:0<=i<;>by_cases h1:i<n
 ·rw [decide_eq_true h0,decide_eq_true h1,decide_eq_true (show 0<=i/\i<=(n:Int)-1 by omega)];rfl
 ·rw [decide_eq_true h0,decide_eq_false h1,decide_eq_false (show ¬ (0<=i/\i<=(n:Int)-1) by omega)];rfl
 ·rw [decide_eq_false h0,decide_eq_false (show ¬ (0<=i/\i<=(n:Int)-1) by omega)];rfl
 ·rw [decide_eq_false h0,decide_eq_false (show ¬ (0<=i/\i<=(n:Int)-1) by omega)];rfl
theorem Qc (m:Z6):VT m=Yy m:=by
 have e1:VL m m.sm.length=(XX Zs m.sm m.sm.length && (XX (WL m.gd.length) m.sm m.sm.length && XX (Wz m.dk) m.sm m.sm.length)):=by
  rw [Oy,Oy];exact (FC m.sm (AA m) m.sm.length).symm
 have e2:Vh m.pc m.rm=(decide (m.pc.length=m.rm.length) && VK m m.pc.length):=by
  unfold Vh VK
  congr 2
  funext j
  unfold Wm;exact xR _ _
 have e3:decide (0<(ZO (fun d:XW=>d.1) m.dk m.dk.length).length)=TI m m.dk.length:=Ou _ _ _;unfold VT PD Yy YG Tp QQ;rw [e1,e2,e3];have e4:XX VB m.dk m.dk.length=Vi m m.dk.length:=rfl;rw [e4];generalize Y0 m.rm=x1;generalize Zg m.gd=x2;generalize decide (m.sm.length<=12)=x3;generalize XX Zs m.sm m.sm.length=x4;generalize XX (WL m.gd.length) m.sm m.sm.length=x5;generalize decide ((m.dk.length:Int)=ZW m.rm)=x6;generalize Vi m m.dk.length=x7;generalize TI m m.dk.length=x8;generalize decide (m.pc.length=m.rm.length)=x9;generalize VK m m.pc.length=x10;generalize inB m.now 0 1000000=x11;generalize XX (Wz m.dk) m.sm m.sm.length=x12;rw [Bool.eq_iff_iff];simp only [ZL];constructor
 ·rintro ⟨⟨a1,a2,⟨a3,a4,a5⟩,⟨a6,a7,a8⟩,⟨a9,a10⟩,a11⟩,a12⟩
  exact ⟨⟨a1,a2,a3,a6,a9,a11⟩,a7,a10,⟨a4,a5,a12⟩,a8⟩
 ·rintro ⟨⟨a1,a2,a3,a6,a9,a11⟩,a7,a10,⟨a4,a5,a12⟩,a8⟩
  exact ⟨⟨a1,a2,⟨a3,a4,a5⟩,⟨a6,a7,a8⟩,⟨a9,a10⟩,a11⟩,a12⟩
theorem A4 (m:Z6):A3 m=ZF m:=by
 unfold A3 ZF PU;rw [Qc,show UX m=XZ m from funext (KA m)]
def VJ (ss:List Z3) (ps:List Int):List Z4:=ps.foldl (fun q i=>Va q (Yn (Z8 ss i.toNat),i)) []
theorem PH (ss:List Z3) (ps:List Int) (i:Int):VJ ss (ps++[i])=Va (VJ ss ps) (Yn (Z8 ss i.toNat),i):=by unfold VJ;rw [List.foldl_append];rfl
theorem Qf (ss:List Z3) (b:Int):∀ k,VJ ss (ZO (atB b) ss k)=atV ss b k
 | 0=>rfl
 | k+1=>by
  have ih:=Qf ss b k;by_cases hat:(Z8 ss k).2.1=b/\ZR (Z8 ss k)=true
  ·have hA:atB b (Z8 ss k)=true:=by
    have h2:=hat.2;unfold ZR at h2;unfold atB;rw [h2,hat.1];simp
   rw [Ym hA,PH,ih,UC hat.1 hat.2];rfl
  ·have hA:atB b (Z8 ss k)=false:=by
    cases hc:atB b (Z8 ss k)
    ·rfl
    ·exfalso
     apply hat;unfold atB at hc;simp only [ZL,beq_iff_eq] at hc;exact ⟨hc.2,by unfold ZR;exact hc.1⟩
   rw [XG hA,TB hat,ih]
theorem PS {ps:List Int} {k:Nat} (h:k<ps.length):ps.take (k+1)=ps.take k++[Z8 ps k]:=by
 unfold Z8;rw [List.take_add_one,List.getD,List.getElem?_eq_getElem h];rfl
theorem FG (h:Loose m) (b:Int) (k:Nat) (hk:k<=m.sm.length):Ye (atV m.sm b k)=true:=by
 have hd:=h.head;unfold YG at hd;simp only [ZL,YZ] at hd;have hl:=TK m.sm b k;have h12:=hd.2.2.1;refine ER ⟨by omega,fun p hp=> ?_,?_,SW _ _ _⟩
 ·obtain ⟨i,hi,h1,h2,rfl⟩:=(Yi m.sm b p k).1 hp
  have:=TY (h.at (i:=i) (by omega) h2).2.2.2.2;unfold LV;rw [Zp (by omega) (by omega),Zp (by omega) (by show (i:Int)<=99;omega)];rfl
 ·refine ((Nn m.sm b k).and (SW m.sm b k)).imp fun {x y} hxy=> ?_
  have h1:=hxy.1;have h2:=hxy.2;rw [J6] at h1;rw [Ao];omega
theorem Ov {α:Type} [Inhabited α] (p:α->Bool) (xs:List α):∀ n k:Nat,∃ j,j<=n/\(ZO p xs n).take k=ZO p xs j
 | 0,k=>⟨0,Z2 _,by simp [ZO]⟩
 | n+1,k=>by
  obtain ⟨j,hj,e⟩:=Ov p xs n k;cases h:p (Z8 xs n)
  ·rw [XG h];exact ⟨j,by omega,e⟩
  ·rw [Ym h]
   by_cases hk:k<=(ZO p xs n).length
   ·rw [List.take_append_of_le_length hk];exact ⟨j,by omega,e⟩
   ·refine ⟨n+1,Z2 _,?_⟩
    rw [Ym h,List.take_of_length_le (by simp;omega)]
theorem EM (h:Loose m) (b:Int) (k:Nat):Ye (VJ m.sm ((ZO (atB b) m.sm m.sm.length).take k))=true:=by
 obtain ⟨j,hj,e⟩:=Ov (atB b) m.sm m.sm.length k;rw [e,Qf];exact FG h b j hj
set_option maxRecDepth 100000
def Vs (d:XW):Bool:=d.1
theorem U3 (a:Option Addr) (n cap:Nat) (i:Int) (w:World):Calls Tryz.prog 182 #[.slice a n cap,.int .i64 i] w fun e w'=>e= .returned (.bool (WR n i))/\w'=w:=by
 by_cases h0:0<=i
 ·by_cases h1:i<(n:Int)
  all_goals
   go_enter Tryz.func182,Tryz.ntmps182;go_wp2_with fail;go_ret;exact ⟨Z5 (by unfold WR;simp [h0,h1]),rfl⟩
 ·go_enter Tryz.func182,Tryz.ntmps182
  go_wp2_with fail;go_ret;exact ⟨Z5 (by unfold WR;simp;omega),rfl⟩
theorem Jd (a:Option Addr) (n cap:Nat) (i:Int) (w:World):Calls Tryz.prog 165 #[.slice a n cap,.int .i64 i] w fun e w'=>e= .returned (.bool (WR n i))/\w'=w:=by
 by_cases h0:0<=i
 ·by_cases h1:i<(n:Int)
  all_goals
   go_enter Tryz.func165,Tryz.ntmps165;go_wp2_with fail;go_ret;exact ⟨Z5 (by unfold WR;simp [h0,h1]),rfl⟩
 ·go_enter Tryz.func165,Tryz.ntmps165
  go_wp2_with fail;go_ret;exact ⟨Z5 (by unfold WR;simp;omega),rfl⟩
theorem Gj (a:Option Addr) (n cap:Nat) (i:Int) (w:World):Calls Tryz.prog 229 #[.slice a n cap,.int .i64 i] w fun e w'=>e= .returned (.bool (WR n i))/\w'=w:=by
 by_cases h0:0<=i
 ·by_cases h1:i<(n:Int)
  all_goals
   go_enter Tryz.func229,Tryz.ntmps229;go_wp2_with fail;go_ret;exact ⟨Z5 (by unfold WR;simp [h0,h1]),rfl⟩
 ·go_enter Tryz.func229,Tryz.ntmps229
  go_wp2_with fail;go_ret;exact ⟨Z5 (by unfold WR;simp;omega),rfl⟩
theorem Vo (st be rk my gu lo hi hd ca ut wk:Int) (w:World):Calls Tryz.prog 164 #[.agg (I11 st be rk my gu lo hi hd ca ut wk)] w fun e w'=>e= .returned (.bool (st ==0))/\Below w.heap.size w w':=by
 go_enter Tryz.func164,Tryz.ntmps164;go_wp2_with fail;go_ret;exact ⟨rfl,(ba _ _)⟩
theorem Eh (st be rk my gu lo hi hd ca ut wk:Int) (w:World):Calls Tryz.prog 126 #[.agg (I11 st be rk my gu lo hi hd ca ut wk)] w fun e w'=>e= .returned (.bool (st ==1))/\Below w.heap.size w w':=by
 go_enter Tryz.func126,Tryz.ntmps126;go_wp2_with fail;go_ret;exact ⟨rfl,(ba _ _)⟩
theorem P8 (op:Bool) (who mk:Int) (w:World):Calls Tryz.prog 143 #[.agg #[.bool op,.int .i64 who,.int .i64 mk]] w fun e w'=>e= .returned (.bool op)/\Below w.heap.size w w':=by
 go_enter Tryz.func143,Tryz.ntmps143;go_wp2_with fail;go_ret;exact ⟨rfl,(ba _ _)⟩
theorem Gi (op:Bool) (who mk:Int) (w:World):Calls Tryz.prog 228 #[.agg #[.bool op,.int .i64 who,.int .i64 mk]] w fun e w'=>e= .returned (.bool (VB (op,who,mk)))/\Below w.heap.size w w':=by
 go_enter Tryz.func228,Tryz.ntmps228;go_wp2_with fail;refine (Zw _ _ _ _).mono ?_;rintro e w' ⟨rfl,h9⟩;subst w';go_wp2_with fail;go_ret;exact ⟨rfl,(ba _ _)⟩
theorem Ae (st be rk my gu lo hi hd ca ut wk b:Int) (w:World):Calls Tryz.prog 232 #[.agg (I11 st be rk my gu lo hi hd ca ut wk),.int .i64 b] w fun e w'=>e= .returned (.bool (atB b (st,be,rk,my,gu,lo,hi,hd,ca,ut,wk)))/\Below w.heap.size w w':=by
 by_cases h2:st=2
 ·subst h2
  go_enter Tryz.func232,Tryz.ntmps232;go_wp2_with fail;go_ret;exact ⟨Z5 (by unfold atB;simp),(ba _ _)⟩
 have n2:(st ==2)=false:=by simpa using h2
 by_cases h3:st=3
 ·subst h3
  go_enter Tryz.func232,Tryz.ntmps232;go_wp2_with fail;go_ret;exact ⟨Z5 (by unfold atB;simp),(ba _ _)⟩
 have n3:(st ==3)=false:=by simpa using h3
 go_enter Tryz.func232,Tryz.ntmps232;go_wp2_with fail;go_ret;exact ⟨Z5 (by unfold atB;simp [n2,n3]),(ba _ _)⟩
theorem II (st be rk my gu lo hi hd ca ut wk b:Int) (w:World):Calls Tryz.prog 234 #[.agg (I11 st be rk my gu lo hi hd ca ut wk),.int .i64 b] w fun e w'=>e= .returned (.bool (YX b (st,be,rk,my,gu,lo,hi,hd,ca,ut,wk)))/\Below w.heap.size w w':=by
 by_cases h3:st=3
 ·subst h3
  go_enter Tryz.func234,Tryz.ntmps234;go_wp2_with fail;go_ret;exact ⟨Z5 (by unfold YX;simp),(ba _ _)⟩
 have n3:(st ==3)=false:=by simpa using h3
 go_enter Tryz.func234,Tryz.ntmps234;go_wp2_with fail;go_ret;exact ⟨Z5 (by unfold YX;simp [n3]),(ba _ _)⟩
theorem JH (st be rk my gu lo hi hd ca ut wk b:Int) (R:Nat) (w:World) (hc:w.cell? ⟨R,0,none⟩=some (.int .i64 b)) (hR:R<w.heap.size):Calls Tryz.prog 231 #[.agg (I11 st be rk my gu lo hi hd ca ut wk),.pointer (some ⟨R,0,none⟩)] w fun e w'=>e= .returned (.bool (atB b (st,be,rk,my,gu,lo,hi,hd,ca,ut,wk)))/\Below w.heap.size w w':=by
 have hne:R ≠ w.heap.size:=UZ hR;go_enter Tryz.func231,Tryz.ntmps231;go_wp2_with fail;refine ck (Ae st be rk my gu lo hi hd ca ut wk b _) fun w1 hb=> ?_;have Hb:=Z9 (((Z1 w.heap.size w).alloc (Z2 _) _).trans (hb.mono (by simp)));clear hb;go_wp2_with fail;go_ret;exact ⟨rfl,uh Hb⟩
theorem NV (st be rk my gu lo hi hd ca ut wk b:Int) (R:Nat) (w:World) (hc:w.cell? ⟨R,0,none⟩=some (.int .i64 b)) (hR:R<w.heap.size):Calls Tryz.prog 233 #[.agg (I11 st be rk my gu lo hi hd ca ut wk),.pointer (some ⟨R,0,none⟩)] w fun e w'=>e= .returned (.bool (YX b (st,be,rk,my,gu,lo,hi,hd,ca,ut,wk)))/\Below w.heap.size w w':=by
 have hne:R ≠ w.heap.size:=UZ hR;go_enter Tryz.func233,Tryz.ntmps233;go_wp2_with fail;refine ck (II st be rk my gu lo hi hd ca ut wk b _) fun w1 hb=> ?_;have Hb:=Z9 (((Z1 w.heap.size w).alloc (Z2 _) _).trans (hb.mono (by simp)));clear hb;go_wp2_with fail;go_ret;exact ⟨rfl,uh Hb⟩
theorem OI (st be rk my gu lo hi hd ca ut wk:Int) (a:Option Addr) (n cap:Nat) (w:World):Calls Tryz.prog 97 #[.agg (I11 st be rk my gu lo hi hd ca ut wk),.slice a n cap] w fun e w'=>e= .returned (.bool (WL n (st,be,rk,my,gu,lo,hi,hd,ca,ut,wk)))/\Below w.heap.size w w':=by
 have hx:∀ q:Bool,Calls Tryz.prog 97 #[.agg (I11 st be rk my gu lo hi hd ca ut wk),.slice a n cap] w (fun e w'=>e= .returned (.bool q)/\Below w.heap.size w w')->q=WL n (st,be,rk,my,gu,lo,hi,hd,ca,ut,wk)->Calls Tryz.prog 97 #[.agg (I11 st be rk my gu lo hi hd ca ut wk),.slice a n cap] w fun e w'=>e= .returned (.bool (WL n (st,be,rk,my,gu,lo,hi,hd,ca,ut,wk)))/\Below w.heap.size w w':=fun q h e=>by rw [<-e];exact h
 by_cases h0:st=0
 ·subst h0
  refine hx true ?_ (by unfold WL;simp);go_enter Tryz.func97,Tryz.ntmps97;go_wp2_with fail;refine ck (Vo 0 be rk my gu lo hi hd ca ut wk _) fun w1 hb=> ?_;have Hb:=Z9 (((Z1 w.heap.size w).alloc (Z2 _) _).trans (hb.mono (by simp)));clear hb;go_wp2_with fail;go_ret;exact ⟨rfl,uh Hb⟩
 have n0:(st ==0)=false:=by simpa using h0
 by_cases h1:gu= -1
 ·subst h1
  refine hx true ?_ (by unfold WL;simp);go_enter Tryz.func97,Tryz.ntmps97;go_wp2_with fail;refine (Vo st be rk my (-1) lo hi hd ca ut wk _).mono ?_;rw [n0];rintro e w1 ⟨rfl,hb⟩;have c4:w1.cell? ⟨w.heap.size,4,none⟩=some (.int .i64 (-1)):=(hb.cell (p:=⟨w.heap.size,4,none⟩) (by simp)).trans (Ze _ rfl);have Hb:=Z9 (((Z1 w.heap.size w).alloc (Z2 _) _).trans (hb.mono (by simp)));clear hb;go_wp2_with fail;go_ret;exact ⟨rfl,uh Hb⟩
 have n1:(gu == -1)=false:=by simpa using h1
 refine hx (WR n gu) ?_ (by unfold WL;simp [n0,n1]);go_enter Tryz.func97,Tryz.ntmps97;go_wp2_with fail;refine (Vo st be rk my gu lo hi hd ca ut wk _).mono ?_;rw [n0];rintro e w1 ⟨rfl,hb⟩;have c4:w1.cell? ⟨w.heap.size,4,none⟩=some (.int .i64 gu):=(hb.cell (p:=⟨w.heap.size,4,none⟩) (by simp)).trans (Ze _ rfl);have Hb:=Z9 (((Z1 w.heap.size w).alloc (Z2 _) _).trans (hb.mono (by simp)));clear hb;go_wp2_with fail;refine ck (Jd a n cap gu _) fun w2 h9=> ?_;subst w2;go_wp2_with fail;go_ret;exact ⟨rfl,uh Hb⟩
theorem Ll (st be rk my gu lo hi hd ca ut wk:Int) (R:Nat) (a:Option Addr) (n cap:Nat) (w:World) (hc:w.cell? ⟨R,0,none⟩=some (.slice a n cap)) (hR:R<w.heap.size):Calls Tryz.prog 226 #[.agg (I11 st be rk my gu lo hi hd ca ut wk),.pointer (some ⟨R,0,none⟩)] w fun e w'=>e= .returned (.bool (WL n (st,be,rk,my,gu,lo,hi,hd,ca,ut,wk)))/\Below w.heap.size w w':=by
 have hne:R ≠ w.heap.size:=UZ hR;go_enter Tryz.func226,Tryz.ntmps226;go_wp2_with fail;refine ck (OI st be rk my gu lo hi hd ca ut wk a n cap _) fun w1 hb=> ?_;have Hb:=Z9 (((Z1 w.heap.size w).alloc (Z2 _) _).trans (hb.mono (by simp)));clear hb;go_wp2_with fail;go_ret;exact ⟨rfl,uh Hb⟩
theorem Calls.bool_of {P:Program} {f:FuncId} {args:Array Value} {q q':Bool} (h:Calls P f args w fun e w'=>e= .returned (.bool q)/\Below w.heap.size w w') (e:q=q'):Calls P f args w fun e w'=>e= .returned (.bool q')/\Below w.heap.size w w':=by rw [<-e];exact h
theorem KW (st be rk my gu lo hi hd ca ut wk:Int) {ds:List XW} (h:UA w v ds):Calls Tryz.prog 122 #[.agg (I11 st be rk my gu lo hi hd ca ut wk),v] w fun e w'=>e= .returned (.bool (Wz ds (st,be,rk,my,gu,lo,hi,hd,ca,ut,wk)))/\Below w.heap.size w w':=by
 obtain ⟨a,cap,rfl,hc,hm,hr⟩:=h;have Hr:=Z9 hr;clear hr;by_cases h0:st=0
 ·subst h0
  refine Calls.bool_of (q:=true) ?_ (by unfold Wz;simp);go_enter Tryz.func122,Tryz.ntmps122;go_wp2_with fail;refine ck (Vo 0 be rk my gu lo hi hd ca ut wk _) fun w1 hb=> ?_;have Hb:=Z9 (((Z1 w.heap.size w).alloc (Z2 _) _).trans (hb.mono (by simp)));clear hb;go_wp2_with fail;go_ret;exact ⟨rfl,uh Hb⟩
 have n0:(st ==0)=false:=by simpa using h0
 cases hh:WR ds.length be
 ·refine Calls.bool_of (q:=false) ?_ (by unfold Wz;simp only [n0,hh];rfl)
  have Hh:=Z9 hh;clear hh;go_enter Tryz.func122,Tryz.ntmps122;go_wp2_with fail;refine (Vo st be rk my gu lo hi hd ca ut wk _).mono ?_;rw [n0];rintro e w1 ⟨rfl,hb⟩;have c1:w1.cell? ⟨w.heap.size,1,none⟩=some (.int .i64 be):=(hb.cell (p:=⟨w.heap.size,1,none⟩) (by simp)).trans (Ze _ rfl);have Hb:=Z9 (((Z1 w.heap.size w).alloc (Z2 _) _).trans (hb.mono (by simp)));clear hb;go_wp2_with fail;refine (U3 a ds.length cap be _).mono ?_;rw [uh Hh];rintro e w2 ⟨rfl,h9⟩;subst w2;go_wp2_with fail;go_ret;exact ⟨rfl,uh Hb⟩
 have hbe:0<=be/\be<(ds.length:Int):=by unfold WR at hh;simpa using hh
 obtain ⟨j,rfl⟩:∃ j:Nat,be=j:=⟨be.toNat,by omega⟩
 have hj:j<ds.length:=by omega
 have hj1:(j:Int)<(ds.length:Int):=by omega
 rcases uh Hr with e0 | ⟨b,off,rfl,hbw,hcl⟩
 ·rw [e0] at hj;simp at hj
 obtain ⟨t0,t1,t2⟩:=Y2 hcl hj
 have hD:Wz ds (st,(j:Int),rk,my,gu,lo,hi,hd,ca,ut,wk)=(st ==1 || ((Z8 ds j).1 && (UU my j && Vg hd (Z8 ds j).2.2))):=by
  unfold Wz;simp only [n0,hh,Zy,Bool.false_or,Bool.true_and]
 have HD:=Z9 hD;have Hh:=Z9 hh;clear hD hh hcl Hr;generalize Z8 ds j=d at *;obtain ⟨op,who,mk⟩:=d;simp only at t0 t1 t2;obtain ⟨qm,hqm⟩:∃ q,UU my j=q:=⟨_,rfl⟩
 have Hm:=Z9 hqm;obtain ⟨qb,hqb⟩:∃ q,Vg hd mk=q:=⟨_,rfl⟩
 have Hbd:=Z9 hqb;clear hqm hqb;refine Calls.bool_of (q:=(st ==1 || (op && (qm && qb)))) ?_ (by rw [uh HD,uh Hm,uh Hbd]);clear HD;go_enter Tryz.func122,Tryz.ntmps122;go_wp2_with fail;refine (Vo st (j:Int) rk my gu lo hi hd ca ut wk _).mono ?_;rw [n0];rintro e w1 ⟨rfl,hb⟩;have SB:Hid (Blk w1 w.heap.size 40 (I11 st j rk my gu lo hi hd ca ut wk)):=Z9 ((Blk.new w _ _).below hb (by simp));have Hb:=Z9 (((Z1 w.heap.size w).alloc (Z2 _) _).trans (hb.mono (by simp)));rw [<-(uh Hb).cell (p:=⟨b,off+j*3,none⟩) hbw] at t0;rw [<-(uh Hb).cell (p:=⟨b,off+j*3+1,none⟩) hbw] at t1;rw [<-(uh Hb).cell (p:=⟨b,off+j*3+2,none⟩) hbw] at t2;clear hb;have s1:=(uh SB).cell (i:=1) (v:= .int .i64 j) rfl;go_wp2_with fail;refine (U3 _ ds.length cap (j:Int) _).mono ?_;rw [uh Hh];rintro e w2 ⟨rfl,h9⟩;subst w2;clear s1;have s1:=(uh SB).cell (i:=1) (v:= .int .i64 j) rfl;have hbw1:b<w1.heap.size:=Zd hbw (uh Hb).size;have hl0:=(uh SB).lt;go_upto_region 6 with fail;clear t0 t1 t2 s1;replace SB:Hid (Blk (w1.alloc (.cells #[.bool op,.int .i64 who,.int .i64 mk] 43)) w.heap.size 40 (I11 st j rk my gu lo hi hd ca ut wk)):=Z9 ((uh SB).alloc _);have DB:Hid (Blk (w1.alloc (.cells #[.bool op,.int .i64 who,.int .i64 mk] 43)) w1.heap.size 43 #[.bool op,.int .i64 who,.int .i64 mk]):=Z9 (Blk.new w1 _ _);replace Hb:Hid (Below w.heap.size w (w1.alloc (.cells #[.bool op,.int .i64 who,.int .i64 mk] 43))):=Z9 ((uh Hb).alloc (uh Hb).size _);generalize w1.alloc (.cells #[.bool op,.int .i64 who,.int .i64 mk] 43)=W at *;generalize w1.heap.size=db at *;obtain ⟨s0,s1,s2,s3,s4,s5,s6,s7,s8,s9,s10⟩:=(uh SB).c11;go_wp2_with fail;refine ck (Eh st (j:Int) rk my gu lo hi hd ca ut wk _) fun w3 hb=> ?_;replace SB:=bl SB hb;replace DB:=bl DB hb;replace Hb:=Z9 ((uh Hb).trans (hb.mono (uh Hb).size));clear hb s0 s1 s2 s3 s4 s5 s6 s7 s8 s9 s10;by_cases h1:st=1
 ·subst h1
  go_wp2_with fail;go_ret;exact ⟨Z5 (by simp),uh Hb⟩
 have n1:(st ==1)=false:=by simpa using h1
 rw [n1];have g0:=(uh DB).cell (i:=0) (v:= .bool op) rfl;have g1:=(uh DB).cell (i:=1) (v:= .int .i64 who) rfl;have g2:=(uh DB).cell (i:=2) (v:= .int .i64 mk) rfl;go_wp2_with fail;refine ck (P8 op who mk _) fun w4 hb=> ?_;replace SB:=bl SB hb;replace DB:=bl DB hb;replace Hb:=Z9 ((uh Hb).trans (hb.mono (uh Hb).size));clear hb g0 g1 g2;cases op
 ·go_wp2_with fail
  go_ret;exact ⟨Z5 (by simp [h1]),uh Hb⟩
 have s1:=(uh SB).cell (i:=1) (v:= .int .i64 j) rfl;have s3:=(uh SB).cell (i:=3) (v:= .int .i64 my) rfl;have s7:=(uh SB).cell (i:=7) (v:= .int .i64 hd) rfl;have g2:=(uh DB).cell (i:=2) (v:= .int .i64 mk) rfl;go_wp2_with fail;refine (Vf my (j:Int) _).mono ?_;rw [uh Hm];rintro e w5 ⟨rfl,h9⟩;subst w5;cases qm
 ·go_wp2_with fail
  go_ret;exact ⟨Z5 (by simp [h1]),uh Hb⟩
 go_wp2_with fail;refine (Mf hd mk _).mono ?_;rw [uh Hbd];rintro e w6 ⟨rfl,hb⟩;replace Hb:=Z9 ((uh Hb).trans (hb.mono (uh Hb).size));clear hb;go_wp2_with fail;go_ret;exact ⟨Z5 (by simp [h1]),uh Hb⟩
theorem Bs  {ss:List Z3} (h:Vy w v ss):Calls Tryz.prog 120 #[v,.func (Fn.func 96) #[] #[]] w fun e w'=>e= .returned (.bool (XX Zs ss ss.length))/\Below w.heap.size w w':=by
 obtain ⟨a,cap,rfl,hc,hm,hr⟩:=h;have Hr:=Z9 hr;clear hr;go_enter Tryz.func120,Tryz.ntmps120;go_wp2_with fail
 go_loopw [9] (fun i wr=> ∃ k:Nat,k<=ss.length/\i= .int .i64 k/\XX Zs ss k=true/\Below w.heap.size w wr) (fun i _=>ss.length-(intOf i).toNat)
 case atStart=>exact ⟨0,Zz _,rfl,rfl,Z1 _ _⟩
 case round=>
  obtain ⟨k,hk,rfl,hst,hb0⟩:=hrel;have Hst:=Z9 hst;have BB:=Z9 hb0;by_cases hlt:k<ss.length
  ·have hlt1:(k:Int)<(ss.length:Int):=by omega
   rcases uh Hr with e0 | ⟨b,off,rfl,hbw,hcl⟩
   ·rw [e0] at hlt;simp at hlt
   obtain ⟨d0,d1,d2,d3,d4,d5,d6,d7,d8,d9,d10⟩:=Zx hcl hlt;rw [<-hb0.cell (p:=⟨b,off+k*11,none⟩) hbw] at d0;rw [<-hb0.cell (p:=⟨b,off+k*11+1,none⟩) hbw] at d1;rw [<-hb0.cell (p:=⟨b,off+k*11+2,none⟩) hbw] at d2;rw [<-hb0.cell (p:=⟨b,off+k*11+3,none⟩) hbw] at d3;rw [<-hb0.cell (p:=⟨b,off+k*11+4,none⟩) hbw] at d4;rw [<-hb0.cell (p:=⟨b,off+k*11+5,none⟩) hbw] at d5;rw [<-hb0.cell (p:=⟨b,off+k*11+6,none⟩) hbw] at d6;rw [<-hb0.cell (p:=⟨b,off+k*11+7,none⟩) hbw] at d7;rw [<-hb0.cell (p:=⟨b,off+k*11+8,none⟩) hbw] at d8;rw [<-hb0.cell (p:=⟨b,off+k*11+9,none⟩) hbw] at d9;rw [<-hb0.cell (p:=⟨b,off+k*11+10,none⟩) hbw] at d10;have HU:=Z9 (fun hh=>Pg (p:=Zs) (xs:=ss) (k:=k) hst hh);have HN:=Z9 (fun hh=>Pf (p:=Zs) (xs:=ss) hlt hh);clear hcl hst hb0;generalize Z8 ss k=s at *;obtain ⟨st,be,rk,my,gu,lo,hi,hd,ca,ut,wk⟩:=s;simp only at d0 d1 d2 d3 d4 d5 d6 d7 d8 d9 d10;have hbr:b<wr.heap.size:=Zd hbw (uh BB).size;go_wp2_with fail;clear d0 d1 d2 d3 d4 d5 d6 d7 d8 d9 d10;obtain ⟨q,hq⟩:∃ q,Zs (st,be,rk,my,gu,lo,hi,hd,ca,ut,wk)=q:=⟨_,rfl⟩
   have Hq:=Z9 hq;clear hq;have hba:Below wr.heap.size wr (wr.alloc (.cells (I11 st be rk my gu lo hi hd ca ut wk) 40)):=ba _ _;replace BB:=bt BB hba;clear hba;refine (NI st be rk my gu lo hi hd ca ut wk _).mono ?_;rw [uh Hq];rintro e w1 ⟨rfl,hb⟩;replace BB:=bt BB hb;clear hb;cases q
   ·go_wp2_with fail
    go_ret;exact ⟨Z5 (uh HN (uh Hq)).symm,uh BB⟩
   ·go_wp2_with fail
    go_roundw
    case rel=>exact ⟨k+1,by omega,by go_num,uh HU (uh Hq),uh BB⟩
    case measure=>exact ms
  ·obtain rfl:k=ss.length:=by omega
   go_wp2_with fail;go_ret;exact ⟨Z5 (uh Hst).symm,uh BB⟩
theorem IQ  {ss:List Z3} {R n gc:Nat} {ga:Option Addr} (h:Vy w v ss) (hc0:w.cell? ⟨R,0,none⟩=some (.slice ga n gc)) (hR:R<w.heap.size):Calls Tryz.prog 120 #[v,.func (Fn.func 226) #[] #[.pointer (some ⟨R,0,none⟩)]] w fun e w'=>e= .returned (.bool (XX (WL n) ss ss.length))/\Below w.heap.size w w':=by
 obtain ⟨a,cap,rfl,hc,hm,hr⟩:=h;have Hr:=Z9 hr;clear hr;have HC:=Z9 hc0;clear hc0;go_enter Tryz.func120,Tryz.ntmps120;go_wp2_with fail
 go_loopw [9] (fun i wr=> ∃ k:Nat,k<=ss.length/\i= .int .i64 k/\XX (WL n) ss k=true/\Below w.heap.size w wr) (fun i _=>ss.length-(intOf i).toNat)
 case atStart=>exact ⟨0,Zz _,rfl,rfl,Z1 _ _⟩
 case round=>
  obtain ⟨k,hk,rfl,hst,hb0⟩:=hrel;have Hst:=Z9 hst;have BB:=Z9 hb0;by_cases hlt:k<ss.length
  ·have hlt1:(k:Int)<(ss.length:Int):=by omega
   rcases uh Hr with e0 | ⟨b,off,rfl,hbw,hcl⟩
   ·rw [e0] at hlt;simp at hlt
   obtain ⟨d0,d1,d2,d3,d4,d5,d6,d7,d8,d9,d10⟩:=Zx hcl hlt;rw [<-hb0.cell (p:=⟨b,off+k*11,none⟩) hbw] at d0;rw [<-hb0.cell (p:=⟨b,off+k*11+1,none⟩) hbw] at d1;rw [<-hb0.cell (p:=⟨b,off+k*11+2,none⟩) hbw] at d2;rw [<-hb0.cell (p:=⟨b,off+k*11+3,none⟩) hbw] at d3;rw [<-hb0.cell (p:=⟨b,off+k*11+4,none⟩) hbw] at d4;rw [<-hb0.cell (p:=⟨b,off+k*11+5,none⟩) hbw] at d5;rw [<-hb0.cell (p:=⟨b,off+k*11+6,none⟩) hbw] at d6;rw [<-hb0.cell (p:=⟨b,off+k*11+7,none⟩) hbw] at d7;rw [<-hb0.cell (p:=⟨b,off+k*11+8,none⟩) hbw] at d8;rw [<-hb0.cell (p:=⟨b,off+k*11+9,none⟩) hbw] at d9;rw [<-hb0.cell (p:=⟨b,off+k*11+10,none⟩) hbw] at d10;have HU:=Z9 (fun hh=>Pg (p:=(WL n)) (xs:=ss) (k:=k) hst hh);have HN:=Z9 (fun hh=>Pf (p:=(WL n)) (xs:=ss) hlt hh);clear hcl hst hb0;generalize Z8 ss k=s at *;obtain ⟨st,be,rk,my,gu,lo,hi,hd,ca,ut,wk⟩:=s;simp only at d0 d1 d2 d3 d4 d5 d6 d7 d8 d9 d10;have hbr:b<wr.heap.size:=Zd hbw (uh BB).size;go_wp2_with fail;clear d0 d1 d2 d3 d4 d5 d6 d7 d8 d9 d10;obtain ⟨q,hq⟩:∃ q,(WL n) (st,be,rk,my,gu,lo,hi,hd,ca,ut,wk)=q:=⟨_,rfl⟩
   have Hq:=Z9 hq;clear hq;have hba:Below wr.heap.size wr (wr.alloc (.cells (I11 st be rk my gu lo hi hd ca ut wk) 40)):=ba _ _;replace BB:=bt BB hba;clear hba;refine (Ll st be rk my gu lo hi hd ca ut wk R ga n gc _ (((uh BB).cell (p:=⟨R,0,none⟩) hR).trans (uh HC)) (Zd hR (uh BB).size)).mono ?_;rw [uh Hq];rintro e w1 ⟨rfl,hb⟩;replace BB:=bt BB hb;clear hb;cases q
   ·go_wp2_with fail
    go_ret;exact ⟨Z5 (uh HN (uh Hq)).symm,uh BB⟩
   ·go_wp2_with fail
    go_roundw
    case rel=>exact ⟨k+1,by omega,by go_num,uh HU (uh Hq),uh BB⟩
    case measure=>exact ms
  ·obtain rfl:k=ss.length:=by omega
   go_wp2_with fail;go_ret;exact ⟨Z5 (uh Hst).symm,uh BB⟩
theorem FB  {ss:List XW} (h:UA w v ss):Calls Tryz.prog 227 #[v,.func (Fn.func 228) #[] #[]] w fun e w'=>e= .returned (.bool (XX VB ss ss.length))/\Below w.heap.size w w':=by
 obtain ⟨a,cap,rfl,hc,hm,hr⟩:=h;have Hr:=Z9 hr;clear hr;go_enter Tryz.func227,Tryz.ntmps227;go_wp2_with fail
 go_loopw [9] (fun i wr=> ∃ k:Nat,k<=ss.length/\i= .int .i64 k/\XX VB ss k=true/\Below w.heap.size w wr) (fun i _=>ss.length-(intOf i).toNat)
 case atStart=>exact ⟨0,Zz _,rfl,rfl,Z1 _ _⟩
 case round=>
  obtain ⟨k,hk,rfl,hst,hb0⟩:=hrel;have Hst:=Z9 hst;have BB:=Z9 hb0;by_cases hlt:k<ss.length
  ·have hlt1:(k:Int)<(ss.length:Int):=by omega
   rcases uh Hr with e0 | ⟨b,off,rfl,hbw,hcl⟩
   ·rw [e0] at hlt;simp at hlt
   obtain ⟨d0,d1,d2⟩:=Y2 hcl hlt;rw [<-hb0.cell (p:=⟨b,off+k*3,none⟩) hbw] at d0;rw [<-hb0.cell (p:=⟨b,off+k*3+1,none⟩) hbw] at d1;rw [<-hb0.cell (p:=⟨b,off+k*3+2,none⟩) hbw] at d2;have HU:=Z9 (fun hh=>Pg (p:=VB) (xs:=ss) (k:=k) hst hh);have HN:=Z9 (fun hh=>Pf (p:=VB) (xs:=ss) hlt hh);clear hcl hst hb0;generalize Z8 ss k=s at *;obtain ⟨op,who,mk⟩:=s;simp only at d0 d1 d2;have hbr:b<wr.heap.size:=Zd hbw (uh BB).size;go_wp2_with fail;clear d0 d1 d2;obtain ⟨q,hq⟩:∃ q,VB (op,who,mk)=q:=⟨_,rfl⟩
   have Hq:=Z9 hq;clear hq;have hba:Below wr.heap.size wr (wr.alloc (.cells #[.bool op,.int .i64 who,.int .i64 mk] 43)):=ba _ _;replace BB:=bt BB hba;clear hba;refine (Gi op who mk _).mono ?_;rw [uh Hq];rintro e w1 ⟨rfl,hb⟩;replace BB:=bt BB hb;clear hb;cases q
   ·go_wp2_with fail
    go_ret;exact ⟨Z5 (uh HN (uh Hq)).symm,uh BB⟩
   ·go_wp2_with fail
    go_roundw
    case rel=>exact ⟨k+1,by omega,by go_num,uh HU (uh Hq),uh BB⟩
    case measure=>exact ms
  ·obtain rfl:k=ss.length:=by omega
   go_wp2_with fail;go_ret;exact ⟨Z5 (uh Hst).symm,uh BB⟩
theorem IF  {ss:List Z3} {R:Nat} {bn:Int} (h:Vy w v ss) (hl:ss.length<=1000) (hc0:w.cell? ⟨R,0,none⟩=some (.int .i64 bn)) (hR:R<w.heap.size):Calls Tryz.prog 230 #[v,.func (Fn.func 231) #[] #[.pointer (some ⟨R,0,none⟩)]] w fun e w'=> ∃ v',e= .returned v'/\NumsAt w.heap.size w' v' (ZO (atB bn) ss ss.length)/\Below w.heap.size w w':=by
 obtain ⟨a,cap,rfl,hc,hm,hr⟩:=h;have Hr:=Z9 hr;clear hr;have HC:=Z9 hc0;clear hc0;go_enter Tryz.func230,Tryz.ntmps230;go_wp2_with fail
 go_loopw [5,11] (fun l i wr=> ∃ k:Nat,k<=ss.length/\i= .int .i64 k/\NumsAt w.heap.size wr l (ZO (atB bn) ss k)/\Below w.heap.size w wr) (fun _ i _=>ss.length-(intOf i).toNat)
 case atStart=>exact ⟨0,Zz _,rfl,Y3 rfl (Z2 _),(ba _ _)⟩
 case round=>
  obtain ⟨k,hk,rfl,hln,hb0⟩:=hrel;obtain ⟨la,lc,rfl⟩:=RecAt.shape hln;have HL:=Z9 hln;have BB:=Z9 hb0;have hfl:=VZ (atB bn) ss k;clear hln;by_cases hlt:k<ss.length
  ·have hlt1:(k:Int)<(ss.length:Int):=by omega
   rcases uh Hr with e0 | ⟨b,off,rfl,hbw,hcl⟩
   ·rw [e0] at hlt;simp at hlt
   obtain ⟨d0,d1,d2,d3,d4,d5,d6,d7,d8,d9,d10⟩:=Zx hcl hlt;rw [<-hb0.cell (p:=⟨b,off+k*11,none⟩) hbw] at d0;rw [<-hb0.cell (p:=⟨b,off+k*11+1,none⟩) hbw] at d1;rw [<-hb0.cell (p:=⟨b,off+k*11+2,none⟩) hbw] at d2;rw [<-hb0.cell (p:=⟨b,off+k*11+3,none⟩) hbw] at d3;rw [<-hb0.cell (p:=⟨b,off+k*11+4,none⟩) hbw] at d4;rw [<-hb0.cell (p:=⟨b,off+k*11+5,none⟩) hbw] at d5;rw [<-hb0.cell (p:=⟨b,off+k*11+6,none⟩) hbw] at d6;rw [<-hb0.cell (p:=⟨b,off+k*11+7,none⟩) hbw] at d7;rw [<-hb0.cell (p:=⟨b,off+k*11+8,none⟩) hbw] at d8;rw [<-hb0.cell (p:=⟨b,off+k*11+9,none⟩) hbw] at d9;rw [<-hb0.cell (p:=⟨b,off+k*11+10,none⟩) hbw] at d10;have HY:=Z9 (fun hh=>Ym (p:=(atB bn)) (xs:=ss) (k:=k) hh);have HN:=Z9 (fun hh=>XG (p:=(atB bn)) (xs:=ss) (k:=k) hh);clear hcl hb0;generalize Z8 ss k=s at *;obtain ⟨st,be,rk,my,gu,lo,hi,hd,ca,ut,wk⟩:=s;simp only at d0 d1 d2 d3 d4 d5 d6 d7 d8 d9 d10;have hbr:b<wr.heap.size:=Zd hbw (uh BB).size;go_wp2_with fail;clear d0 d1 d2 d3 d4 d5 d6 d7 d8 d9 d10;obtain ⟨q,hq⟩:∃ q,(atB bn) (st,be,rk,my,gu,lo,hi,hd,ca,ut,wk)=q:=⟨_,rfl⟩
   have Hq:=Z9 hq;clear hq;have hba:Below wr.heap.size wr (wr.alloc (.cells (I11 st be rk my gu lo hi hd ca ut wk) 40)):=ba _ _;replace BB:=bt BB hba;replace HL:=Z9 (RecAt.later (uh HL) hba);clear hba;refine (JH st be rk my gu lo hi hd ca ut wk bn R _ (((uh BB).cell (p:=⟨R,0,none⟩) hR).trans (uh HC)) (Zd hR (uh BB).size)).mono ?_;rw [uh Hq];rintro e w1 ⟨rfl,hb⟩;replace BB:=bt BB hb;replace HL:=Z9 (RecAt.later (uh HL) hb);clear hb;cases q
   ·go_wp2_with fail
    go_roundw
    case rel=>exact ⟨k+1,by omega,by go_num,by rw [uh HN (uh Hq)];exact uh HL,uh BB⟩
    case measure=>exact ms
   ·have hsx:=(uh BB).size
    go_wp2_with (at_builtin;refine ZE tyN rfl (.tmp 19) (.tmp 21) 130 Tryz.underlying130 rfl w.heap.size _ _ (ZO (atB bn) ss k) [(k:Int)] rfl rfl (RecAt.later (uh HL) ((ba _ _))) (WB (k:Int) rfl (Z2 _) (by omega)) (by simp;omega) (by simp;omega) ?_;intro u9 w9 hp9 hg9 hat9;have HP9:=Z9 hp9;have HG9:=Z9 hg9;clear hp9 hg9 hat9)
    have hgo:∀ i,(Value.slice la (ZO (atB bn) ss k).length lc).ownBlock=some i->w.heap.size<=i:=fun i e=>(RecAt.lt (uh HL) e).1;have hb9:Below w.heap.size w1 w9:=((Z1 _ _).alloc hsx _).trans ((Z1 _ _).grown (uh HG9) (by simp;omega) hgo);have hb8:=(uh BB).trans hb9;go_wp2_with fail;go_roundw
    case rel=>exact ⟨k+1,by omega,by go_num,by rw [uh HY (uh Hq)];exact uh HP9,hb8⟩
    case measure=>exact ms
  ·obtain rfl:k=ss.length:=by omega
   go_wp2_with fail;go_ret;exact ⟨_,rfl,uh HL,uh BB⟩
theorem Nh  {ss:List Z3} {R:Nat} {bn:Int} (h:Vy w v ss) (hl:ss.length<=1000) (hc0:w.cell? ⟨R,0,none⟩=some (.int .i64 bn)) (hR:R<w.heap.size):Calls Tryz.prog 230 #[v,.func (Fn.func 233) #[] #[.pointer (some ⟨R,0,none⟩)]] w fun e w'=> ∃ v',e= .returned v'/\NumsAt w.heap.size w' v' (ZO (YX bn) ss ss.length)/\Below w.heap.size w w':=by
 obtain ⟨a,cap,rfl,hc,hm,hr⟩:=h;have Hr:=Z9 hr;clear hr;have HC:=Z9 hc0;clear hc0;go_enter Tryz.func230,Tryz.ntmps230;go_wp2_with fail
 go_loopw [5,11] (fun l i wr=> ∃ k:Nat,k<=ss.length/\i= .int .i64 k/\NumsAt w.heap.size wr l (ZO (YX bn) ss k)/\Below w.heap.size w wr) (fun _ i _=>ss.length-(intOf i).toNat)
 case atStart=>exact ⟨0,Zz _,rfl,Y3 rfl (Z2 _),(ba _ _)⟩
 case round=>
  obtain ⟨k,hk,rfl,hln,hb0⟩:=hrel;obtain ⟨la,lc,rfl⟩:=RecAt.shape hln;have HL:=Z9 hln;have BB:=Z9 hb0;have hfl:=VZ (YX bn) ss k;clear hln;by_cases hlt:k<ss.length
  ·have hlt1:(k:Int)<(ss.length:Int):=by omega
   rcases uh Hr with e0 | ⟨b,off,rfl,hbw,hcl⟩
   ·rw [e0] at hlt;simp at hlt
   obtain ⟨d0,d1,d2,d3,d4,d5,d6,d7,d8,d9,d10⟩:=Zx hcl hlt;rw [<-hb0.cell (p:=⟨b,off+k*11,none⟩) hbw] at d0;rw [<-hb0.cell (p:=⟨b,off+k*11+1,none⟩) hbw] at d1;rw [<-hb0.cell (p:=⟨b,off+k*11+2,none⟩) hbw] at d2;rw [<-hb0.cell (p:=⟨b,off+k*11+3,none⟩) hbw] at d3;rw [<-hb0.cell (p:=⟨b,off+k*11+4,none⟩) hbw] at d4;rw [<-hb0.cell (p:=⟨b,off+k*11+5,none⟩) hbw] at d5;rw [<-hb0.cell (p:=⟨b,off+k*11+6,none⟩) hbw] at d6;rw [<-hb0.cell (p:=⟨b,off+k*11+7,none⟩) hbw] at d7;rw [<-hb0.cell (p:=⟨b,off+k*11+8,none⟩) hbw] at d8;rw [<-hb0.cell (p:=⟨b,off+k*11+9,none⟩) hbw] at d9;rw [<-hb0.cell (p:=⟨b,off+k*11+10,none⟩) hbw] at d10;have HY:=Z9 (fun hh=>Ym (p:=(YX bn)) (xs:=ss) (k:=k) hh);have HN:=Z9 (fun hh=>XG (p:=(YX bn)) (xs:=ss) (k:=k) hh);clear hcl hb0;generalize Z8 ss k=s at *;obtain ⟨st,be,rk,my,gu,lo,hi,hd,ca,ut,wk⟩:=s;simp only at d0 d1 d2 d3 d4 d5 d6 d7 d8 d9 d10;have hbr:b<wr.heap.size:=Zd hbw (uh BB).size;go_wp2_with fail;clear d0 d1 d2 d3 d4 d5 d6 d7 d8 d9 d10;obtain ⟨q,hq⟩:∃ q,(YX bn) (st,be,rk,my,gu,lo,hi,hd,ca,ut,wk)=q:=⟨_,rfl⟩
   have Hq:=Z9 hq;clear hq;have hba:Below wr.heap.size wr (wr.alloc (.cells (I11 st be rk my gu lo hi hd ca ut wk) 40)):=ba _ _;replace BB:=bt BB hba;replace HL:=Z9 (RecAt.later (uh HL) hba);clear hba;refine (NV st be rk my gu lo hi hd ca ut wk bn R _ (((uh BB).cell (p:=⟨R,0,none⟩) hR).trans (uh HC)) (Zd hR (uh BB).size)).mono ?_;rw [uh Hq];rintro e w1 ⟨rfl,hb⟩;replace BB:=bt BB hb;replace HL:=Z9 (RecAt.later (uh HL) hb);clear hb;cases q
   ·go_wp2_with fail
    go_roundw
    case rel=>exact ⟨k+1,by omega,by go_num,by rw [uh HN (uh Hq)];exact uh HL,uh BB⟩
    case measure=>exact ms
   ·have hsx:=(uh BB).size
    go_wp2_with (at_builtin;refine ZE tyN rfl (.tmp 19) (.tmp 21) 130 Tryz.underlying130 rfl w.heap.size _ _ (ZO (YX bn) ss k) [(k:Int)] rfl rfl (RecAt.later (uh HL) ((ba _ _))) (WB (k:Int) rfl (Z2 _) (by omega)) (by simp;omega) (by simp;omega) ?_;intro u9 w9 hp9 hg9 hat9;have HP9:=Z9 hp9;have HG9:=Z9 hg9;clear hp9 hg9 hat9)
    have hgo:∀ i,(Value.slice la (ZO (YX bn) ss k).length lc).ownBlock=some i->w.heap.size<=i:=fun i e=>(RecAt.lt (uh HL) e).1;have hb9:Below w.heap.size w1 w9:=((Z1 _ _).alloc hsx _).trans ((Z1 _ _).grown (uh HG9) (by simp;omega) hgo);have hb8:=(uh BB).trans hb9;go_wp2_with fail;go_roundw
    case rel=>exact ⟨k+1,by omega,by go_num,by rw [uh HY (uh Hq)];exact uh HP9,hb8⟩
    case measure=>exact ms
  ·obtain rfl:k=ss.length:=by omega
   go_wp2_with fail;go_ret;exact ⟨_,rfl,uh HL,uh BB⟩
theorem QB  {ss:List XW} (h:UA w v ss) (hl:ss.length<=1000):Calls Tryz.prog 142 #[v,.func (Fn.func 143) #[] #[]] w fun e w'=> ∃ v',e= .returned v'/\NumsAt w.heap.size w' v' (ZO Vs ss ss.length)/\Below w.heap.size w w':=by
 obtain ⟨a,cap,rfl,hc,hm,hr⟩:=h;have Hr:=Z9 hr;clear hr;go_enter Tryz.func142,Tryz.ntmps142;go_wp2_with fail
 go_loopw [5,11] (fun l i wr=> ∃ k:Nat,k<=ss.length/\i= .int .i64 k/\NumsAt w.heap.size wr l (ZO Vs ss k)/\Below w.heap.size w wr) (fun _ i _=>ss.length-(intOf i).toNat)
 case atStart=>exact ⟨0,Zz _,rfl,Y3 rfl (Z2 _),(ba _ _)⟩
 case round=>
  obtain ⟨k,hk,rfl,hln,hb0⟩:=hrel;obtain ⟨la,lc,rfl⟩:=RecAt.shape hln;have HL:=Z9 hln;have BB:=Z9 hb0;have hfl:=VZ Vs ss k;clear hln;by_cases hlt:k<ss.length
  ·have hlt1:(k:Int)<(ss.length:Int):=by omega
   rcases uh Hr with e0 | ⟨b,off,rfl,hbw,hcl⟩
   ·rw [e0] at hlt;simp at hlt
   obtain ⟨d0,d1,d2⟩:=Y2 hcl hlt;rw [<-hb0.cell (p:=⟨b,off+k*3,none⟩) hbw] at d0;rw [<-hb0.cell (p:=⟨b,off+k*3+1,none⟩) hbw] at d1;rw [<-hb0.cell (p:=⟨b,off+k*3+2,none⟩) hbw] at d2;have HY:=Z9 (fun hh=>Ym (p:=Vs) (xs:=ss) (k:=k) hh);have HN:=Z9 (fun hh=>XG (p:=Vs) (xs:=ss) (k:=k) hh);clear hcl hb0;generalize Z8 ss k=s at *;obtain ⟨op,who,mk⟩:=s;simp only at d0 d1 d2;have hbr:b<wr.heap.size:=Zd hbw (uh BB).size;go_wp2_with fail;clear d0 d1 d2;obtain ⟨q,hq⟩:∃ q,Vs (op,who,mk)=q:=⟨_,rfl⟩
   have Hq:=Z9 hq;clear hq;have hba:Below wr.heap.size wr (wr.alloc (.cells #[.bool op,.int .i64 who,.int .i64 mk] 43)):=ba _ _;replace BB:=bt BB hba;replace HL:=Z9 (RecAt.later (uh HL) hba);clear hba;refine ck (Calls.bool_of (P8 op who mk _) (uh Hq)) fun w1 hb=> ?_;replace BB:=bt BB hb;replace HL:=Z9 (RecAt.later (uh HL) hb);clear hb;cases q
   ·go_wp2_with fail
    go_roundw
    case rel=>exact ⟨k+1,by omega,by go_num,by rw [uh HN (uh Hq)];exact uh HL,uh BB⟩
    case measure=>exact ms
   ·have hsx:=(uh BB).size
    go_wp2_with (at_builtin;refine ZE tyN rfl (.tmp 19) (.tmp 21) 130 Tryz.underlying130 rfl w.heap.size _ _ (ZO Vs ss k) [(k:Int)] rfl rfl (RecAt.later (uh HL) ((ba _ _))) (WB (k:Int) rfl (Z2 _) (by omega)) (by simp;omega) (by simp;omega) ?_;intro u9 w9 hp9 hg9 hat9;have HP9:=Z9 hp9;have HG9:=Z9 hg9;clear hp9 hg9 hat9)
    have hgo:∀ i,(Value.slice la (ZO Vs ss k).length lc).ownBlock=some i->w.heap.size<=i:=fun i e=>(RecAt.lt (uh HL) e).1;have hb9:Below w.heap.size w1 w9:=((Z1 _ _).alloc hsx _).trans ((Z1 _ _).grown (uh HG9) (by simp;omega) hgo);have hb8:=(uh BB).trans hb9;go_wp2_with fail;go_roundw
    case rel=>exact ⟨k+1,by omega,by go_num,by rw [uh HY (uh Hq)];exact uh HP9,hb8⟩
    case measure=>exact ms
  ·obtain rfl:k=ss.length:=by omega
   go_wp2_with fail;go_ret;exact ⟨_,rfl,uh HL,uh BB⟩
set_option maxRecDepth 100000
theorem Nv (st be rk my gu lo hi hd ca ut wk:Int) {R n3 p3:Nat} {a3:Option Addr} {ds:List XW} (hc:w.cell? ⟨R,3,none⟩=some (.slice a3 n3 p3)) (hR:R<w.heap.size) (h:UA w (.slice a3 n3 p3) ds):Calls Tryz.prog 121 #[.agg (I11 st be rk my gu lo hi hd ca ut wk),.pointer (some ⟨R,0,none⟩)] w fun e w'=>e= .returned (.bool (Wz ds (st,be,rk,my,gu,lo,hi,hd,ca,ut,wk)))/\Below w.heap.size w w':=by
 have hne:R ≠ w.heap.size:=UZ hR;have HD:=Z9 h;clear h;go_enter Tryz.func121,Tryz.ntmps121;go_wp2_with fail;refine ck (KW st be rk my gu lo hi hd ca ut wk ((uh HD).below ((ba _ _)))) fun w1 hb=> ?_;have Hb:=Z9 (((Z1 w.heap.size w).alloc (Z2 _) _).trans (hb.mono (by simp)));clear hb;go_wp2_with fail;go_ret;exact ⟨rfl,uh Hb⟩
theorem IP  {ss:List Z3} {R n3 p3:Nat} {a3:Option Addr} {ds:List XW} (h:Vy w v ss) (hc0:w.cell? ⟨R,3,none⟩=some (.slice a3 n3 p3)) (hR:R<w.heap.size) (hds:UA w (.slice a3 n3 p3) ds):Calls Tryz.prog 120 #[v,.func (Fn.func 121) #[] #[.pointer (some ⟨R,0,none⟩)]] w fun e w'=>e= .returned (.bool (XX (Wz ds) ss ss.length))/\Below w.heap.size w w':=by
 obtain ⟨a,cap,rfl,hc,hm,hr⟩:=h;have Hr:=Z9 hr;clear hr;have HC:=Z9 hc0;have HD:=Z9 hds;clear hc0 hds;go_enter Tryz.func120,Tryz.ntmps120;go_wp2_with fail
 go_loopw [9] (fun i wr=> ∃ k:Nat,k<=ss.length/\i= .int .i64 k/\XX (Wz ds) ss k=true/\Below w.heap.size w wr) (fun i _=>ss.length-(intOf i).toNat)
 case atStart=>exact ⟨0,Zz _,rfl,rfl,Z1 _ _⟩
 case round=>
  obtain ⟨k,hk,rfl,hst,hb0⟩:=hrel;have Hst:=Z9 hst;have BB:=Z9 hb0;by_cases hlt:k<ss.length
  ·have hlt1:(k:Int)<(ss.length:Int):=by omega
   rcases uh Hr with e0 | ⟨b,off,rfl,hbw,hcl⟩
   ·rw [e0] at hlt;simp at hlt
   obtain ⟨d0,d1,d2,d3,d4,d5,d6,d7,d8,d9,d10⟩:=Zx hcl hlt;rw [<-hb0.cell (p:=⟨b,off+k*11,none⟩) hbw] at d0;rw [<-hb0.cell (p:=⟨b,off+k*11+1,none⟩) hbw] at d1;rw [<-hb0.cell (p:=⟨b,off+k*11+2,none⟩) hbw] at d2;rw [<-hb0.cell (p:=⟨b,off+k*11+3,none⟩) hbw] at d3;rw [<-hb0.cell (p:=⟨b,off+k*11+4,none⟩) hbw] at d4;rw [<-hb0.cell (p:=⟨b,off+k*11+5,none⟩) hbw] at d5;rw [<-hb0.cell (p:=⟨b,off+k*11+6,none⟩) hbw] at d6;rw [<-hb0.cell (p:=⟨b,off+k*11+7,none⟩) hbw] at d7;rw [<-hb0.cell (p:=⟨b,off+k*11+8,none⟩) hbw] at d8;rw [<-hb0.cell (p:=⟨b,off+k*11+9,none⟩) hbw] at d9;rw [<-hb0.cell (p:=⟨b,off+k*11+10,none⟩) hbw] at d10;have HU:=Z9 (fun hh=>Pg (p:=(Wz ds)) (xs:=ss) (k:=k) hst hh);have HN:=Z9 (fun hh=>Pf (p:=(Wz ds)) (xs:=ss) hlt hh);clear hcl hst hb0;generalize Z8 ss k=s at *;obtain ⟨st,be,rk,my,gu,lo,hi,hd,ca,ut,wk⟩:=s;simp only at d0 d1 d2 d3 d4 d5 d6 d7 d8 d9 d10;have hbr:b<wr.heap.size:=Zd hbw (uh BB).size;go_wp2_with fail;clear d0 d1 d2 d3 d4 d5 d6 d7 d8 d9 d10;obtain ⟨q,hq⟩:∃ q,(Wz ds) (st,be,rk,my,gu,lo,hi,hd,ca,ut,wk)=q:=⟨_,rfl⟩
   have Hq:=Z9 hq;clear hq;have hba:Below wr.heap.size wr (wr.alloc (.cells (I11 st be rk my gu lo hi hd ca ut wk) 40)):=ba _ _;replace BB:=bt BB hba;clear hba;refine (Nv st be rk my gu lo hi hd ca ut wk (((uh BB).cell (p:=⟨R,3,none⟩) hR).trans (uh HC)) (Zd hR (uh BB).size) ((uh HD).below (uh BB))).mono ?_;rw [uh Hq];rintro e w1 ⟨rfl,hb⟩;replace BB:=bt BB hb;clear hb;cases q
   ·go_wp2_with fail
    go_ret;exact ⟨Z5 (uh HN (uh Hq)).symm,uh BB⟩
   ·go_wp2_with fail
    go_roundw
    case rel=>exact ⟨k+1,by omega,by go_num,uh HU (uh Hq),uh BB⟩
    case measure=>exact ms
  ·obtain rfl:k=ss.length:=by omega
   go_wp2_with fail;go_ret;exact ⟨Z5 (uh Hst).symm,uh BB⟩
theorem Wn (a0 a1 a2 a3 a4:Option Addr) (n0 n1 n2 n3 n4 p0 p1 p2 p3 p4:Nat) (now:Int) (w:World):Calls Tryz.prog 119 #[.agg #[.slice a0 n0 p0,.slice a1 n1 p1,.slice a2 n2 p2,.slice a3 n3 p3,.slice a4 n4 p4,.int .i64 now]] w fun e w'=>e= .returned (.slice a2 n2 p2)/\Below w.heap.size w w':=by
 go_enter Tryz.func119,Tryz.ntmps119;go_wp2_with fail;go_ret;exact ⟨rfl,(ba _ _)⟩
theorem U0 (a0 a1 a2 a3 a4:Option Addr) (n0 n1 n2 n3 n4 p0 p1 p2 p3 p4:Nat) (now:Int) (w:World):Calls Tryz.prog 141 #[.agg #[.slice a0 n0 p0,.slice a1 n1 p1,.slice a2 n2 p2,.slice a3 n3 p3,.slice a4 n4 p4,.int .i64 now]] w fun e w'=>e= .returned (.slice a3 n3 p3)/\Below w.heap.size w w':=by
 go_enter Tryz.func141,Tryz.ntmps141;go_wp2_with fail;go_ret;exact ⟨rfl,(ba _ _)⟩
theorem Jz  {ss:List Z3} {gs:List Zt} (h:Vy w v ss) (h1:Xz w v1 gs):Calls Tryz.prog 177 #[v,v1] w fun e w'=>e= .returned (.bool (Tp ss gs.length))/\Below w.heap.size w w':=by
 have Hv:=Z9 h;obtain ⟨a,cap,rfl,_,_⟩:=IsRec.shape h;obtain ⟨ga,gc,rfl,_,_⟩:=IsRec.shape h1;clear h h1;obtain ⟨q1,hq1⟩:∃ q,XX Zs ss ss.length=q:=⟨_,rfl⟩
 obtain ⟨q2,hq2⟩:∃ q,XX (WL gs.length) ss ss.length=q:=⟨_,rfl⟩
 have H1:=Z9 hq1;have H2:=Z9 hq2;by_cases hl:ss.length<=12
 ·refine Calls.bool_of (q:=(q1 && q2)) ?_ (by unfold Tp;rw [hq1,hq2,decide_eq_true hl,Bool.true_and])
  have hl1:(ss.length:Int)<=12:=by omega
  clear hq1 hq2;have HW:=Z9 ((uh Hv).below ((Z1 _ _).alloc (Z2 _) (.cells #[.slice ga gs.length gc] 27)));go_enter Tryz.func177,Tryz.ntmps177;go_wp2_with fail;refine (Bs (uh HW)).mono ?_;rw [uh H1];rintro e w1 ⟨rfl,hb⟩;replace HW:=Z9 ((uh HW).below hb);have c0:w1.cell? ⟨w.heap.size,0,none⟩=some (.slice ga gs.length gc):=(hb.cell (p:=⟨w.heap.size,0,none⟩) (by simp)).trans (Ze _ rfl);have hlt:w.heap.size<w1.heap.size:=by have:=hb.size;simp at this;omega
  have Hb:=Z9 (((Z1 w.heap.size w).alloc (Z2 _) _).trans (hb.mono (by simp)));have HC:=Z9 c0;clear hb c0;cases q1
  ·go_wp2_with fail
   go_ret;exact ⟨rfl,uh Hb⟩
  go_wp2_with fail;refine (IQ (uh HW) (uh HC) hlt).mono ?_;rw [uh H2];rintro e w2 ⟨rfl,hb⟩;replace Hb:=Z9 ((uh Hb).trans (hb.mono (uh Hb).size));clear hb;go_wp2_with fail;go_ret;exact ⟨Z5 (by simp),uh Hb⟩
 ·refine Calls.bool_of (q:=false) ?_ (by unfold Tp;rw [decide_eq_false hl];rfl)
  have hl1:¬ ((ss.length:Int)<=12):=by omega
  clear hq1 hq2;go_enter Tryz.func177,Tryz.ntmps177;go_wp2_with fail;go_ret;exact ⟨rfl,(ba _ _)⟩
theorem FY  {ds:List XW} {n:Int} (h:UA w v ds) (hn:n<=1000):Calls Tryz.prog 178 #[v,.int .i64 n] w fun e w'=>e= .returned (.bool (QQ ds n))/\Below w.heap.size w w':=by
 have Hv:=Z9 h;obtain ⟨a,cap,rfl,_,_⟩:=IsRec.shape h;clear h;obtain ⟨q1,hq1⟩:∃ q,XX VB ds ds.length=q:=⟨_,rfl⟩
 obtain ⟨ws,hws⟩:∃ ws,ZO Vs ds ds.length=ws:=⟨_,rfl⟩
 have H1:=Z9 hq1;have H2:=Z9 hws;by_cases hl:(ds.length:Int)=n
 ·refine Calls.bool_of (q:=(q1 && decide (0<ws.length))) ?_ (by unfold QQ;rw [hq1,show ZO (fun d:XW=>d.1) ds ds.length=ws from hws,decide_eq_true hl,Bool.true_and])
  subst hl;have hl1:ds.length<=1000:=by omega
  clear hq1 hws;go_enter Tryz.func178,Tryz.ntmps178;go_wp2_with fail;refine (FB (uh Hv)).mono ?_;rw [uh H1];rintro e w1 ⟨rfl,hb⟩;replace Hv:=Z9 ((uh Hv).below hb);have Hb:=Z9 hb;clear hb;cases q1
  ·go_wp2_with fail
   go_ret;exact ⟨rfl,uh Hb⟩
  go_wp2_with fail;refine (QB (uh Hv) hl1).mono ?_;rw [uh H2];rintro e w2 ⟨v2,rfl,hn2,hb⟩;obtain ⟨la,lc,rfl⟩:=RecAt.shape hn2;replace Hb:=Z9 ((uh Hb).trans (hb.mono (uh Hb).size));clear hb hn2;go_wp2_with fail;go_ret;exact ⟨Z5 (by simp),uh Hb⟩
 ·refine Calls.bool_of (q:=false) ?_ (by unfold QQ;rw [decide_eq_false hl];rfl)
  have hl1:((ds.length:Int) ==n)=false:=by simpa using hl
  clear hq1 hws;go_enter Tryz.func178,Tryz.ntmps178;go_wp2_with fail;go_ret;exact ⟨rfl,Z1 _ _⟩
theorem EL {ps:List Int} {rs:List ZZ} {k:Nat} (hk:k<ps.length) (h:WR (ZN rs k).2.length (Z8 ps k)=false):Vh ps rs=false:=by
 unfold Vh;rw [P2 (p:=fun j=>WR (ZN rs j).2.length (Z8 ps j)) hk h,Bool.and_false]
theorem ME  {ps:List Int} {rs:List ZZ} (h:Ow w v ps) (h0:IsRooms w v0 rs):Calls Tryz.prog 180 #[v,v0] w fun e w'=>e= .returned (.bool (Vh ps rs))/\Below w.heap.size w w':=by
 obtain ⟨a,cap,rfl,hc,hm,hr⟩:=h;obtain ⟨a0,cap0,rfl,hc0,hm0,hr0⟩:=h0;have Hr:=Z9 hr;have Hr0:=Z9 hr0;clear hr hr0;by_cases hl:ps.length=rs.length
 ·have hl1:(ps.length:Int)=(rs.length:Int):=by omega
  have hbn:((ps.length:Int) !=(rs.length:Int))=false:=by simp [hl]
  have Hall:Hid ((List.range ps.length).all (fun j=>WR (ZN rs j).2.length (Z8 ps j))=true->Vh ps rs=true):=Z9 (fun e=>by unfold Vh;rw [e,decide_eq_true hl];rfl);have Hl:=Z9 hl;clear hl hl1;go_enter Tryz.func180,Tryz.ntmps180;go_wp2_with fail
  go_loopw [14] (fun i wr=> ∃ k:Nat,k<=ps.length/\i= .int .i64 k/\(List.range k).all (fun j=>WR (ZN rs j).2.length (Z8 ps j))=true/\Below w.heap.size w wr) (fun i _=>ps.length-(intOf i).toNat)
  case atStart=>exact ⟨0,Zz _,rfl,rfl,Z1 _ _⟩
  case round=>
   obtain ⟨k,hk,rfl,hst,hb0⟩:=hrel;have Hst:=Z9 hst;have BB:=Z9 hb0;by_cases hlt:k<ps.length
   ·have hlt1:(k:Int)<(ps.length:Int):=by omega
    have hlt2:(k:Int)<(rs.length:Int):=by have:=uh Hl;omega
    rcases uh Hr with e0 | ⟨b,off,rfl,hbw,hcl⟩
    ·rw [e0] at hlt;simp at hlt
    rcases uh Hr0 with e0 | ⟨b0,off0,rfl,hbw0,hcl0⟩
    ·rw [e0] at hlt2;simp at hlt2;omega
    have d0:=hcl k hlt 0 _ rfl;simp only [Nat.mul_one,Nat.add_zero] at d0;rw [<-hb0.cell (p:=⟨b,off+k,none⟩) hbw] at d0;obtain ⟨_,pv,g1,hpv⟩:=hcl0 k (by have:=uh Hl;omega);obtain ⟨pa,pc,rfl,_,_,_⟩:=hpv;rw [<-hb0.cell (p:=⟨b0,off0+k*2+1,none⟩) hbw0] at g1;have HU:=Z9 (fun (hh:WR (ZN rs k).2.length (Z8 ps k)=true)=>(show (List.range (k+1)).all (fun j=>WR (ZN rs j).2.length (Z8 ps j))=true from by rw [Tz,hst,hh];rfl));have HN:=Z9 (fun hh=>EL (rs:=rs) hlt hh);clear hcl hcl0 hst hb0;generalize Z8 ps k=x at *;generalize (ZN rs k).2.length=n at *;obtain ⟨q,hq⟩:∃ q,WR n x=q:=⟨_,rfl⟩
    have Hq:=Z9 hq;clear hq;go_wp2_with fail;refine (Gj pa n pc x _).mono ?_;rw [uh Hq];rintro e w1 ⟨rfl,h9⟩;subst w1;cases q
    ·go_wp2_with fail
     go_ret;exact ⟨Z5 (uh HN (uh Hq)).symm,uh BB⟩
    ·go_wp2_with fail
     go_roundw
     case rel=>exact ⟨k+1,by omega,by go_num,uh HU (uh Hq),uh BB⟩
     case measure=>exact ms
   ·obtain rfl:k=ps.length:=by omega
    go_wp2_with fail;go_ret;exact ⟨Z5 (uh Hall (uh Hst)).symm,uh BB⟩
 ·refine Calls.bool_of (q:=false) ?_ (by unfold Vh;rw [decide_eq_false hl];rfl)
  have hbn:((ps.length:Int) !=(rs.length:Int))=true:=by simp;omega
  go_enter Tryz.func180,Tryz.ntmps180;go_wp2_with fail;go_ret;exact ⟨rfl,Z1 _ _⟩
theorem Calls.same_below' {P:Program} {f:FuncId} {args:Array Value}  (h:Calls P f args w fun e w'=>e= .returned v/\w'=w):Calls P f args w fun e w'=>e= .returned v/\Below w.heap.size w w':=h.mono fun e w' ⟨he,hw⟩=>⟨he,by subst hw;exact Z1 _ _⟩
theorem Calls.int_of {P:Program} {f:FuncId} {args:Array Value} {q q':Int} (h:Calls P f args w fun e w'=>e= .returned (.int .i64 q)/\Below w.heap.size w w') (e:q=q'):Calls P f args w fun e w'=>e= .returned (.int .i64 q')/\Below w.heap.size w w':=by rw [<-e];exact h
theorem GY  (h:Smy w v0 v1 v2 v3 v4 m):Calls Tryz.prog 118 #[.agg #[v0,v1,v2,v3,v4,.int .i64 m.now]] w fun e w'=>e= .returned (.bool (PD m))/\Below w.heap.size w w':=by
 have Hv:=Z9 (h.alloc (.cells #[v0,v1,v2,v3,v4,.int .i64 m.now] 32));obtain ⟨a0,p0,a1,p1,a2,p2,a3,p3,a4,p4,rfl,rfl,rfl,rfl,rfl,_,_,_,_,_,_,_,_,_,_⟩:=h.five;clear h;obtain ⟨q1,hq1⟩:∃ q,Y0 m.rm=q:=⟨_,rfl⟩
 obtain ⟨q2,hq2⟩:∃ q,Zg m.gd=q:=⟨_,rfl⟩
 obtain ⟨q3,hq3⟩:∃ q,Tp m.sm m.gd.length=q:=⟨_,rfl⟩
 obtain ⟨q4,hq4⟩:∃ q,QQ m.dk (Wt m.rm)=q:=⟨_,rfl⟩
 obtain ⟨q5,hq5⟩:∃ q,Vh m.pc m.rm=q:=⟨_,rfl⟩
 obtain ⟨q6,hq6⟩:∃ q,inB m.now 0 1000000=q:=⟨_,rfl⟩
 refine Calls.bool_of (q:=(q1 && (q2 && (q3 && (q4 && (q5 && q6)))))) ?_ (by
  unfold PD;rw [hq2,hq3,hq5,hq6];cases q1
  ·rw [hq1];rfl
  ·rw [<-TZ hq1,hq4,hq1])
 have kb:Hid (Blk (w.alloc (.cells (S6 a0 p0 a1 p1 a2 p2 a3 p3 a4 p4 m) 32)) w.heap.size 32 (S6 a0 p0 a1 p1 a2 p2 a3 p3 a4 p4 m)):=Z9 (Blk.new w _ _);have BB:Hid (Below w.heap.size w (w.alloc (.cells (S6 a0 p0 a1 p1 a2 p2 a3 p3 a4 p4 m) 32))):=Z9 ((ba _ _))
 have hbv:Wt m.rm<=1000:=by
  cases hb:Y0 m.rm
  ·rw [P6 hb];omega
  ·rw [TZ hb];have:=(Zq hb).2.2.2;omega
 go_enter Tryz.func118,Tryz.ntmps118;go_wp2_with fail;generalize w.alloc (.cells (S6 a0 p0 a1 p1 a2 p2 a3 p3 a4 p4 m) 32)=W at *;have H1:=Z9 (fun (X:World) (hX:Below W.heap.size W X)=>Calls.bool_of (XB ((uh Hv).below hX).rm) hq1);have H2:=Z9 (fun (X:World) (hX:Below W.heap.size W X)=>Calls.bool_of (Wj ((uh Hv).below hX).gd) hq2);have H3:=Z9 (fun (X:World) (hX:Below W.heap.size W X)=>Calls.bool_of (Jz ((uh Hv).below hX).sm ((uh Hv).below hX).gd) hq3);have H4a:=Z9 (fun (X:World) (hX:Below W.heap.size W X)=>VG ((uh Hv).below hX).rm);have H4:=Z9 (fun (X:World) (hX:Below W.heap.size W X)=>Calls.bool_of (FY ((uh Hv).below hX).dk hbv) hq4);have H5:=Z9 (fun (X:World) (hX:Below W.heap.size W X)=>Calls.bool_of (ME ((uh Hv).below hX).pc ((uh Hv).below hX).rm) hq5);have H6:=Z9 (fun (X:World) (hX:Below W.heap.size W X)=>Calls.bool_of (Calls.same_below' (Zw 0 m.now 1000000 X)) hq6);clear hq1 hq2 hq3 hq4 hq5 hq6;generalize Wt m.rm=nb at *;obtain ⟨c0,c1,c2,c3,c4,c5⟩:=(uh kb).c6;have y0:=ZY c0;have y1:=ZY c1;have y2:=ZY c2;have y3:=ZY c3;have y4:=ZY c4;have y5:=ZY c5;cases q1
 ·go_wp2_with fail
  refine wq ?_
  repeat (go_big_quiet_step (first | exact ZX (uh H1 _ (Z0 _ _ _)) | exact ZX (uh H2 _ (Z0 _ _ _)) | exact ZX (uh H3 _ (Z0 _ _ _)) | exact ZX (uh H4a _ (Z0 _ _ _)) | exact ZX (uh H4 _ (Z0 _ _ _)) | exact ZX (uh H5 _ (Z0 _ _ _)) | exact ZX (uh H6 _ (Z0 _ _ _))))
  refine wpQuiet_nil ?_;intro _ hw';obtain ⟨⟨dq,osq⟩,hw''⟩:=hw';subst hw'';go_wp2_with fail;go_ret;exact ⟨rfl,(uh BB).trans ((Z0 _ _ _).mono (uh BB).size)⟩
 cases q2
 ·go_wp2_with fail
  refine wq ?_
  repeat (go_big_quiet_step (first | exact ZX (uh H1 _ (Z0 _ _ _)) | exact ZX (uh H2 _ (Z0 _ _ _)) | exact ZX (uh H3 _ (Z0 _ _ _)) | exact ZX (uh H4a _ (Z0 _ _ _)) | exact ZX (uh H4 _ (Z0 _ _ _)) | exact ZX (uh H5 _ (Z0 _ _ _)) | exact ZX (uh H6 _ (Z0 _ _ _))))
  refine wpQuiet_nil ?_;intro _ hw';obtain ⟨⟨dq,osq⟩,hw''⟩:=hw';subst hw'';go_wp2_with fail;go_ret;exact ⟨rfl,(uh BB).trans ((Z0 _ _ _).mono (uh BB).size)⟩
 cases q3
 ·go_wp2_with fail
  refine wq ?_
  repeat (go_big_quiet_step (first | exact ZX (uh H1 _ (Z0 _ _ _)) | exact ZX (uh H2 _ (Z0 _ _ _)) | exact ZX (uh H3 _ (Z0 _ _ _)) | exact ZX (uh H4a _ (Z0 _ _ _)) | exact ZX (uh H4 _ (Z0 _ _ _)) | exact ZX (uh H5 _ (Z0 _ _ _)) | exact ZX (uh H6 _ (Z0 _ _ _))))
  refine wpQuiet_nil ?_;intro _ hw';obtain ⟨⟨dq,osq⟩,hw''⟩:=hw';subst hw'';go_wp2_with fail;go_ret;exact ⟨rfl,(uh BB).trans ((Z0 _ _ _).mono (uh BB).size)⟩
 cases q4
 ·go_wp2_with fail
  refine wq ?_
  repeat (go_big_quiet_step (first | exact ZX (uh H1 _ (Z0 _ _ _)) | exact ZX (uh H2 _ (Z0 _ _ _)) | exact ZX (uh H3 _ (Z0 _ _ _)) | exact ZX (uh H4a _ (Z0 _ _ _)) | exact ZX (uh H4 _ (Z0 _ _ _)) | exact ZX (uh H5 _ (Z0 _ _ _)) | exact ZX (uh H6 _ (Z0 _ _ _))))
  refine wpQuiet_nil ?_;intro _ hw';obtain ⟨⟨dq,osq⟩,hw''⟩:=hw';subst hw'';go_wp2_with fail;go_ret;exact ⟨rfl,(uh BB).trans ((Z0 _ _ _).mono (uh BB).size)⟩
 cases q5
 ·go_wp2_with fail
  refine wq ?_
  repeat (go_big_quiet_step (first | exact ZX (uh H1 _ (Z0 _ _ _)) | exact ZX (uh H2 _ (Z0 _ _ _)) | exact ZX (uh H3 _ (Z0 _ _ _)) | exact ZX (uh H4a _ (Z0 _ _ _)) | exact ZX (uh H4 _ (Z0 _ _ _)) | exact ZX (uh H5 _ (Z0 _ _ _)) | exact ZX (uh H6 _ (Z0 _ _ _))))
  refine wpQuiet_nil ?_;intro _ hw';obtain ⟨⟨dq,osq⟩,hw''⟩:=hw';subst hw'';go_wp2_with fail;go_ret;exact ⟨rfl,(uh BB).trans ((Z0 _ _ _).mono (uh BB).size)⟩
 go_wp2_with fail;refine wq ?_
 repeat (go_big_quiet_step (first | exact ZX (uh H1 _ (Z0 _ _ _)) | exact ZX (uh H2 _ (Z0 _ _ _)) | exact ZX (uh H3 _ (Z0 _ _ _)) | exact ZX (uh H4a _ (Z0 _ _ _)) | exact ZX (uh H4 _ (Z0 _ _ _)) | exact ZX (uh H5 _ (Z0 _ _ _)) | exact ZX (uh H6 _ (Z0 _ _ _))))
 refine wpQuiet_nil ?_;intro _ hw';obtain ⟨⟨dq,osq⟩,hw''⟩:=hw';subst hw'';go_wp2_with fail;go_ret;exact ⟨Z5 (by simp),(uh BB).trans ((Z0 _ _ _).mono (uh BB).size)⟩
theorem Q7  (h:Smy w v0 v1 v2 v3 v4 m):Calls Tryz.prog 56 #[.agg #[v0,v1,v2,v3,v4,.int .i64 m.now]] w fun e w'=>e= .returned (.bool (VT m))/\Below w.heap.size w w':=by
 have Hv:=Z9 (h.alloc (.cells #[v0,v1,v2,v3,v4,.int .i64 m.now] 32));obtain ⟨a0,p0,a1,p1,a2,p2,a3,p3,a4,p4,rfl,rfl,rfl,rfl,rfl,_,_,_,_,_,_,_,_,_,_⟩:=h.five;clear h;obtain ⟨q1,hq1⟩:∃ q,PD m=q:=⟨_,rfl⟩
 obtain ⟨q2,hq2⟩:∃ q,XX (Wz m.dk) m.sm m.sm.length=q:=⟨_,rfl⟩
 refine Calls.bool_of (q:=(q1 && q2)) ?_ (by unfold VT;rw [hq1,hq2]);have H1:=Z9 hq1;have H2:=Z9 hq2;clear hq1 hq2;have kb:Hid (Blk (w.alloc (.cells (S6 a0 p0 a1 p1 a2 p2 a3 p3 a4 p4 m) 32)) w.heap.size 32 (S6 a0 p0 a1 p1 a2 p2 a3 p3 a4 p4 m)):=Z9 (Blk.new w _ _);have BB:Hid (Below w.heap.size w (w.alloc (.cells (S6 a0 p0 a1 p1 a2 p2 a3 p3 a4 p4 m) 32))):=Z9 ((ba _ _));go_enter Tryz.func56,Tryz.ntmps56;go_wp2_with fail;generalize w.alloc (.cells (S6 a0 p0 a1 p1 a2 p2 a3 p3 a4 p4 m) 32)=W at *;refine (GY (uh Hv)).mono ?_;rw [uh H1];rintro e w1 ⟨rfl,hb⟩;replace Hv:=Z9 ((uh Hv).below hb);replace kb:=bl kb hb;replace BB:=bt BB hb;clear hb;cases q1
 ·go_wp2_with fail
  go_ret;exact ⟨rfl,uh BB⟩
 obtain ⟨c0,c1,c2,c3,c4,c5⟩:=(uh kb).c6;go_wp2_with fail;refine ck (Wn _ _ _ _ _ _ _ _ _ _ _ _ _ _ _ _ _) fun w2 hb=> ?_;replace Hv:=Z9 ((uh Hv).below hb);replace kb:=bl kb hb;replace BB:=bt BB hb;clear hb c0 c1 c2 c3 c4 c5;go_wp2_with fail;refine (IP (uh Hv).sm ((uh kb).cell (i:=3) rfl) (uh kb).lt (uh Hv).dk).mono ?_;rw [uh H2];rintro e w3 ⟨rfl,hb⟩;replace BB:=bt BB hb;clear hb;go_wp2_with fail;go_ret;exact ⟨Z5 (by simp),uh BB⟩
theorem RU  (b:Int) (h:Smy w v0 v1 v2 v3 v4 m) (hl:m.sm.length<=1000):Calls Tryz.prog 183 #[.agg #[v0,v1,v2,v3,v4,.int .i64 m.now],.int .i64 b] w fun e w'=> ∃ v',e= .returned v'/\NumsAt w.heap.size w' v' (ZO (atB b) m.sm m.sm.length)/\Below w.heap.size w w':=by
 have Hv:=Z9 ((h.alloc (.cells #[v0,v1,v2,v3,v4,.int .i64 m.now] 32)).alloc (.cells #[.int .i64 b] 2));obtain ⟨a0,p0,a1,p1,a2,p2,a3,p3,a4,p4,rfl,rfl,rfl,rfl,rfl,_,_,_,_,_,_,_,_,_,_⟩:=h.five;clear h;have BB:Hid (Below w.heap.size w ((w.alloc (.cells (S6 a0 p0 a1 p1 a2 p2 a3 p3 a4 p4 m) 32)).alloc (.cells #[.int .i64 b] 2))):=Z9 (((ba _ _)).alloc (by simp) _)
 have kc:Hid (Blk ((w.alloc (.cells (S6 a0 p0 a1 p1 a2 p2 a3 p3 a4 p4 m) 32)).alloc (.cells #[.int .i64 b] 2)) (w.heap.size+1) 2 #[.int .i64 b]):=Z9 (by
  have k:=Blk.new (w.alloc (.cells (S6 a0 p0 a1 p1 a2 p2 a3 p3 a4 p4 m) 32)) 2 #[.int .i64 b];rw [Y8] at k
  exact k)
 go_enter Tryz.func183,Tryz.ntmps183;go_wp2_with fail;generalize (w.alloc (.cells (S6 a0 p0 a1 p1 a2 p2 a3 p3 a4 p4 m) 32)).alloc (.cells #[.int .i64 b] 2)=W at *;refine ck (Wn _ _ _ _ _ _ _ _ _ _ _ _ _ _ _ _ _) fun w2 hb=> ?_;replace Hv:=Z9 ((uh Hv).below hb);replace kc:=bl kc hb;replace BB:=bt BB hb;clear hb;go_wp2_with fail;refine (IF (uh Hv).sm hl ((uh kc).cell (i:=0) rfl) (uh kc).lt).mono ?_;rintro e w3 ⟨v',rfl,hn,hb⟩;have HN:=Z9 (RecAt.mono hn (uh BB).size);replace BB:=bt BB hb;obtain ⟨la,lc,rfl⟩:=RecAt.shape hn;clear hb hn;go_wp2_with fail;go_ret;exact ⟨_,rfl,uh HN,uh BB⟩
theorem Ni  (b:Int) (h:Smy w v0 v1 v2 v3 v4 m) (hl:m.sm.length<=1000):Calls Tryz.prog 184 #[.agg #[v0,v1,v2,v3,v4,.int .i64 m.now],.int .i64 b] w fun e w'=> ∃ v',e= .returned v'/\NumsAt w.heap.size w' v' (ZO (YX b) m.sm m.sm.length)/\Below w.heap.size w w':=by
 have Hv:=Z9 ((h.alloc (.cells #[v0,v1,v2,v3,v4,.int .i64 m.now] 32)).alloc (.cells #[.int .i64 b] 2));obtain ⟨a0,p0,a1,p1,a2,p2,a3,p3,a4,p4,rfl,rfl,rfl,rfl,rfl,_,_,_,_,_,_,_,_,_,_⟩:=h.five;clear h;have BB:Hid (Below w.heap.size w ((w.alloc (.cells (S6 a0 p0 a1 p1 a2 p2 a3 p3 a4 p4 m) 32)).alloc (.cells #[.int .i64 b] 2))):=Z9 (((ba _ _)).alloc (by simp) _)
 have kc:Hid (Blk ((w.alloc (.cells (S6 a0 p0 a1 p1 a2 p2 a3 p3 a4 p4 m) 32)).alloc (.cells #[.int .i64 b] 2)) (w.heap.size+1) 2 #[.int .i64 b]):=Z9 (by
  have k:=Blk.new (w.alloc (.cells (S6 a0 p0 a1 p1 a2 p2 a3 p3 a4 p4 m) 32)) 2 #[.int .i64 b];rw [Y8] at k
  exact k)
 go_enter Tryz.func184,Tryz.ntmps184;go_wp2_with fail;generalize (w.alloc (.cells (S6 a0 p0 a1 p1 a2 p2 a3 p3 a4 p4 m) 32)).alloc (.cells #[.int .i64 b] 2)=W at *;refine ck (Wn _ _ _ _ _ _ _ _ _ _ _ _ _ _ _ _ _) fun w2 hb=> ?_;replace Hv:=Z9 ((uh Hv).below hb);replace kc:=bl kc hb;replace BB:=bt BB hb;clear hb;go_wp2_with fail;refine (Nh (uh Hv).sm hl ((uh kc).cell (i:=0) rfl) (uh kc).lt).mono ?_;rintro e w3 ⟨v',rfl,hn,hb⟩;have HN:=Z9 (RecAt.mono hn (uh BB).size);replace BB:=bt BB hb;obtain ⟨la,lc,rfl⟩:=RecAt.shape hn;clear hb hn;go_wp2_with fail;go_ret;exact ⟨_,rfl,uh HN,uh BB⟩
theorem Fl  {b:Nat} (h:Smy w v0 v1 v2 v3 v4 m) (hl:m.sm.length<=1000) (hb0:b<m.dk.length):Calls Tryz.prog 123 #[.agg #[v0,v1,v2,v3,v4,.int .i64 m.now],.int .i64 (b:Int)] w fun e w'=>e= .returned (.bool (UX m b))/\Below w.heap.size w w':=by
 have Hv:=Z9 (h.alloc (.cells #[v0,v1,v2,v3,v4,.int .i64 m.now] 32));obtain ⟨a0,p0,rfl,_,_⟩:=IsRooms.shape h.rm;obtain ⟨a1,p1,rfl,_,_⟩:=IsRec.shape h.gd;obtain ⟨a2,p2,rfl,_,_⟩:=IsRec.shape h.sm;obtain ⟨a3,p3,rfl,hc3,hm3,r3⟩:=h.dk;obtain ⟨a4,p4,rfl,_,_⟩:=IsRec.shape h.pc;clear h
 rcases r3 with e0 | ⟨db,off,rfl,hbw,hcl⟩
 ·rw [e0] at hb0;simp at hb0
 obtain ⟨_,d1,_⟩:=Y2 hcl hb0;have hb1:(b:Int)<(m.dk.length:Int):=by omega
 have hT:UX m b=if (Z8 m.dk b).2.1= -1 then decide ((ZO (atB b) m.sm m.sm.length).length=0) else decide ((ZO (YX b) m.sm m.sm.length).length=1) && decide (Z8 (ZO (YX b) m.sm m.sm.length) 0=(Z8 m.dk b).2.1):=rfl
 have HT:=Z9 hT;clear hT hcl;generalize (Z8 m.dk b).2.1=who at *;have hne:db ≠ w.heap.size:=UZ hbw;obtain ⟨BB,kb⟩:=V9 w 32 #[.slice a0 m.rm.length p0,.slice a1 m.gd.length p1,.slice a2 m.sm.length p2,.slice (some ⟨db,off,none⟩) m.dk.length p3,.slice a4 m.pc.length p4,.int .i64 m.now];rw [<-(uh BB).cell (p:=⟨db,off+b*3+1,none⟩) hbw] at d1;by_cases hw:who= -1
 ·subst hw
  obtain ⟨ws,hws⟩:∃ ws,ZO (atB b) m.sm m.sm.length=ws:=⟨_,rfl⟩
  refine Calls.bool_of (q:=decide (ws.length=0)) ?_ (by rw [uh HT,if_pos rfl,hws]);have Hws:=Z9 hws;clear hws HT;go_enter Tryz.func123,Tryz.ntmps123;go_upto_region 3 with fail;generalize w.alloc (.cells #[.slice a0 m.rm.length p0,.slice a1 m.gd.length p1,.slice a2 m.sm.length p2,.slice (some ⟨db,off,none⟩) m.dk.length p3,.slice a4 m.pc.length p4,.int .i64 m.now] 32)=W at *;obtain ⟨c0,c1,c2,c3,c4,c5⟩:=(uh kb).c6;go_wp2_with fail;refine (RU (b:Int) (uh Hv) hl).mono ?_;rw [uh Hws];rintro e w2 ⟨v',rfl,hn,hb⟩;obtain ⟨la,lc,rfl⟩:=RecAt.shape hn;replace BB:=bt BB hb;clear hb hn c0 c1 c2 c3 c4 c5;go_wp2_with fail;go_ret;exact ⟨Z5 (by rw [Bool.eq_iff_iff];simp only [beq_iff_eq,YZ];omega),uh BB⟩
 have nw:(who == -1)=false:=by simpa using hw
 obtain ⟨ws,hws⟩:∃ ws,ZO (YX b) m.sm m.sm.length=ws:=⟨_,rfl⟩
 refine Calls.bool_of (q:=decide (ws.length=1) && decide (Z8 ws 0=who)) ?_ (by rw [uh HT,if_neg hw,hws]);have Hws:=Z9 hws;clear hws HT;go_enter Tryz.func123,Tryz.ntmps123;go_upto_region 3 with fail;generalize w.alloc (.cells #[.slice a0 m.rm.length p0,.slice a1 m.gd.length p1,.slice a2 m.sm.length p2,.slice (some ⟨db,off,none⟩) m.dk.length p3,.slice a4 m.pc.length p4,.int .i64 m.now] 32)=W at *;obtain ⟨c0,c1,c2,c3,c4,c5⟩:=(uh kb).c6;go_wp2_with fail;refine (Ni (b:Int) (uh Hv) hl).mono ?_;rw [uh Hws];rintro e w2 ⟨v',rfl,hn,hb⟩;obtain ⟨la,lc,rfl⟩:=RecAt.shape hn;replace BB:=bt BB hb;have HN:=Z9 hn;clear hb hn c0 c1 c2 c3 c4 c5;by_cases h1:ws.length=1
 ·obtain ⟨g,hga,_,_,hcl,_⟩:=RecAt.view YC (by omega) (uh HN) rfl (by omega)
  cases hga;have z0:=hcl 0 (by omega) 0 _ rfl;simp only [Nat.zero_mul,Nat.add_zero] at z0;have hl1:((ws.length:Int) ==1)=true:=by simp;omega
  clear hcl;have h01:(0:Int)<(ws.length:Int):=by omega
  obtain ⟨z,hz⟩:∃ z,Z8 ws 0=z:=⟨_,rfl⟩
  rw [hz] at z0;have Hz:=Z9 hz;clear hz;go_wp2_with fail;go_ret;exact ⟨Z5 (by rw [uh Hz,decide_eq_true h1,Bool.eq_iff_iff];simp only [Bool.true_and,beq_iff_eq,YZ]),uh BB⟩
 ·have hl1:((ws.length:Int) ==1)=false:=by simp;omega
  go_wp2_with fail;go_ret;exact ⟨Z5 (by rw [decide_eq_false h1];rfl),uh BB⟩
theorem Ix  (h:Smy w v0 v1 v2 v3 v4 m) (hl:m.sm.length<=1000):Calls Tryz.prog 57 #[.agg #[v0,v1,v2,v3,v4,.int .i64 m.now]] w fun e w'=>e= .returned (.bool (PU m))/\Below w.heap.size w w':=by
 have Hv:=Z9 (h.alloc (.cells #[v0,v1,v2,v3,v4,.int .i64 m.now] 32));obtain ⟨a0,p0,a1,p1,a2,p2,a3,p3,a4,p4,rfl,rfl,rfl,rfl,rfl,_,_,_,_,_,_,_,_,_,_⟩:=h.five;clear h;obtain ⟨BB0,kb0⟩:=V9 w 32 (S6 a0 p0 a1 p1 a2 p2 a3 p3 a4 p4 m);go_enter Tryz.func57,Tryz.ntmps57;go_wp2_with fail
 go_loopw [7] (fun i wr=> ∃ k:Nat,k<=m.dk.length/\i= .int .i64 k/\(List.range k).all (UX m)=true/\Smy wr (.slice a0 m.rm.length p0) (.slice a1 m.gd.length p1) (.slice a2 m.sm.length p2) (.slice a3 m.dk.length p3) (.slice a4 m.pc.length p4) m/\Blk wr w.heap.size 32 (S6 a0 p0 a1 p1 a2 p2 a3 p3 a4 p4 m)/\Below w.heap.size w wr) (fun i _=>m.dk.length-(intOf i).toNat)
 case atStart=>exact ⟨0,Zz _,rfl,rfl,uh Hv,uh kb0,uh BB0⟩
 case round=>
  obtain ⟨k,hk,rfl,hst,hv,hkb,hb0⟩:=hrel;have Hst:=Z9 hst;have Hv1:=Z9 hv;have kb:=Z9 hkb;have BB:=Z9 hb0;clear hv hkb hb0 kb0 BB0 Hv;by_cases hlt:k<m.dk.length
  ·have hlt1:(k:Int)<(m.dk.length:Int):=by omega
   have HU:=Z9 (fun (hh:UX m k=true)=>(show (List.range (k+1)).all (UX m)=true from by rw [Tz,hst,hh];rfl));have HN:=Z9 (fun hh=>(show PU m=false from P2 (p:=UX m) hlt hh));clear hst;obtain ⟨q,hq⟩:∃ q,UX m k=q:=⟨_,rfl⟩
   have Hq:=Z9 hq;clear hq;obtain ⟨c0,c1,c2,c3,c4,c5⟩:=(uh kb).c6;go_wp2_with fail;refine (Fl (uh Hv1) hl hlt).mono ?_;rw [uh Hq];rintro e w1 ⟨rfl,hb⟩;replace Hv1:=Z9 ((uh Hv1).below hb);replace kb:=bl kb hb;replace BB:=bt BB hb;clear hb c0 c1 c2 c3 c4 c5;cases q
   ·go_wp2_with fail
    go_ret;exact ⟨Z5 (uh HN (uh Hq)).symm,uh BB⟩
   ·go_wp2_with fail
    go_roundw
    case rel=>exact ⟨k+1,by omega,by go_num,uh HU (uh Hq),uh Hv1,uh kb,uh BB⟩
    case measure=>exact ms
  ·obtain rfl:k=m.dk.length:=by omega
   go_wp2_with fail;go_ret;exact ⟨Z5 (uh Hst).symm,uh BB⟩
theorem Cr (h:VT m=true):m.sm.length<=12:=by
 rw [Qc] at h;unfold Yy YG at h;simp only [ZL,YZ] at h;exact h.1.2.2.1
theorem OL  (h:Smy w v0 v1 v2 v3 v4 m):Calls Tryz.prog 13 #[.agg #[v0,v1,v2,v3,v4,.int .i64 m.now]] w fun e w'=>e= .returned (.bool (ZF m))/\Below w.heap.size w w':=by
 have Hv:=Z9 (h.alloc (.cells #[v0,v1,v2,v3,v4,.int .i64 m.now] 32));obtain ⟨a0,p0,a1,p1,a2,p2,a3,p3,a4,p4,rfl,rfl,rfl,rfl,rfl,_,_,_,_,_,_,_,_,_,_⟩:=h.five;clear h;obtain ⟨q1,hq1⟩:∃ q,VT m=q:=⟨_,rfl⟩
 obtain ⟨q2,hq2⟩:∃ q,PU m=q:=⟨_,rfl⟩
 refine Calls.bool_of (q:=(q1 && q2)) ?_ (by rw [<-A4];unfold A3;rw [hq1,hq2]);have H1:=Z9 hq1;have H2:=Z9 hq2;clear hq1 hq2;have kb:Hid (Blk (w.alloc (.cells (S6 a0 p0 a1 p1 a2 p2 a3 p3 a4 p4 m) 32)) w.heap.size 32 (S6 a0 p0 a1 p1 a2 p2 a3 p3 a4 p4 m)):=Z9 (Blk.new w _ _);have BB:Hid (Below w.heap.size w (w.alloc (.cells (S6 a0 p0 a1 p1 a2 p2 a3 p3 a4 p4 m) 32))):=Z9 ((ba _ _));go_enter Tryz.func13,Tryz.ntmps13;go_wp2_with fail;generalize w.alloc (.cells (S6 a0 p0 a1 p1 a2 p2 a3 p3 a4 p4 m) 32)=W at *;refine (Q7 (uh Hv)).mono ?_;rw [uh H1];rintro e w1 ⟨rfl,hb⟩;replace Hv:=Z9 ((uh Hv).below hb);replace kb:=bl kb hb;replace BB:=bt BB hb;clear hb;cases q1
 ·go_wp2_with fail
  go_ret;exact ⟨rfl,uh BB⟩
 obtain ⟨c0,c1,c2,c3,c4,c5⟩:=(uh kb).c6;go_wp2_with fail;refine (Ix (uh Hv) (by have:=Cr (uh H1);omega)).mono ?_;rw [uh H2];rintro e w2 ⟨rfl,hb⟩;replace BB:=bt BB hb;clear hb c0 c1 c2 c3 c4 c5;go_wp2_with fail;go_ret;exact ⟨Z5 (by simp),uh BB⟩
theorem Uc (w:World) (v0 v1 v2 v3 v4:Value) (m:Z6) (q:Bool) (hq:ZF m=q) (h:Smy w v0 v1 v2 v3 v4 m):Calls Tryz.prog 13 #[.agg #[v0,v1,v2,v3,v4,.int .i64 m.now]] w fun e w'=>e= .returned (.bool q)/\Below w.heap.size w w':=Calls.bool_of (OL h) hq
end Go.Proofs.YtamgfpdahadnfaaGreatDoor
