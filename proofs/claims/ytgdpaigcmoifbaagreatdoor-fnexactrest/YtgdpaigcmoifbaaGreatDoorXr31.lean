/- Part 31 of what the proof rests on. No condition but those that a theorem names. -/
import Derived.Test.YtgdpaigcmoifbaaGreatDoorXr24
import Derived.Test.YtgdpaigcmoifbaaGreatDoorXr25
import Derived.Test.YtgdpaigcmoifbaaGreatDoorXr27
namespace Go.Proofs.YtgdpaigcmoifbaaGreatDoor
open Go.ChangeShapes Go.WideShapes Go.ChangeAt Go.RowKit Go.Sort
set_option linter.unusedVariables false
variable {m : Z3}
def VL (m X:Z3) (c:Int):Z3 × Int:=if Zl m then (if c=0 then (Zp X,0) else (m,c)) else (Xa,3)
theorem SX (h:Zl m=false) (X:Z3) (c:Int):VL m X c=(Xa,3):=by unfold VL;rw [h];rfl
theorem SY (h:Zl m=true) (X:Z3):VL m X 0=(Zp X,0):=by unfold VL;rw [h];rfl
theorem Wt (h:Zl m=true) (X:Z3) {c:Int} (hc:c ≠ 0):VL m X c=(m,c):=by unfold VL;rw [h,if_pos rfl,if_neg hc]
theorem SM (h:Loose m):Zp m=Zs m:=by unfold Zp;rw [h.mk',if_pos rfl]
theorem Nc (ss:List ZZ) {s:ZZ} (hp:ZM s=false) (b:Int):∀ k,k<=ss.length->YN (ss++[s]) b k=YN ss b k
 | 0,_=>rfl
 | k+1,h=>by
  have ih:=Nc ss hp b k (by omega);have e:Z8 (ss++[s]) k=Z8 ss k:=by rw [XL,if_neg (by omega)]
  show (match YN (ss++[s]) b k with | none=>none | some (wk,wt)=>_)=_;rw [ih,e];rfl
theorem IG (h:Zl m=true) {s:ZZ} (hl:m.sm.length<12) (h1:Ym m s=true) (hp:ZM s=false):Zl (pushS m s)=true:=by
 have hlo:=(Za h).pushS hl h1 (SL hp);unfold Zl at h ⊢;simp only [ZJ] at h ⊢;refine ⟨hlo.mk',List.all_eq_true.2 fun b hb=> ?_⟩;have hb:=List.mem_range.1 hb;have hk:=List.all_eq_true.1 h.2 b (List.mem_range.2 hb);unfold Yz at hk ⊢
 have e:YN (pushS m s).sm (b:Int) (pushS m s).sm.length=YN m.sm (b:Int) m.sm.length:=by
  show YN (m.sm++[s]) (b:Int) (m.sm++[s]).length=_;rw [List.length_append,List.length_singleton];show (match YN (m.sm++[s]) (b:Int) m.sm.length with | none=>none | some (wk,wt)=>_)=_;rw [Nc m.sm hp _ _ (Nat.le_refl _),XL,if_pos rfl,hp];cases YN m.sm (b:Int) m.sm.length with
  | none=>rfl
  | some p=>obtain ⟨wk,wt⟩:=p;simp
 rw [e];exact hk
def TJ (m:Z3) (who:Int):Int:=if Xd m who then (if (Z8 m.sm who.toNat).1=1 then 2 else 0) else 1
def Qo (m:Z3) (who:Int):Z3:=setS m who.toNat (stS (Z8 m.sm who.toNat) 1)
theorem EO (h:Loose m) {k:Nat} (hk:k<m.sm.length) (hs:(Z8 m.sm k).1 ≠ 0):ZM (Z8 m.sm k)= !decide ((Z8 m.sm k).1=1):=by
 obtain ⟨p,_,_⟩:=h.limits hk hs;obtain ⟨⟨st,be,rk,my,gu,lo,hi,hd,ca,ut,wk⟩,hrk⟩:=ZI (Z8 m.sm k);rw [hrk] at p hs ⊢;obtain ⟨⟨x0,x1⟩,_⟩:=Xu p;unfold ZM;show (st ==2 || st ==3)= !decide (st=1);have hs':st ≠ 0:=hs
 rcases (by omega:st=1\/st=2\/st=3) with e | e | e<;>subst e<;>rfl
theorem Dx (m:Z3) (who:Int):Xf m who=VL m (Qo m who) (TJ m who):=by
 cases h:Zl m
 ·rw [SX h];unfold Xf;rw [h];rfl
 unfold Xf TJ;rw [h];simp only [if_true];by_cases hw:Xd m who=true;rotate_left
 ·rw [if_neg hw,if_neg hw,Wt h _ (by omega)]
 rw [if_pos hw,if_pos hw];obtain ⟨k,rfl,hk,hs⟩:=Xn hw;rw [Zm];have hp:=EO (Za h) hk hs;by_cases e:(Z8 m.sm k).1=1
 ·rw [decide_eq_true e] at hp
  rw [if_pos e,hp,Wt h _ (by omega)];rfl
 ·rw [decide_eq_false e] at hp
  rw [if_neg e,hp,SY h];have hl:=MS (Za h) hk hp;unfold Qo;rw [Zm,SM hl];rfl
def UT (m:Z3) (who:Int):Int:=if Xd m who then 0 else 1
def Th (m:Z3) (who:Int):Z3:=setS m who.toNat TF
theorem Ei (m:Z3) (who:Int):Ye m who=VL m (Th m who) (UT m who):=by
 cases h:Zl m
 ·rw [SX h];unfold Ye;rw [h];rfl
 unfold Ye UT;rw [h];simp only [if_true];by_cases hw:Xd m who=true;rotate_left
 ·rw [if_neg hw,if_neg hw,Wt h _ (by omega)]
 rw [if_pos hw,if_pos hw,SY h];obtain ⟨k,rfl,hk,hs⟩:=Xn hw;unfold Th;rw [Zm,SM (OJ (Za h) hk)]
def VO (m:Z3) (who:Int):Int:=if Xd m who then (if (Z8 m.sm who.toNat).1=1 then (if ZA m who= -1 then 2 else (if Yl (WG m (Z8 m.sm who.toNat) (ZA m who)) (XX m (ZA m who)) then 0 else 4)) else 2) else 1
theorem Pu (h:Loose m) {k b:Nat} (hk:k<m.sm.length) (hs:(Z8 m.sm k).1 ≠ 0) (hb:b<m.dk.length) (hm:Yi m (k:Int) b=true):Y2 (W7 m k (b:Int))=Yl (WG m (Z8 m.sm k) (b:Int)) (XX m (b:Int)):=by
 have hmk:XX m (b:Int)=(Z8 m.dk b).2.2:=by unfold XX;rw [Zm]
 have hbx:(Z8 m.dk ((b:Int)).toNat)=Z8 m.dk b:=by rw [Zm]
 obtain ⟨hp,hg,hbe⟩:=h.limits hk hs
 have hat:Z8 (W7 m k (b:Int)).sm k=R1 (Z8 m.sm k) (b:Int) (WG m (Z8 m.sm k) (b:Int)):=by
  unfold W7 setS;rw [ZC hk,if_pos rfl]
 have hlen:k<(W7 m k (b:Int)).sm.length:=by unfold W7 setS;simpa using hk
 unfold Yi at hm;simp only [ZJ,Zm] at hm;cases hx:Yl (WG m (Z8 m.sm k) (b:Int)) (XX m (b:Int))
 ·cases hy:Y2 (W7 m k (b:Int))
  ·rfl
  ·exfalso
   have:=(Tj hy).at hlen (by rw [hat];rfl);rw [hat] at this;have h5:=this.2.2.2.2;have h6:Yl (WG m (Z8 m.sm k) (b:Int)) (Z8 m.dk ((b:Int)).toNat).2.2=true:=h5;rw [hbx,<-hmk,hx] at h6;cases h6
 ·have hin:=hx
  unfold Yl at hin;simp only [ZJ] at hin;have hhad:=ZO hin.1;refine (h.setS hk ?_ ?_).mk'
  ·refine Vj.2 (.inr ⟨?_,hg,?_⟩)
   ·obtain ⟨⟨st,be,rk,my,gu,lo,hi,hd,ca,ut,wk⟩,hrk⟩:=ZI (Z8 m.sm k)
    rw [hrk] at hp hhad ⊢;obtain ⟨x0,x1,x2,x3,x4,x5,x6,x7,x8,x9⟩:=Xu hp;have h8:=Qz h;exact O7 (by omega) (by omega) x2 x3 x4 x5 hhad x7 x8 x9
   ·show (b:Int)<(m.dk.length:Int)
    omega
  ·refine Mp ?_ ?_ ?_
   ·show (Z8 m.dk ((b:Int)).toNat).1=true
    rw [hbx];exact hm.1
   ·exact hm.2
   ·show Yl (WG m (Z8 m.sm k) (b:Int)) (Z8 m.dk ((b:Int)).toNat).2.2=true
    rw [hbx,<-hmk];exact hx
theorem DK (m:Z3) (who:Int):Xz m who=VL m (W7 m who.toNat (ZA m who)) (VO m who):=by
 cases h:Zl m
 ·rw [SX h];unfold Xz;rw [h];rfl
 have hlo:=Za h;unfold Xz VO;rw [h];simp only [if_true];by_cases hw:Xd m who=true;rotate_left
 ·rw [if_neg hw,if_neg hw,Wt h _ (by omega)]
 have hch:ZA m who=YL m who:=by unfold ZA;rw [h,hw];rfl
 rw [if_pos hw,if_pos hw,hch];by_cases e:(Z8 m.sm who.toNat).1=1;rotate_left
 ·rw [if_neg e,if_neg e,Wt h _ (by omega)]
 rw [if_pos e,if_pos e];obtain ⟨k,rfl,hk,hs⟩:=Xn hw;rw [Zm]
 rcases Wj m (k:Int) with ⟨ec,_⟩ | ⟨b,hb,ec,hm⟩
 ·have h1:(-1:Int)<0:=by omega
  rw [ec,if_pos h1,if_pos rfl,Wt h _ (by omega)]
 ·have h1:¬ (b:Int)<0:=by omega
  have h2:¬ (b:Int)= -1:=by omega
  rw [ec,if_neg h1,if_neg h2,Pu hlo hk hs hb hm];cases hx:Yl (WG m (Z8 m.sm k) (b:Int)) (XX m (b:Int))
  ·rw [if_neg (by simp),if_neg (by simp),Wt h _ (by omega)]
  ·rw [if_pos rfl,if_pos rfl,SY h,SM (Tj (by rw [Pu hlo hk hs hb hm,hx]))]
def UZ (m:Z3) (rank may guild:Int):Int:=if Zi (ZE rank may guild) && decide (guild<m.gd.length) then (if 12<=m.sm.length then 4 else (if ZA (pushS m (ZE rank may guild)) (m.sm.length:Int)= -1 then 2 else 0)) else 3
def P9 (m:Z3) (rank may guild:Int):Z3:=setS (pushS m (ZE rank may guild)) m.sm.length (R1 (ZE rank may guild) (ZA (pushS m (ZE rank may guild)) (m.sm.length:Int)) (XX m (ZA (pushS m (ZE rank may guild)) (m.sm.length:Int))))
theorem MI (h:Zl m=true) {rank may guild:Int} (hs:Zi (ZE rank may guild)=true) (hg:guild<m.gd.length) (hl:m.sm.length<12):Zl (pushS m (ZE rank may guild))=true/\ZA (pushS m (ZE rank may guild)) (m.sm.length:Int)=TH m (ZE rank may guild):=by
 obtain ⟨j,hj,_⟩:=(Za h).openD;have hr:=IG h hl (Vj.2 (.inr ⟨Tn hs,hg,by show (0:Int)<_;omega⟩)) (s:=ZE rank may guild) rfl;refine ⟨hr,?_⟩;unfold ZA TH;rw [hr]
 have hat:Z8 (pushS m (ZE rank may guild)).sm m.sm.length=ZE rank may guild:=by
  show Z8 (m.sm++[ZE rank may guild]) m.sm.length=_;rw [XL,if_pos rfl]
 have hw:Xd (pushS m (ZE rank may guild)) (m.sm.length:Int)=true:=by
  unfold Xd;rw [Zm,hat,Zf (by omega) (by show (m.sm.length:Int)<=((m.sm++[ZE rank may guild]).length:Int)-1;simp)];rfl
 rw [hw];rfl
theorem Dj (m:Z3) (rank may guild:Int):Xy m rank may guild=VL m (P9 m rank may guild) (UZ m rank may guild):=by
 cases h:Zl m
 ·rw [SX h];unfold Xy;rw [h];rfl
 have hlo:=Za h;have h12:=Wq hlo;have hr:=Of h rank may guild;unfold Xy at hr ⊢;unfold UZ;rw [h] at hr ⊢;simp only [if_true] at hr ⊢;by_cases hs:(Zi (ZE rank may guild) && decide (guild<(m.gd.length:Int)))=true;rotate_left
 ·rw [if_neg hs,if_neg hs,Wt h _ (by omega)]
 rw [if_pos hs] at hr ⊢;rw [if_pos hs];simp only [ZJ,Yg] at hs;by_cases hl:m.sm.length=12
 ·have hl9:12<=m.sm.length:=by omega
  rw [if_pos hl,if_pos hl9,Wt h _ (by omega)]
 rw [if_neg hl] at hr ⊢;obtain ⟨_,hc⟩:=MI h hs.1 hs.2 (by omega);unfold P9;have hl9:¬ 12<=m.sm.length:=by omega
 rw [if_neg hl9,hc]
 rcases Wj (pushS m (ZE rank may guild)) (m.sm.length:Int) with ⟨e,_⟩ | ⟨b,hb,e,hm⟩
 ·have e':TH m (ZE rank may guild)= -1:=e
  have h1:(-1:Int)<0:=by omega
  rw [e',if_pos h1,if_pos rfl,Wt h _ (by omega)]
 ·have e':TH m (ZE rank may guild)=(b:Int):=e
  have h1:¬ (b:Int)<0:=by omega
  have h2:¬ (b:Int)= -1:=by omega
  rw [e',if_neg h1,if_neg h2,SY h];rw [SM];have hbd:b<m.dk.length:=hb;have hpl:m.sm.length<(pushS m (ZE rank may guild)).sm.length:=by show _<(m.sm++[_]).length;simp
  rcases O0 hlo hs.1 hs.2 with hx | hx
  rotate_left
  ·omega
  have hat:Z8 (pushS m (ZE rank may guild)).sm m.sm.length=ZE rank may guild:=by
   show Z8 (m.sm++[ZE rank may guild]) m.sm.length=_;rw [XL,if_pos rfl]
  unfold Yi at hm;simp only [ZJ,Zm] at hm;rw [hat] at hm;have hbx:(Z8 m.dk ((b:Int)).toNat)=Z8 m.dk b:=by rw [Zm]
  have hmk:XX m (b:Int)=(Z8 m.dk b).2.2:=by unfold XX;rw [hbx]
  have hband:=MX hlo hbd;have h8:=Qz hlo;refine hx.setS hpl ?_ ?_
  ·refine Vj.2 (.inr ⟨?_,hs.2,by show (b:Int)<(m.dk.length:Int);omega⟩)
   obtain ⟨x0,x1,x2,x3,x4,x5,x6,x7,x8,x9⟩:=Xu (Tn hs.1);have hin:=hband;unfold Yl at hin;simp only [ZJ] at hin;exact O7 (by omega) (by omega) x2 x3 x4 x5 (ZO hin.1) x7 x8 x9
  ·refine Mp ?_ ?_ ?_
   ·show (Z8 m.dk ((b:Int)).toNat).1=true
    rw [hbx];exact hm.1
   ·exact hm.2
   ·show Yl (XX m (b:Int)) (Z8 m.dk ((b:Int)).toNat).2.2=true
    rw [hbx];exact hband
end Go.Proofs.YtgdpaigcmoifbaaGreatDoor
