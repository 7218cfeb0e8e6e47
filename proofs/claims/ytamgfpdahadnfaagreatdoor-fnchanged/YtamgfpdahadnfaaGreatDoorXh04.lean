/- Part 4 of what the proof rests on. No condition but those that a theorem names. -/
import Derived.Test.YtamgfpdahadnfaaGreatDoorXh03
import Derived.WalkMore
set_option maxHeartbeats 8000000
set_option maxRecDepth 100000
namespace Go.Proofs.YtamgfpdahadnfaaGreatDoor
open Go.ChangeShapes Go.WideShapes Go.ChangeAt Go.RowKit Go.Sort
set_option linter.unusedVariables false
variable {w w' w0 w1 w2 w3 w₀ wr W W' X A B C : World} {v v0 v1 v2 v3 v4 u u0 u1 u2 u3 u4 : Value} {m : Z6}
def stS (s:Z3) (st:Int):Z3:=(st,s.2)
def ZD (ss:List Z3) (q:List Z4):List Z3:=q.foldl (fun ss e=>ss.set e.2.toNat (stS (Z8 ss e.2.toNat) 2)) ss
theorem PX (ss:List Z3) (q:List Z4) (e:Z4):ZD ss (q++[e])=(ZD ss q).set e.2.toNat (stS (Z8 (ZD ss q) e.2.toNat) 2):=by
  unfold ZD;rw [List.foldl_append];rfl
theorem XC (q:List Z4):∀ ss:List Z3,(ZD ss q).length=ss.length:=by
  induction q with
  | nil=>intro ss;rfl
  | cons e q ih=>intro ss;show (ZD (ss.set e.2.toNat (stS (Z8 ss e.2.toNat) 2)) q).length=_;rw [ih,V7]
theorem Qq (q:List Z4):∀ (ss:List Z3) (i:Nat),(∀ e ∈ q,0<=e.2/\e.2<ss.length)->((∃ e ∈ q,e.2=(i:Int))->Z8 (ZD ss q) i=stS (Z8 ss i) 2)/\((∀ e ∈ q,e.2 ≠ (i:Int))->Z8 (ZD ss q) i=Z8 ss i):=by
  induction q with
  | nil=>
    intro ss i h;exact ⟨fun ⟨e,he,_⟩=>(List.not_mem_nil he).elim,fun _=>rfl⟩
  | cons e q ih=>
    intro ss i h;obtain ⟨e0,e1⟩:=h e (by simp);have hs:=ZJ (x:=stS (Z8 ss e.2.toNat) 2) (show e.2.toNat<ss.length by omega) i;obtain ⟨i1,i2⟩:=ih (ss.set e.2.toNat (stS (Z8 ss e.2.toNat) 2)) i (fun x hx=>by rw [V7];exact h x (List.mem_cons_of_mem _ hx));show ((∃ x ∈ e::q,x.2=(i:Int))->Z8 (ZD (ss.set e.2.toNat (stS (Z8 ss e.2.toNat) 2)) q) i=_)/\((∀ x ∈ e::q,x.2 ≠ (i:Int))->Z8 (ZD (ss.set e.2.toNat (stS (Z8 ss e.2.toNat) 2)) q) i=_)
    constructor
    · rintro ⟨x,hx,hxi⟩
      by_cases hq:∃ y ∈ q,y.2=(i:Int)
      · rw [i1 hq,hs]
        split
        · rename_i he;rw [he];rfl
        · rfl
      · rw [i2 (fun y hy e=>hq ⟨y,hy,e⟩),hs]
        rcases List.mem_cons.1 hx with rfl | hx
        · rw [if_pos (by omega)]
          rw [show x.2.toNat=i by omega]
        · exact absurd ⟨x,hx,hxi⟩ hq
    · intro hn
      rw [i2 (fun y hy=>hn y (List.mem_cons_of_mem _ hy)),hs,if_neg];have:=hn e (by simp);omega
def WH (ss:List Z3) (b:Int) (d:XQ):XQ:=match atV ss b ss.length with
  | []=>(d.1,-1,d.2.2)
  | e::_=>(d.1,e.2,Zv d.2.2 e.1)
def Xe (m:Z6) (b:Nat):Z6:=match atV m.sm b m.sm.length with
  | []=>{ m with dk:=m.dk.set b ((Z8 m.dk b).1,-1,(Z8 m.dk b).2.2) }
  | e::t=>{ m with sm:=(ZD m.sm (e::t)).set e.2.toNat (stS (Z8 (ZD m.sm (e::t)) e.2.toNat) 3),dk:=m.dk.set b ((Z8 m.dk b).1,e.2,Zv (Z8 m.dk b).2.2 e.1) }
def Zj (m:Z6):Nat->Z6
  | 0=>m
  | k+1=>Xe (Zj m k) k
def ZN (m:Z6):Z6:=Zj m m.dk.length
theorem Fg (m:Z6) (b:Nat):(Xe m b).rm=m.rm/\(Xe m b).gd=m.gd/\(Xe m b).pc=m.pc/\(Xe m b).now=m.now/\(Xe m b).sm.length=m.sm.length/\(Xe m b).dk.length=m.dk.length:=by
  unfold Xe
  split
  · simp
  · simp [XC]
theorem ZG (m:Z6):∀ k,(Zj m k).rm=m.rm/\(Zj m k).gd=m.gd/\(Zj m k).pc=m.pc/\(Zj m k).now=m.now/\(Zj m k).sm.length=m.sm.length/\(Zj m k).dk.length=m.dk.length
  | 0=>⟨rfl,rfl,rfl,rfl,rfl,rfl⟩
  | k+1=>by
    obtain ⟨h1,h2,h3,h4,h5,h6⟩:=ZG m k;obtain ⟨g1,g2,g3,g4,g5,g6⟩:=Fg (Zj m k) k;exact ⟨g1.trans h1,g2.trans h2,g3.trans h3,g4.trans h4,g5.trans h5,g6.trans h6⟩
theorem Oj (m : Z6) (b : Nat) {i : Nat} (hi : i < m.sm.length) : Z8 (Xe m b).sm i = if (Z8 m.sm i).2.1 = (b : Int) ∧ ZL (Z8 m.sm i) = true then stS (Z8 m.sm i) (if WW m.sm b = (i : Int) then 3 else 2) else Z8 m.sm i := by
  have hq := XF m.sm (b : Int)
  have hf : WW m.sm (b : Int) = match atV m.sm (b : Int) m.sm.length with
    | [] => -1
    | h :: _ => h.2 := rfl
  unfold Xe
  split
  · rename_i h0
    rw [if_neg];intro hp;have := (hq (Xq (Z8 m.sm i), (i : Int)) m.sm.length).2 ⟨i, hi, hp.1, hp.2, rfl⟩;rw [h0] at this;exact List.not_mem_nil this
  · rename_i e t h0
    rw [h0] at hf;simp only at hf
    have hin : ∀ x ∈ e :: t, 0 ≤ x.2 ∧ x.2 < m.sm.length := by
      intro x hx;rw [← h0] at hx;obtain ⟨j, hj, _, _, rfl⟩ := (hq x _).1 hx;exact ⟨by show (0 : Int) ≤ (j : Int); omega, by show (j : Int) < _; omega⟩
    obtain ⟨w1, w2⟩ := Qq (e :: t) m.sm i hin;obtain ⟨e0, e1⟩ := hin e (by simp);show Z8 ((ZD m.sm (e :: t)).set e.2.toNat _) i = _;rw [ZJ (by rw [XC]; omega)];by_cases hp : (Z8 m.sm i).2.1 = (b : Int) ∧ ZL (Z8 m.sm i) = true
    · have hmem : (Xq (Z8 m.sm i), (i : Int)) ∈ e :: t := by rw [← h0]; exact (hq _ _).2 ⟨i, hi, hp.1, hp.2, rfl⟩
      rw [if_pos hp, hf];by_cases hie : i = e.2.toNat
      · rw [if_pos hie, if_pos (by omega), ← hie, w1 ⟨_, hmem, rfl⟩]
        rfl
      · rw [if_neg hie, if_neg (by omega), w1 ⟨_, hmem, rfl⟩]
    · have hnm : ∀ x ∈ e :: t, x.2 ≠ (i : Int) := by
        intro x hx hxi;rw [← h0] at hx;obtain ⟨j, hj, j1, j2, rfl⟩ := (hq x _).1 hx
        have : j = i := by have : (j : Int) = (i : Int) := hxi
                           omega
        subst this;exact hp ⟨j1, j2⟩
      rw [if_neg hp, if_neg (by have := hnm e (by simp); omega), w2 hnm]
theorem Fe (m:Z6) {b:Nat} (hb:b<m.dk.length) (j:Nat):Z8 (Xe m b).dk j=if j=b then WH m.sm b (Z8 m.dk b) else Z8 m.dk j:=by
  have hf:WH m.sm (b:Int) (Z8 m.dk b)=match atV m.sm (b:Int) m.sm.length with
    | []=>((Z8 m.dk b).1,-1,(Z8 m.dk b).2.2)
    | e::_=>((Z8 m.dk b).1,e.2,Zv (Z8 m.dk b).2.2 e.1):=rfl
  unfold Xe
  split
  · rename_i h0
    rw [h0] at hf;rw [hf,<-ZJ hb]
  · rename_i e t h0
    rw [h0] at hf;rw [hf,<-ZJ hb]
theorem Iv (m:Z6) (b:Nat):Alike m.sm (Xe m b).sm m.sm.length:=by
  intro i hi;rw [Oj m b hi]
  split
  · rename_i hp
    refine ⟨rfl,?_,rfl⟩;rw [hp.2]
    split<;>rfl
  · exact ⟨rfl,rfl,rfl⟩
theorem Alike.trans {a b c:List Z3} {k:Nat} (h:Alike a b k) (g:Alike b c k):Alike a c k:=fun i hi=>⟨(g i hi).1.trans (h i hi).1,(g i hi).2.1.trans (h i hi).2.1,(g i hi).2.2.trans (h i hi).2.2⟩
theorem WA (m:Z6):∀ k,Alike m.sm (Zj m k).sm m.sm.length
  | 0=>fun _ _=>⟨rfl,rfl,rfl⟩
  | k+1=>by
    have h:=Iv (Zj m k) k;rw [(ZG m k).2.2.2.2.1] at h;exact (WA m k).trans h
theorem O9 (m:Z6) (k:Nat) (b:Int):atV (Zj m k).sm b (Zj m k).sm.length=atV m.sm b m.sm.length:=by
  rw [(ZG m k).2.2.2.2.1];exact Ov b _ (WA m k)
theorem Iw (m:Z6) (k:Nat) (b:Int):WW (Zj m k).sm b=WW m.sm b:=by unfold WW;rw [O9]
theorem Lc (m:Z6) (k:Nat) (b:Int) (d:XQ):WH (Zj m k).sm b d=WH m.sm b d:=by unfold WH;rw [O9]
theorem XB (m:Z6) {i:Nat} (hi:i<m.sm.length):∀ k:Nat,Z8 (Zj m k).sm i=if (0<=(Z8 m.sm i).2.1/\(Z8 m.sm i).2.1<(k:Int))/\ZL (Z8 m.sm i)=true then stS (Z8 m.sm i) (if WW m.sm (Z8 m.sm i).2.1=(i:Int) then 3 else 2) else Z8 m.sm i
  | 0=>by rw [if_neg (by omega)];rfl
  | k+1=>by
    have ih:=XB m hi k;have ha:=WA m k i hi;show Z8 (Xe (Zj m k) k).sm i=_;rw [Oj _ _ (by rw [(ZG m k).2.2.2.2.1];exact hi),ha.1,ha.2.1,Iw];by_cases hp:ZL (Z8 m.sm i)=true
    · by_cases hb:(Z8 m.sm i).2.1=(k:Int)
      · have hc:(0<=(Z8 m.sm i).2.1/\(Z8 m.sm i).2.1<((k+1:Nat):Int))/\ZL (Z8 m.sm i)=true:=⟨by omega,hp⟩
        rw [if_pos ⟨hb,hp⟩,if_pos hc,ih,if_neg (by omega),hb]
      · rw [if_neg (fun h=>hb h.1),ih]
        by_cases hk:0<=(Z8 m.sm i).2.1/\(Z8 m.sm i).2.1<(k:Int)
        · have hc:(0<=(Z8 m.sm i).2.1/\(Z8 m.sm i).2.1<((k+1:Nat):Int))/\ZL (Z8 m.sm i)=true:=⟨by omega,hp⟩
          rw [if_pos ⟨hk,hp⟩,if_pos hc]
        · rw [if_neg (fun h=>hk h.1),if_neg (fun h=>hk (by omega))]
    · rw [if_neg (fun h=>hp h.2),ih,if_neg (fun h=>hp h.2),if_neg (fun h=>hp h.2)]
theorem V1 (m:Z6) (j:Nat):∀ k:Nat,k<=m.dk.length->Z8 (Zj m k).dk j=if j<k then WH m.sm j (Z8 m.dk j) else Z8 m.dk j
  | 0,_=>by rw [if_neg (by omega)];rfl
  | k+1,hk=>by
    have ih:=V1 m j k (by omega);show Z8 (Xe (Zj m k) k).dk j=_;rw [Fe _ (by rw [(ZG m k).2.2.2.2.2];omega)];by_cases hjk:j=k
    · subst hjk
      rw [if_pos rfl,if_pos (by omega),Lc,ih,if_neg (by omega)]
    · rw [if_neg hjk,ih]
      by_cases h:j<k
      · rw [if_pos h,if_pos (by omega)]
      · rw [if_neg h,if_neg (by omega)]
structure Loose (m:Z6):Prop where
  head:YD m=true
  desk:∀ j,j<m.dk.length->Vy (Z8 m.dk j)=true
  pace:∀ j,j<m.pc.length->V4 m j=true
  here:∀ i,i<m.sm.length->XV m (Z8 m.sm i)=true
  seat:∀ i,i<m.sm.length->XL m (Z8 m.sm i)=true
  openD:∃ j,j<m.dk.length/\(Z8 m.dk j).1=true
theorem Pz (h:Yv m=true):Loose m:=by
  unfold Yv Vk VM VN TJ at h;simp only [ZM] at h;obtain ⟨h1,h2,h3,h4,h5⟩:=h;have h4':=fun i hi=>IT h4 (k:=i) hi;simp only [ZM] at h4';obtain ⟨j,hj,ho⟩:=List.any_eq_true.1 h5;exact ⟨h1,fun j hj=>IT h2 hj,fun j hj=>IT h3 hj,fun i hi=>(h4' i hi).1,fun i hi=>(h4' i hi).2,j,List.mem_range.1 hj,ho⟩
theorem Loose.mk' (h:Loose m):Yv m=true:=by
  unfold Yv Vk VM VN TJ;simp only [ZM];refine ⟨h.head,?_,?_,?_,?_⟩
  · exact List.all_eq_true.2 fun j hj=>h.desk j (List.mem_range.1 hj)
  · exact List.all_eq_true.2 fun j hj=>h.pace j (List.mem_range.1 hj)
  · exact List.all_eq_true.2 fun j hj=>by rw [h.here j (List.mem_range.1 hj),h.seat j (List.mem_range.1 hj)];rfl
  · obtain ⟨j,hj,ho⟩:=h.openD
    exact List.any_eq_true.2 ⟨j,List.mem_range.2 hj,ho⟩
theorem Loose.at (h:Loose m) {i:Nat} (hi:i<m.sm.length) (hp:ZL (Z8 m.sm i)=true):0<=(Z8 m.sm i).2.1/\(Z8 m.sm i).2.1<m.dk.length/\(Z8 m.dk (Z8 m.sm i).2.1.toNat).1=true/\WI (Z8 m.sm i).2.2.2.1 (Z8 m.sm i).2.1=true/\WE (Xq (Z8 m.sm i)) (Z8 m.dk (Z8 m.sm i).2.1.toNat).2.2=true:=by
  obtain ⟨b0,b1,_⟩:=Gl (h.here i hi) hp;have hs:=h.seat i hi;unfold XL at hs;rw [hp] at hs;simp only [Bool.not_true,Bool.false_or,ZM] at hs;exact ⟨b0,b1,hs.1,hs.2.1,hs.2.2⟩
theorem TZ {had Xy:Int} (h:WE had Xy=true) : -1000000000000<=had/\had<=1000000000000/\ -1000000000000<=Xy/\Xy<=1000000000000/\ -20000<=had-Xy/\had-Xy<=63000:=by
  unfold WE at h;simp only [ZM] at h;have h1:=ZO h.1;have h2:=ZO h.2.1;have h3:=ZO h.2.2;omega
theorem M7 {had Xy:Int} (h0 : -1000000000000<=had) (h1:had<=1000000000000) (h2 : -1000000000000<=Xy) (h3:Xy<=1000000000000) (h4 : -20000<=had-Xy) (h5:had-Xy<=63000):WE had Xy=true:=by
  unfold WE;rw [Zn h0 h1,Zn h2 h3,Zn h4 h5];rfl
theorem Rk {d:XQ} (h:Vy d=true) : -900000000000<=d.2.2/\d.2.2<=900000000000:=ZO h
theorem Cy {s:Z3} {st:Int} (h:Zx s=true) (hp:ZL s=true) (h0:1<=st) (h1:st<=3):Zx (stS s st)=true:=by
  obtain ⟨x0,be,rk,my,gu,lo,hi,hd,ca,ut,wk⟩:=s;have hx:x0 ≠ 0:=by intro e;subst e;cases hp
  unfold Zx at h ⊢;rw [Rn (x:=(x0,be,rk,my,gu,lo,hi,hd,ca,ut,wk)) hx,Bool.false_or] at h;unfold Zh at h;simp only [ZM] at h;obtain ⟨g0,g⟩:=h
  have:Zh (stS (x0,be,rk,my,gu,lo,hi,hd,ca,ut,wk) st)=true:=by
    unfold Zh stS;simp only [ZM];exact ⟨Zn h0 h1,g⟩
  rw [this,Bool.or_true]
theorem LM {s:Z3} {st:Int} (h:XV m s=true) (hp:ZL s=true) (h0:1<=st) (h1:st<=3):XV m (stS s st)=true:=by
  unfold XV at h ⊢;simp only [ZM,Bool.or_eq_true] at h ⊢;refine ⟨Cy h.1 hp h0 h1,.inr ?_⟩
  rcases h.2 with e | e
  · have:s.1=0:=by simpa using e
    unfold ZL at hp;rw [this] at hp;cases hp
  · exact e
theorem Wu {m m':Z6} (hg:m'.gd.length=m.gd.length) (hd:m'.dk.length=m.dk.length) (s:Z3):XV m' s=XV m s:=by unfold XV;rw [hg,hd]
theorem Fj (h:Loose m):Loose (ZN m):=by
  obtain ⟨e1,e2,e3,e4,e5,e6⟩:=ZG m m.dk.length;have hd:=fun j=>V1 m j m.dk.length (Z2 _)
  have hopen:∀ j,(Z8 (ZN m).dk j).1=(Z8 m.dk j).1:=by
    intro j;unfold ZN;rw [hd j]
    split
    · unfold WH;split<;>rfl
    · rfl
  have hmark:∀ j,j<m.dk.length->(-900000000000<=(Z8 (ZN m).dk j).2.2/\(Z8 (ZN m).dk j).2.2<=900000000000)/\(Z8 m.dk j).2.2<=(Z8 (ZN m).dk j).2.2/\((Z8 (ZN m).dk j).2.2<=(Z8 m.dk j).2.2\/ ∀ i,i<m.sm.length->(Z8 m.sm i).2.1=(j:Int)->ZL (Z8 m.sm i)=true->(Z8 (ZN m).dk j).2.2<=Xq (Z8 m.sm i)):=by
    intro j hj;obtain ⟨k0,k1⟩:=Rk (h.desk j hj);unfold ZN;rw [hd j,if_pos hj];unfold WH
    split
    · exact ⟨⟨k0,k1⟩,Int.le_refl _,.inl (Int.le_refl _)⟩
    · rename_i e t hq
      obtain ⟨_,i,hi,hib,hip,rfl⟩:=Sp hq;obtain ⟨_,_,_,_,hband⟩:=h.at hi hip;obtain ⟨a0,a1,_⟩:=TZ hband;have hm:=J3 (m:=(Z8 m.dk j).2.2) (f:=Xq (Z8 m.sm i)) (by omega) (by omega) a0 a1;show (-900000000000<=Zv _ _/\Zv _ _<=900000000000)/\_<=Zv _ _/\(Zv _ _<=_\/_)
      rw [hm];refine ⟨by omega,by omega,?_⟩;by_cases hc:Xq (Z8 m.sm i)<=(Z8 m.dk j).2.2
      · left;omega
      · right
        intro i' hi' hb' hp';have:=NR hq hi' hb' hp';simp only at this;show min (max (Z8 m.dk j).2.2 (Xq (Z8 m.sm i))) 900000000000<=_;omega
  refine ⟨?_,?_,?_,?_,?_,?_⟩
  · have:=h.head
    unfold YD at this ⊢;unfold ZN;rw [e1,e2,e3,e4,e5,e6];exact this
  · intro j hj
    have hj':j<m.dk.length:=by unfold ZN at hj;omega
    exact Zn (hmark j hj').1.1 (hmark j hj').1.2
  · intro j hj
    have hj':j<m.pc.length:=by unfold ZN at hj;rw [e3] at hj;exact hj
    have:=h.pace j hj';unfold V4 at this ⊢;unfold ZN;rw [e1,e3];exact this
  · intro i hi
    have hi':i<m.sm.length:=by unfold ZN at hi;omega
    rw [Wu (m:=m) (by unfold ZN;rw [e2]) (by unfold ZN;rw [e6])];unfold ZN;rw [XB m hi']
    split
    · rename_i hp
      exact LM (h.here i hi') hp.2 (by split<;>omega) (by split<;>omega)
    · exact h.here i hi'
  · intro i hi
    have hi':i<m.sm.length:=by unfold ZN at hi;omega
    have ha:=WA m m.dk.length i hi';unfold XL;show (!ZL (Z8 (Zj m m.dk.length).sm i) || _)=true;rw [ha.2.1];cases hp:ZL (Z8 m.sm i)
    · rfl
    · obtain ⟨b0,b1,ho,hm,hband⟩:=h.at hi' hp
      obtain ⟨a0,a1,a2,a3,a4,a5⟩:=TZ hband;obtain ⟨⟨q0,q1⟩,q2,q3⟩:=hmark (Z8 m.sm i).2.1.toNat (by omega)
      have hmay:(Z8 (Zj m m.dk.length).sm i).2.2.2.1=(Z8 m.sm i).2.2.2.1:=by
        rw [XB m hi'];split<;>rfl
      show (!true || ((Z8 (ZN m).dk (Z8 (Zj m m.dk.length).sm i).2.1.toNat).1 && (WI (Z8 (Zj m m.dk.length).sm i).2.2.2.1 (Z8 (Zj m m.dk.length).sm i).2.1 && WE (Xq (Z8 (Zj m m.dk.length).sm i)) (Z8 (ZN m).dk (Z8 (Zj m m.dk.length).sm i).2.1.toNat).2.2)))=true;rw [ha.1,ha.2.2,hmay,hopen,ho,hm];rw [M7 a0 a1 (by omega) (by omega) ?_ (by omega)]
      · rfl
      · rcases q3 with q3 | q3
        · omega
        · have:=q3 i hi' (by omega) hp
          omega
  · obtain ⟨j,hj,ho⟩:=h.openD
    exact ⟨j,by unfold ZN;omega,by rw [hopen];exact ho⟩
theorem DA {ss : List Z3} {b f : Int} : ∀ k : Nat, (∀ i, i < k → (Z8 ss i).2.1 = b → ZL (Z8 ss i) = true → ((Z8 ss i).1 = 2 ∧ (i : Int) ≠ f) ∨ ((Z8 ss i).1 = 3 ∧ (i : Int) = f)) →
    ∃ wk wt, Xz ss b k = some (wk, wt) ∧ ((wk = -1 ∧ ∀ i, i < k → (Z8 ss i).2.1 = b → ZL (Z8 ss i) = true → (i : Int) ≠ f) ∨ (wk = f ∧ ∃ i : Nat, i < k ∧ (Z8 ss i).2.1 = b ∧ ZL (Z8 ss i) = true ∧ (i : Int) = f)) ∧ (wt = true → ∃ i, i < k ∧ (Z8 ss i).2.1 = b ∧ ZL (Z8 ss i) = true)
  | 0, _ => ⟨-1, false, rfl, .inl ⟨rfl, fun i hi => by omega⟩, fun h => by cases h⟩
  | k + 1, h => by
    obtain ⟨wk, wt, hs, hw, ht⟩ := DA k (fun i hi => h i (by omega))
    have hu : Xz ss b (k + 1) = if (Z8 ss k).2.1 = b ∧ ZL (Z8 ss k) = true then (if (Z8 ss k).1 = 2 then some (wk, true) else if 0 ≤ wk then none else some ((k : Int), wt)) else some (wk, wt) := by
      show (match Xz ss b k with
        | none => none
        | some (wk, wt) => _) = _
      rw [hs]
    rw [hu];by_cases hp : (Z8 ss k).2.1 = b ∧ ZL (Z8 ss k) = true
    · rw [if_pos hp]
      rcases h k (by omega) hp.1 hp.2 with ⟨h2, hne⟩ | ⟨h3, hkf⟩
      · rw [if_pos h2]
        refine ⟨wk, true, rfl, ?_, fun _ => ⟨k, by omega, hp.1, hp.2⟩⟩
        rcases hw with ⟨e, hn⟩ | ⟨e, i, hi, hb, hpi, hif⟩
        · refine .inl ⟨e, fun i hi hb hpi => ?_⟩
          by_cases hik : i = k
          · subst hik; exact hne
          · exact hn i (by omega) hb hpi
        · exact .inr ⟨e, i, by omega, hb, hpi, hif⟩
      · rw [if_neg (by omega)]
        have hw1 : wk = -1 := by
          rcases hw with ⟨e, _⟩ | ⟨e, i, hi, hb, hpi, hif⟩
          · exact e
          · omega
        rw [if_neg (by omega)];exact ⟨k, wt, rfl, .inr ⟨hkf, k, by omega, hp.1, hp.2, hkf⟩, fun e => by obtain ⟨i, hi, r⟩ := ht e; exact ⟨i, by omega, r⟩⟩
    · rw [if_neg hp]
      refine ⟨wk, wt, rfl, ?_, fun e => by obtain ⟨i, hi, r⟩ := ht e; exact ⟨i, by omega, r⟩⟩
      rcases hw with ⟨e, hn⟩ | ⟨e, i, hi, r⟩
      · refine .inl ⟨e, fun i hi hb hpi => ?_⟩
        by_cases hik : i = k
        · subst hik; exact absurd ⟨hb, hpi⟩ hp
        · exact hn i (by omega) hb hpi
      · exact .inr ⟨e, i, by omega, r⟩
theorem YK (h:Loose m):ZI (ZN m)=true:=by
  unfold ZI;rw [ZM];refine ⟨(Fj h).mk',?_⟩;obtain ⟨e1,e2,e3,e4,e5,e6⟩:=ZG m m.dk.length;refine List.all_eq_true.2 fun b hb=> ?_;have hb:=List.mem_range.1 hb;have hb':b<m.dk.length:=by unfold ZN at hb;omega
  have hn:(ZN m).sm.length=m.sm.length:=e5;have ha:=WA m m.dk.length
  have hstate:∀ i,i<m.sm.length->(Z8 (ZN m).sm i).2.1=(b:Int)->ZL (Z8 (ZN m).sm i)=true->((Z8 (ZN m).sm i).1=2/\(i:Int) ≠ WW m.sm b)\/((Z8 (ZN m).sm i).1=3/\(i:Int)=WW m.sm b):=by
    intro i hi hib hip;have hib':(Z8 m.sm i).2.1=(b:Int):=(ha i hi).1.symm.trans hib;have hip':ZL (Z8 m.sm i)=true:=(ha i hi).2.1.symm.trans hip;unfold ZN;rw [XB m hi,if_pos ⟨by omega,hip'⟩,hib'];by_cases hf:WW m.sm (b:Int)=(i:Int)
    · right;rw [if_pos hf];exact ⟨rfl,hf.symm⟩
    · left;rw [if_neg hf];exact ⟨rfl,fun e=>hf e.symm⟩
  obtain ⟨wk,wt,hs,hw,ht⟩:=DA (b:=(b:Int)) (f:=WW m.sm b) (ss:=(ZN m).sm) m.sm.length hstate;unfold Ya;rw [hn,hs];simp only;have hdesk:=V1 m b m.dk.length (Z2 _);rw [if_pos hb'] at hdesk;cases hq:atV m.sm (b:Int) m.sm.length with
  | nil=>
    have hempty:∀ i,i<m.sm.length-> ¬ ((Z8 (ZN m).sm i).2.1=(b:Int)/\ZL (Z8 (ZN m).sm i)=true):=by
      rintro i hi ⟨hib,hip⟩;have:=(XF m.sm (b:Int) (Xq (Z8 m.sm i),(i:Int)) m.sm.length).2 ⟨i,hi,(ha i hi).1.symm.trans hib,(ha i hi).2.1.symm.trans hip,rfl⟩;rw [hq] at this;exact List.not_mem_nil this
    have hwt:wt=false:=by
      cases wt
      · rfl
      · obtain ⟨i,hi,r⟩:=ht rfl
        exact absurd r (hempty i hi)
    have hwk:wk= -1:=by
      rcases hw with ⟨e,_⟩ | ⟨_,i,hi,hb,hp,_⟩
      · exact e
      · exact absurd ⟨hb,hp⟩ (hempty i hi)
    have hwho:(Z8 (ZN m).dk b).2.1= -1:=by
      unfold ZN;rw [hdesk];unfold WH;rw [hq]
    rw [hwho,hwk,hwt];rfl
  | cons e t=>
    obtain ⟨hfe,i,hi,hib,hip,rfl⟩:=Sp hq
    have hwho:(Z8 (ZN m).dk b).2.1=(i:Int):=by
      unfold ZN;rw [hdesk];unfold WH;rw [hq]
    have hwk:wk=(i:Int):=by
      rcases hw with ⟨_,hn⟩ | ⟨e,_⟩
      · exact absurd hfe.symm (hn i hi ((ha i hi).1.trans hib) ((ha i hi).2.1.trans hip))
      · exact e.trans hfe
    rw [hwho,hwk];have:decide ((i:Int)<0)=false:=Xr (by omega);rw [this];simp
def Xo (rs:List ZZ) (n:Int):Nat:=((List.range rs.length).find? fun r=>decide (n<ZV (rs.take (r+1)))).getD 0
def Yt (rs:List ZZ) (n:Int):Bool:=Y2 rs && inB n 0 (ZV rs-1)
def Kd (rs:List ZZ) (n:Int):Int:=if Yt rs n=true then (Xo rs n:Int) else -1
def Vr (ps:List Z4):Int:=(Z7 ps (ps.length-1)).1
def Zd (rs:List ZZ) (n:Int):Int:=if Yt rs n=true then Vr (ZR rs (Xo rs n)).2 else -1
theorem RN {rs:List ZZ} {n:Int} {r:Nat} (hr:r<rs.length) (h:n<ZV (rs.take (r+1))) (hl:∀ j,j<r->ZV (rs.take (j+1))<=n):Xo rs n=r:=by
 unfold Xo
 have:(List.range rs.length).find? (fun r=>decide (n<ZV (rs.take (r+1))))=some r:=by
  rw [List.find?_range_eq_some];refine ⟨by simpa using h,by simpa using hr,fun j hj=> ?_⟩;have:=hl j hj;simp;omega
 rw [this];rfl
theorem WY {rs:List ZZ} {n:Int} (h:Yt rs n=true):Y2 rs=true/\0<=n/\n<ZV rs:=by
 unfold Yt at h;simp only [ZM] at h;have:=ZO h.2;exact ⟨h.1,by omega,by omega⟩
theorem JP {rs:List ZZ} {n:Int} (h:Y2 rs=true) (h0:0<=n) (h1:n<ZV rs):Yt rs n=true:=by
 unfold Yt;rw [h,Zn (by omega) (by omega)];rfl
theorem Ef {rs:List ZZ} {n:Int} (h:Y2 rs=false):Yt rs n=false:=by unfold Yt;rw [h];rfl
theorem L7 {rs:List ZZ} {n:Int} (h:n<0\/ZV rs<=n):Yt rs n=false:=by unfold Yt;rw [Wv (by omega)];simp
theorem Dw {rs:List ZZ} {n:Int} (h:Yt rs n=true):Kd rs n=Xo rs n:=by unfold Kd;rw [if_pos h]
theorem Ju {rs:List ZZ} {n:Int} (h:Yt rs n=false):Kd rs n= -1:=by unfold Kd;rw [h];rfl
theorem Ta {rs:List ZZ} {n:Int} (h:Yt rs n=true):Zd rs n=Vr (ZR rs (Xo rs n)).2:=by unfold Zd;rw [if_pos h]
theorem Ad {rs:List ZZ} {n:Int} (h:Yt rs n=false):Zd rs n= -1:=by unfold Zd;rw [h];rfl
theorem UC {rs:List ZZ} {n:Int} (h:Yt rs n=true) {r:Nat} (hr:r<=rs.length) (hl:∀ j,j<r->ZV (rs.take (j+1))<=n):r<rs.length:=by
 rcases Nat.lt_or_ge r rs.length with h1 | h1
 ·exact h1
 ·obtain rfl:r=rs.length:=by omega
  have hb:=WY h;have h3:=Zo hb.1;have:=hl (rs.length-1) (by omega);rw [show rs.length-1+1=rs.length by omega,Sj] at this;omega
theorem WV {rs:List ZZ} (h:Y2 rs=true) (k:Nat) (hk:k<=rs.length):0<=ZV (rs.take k)/\ZV (rs.take k)<=12:=by
 have h3:=Zo h;have:=Rd h3.2.2.1 k hk;omega
theorem Qj {rs:List ZZ} {n:Int} (h:Yt rs n=true):Xo rs n<rs.length:=by
 have key:∀ d r:Nat,r+d=rs.length->(∀ j,j<r->ZV (rs.take (j+1))<=n)->Xo rs n<rs.length:=by
  intro d
  induction d with
  | zero=>intro r hr hl;have:=UC h (by omega) hl;omega
  | succ d ih=>
   intro r hr hl;have hlt:=UC h (r:=r) (by omega) hl;by_cases hc:n<ZV (rs.take (r+1))
   ·rw [RN hlt hc hl];exact hlt
   ·exact ih (r+1) (by omega) (Yh hl (by omega))
 exact key rs.length 0 (by omega) (fun j hj=>by omega)
theorem Rs  {rs:List ZZ} (n:Int) (h:IsRooms w v rs) :
  Calls Tryz.prog 306 #[.agg #[v],.int .i64 n] w fun e w'=>e= .returned (.int .i64 (Kd rs n))/\Below w.heap.size w w':=by
 have Hv:=Z9 h;obtain ⟨a,cap,rfl,hc,hm,hr⟩:=h;clear hr;by_cases h0:n<0
 ·have H1:=Z9 (Ju (L7 (rs:=rs) (.inl h0)))
  go_enter Tryz.func306,Tryz.ntmps306;go_wp2_with fail;go_ret;exact ⟨ZC (uh H1).symm,(ba _ _)⟩
 by_cases h1:Wo rs<=n
 ·have H1:Hid (Kd rs n= -1):=Z9 (Ju (by
   cases hh:Y2 rs
   ·exact Ef hh
   ·rw [T0 hh] at h1;exact L7 (.inr h1)))
  go_enter Tryz.func306,Tryz.ntmps306;go_wp2_with fail;refine ck (VH ((uh Hv).alloc _)) fun w1 hb=> ?_;have Hb:=Z9 hb;clear hb;generalize Wo rs=m at *;go_wp2_with fail;go_ret;exact ⟨ZC (uh H1).symm,((ba _ _)).trans ((uh Hb).mono (by simp))⟩
 have hh:Y2 rs=true:=by
  cases hh:Y2 rs
  ·rw [P6 hh] at h1;omega
  ·rfl
 have H:Hid (Yt rs n=true):=Z9 (JP hh (by omega) (by rw [T0 hh] at h1;omega));have Hh:=Z9 hh;clear hh;go_enter Tryz.func306,Tryz.ntmps306;go_wp2_with fail;refine ck (VH ((uh Hv).alloc _)) fun w1 hb=> ?_;have hsz:w.heap.size+1<=w1.heap.size:=by have:=hb.size;simpa using this
 have hbox:w1.cell? ⟨w.heap.size,0,none⟩=some (.slice a rs.length cap):=by rw [hb.cell (p:=⟨w.heap.size,0,none⟩) (by simp)];simp
 have B1:Hid (Below w.heap.size w w1):=Z9 (((ba _ _)).trans (hb.mono (by simp)));clear hb;generalize Wo rs=m at *;go_wp2_with fail
 go_loopw [5] (fun i wr=> ∃ r:Nat,r<=rs.length/\i= .int .i64 r/\(∀ j,j<r->ZV (rs.take (j+1))<=n)/\Below w1.heap.size w1 wr) (fun i _=>rs.length-(intOf i).toNat)
 case atStart=>exact ⟨0,ZA _,rfl,fun j hj=>by omega,Z1 _ _⟩
 case round=>
  obtain ⟨r,hr,rfl,hl,hb⟩:=hrel;have hlt:=UC (uh H) hr hl;have hbox2:wr.cell? ⟨w.heap.size,0,none⟩=some (.slice a rs.length cap):=by rw [hb.cell (p:=⟨w.heap.size,0,none⟩) (by show w.heap.size<w1.heap.size;omega)];exact hbox
  have hz:=hb.size;have hl3:rs.length<=3:=(Zo (uh Hh)).2.1;have Hl:=Z9 hl;have Hb:=Z9 hb;have Hw:Hid (IsRooms wr (.slice a (r+1) cap) (rs.take (r+1))):=Z9 ((((uh Hv).below (uh B1)).below hb).taken (by omega));clear hl hb hbox;go_wp2_with fail;refine ck (V8 (uh Hw) ((SZ (uh Hh)).taken _)) fun w2 hb2=> ?_;have hbd:=WV (uh Hh) (r+1) (by omega);have Hb2:=Z9 hb2;clear hb2;by_cases hc2:n<ZV (rs.take (r+1))
  ·have HN:=Z9 (RN hlt hc2 (uh Hl))
   generalize ZV (rs.take (r+1))=s at *;go_wp2_with fail;go_ret;exact ⟨ZC (by rw [Dw (uh H),uh HN]),(uh B1).trans (((uh Hb).trans ((uh Hb2).mono hz)).mono (by omega))⟩
  ·have hle:ZV (rs.take (r+1))<=n:=by omega
   have Hle:=Z9 (Yh (uh Hl) hle);generalize ZV (rs.take (r+1))=s at *;go_wp2_with fail;go_roundw
   case rel=>exact ⟨r+1,by omega,by go_num,uh Hle,(uh Hb).trans ((uh Hb2).mono hz)⟩
   case measure=>exact ms
open Go.ChangeShapes Go.WideShapes Go.ChangeAt Go.RowKit
def Yk (a b c:Int):Int:=if inB a 0 1000000000 && inB b 0 1000000000 && inB c 1 1000000000 then a*b / c else -1
def Ps (x:Int):Nat->Int->Int
 | 0,u=>u
 | n+1,u=>Ps x n ((31*u+x) / 32)
def ZE (u x n:Int):Int:=if inB u 0 1024 && inB x 0 1024 && inB n 0 1000 then Ps x n.toNat u else -1
theorem C4 {u x:Int} (h1:0<=u) (h2:u<=1024) (h3:0<=x) (h4:x<=1024):0<=(31*u+x) / 32/\(31*u+x) / 32<=1024:=by omega
theorem F4 (x:Int) (h3:0<=x) (h4:x<=1024):∀ (n:Nat) (u:Int),0<=u->u<=1024->0<=Ps x n u/\Ps x n u<=1024
 | 0,u,h1,h2=>⟨h1,h2⟩
 | n+1,u,h1,h2=>F4 x h3 h4 n _ (C4 h1 h2 h3 h4).1 (C4 h1 h2 h3 h4).2
theorem LB (x:Int):∀ (n:Nat) (u:Int),Ps x (n+1) u=(31*Ps x n u+x) / 32
 | 0,u=>rfl
 | n+1,u=>LB x n _
theorem Az {a b:Int} (a0:0<=a) (a1:a<=1000000000) (b0:0<=b) (b1:b<=1000000000):0<=a*b/\a*b<=1000000000000000000:=by
 refine ⟨Int.mul_nonneg a0 b0,?_⟩;have h:=Int.mul_le_mul a1 b1 b0 (by omega);omega
theorem Bo {P:Prop} (a b c lo hi l1 h1 l2 h2:Int)
  (k1:inB a lo hi=false->P) (k2:inB a lo hi=true->inB b l1 h1=false->P) (k3:inB a lo hi=true->inB b l1 h1=true->inB c l2 h2=false->P)
  (k4:inB a lo hi=true->inB b l1 h1=true->inB c l2 h2=true->P):P:=by
 cases ha:inB a lo hi
 ·exact k1 ha
 ·cases hb:inB b l1 h1
  ·exact k2 ha hb
  ·cases hc:inB c l2 h2
   ·exact k3 ha hb hc
   ·exact k4 ha hb hc
theorem TO (x:Int) (w:World):Calls Tryz.prog 105 #[.int .i64 x] w fun e w'=>e= .returned (.bool (inB x 0 1024))/\w'=w:=by
 go_enter Tryz.func105,Tryz.ntmps105;go_wp2_with (go_at_call 59;refine (ZT _ _ _ _).mono ?_;rintro e w' ⟨rfl,rfl⟩)
 go_ret;exact ⟨rfl,rfl⟩
theorem ML (a b c:Int) (w:World):Calls Tryz.prog 302 #[.int .i64 a,.int .i64 b,.int .i64 c] w fun e w'=>e= .returned (.int .i64 (Yk a b c))/\w'=w:=by
 refine Bo a b c 0 1000000000 0 1000000000 1 1000000000 ?_ ?_ ?_ ?_
 ·intro ha
  have hv:Yk a b c= -1:=by simp [Yk,ha]
  rw [hv];clear hv;go_enter Tryz.func302,Tryz.ntmps302;go_wp2_with (first | (go_at_call 309;refine (Tg _ _).mono ?_;rintro e w' ⟨rfl,rfl⟩) | (go_at_call 59;refine (ZT _ _ _ _).mono ?_;rintro e w' ⟨rfl,rfl⟩))
  go_ret;exact ⟨rfl,rfl⟩
 ·intro ha hb
  have hv:Yk a b c= -1:=by simp [Yk,hb]
  rw [hv];clear hv;go_enter Tryz.func302,Tryz.ntmps302;go_wp2_with (first | (go_at_call 309;refine (Tg _ _).mono ?_;rintro e w' ⟨rfl,rfl⟩) | (go_at_call 59;refine (ZT _ _ _ _).mono ?_;rintro e w' ⟨rfl,rfl⟩))
  go_ret;exact ⟨rfl,rfl⟩
 ·intro ha hb hc
  have hv:Yk a b c= -1:=by simp [Yk,hc]
  rw [hv];clear hv;go_enter Tryz.func302,Tryz.ntmps302;go_wp2_with (first | (go_at_call 309;refine (Tg _ _).mono ?_;rintro e w' ⟨rfl,rfl⟩) | (go_at_call 59;refine (ZT _ _ _ _).mono ?_;rintro e w' ⟨rfl,rfl⟩))
  go_ret;exact ⟨rfl,rfl⟩
 ·intro ha hb hc
  have hv:Yk a b c=a*b / c:=by simp [Yk,ha,hb,hc]
  rw [hv];clear hv;obtain ⟨a0,a1⟩:=ZO ha;obtain ⟨b0,b1⟩:=ZO hb;obtain ⟨c0,c1⟩:=ZO hc;obtain ⟨m0,m1⟩:=Az a0 a1 b0 b1;go_enter Tryz.func302,Tryz.ntmps302;go_wp2_with (first | (go_at_call 309;refine (Tg _ _).mono ?_;rintro e w' ⟨rfl,rfl⟩) | (go_at_call 59;refine (ZT _ _ _ _).mono ?_;rintro e w' ⟨rfl,rfl⟩))
  go_ret;exact ⟨rfl,rfl⟩
theorem xy {p:Int->Bool} (a b:Int) : [a,b].all p=(p a && p b):=by simp
theorem xx {p:Int->Bool} (a:Int) : [a].all p=p a:=by simp
theorem xS (W:World) (a b:Int) (bk:Nat) (hb:bk=W.heap.size):∀ k,k < [a,b].length->(W.alloc (.cells #[.int .i64 a,.int .i64 b] 2)).cell? ⟨bk,k,none⟩=some (.int .i64 ([a,b].getD k 0)):=by
 intro k hk;rw [World.cell?_alloc_at _ _ _ _ hb]
 match k,hk with
 | 0,_=>rfl
 | 1,_=>rfl
theorem xR (W:World) (a:Int) (bk:Nat) (hb:bk=W.heap.size):∀ k,k < [a].length->(W.alloc (.cells #[.int .i64 a] 2)).cell? ⟨bk,k,none⟩=some (.int .i64 ([a].getD k 0)):=by
 intro k hk;rw [World.cell?_alloc_at _ _ _ _ hb]
 match k,hk with
 | 0,_=>rfl
theorem UR (a b:Int) (W:World) (bk:Nat) (hb:bk=W.heap.size):Calls Tryz.prog 312 #[.func (Fn.func 313) #[] #[],.slice (some ⟨bk,0,none⟩) 2 2] (W.alloc (.cells #[.int .i64 a,.int .i64 b] 2))
  fun e w'=>e= .returned (.bool (inB a 0 1000000000 && inB b 0 1000000000))/\w'=W.alloc (.cells #[.int .i64 a,.int .i64 b] 2):=by
 have h:=Nf bk 2 [a,b] (W.alloc (.cells #[.int .i64 a,.int .i64 b] 2)) (by simp) (xS W a b bk hb);rw [xy] at h;exact h
theorem Qx (a:Int) (W:World) (bk:Nat) (hb:bk=W.heap.size):Calls Tryz.prog 312 #[.func (Fn.func 314) #[] #[],.slice (some ⟨bk,0,none⟩) 1 1] (W.alloc (.cells #[.int .i64 a] 2))
  fun e w'=>e= .returned (.bool (inB a 1 1000000000))/\w'=W.alloc (.cells #[.int .i64 a] 2):=by
 have h:=Oq bk 1 [a] (W.alloc (.cells #[.int .i64 a] 2)) (by simp) (xR W a bk hb);rw [xx] at h;exact h
theorem LU (a b c:Int) (w:World):Calls Tryz.prog 310 #[.int .i64 a,.int .i64 b,.int .i64 c] w fun e w'=>e= .returned (.int .i64 (Yk a b c))/\Below w.heap.size w w':=by
 refine Bo a b c 0 1000000000 0 1000000000 1 1000000000 ?_ ?_ ?_ ?_
 ·intro ha
  have hv:Yk a b c= -1:=by simp [Yk,ha]
  rw [hv];clear hv;go_enter Tryz.func310,Tryz.ntmps310;go_wp2_with fail;refine (UR a b _ _ rfl).mono ?_;rintro e w' ⟨rfl,rfl⟩;go_wp2_with fail;go_ret;exact ⟨rfl,(ba _ _)⟩
 ·intro ha hb
  have hv:Yk a b c= -1:=by simp [Yk,hb]
  rw [hv];clear hv;go_enter Tryz.func310,Tryz.ntmps310;go_wp2_with fail;refine (UR a b _ _ rfl).mono ?_;rintro e w' ⟨rfl,rfl⟩;go_wp2_with fail;go_ret;exact ⟨rfl,(ba _ _)⟩
 ·intro ha hb hc
  have hv:Yk a b c= -1:=by simp [Yk,hc]
  rw [hv];clear hv;go_enter Tryz.func310,Tryz.ntmps310;go_wp2_with fail;refine (UR a b _ _ rfl).mono ?_;rintro e w' ⟨rfl,rfl⟩;go_wp2_with fail;refine (Qx c _ _ (by simp)).mono ?_;rintro e w' ⟨rfl,rfl⟩;go_wp2_with fail;go_ret;exact ⟨rfl,((ba _ _)).alloc (by simp) _⟩
 ·intro ha hb hc
  have hv:Yk a b c=a*b / c:=by simp [Yk,ha,hb,hc]
  rw [hv];clear hv;obtain ⟨a0,a1⟩:=ZO ha;obtain ⟨b0,b1⟩:=ZO hb;obtain ⟨c0,c1⟩:=ZO hc;obtain ⟨m0,m1⟩:=Az a0 a1 b0 b1;go_enter Tryz.func310,Tryz.ntmps310;go_wp2_with fail;refine (UR a b _ _ rfl).mono ?_;rintro e w' ⟨rfl,rfl⟩;go_wp2_with fail;refine (Qx c _ _ (by simp)).mono ?_;rintro e w' ⟨rfl,rfl⟩;go_wp2_with fail;go_ret;exact ⟨rfl,((ba _ _)).alloc (by simp) _⟩
def UJ (need:Int) (p:Z4):Bool:=decide (5*need<=4*p.1)
def Qz (need:Int):List Z4->Nat
 | []=>0
 | [_]=>0
 | p::q::ps=>if UJ need p then 0 else Qz need (q::ps)+1
def Xn (r:ZZ) (need:Int):Int:=if Ze r && inB need 0 1000000 then Qz need r.2 else -1
def Xi (r:ZZ) (pace work:Int):Int:=if Ze r && (inB work 0 1000000 && inB pace 0 (r.2.length-1)) then Yk (Z7 r.2 pace.toNat).2 work (Z7 r.2 pace.toNat).1 else -1
def OJ (r:ZZ) (need work:Int):Int:=Xi r (Xn r need) work
theorem GU (p:Z4) (ps:List Z4):Z7 (p::ps) 0=p:=rfl
theorem GW (p:Z4) (ps:List Z4) (k:Nat):Z7 (p::ps) (k+1)=Z7 ps k:=by unfold Z7;simp [List.getD]
theorem zW {need:Int} {p:Z4} (h:5*need<=4*p.1):UJ need p=true:=Vx h
theorem zV {need:Int} {p:Z4} (h:4*p.1<5*need):UJ need p=false:=Xr (by omega)
theorem RJ (need:Int):∀ (ps:List Z4) (k:Nat),k+1<=ps.length->(∀ j,j<k->UJ need (Z7 ps j)=false)->(k+1=ps.length\/UJ need (Z7 ps k)=true)->Qz need ps=k
 | [],k,hk,_,_=>by simp at hk
 | [p],k,hk,_,_=>by simp at hk;subst hk;rfl
 | p::q::ps,0,_,_,he=>by
  rcases he with he | he
  ·simp at he
  ·rw [GU] at he;simp [Qz,he]
 | p::q::ps,k+1,hk,hlo,he=>by
  have h0:=hlo 0 (by omega);rw [GU] at h0
  have ih:=RJ need (q::ps) k (by simp at hk ⊢;omega) (fun j hj=>by have:=hlo (j+1) (by omega);rwa [GW] at this) (by
   rcases he with he | he
   ·left;simp at he ⊢;omega
   ·right;rwa [GW] at he)
  simp [Qz,h0,ih]
theorem GX (need:Int):∀ ps:List Z4,1<=ps.length->Qz need ps+1<=ps.length
 | [],h=>by simp at h
 | [p],_=>by simp [Qz]
 | p::q::ps,_=>by
  have ih:=GX need (q::ps) (by simp);unfold Qz;split<;>simp at ih ⊢;omega
theorem OX {r:ZZ} (h:Ze r=true) {k:Nat} (hk:k<r.2.length):1<=(Z7 r.2 k).1/\(Z7 r.2 k).1<=1024/\1<=(Z7 r.2 k).2/\(Z7 r.2 k).2<=1024:=by
 unfold Ze at h;simp only [ZM] at h;have h1:=J6 h.2.2 hk;unfold Wz TQ at h1;simp only [ZM] at h1;have a:=ZO h1.1.1;have b:=ZO h1.1.2;omega
theorem Ob {r:ZZ} {need:Int} (h:Ze r=false):Xn r need= -1:=by unfold Xn;simp [h]
theorem Oc {r:ZZ} {need:Int} (h:inB need 0 1000000=false):Xn r need= -1:=by unfold Xn;simp [h]
theorem Mm {r:ZZ} {need:Int} (h:Ze r=true) (h2:inB need 0 1000000=true):Xn r need=Qz need r.2:=by unfold Xn;simp [h,h2]
theorem Rh {r:ZZ} {pace work:Int} (h:Ze r=false):Xi r pace work= -1:=by unfold Xi;simp [h]
theorem Ri {r:ZZ} {pace work:Int} (h:inB work 0 1000000=false):Xi r pace work= -1:=by unfold Xi;simp [h]
theorem TK {r:ZZ} {pace work:Int} (h:inB pace 0 (r.2.length-1)=false):Xi r pace work= -1:=by unfold Xi;simp [h]
theorem P8 {r:ZZ} {pace work:Int} (h:Ze r=true) (h2:inB work 0 1000000=true) (h3:inB pace 0 (r.2.length-1)=true):Xi r pace work=Yk (Z7 r.2 pace.toNat).2 work (Z7 r.2 pace.toNat).1:=by unfold Xi;simp [h,h2,h3]
theorem Cd {a b c:Int} (a0:0<=a) (a1:a<=1000000000) (b0:0<=b) (b1:b<=1000000000) (c0:1<=c) (c1:c<=1000000000):Yk a b c=a*b / c:=by
 unfold Yk;rw [Zn a0 a1,Zn b0 b1,Zn c0 c1];rfl
theorem FR (r:ZZ) (pace work:Int) : -1<=Xi r pace work/\Xi r pace work<=1024000000:=by
 cases h:Ze r
 ·rw [Rh h];omega
 cases h2:inB work 0 1000000
 ·rw [Ri h2];omega
 cases h3:inB pace 0 (r.2.length-1)
 ·rw [TK h3];omega
 rw [P8 h h2 h3];have hb:=ZO h2;have hp:=ZO h3;have hr:=OX h (k:=pace.toNat) (by omega);generalize Z7 r.2 pace.toNat=p at *;rw [Cd (by omega) (by omega) (by omega) (by omega) (by omega) (by omega)];have m0:0<=p.2*work:=Int.mul_nonneg (by omega) (by omega);have m1:p.2*work<=1024*1000000:=Int.mul_le_mul (by omega) (by omega) (by omega) (by omega);have d0:=Int.ediv_nonneg m0 (show 0<=p.1 by omega);have d1:=Int.ediv_le_self p.1 m0;omega
def Am (J:Nat->Act->World->Prop) (Q:Exit->Act->World->Prop):Exit->Act->World->Prop
 | .goto l,a,w=>J l a w
 | e,a,w=>Q e a w
theorem JV {J:Nat->Act->World->Prop} {Q:Exit->Act->World->Prop} {a:Act} : Am J Q .ret a w=Q .ret a w:=rfl
theorem JG {P:Program} {a:Act} {Q:Exit->Act->World->Prop} {c:Code} (J:Nat->Act->World->Prop) (μ:Nat->Act->World->Nat)
  (first:c.wp P (Am J Q) a w)
  (pass:∀ l a w,J l a w-> ∃ rest,findLabel c l=some rest/\rest.wp P (Am (fun l' a' w'=>J l' a' w'/\μ l' a' w'<μ l a w) Q) a w):(Code.scope c).wp P Q a w:=by
 intro b k cs
 have key:∀ n l a w,μ l a w=n->J l a w-> ∃ rest,findLabel c l=some rest/\ ∃ e a' w',Q e a' w'/\Arrives P (lone (b.at a (.code rest:: .inScope c::k)) cs w) b k cs e a' w':=by
  intro n
  induction n using Nat.strongRecOn with
  | _ n ih=>
   intro l a w hn hJ;obtain ⟨rest,hf,hp⟩:=pass l a w hJ;refine ⟨rest,hf,?_⟩;obtain ⟨e,a₁,w₁,hq,harr⟩:=hp b (.inScope c::k) cs;cases e with
   | normal=>exact ⟨.normal,a₁,w₁,hq,Steps.trans harr (.one step_inScope)⟩
   | exit id=>exact ⟨.exit id,a₁,w₁,hq,fun k' hk=>harr k' (by simp [exitTo,hk])⟩
   | goto l'=>
    obtain ⟨hJ',hlt⟩:=hq;obtain ⟨rest',hf',e₂,a₂,w₂,hq₂,harr₂⟩:=ih _ (by omega) l' a₁ w₁ rfl hJ';exact ⟨e₂,a₂,w₂,hq₂,.of_steps (harr _ (by simp [gotoIn,hf'])) harr₂⟩
   | ret=>exact ⟨_,a₁,w₁,hq,harr⟩
   | panic ch=>exact ⟨_,a₁,w₁,hq,harr⟩
   | outgrown=>exact ⟨_,a₁,w₁,hq,harr⟩
 obtain ⟨e,a₁,w₁,hq,harr⟩:=first b (.inScope c::k) cs
 cases e with
 | normal=>exact ⟨.normal,a₁,w₁,hq,.head step_scope (Steps.trans harr (.one step_inScope))⟩
 | exit id=>exact ⟨.exit id,a₁,w₁,hq,fun k' hk=> .head step_scope (harr k' (by simp [exitTo,hk]))⟩
 | goto l'=>
  obtain ⟨rest',hf',e₂,a₂,w₂,hq₂,harr₂⟩:=key _ l' a₁ w₁ rfl hq;exact ⟨e₂,a₂,w₂,hq₂,.of_steps (.head step_scope (harr _ (by simp [gotoIn,hf']))) harr₂⟩
 | ret=>exact ⟨_,a₁,w₁,hq,.of_steps (.one step_scope) harr⟩
 | panic ch=>exact ⟨_,a₁,w₁,hq,.of_steps (.one step_scope) harr⟩
 | outgrown=>exact ⟨_,a₁,w₁,hq,.of_steps (.one step_scope) harr⟩
theorem QK (lo n hi:Int) (w:World):Calls Tryz.prog 181 #[.int .i64 lo,.int .i64 n,.int .i64 hi] w fun e w'=>e= .returned (.bool (inB n lo hi))/\w'=w:=by
 by_cases h1:lo<=n
 ·by_cases h2:n<=hi
  all_goals
   go_enter Tryz.func181,Tryz.ntmps181
   go_wp2
   go_ret;exact ⟨Z5 (by unfold inB;simp [h1,h2]),rfl⟩
 ·go_enter Tryz.func181,Tryz.ntmps181
  go_wp2
  go_ret;exact ⟨Z5 (Wv (by omega)).symm,rfl⟩
theorem Sw (f need:Int) (w:World) (f0:0<=f) (f1:f<=1000000) (n0:0<=need) (n1:need<=2000000) :
  Calls Tryz.prog 315 #[.int .i64 f,.int .i64 need] w fun e w'=>e= .returned (.bool (decide (5*need<=4*f)))/\w'=w:=by
 go_enter Tryz.func315,Tryz.ntmps315;go_wp2_with fail;go_ret;exact ⟨Z5 rfl,rfl⟩
theorem XR (x:Int) (w:World):Calls Tryz.prog 171 #[.int .i64 x] w fun e w'=>e= .returned (.bool (inB x 0 1000000))/\w'=w:=by
 go_enter Tryz.func171,Tryz.ntmps171;go_wp2_with (go_at_call 59;refine (ZT _ _ _ _).mono ?_;rintro e w' ⟨rfl,rfl⟩)
 go_ret;exact ⟨rfl,rfl⟩
theorem Xf (b cap:Nat) (zs:List Int) (w:World) (hl:zs.length<=1000) (hc:∀ k,k<zs.length->w.cell? ⟨b,k,none⟩=some (.int .i64 (zs.getD k 0))) :
  Calls Tryz.prog 374 #[.slice (some ⟨b,0,none⟩) zs.length cap] w fun e w'=>e= .returned (.bool (zs.all fun z=>inB z 0 1000000))/\w'=w:=by
 have Hc:=Z9 hc;clear hc;go_enter Tryz.func374,Tryz.ntmps374;go_wp2_with fail
 refine JG (fun l a' w'=>w'=w/\ ∃ (r:Bool) (k:Nat) (u4 u5 u6 u7 u8 u9 u10 u11 u12 u13 u14 u15:Value),k<=zs.length/\a'={ tmps:=#[.slice (some ⟨b,0,none⟩) zs.length cap,undef,.bool r,.int .i64 k,u4,u5,u6,u7,u8,u9,u10,u11,u12,u13,u14,u15],defers:=[] }/\
   ((l=0/\(zs.all fun z=>inB z 0 1000000)=true)\/(l=1/\((zs.take k).all fun z=>inB z 0 1000000)=true)\/(l=2/\(zs.all fun z=>inB z 0 1000000)=false))) (fun l a' _=>if l=1 then zs.length+1-(intOf (a'.tmps.getD 3 undef)).toNat else 0) ?_ ?_
 ·by_cases hlt:0<zs.length
  ·have hcell:=uh Hc 0 hlt
   generalize hz:zs.getD 0 0=z at hcell;have Hz:=Z9 hz;clear hz;cases hp:inB z 0 1000000
   ·go_wp2_with fail
    go_step3
    go_wp2_with (go_at_call 181;refine (QK _ _ _ _).mono ?_;rintro e w' ⟨rfl,rfl⟩)
    go_step3
    exact ⟨rfl,false,0,_,_,_,_,_,_,_,_,_,_,_,_,ZA _,rfl,.inr (.inr ⟨rfl,Sh hlt (uh Hz) hp⟩)⟩
   ·go_wp2_with fail
    go_step3
    go_wp2_with (go_at_call 181;refine (QK _ _ _ _).mono ?_;rintro e w' ⟨rfl,rfl⟩)
    go_step3
    exact ⟨rfl,false,1,_,_,_,_,_,_,_,_,_,_,_,_,hlt,rfl,.inr (.inl ⟨rfl,Pe (k:=0) hlt (uh Hz) (by simp) hp⟩)⟩
  ·obtain rfl:zs=[]:=List.eq_nil_of_length_eq_zero (by omega)
   go_wp2_with fail
   go_step3
   go_wp2_with fail
   go_step3
   exact ⟨rfl,false,0,_,_,_,_,_,_,_,_,_,_,_,_,ZA _,rfl,.inl ⟨rfl,rfl⟩⟩
 ·rintro l a' w' ⟨rfl,r,k,u4,u5,u6,u7,u8,u9,u10,u11,u12,u13,u14,u15,hk,rfl,⟨rfl,ha⟩ | ⟨rfl,ha⟩ | ⟨rfl,ha⟩⟩
  ·refine ⟨_,rfl,?_⟩
   go_wp2_with fail;rw [JV];go_ret;exact ⟨Z5 ha.symm,rfl⟩
  ·refine ⟨_,rfl,?_⟩
   have Ha:=Z9 ha;clear ha;by_cases hlt:k<zs.length
   ·have hcell:=uh Hc k hlt
    have hne:((k:Int) ==(zs.length:Int))=false:=by simp;omega
    generalize hz:zs.getD k 0=z at hcell;have Hz:=Z9 hz;clear hz;cases hp:inB z 0 1000000
    ·go_wp2_with (go_at_call 181;refine (QK _ _ _ _).mono ?_;rintro e w' ⟨rfl,rfl⟩)
     go_step3
     refine ⟨⟨rfl,r,k,_,_,_,_,_,_,_,_,_,_,_,_,hk,rfl,.inr (.inr ⟨rfl,Sh hlt (uh Hz) hp⟩)⟩,?_⟩;simp [intOf];omega
    ·go_wp2_with (go_at_call 181;refine (QK _ _ _ _).mono ?_;rintro e w' ⟨rfl,rfl⟩)
     go_step3
     refine ⟨⟨rfl,r,k+1,_,_,_,_,_,_,_,_,_,_,_,_,hlt,by go_num,.inr (.inl ⟨rfl,Pe hlt (uh Hz) (uh Ha) hp⟩)⟩,?_⟩;simp [intOf];omega
   ·obtain rfl:k=zs.length:=by omega
    go_wp2_with fail
    go_step3
    refine ⟨⟨rfl,r,zs.length,_,_,_,_,_,_,_,_,_,_,_,_,hk,rfl,.inl ⟨rfl,?_⟩⟩,?_⟩
    ·rw [<-uh Ha,List.take_of_length_le (by omega)]
    ·simp [intOf]
  ·refine ⟨_,rfl,?_⟩
   go_wp2_with fail;rw [JV];go_ret;exact ⟨Z5 ha.symm,rfl⟩
def amt (x:Int):Bool:=inB x 0 1000000
def Ws (w u f:Int):Bool:=(amt w && (amt u && amt f)) && decide (5*(w+u)<=4*f)
def VK (u f:Int):Bool:=(amt u && amt f) && !decide (5*u<=4*f)
def XM (u f:Int):Int:=if amt u && amt f then f-u else -1000001
theorem Ay (u f:Int):decide (4*f<5*u)= !decide (5*u<=4*f):=by
 by_cases h:5*u<=4*f
 ·rw [decide_eq_true h,decide_eq_false (by omega)];rfl
 ·rw [decide_eq_false h,decide_eq_true (by omega)];rfl
theorem P4 {x:Int} (h:amt x=true):0<=x/\x<=1000000:=ZO h
theorem CV (x y:Int):([x,y].all fun z=>inB z 0 1000000)=(amt x && amt y):=by simp [amt]
theorem yx (x y z:Int):([x,y,z].all fun z=>inB z 0 1000000)=(amt x && (amt y && amt z)):=by simp [amt]
theorem Nu (u f:Int) (w:World):Calls Tryz.prog 372 #[.int .i64 u,.int .i64 f] w fun e w'=>e= .returned (.int .i64 (XM u f))/\Below w.heap.size w w':=by
 cases h:amt u && amt f
 ·have hs:XM u f= -1000001:=by unfold XM;rw [h];rfl
  have Hs:=Z9 hs;go_enter Tryz.func372,Tryz.ntmps372;go_wp2_with fail;refine (Xf _ _ [u,f] _ (by simp) ?_).mono ?_
  ·intro k hk
   simp at hk
   match k,hk with
   | 0,_=>simp
   | 1,_=>simp
  rintro e w' ⟨rfl,rfl⟩;rw [CV,h];go_wp2_with fail;go_ret;exact ⟨ZC (uh Hs).symm,(ba _ _)⟩
 ·have hs:XM u f=f-u:=by unfold XM;rw [h];rfl
  have Hs:=Z9 hs;have h':=h;simp only [ZM] at h';obtain ⟨u0,u1⟩:=P4 h'.1;obtain ⟨f0,f1⟩:=P4 h'.2;go_enter Tryz.func372,Tryz.ntmps372;go_wp2_with fail;refine (Xf _ _ [u,f] _ (by simp) ?_).mono ?_
  ·intro k hk
   simp at hk
   match k,hk with
   | 0,_=>simp
   | 1,_=>simp
  rintro e w' ⟨rfl,rfl⟩;rw [CV,h];go_wp2_with fail;go_ret;exact ⟨ZC (uh Hs).symm,(ba _ _)⟩
theorem Nv (u f:Int) (w:World):Calls Tryz.prog 371 #[.int .i64 u,.int .i64 f] w fun e w'=>e= .returned (.bool (VK u f))/\Below w.heap.size w w':=by
 cases h:amt u && amt f
 ·have hs:VK u f=false:=by unfold VK;rw [h];rfl
  have Hs:=Z9 hs;go_enter Tryz.func371,Tryz.ntmps371;go_wp2_with fail;refine (Xf _ _ [u,f] _ (by simp) ?_).mono ?_
  ·intro k hk
   simp at hk
   match k,hk with
   | 0,_=>simp
   | 1,_=>simp
  rintro e w' ⟨rfl,rfl⟩;rw [CV,h];go_wp2_with fail;go_ret;exact ⟨Z5 (uh Hs).symm,(ba _ _)⟩
 ·have hs:VK u f= !decide (5*u<=4*f):=by unfold VK;rw [h];rfl
  have Hs:=Z9 hs;have h':=h;simp only [ZM] at h';obtain ⟨u0,u1⟩:=P4 h'.1;obtain ⟨f0,f1⟩:=P4 h'.2;go_enter Tryz.func371,Tryz.ntmps371;go_wp2_with fail;refine (Xf _ _ [u,f] _ (by simp) ?_).mono ?_
  ·intro k hk
   simp at hk
   match k,hk with
   | 0,_=>simp
   | 1,_=>simp
  rintro e w' ⟨rfl,rfl⟩;rw [CV,h];go_wp2_with (go_at_call 315;refine (Sw f u _ f0 f1 u0 (by omega)).mono ?_;rintro e w' ⟨rfl,rfl⟩)
  go_ret;exact ⟨Z5 (uh Hs).symm,(ba _ _)⟩
theorem LQ (x u f:Int) (w:World):Calls Tryz.prog 373 #[.int .i64 x,.int .i64 u,.int .i64 f] w fun e w'=>e= .returned (.bool (Ws x u f))/\Below w.heap.size w w':=by
 cases h:amt x && (amt u && amt f)
 ·have hs:Ws x u f=false:=by unfold Ws;rw [h];rfl
  have Hs:=Z9 hs;go_enter Tryz.func373,Tryz.ntmps373;go_wp2_with fail;refine (Xf _ _ [x,u,f] _ (by simp) ?_).mono ?_
  ·intro k hk
   simp at hk
   match k,hk with
   | 0,_=>simp
   | 1,_=>simp
   | 2,_=>simp
  rintro e w' ⟨rfl,rfl⟩;rw [yx,h];go_wp2_with fail;go_ret;exact ⟨Z5 (uh Hs).symm,(ba _ _)⟩
 ·have hs:Ws x u f=decide (5*(x+u)<=4*f):=by unfold Ws;rw [h];rfl
  have Hs:=Z9 hs;have h':=h;simp only [ZM] at h';obtain ⟨x0,x1⟩:=P4 h'.1;obtain ⟨u0,u1⟩:=P4 h'.2.1;obtain ⟨f0,f1⟩:=P4 h'.2.2;go_enter Tryz.func373,Tryz.ntmps373;go_wp2_with fail;refine (Xf _ _ [x,u,f] _ (by simp) ?_).mono ?_
  ·intro k hk
   simp at hk
   match k,hk with
   | 0,_=>simp
   | 1,_=>simp
   | 2,_=>simp
  rintro e w' ⟨rfl,rfl⟩;rw [yx,h];go_wp2_with (go_at_call 315;refine (Sw f (x+u) _ f0 f1 (by omega) (by omega)).mono ?_;rintro e w' ⟨rfl,rfl⟩)
  go_ret;exact ⟨Z5 (uh Hs).symm,(ba _ _)⟩
theorem Uv (x u f:Int) (w:World):Calls Tryz.prog 167 #[.int .i64 x,.int .i64 u,.int .i64 f] w fun e w'=>e= .returned (.bool (Ws x u f))/\w'=w:=by
 cases hx:inB x 0 1000000
 ·go_enter Tryz.func167,Tryz.ntmps167
  go_wp2_with (go_at_call 171;refine (XR _ _).mono ?_;rintro e w' ⟨rfl,rfl⟩)
  go_ret;exact ⟨Z5 (by simp [Ws,amt,hx]),rfl⟩
 ·cases hu:inB u 0 1000000
  ·go_enter Tryz.func167,Tryz.ntmps167
   go_wp2_with (go_at_call 171;refine (XR _ _).mono ?_;rintro e w' ⟨rfl,rfl⟩)
   go_ret;exact ⟨Z5 (by simp [Ws,amt,hx,hu]),rfl⟩
  ·cases hf:inB f 0 1000000
   ·go_enter Tryz.func167,Tryz.ntmps167
    go_wp2_with (go_at_call 171;refine (XR _ _).mono ?_;rintro e w' ⟨rfl,rfl⟩)
    go_ret;exact ⟨Z5 (by simp [Ws,amt,hx,hu,hf]),rfl⟩
   ·obtain ⟨x0,x1⟩:=ZO hx
    obtain ⟨u0,u1⟩:=ZO hu;obtain ⟨f0,f1⟩:=ZO hf;go_enter Tryz.func167,Tryz.ntmps167;go_wp2_with (go_at_call 171;refine (XR _ _).mono ?_;rintro e w' ⟨rfl,rfl⟩)
    go_ret;exact ⟨Z5 (by simp [Ws,amt,hx,hu,hf]),rfl⟩
theorem NH (u f:Int) (w:World):Calls Tryz.prog 169 #[.int .i64 u,.int .i64 f] w fun e w'=>e= .returned (.bool (VK u f))/\w'=w:=by
 cases hu:inB u 0 1000000
 ·go_enter Tryz.func169,Tryz.ntmps169
  go_wp2_with (go_at_call 171;refine (XR _ _).mono ?_;rintro e w' ⟨rfl,rfl⟩)
  go_ret;exact ⟨Z5 (by simp [VK,amt,hu]),rfl⟩
 ·cases hf:inB f 0 1000000
  ·go_enter Tryz.func169,Tryz.ntmps169
   go_wp2_with (go_at_call 171;refine (XR _ _).mono ?_;rintro e w' ⟨rfl,rfl⟩)
   go_ret;exact ⟨Z5 (by simp [VK,amt,hu,hf]),rfl⟩
  ·obtain ⟨u0,u1⟩:=ZO hu
   obtain ⟨f0,f1⟩:=ZO hf;go_enter Tryz.func169,Tryz.ntmps169;go_wp2_with (go_at_call 171;refine (XR _ _).mono ?_;rintro e w' ⟨rfl,rfl⟩)
   go_ret;exact ⟨Z5 (by simp [VK,amt,hu,hf,Ay]),rfl⟩
theorem NG (u f:Int) (w:World):Calls Tryz.prog 109 #[.int .i64 u,.int .i64 f] w fun e w'=>e= .returned (.int .i64 (XM u f))/\w'=w:=by
 cases hu:inB u 0 1000000
 ·go_enter Tryz.func109,Tryz.ntmps109
  go_wp2_with (go_at_call 171;refine (XR _ _).mono ?_;rintro e w' ⟨rfl,rfl⟩)
  go_ret;exact ⟨ZC (by simp [XM,amt,hu]),rfl⟩
 ·cases hf:inB f 0 1000000
  ·go_enter Tryz.func109,Tryz.ntmps109
   go_wp2_with (go_at_call 171;refine (XR _ _).mono ?_;rintro e w' ⟨rfl,rfl⟩)
   go_ret;exact ⟨ZC (by simp [XM,amt,hu,hf]),rfl⟩
  ·obtain ⟨u0,u1⟩:=ZO hu
   obtain ⟨f0,f1⟩:=ZO hf;go_enter Tryz.func109,Tryz.ntmps109;go_wp2_with (go_at_call 171;refine (XR _ _).mono ?_;rintro e w' ⟨rfl,rfl⟩)
   go_ret;exact ⟨ZC (by simp [XM,amt,hu,hf]),rfl⟩
def PY (gs:List Zt) (s:Z3):Int:=min (max s.2.2.2.2.2.2.2.2.2.1 (UN (bnd gs s.2.2.2.2.1) s.2.2.2.2.2.1 s.2.2.2.2.2.2.1).1) (UN (bnd gs s.2.2.2.2.1) s.2.2.2.2.2.1 s.2.2.2.2.2.2.1).2
def Zs (m:Z6) (who:Int):Int:=PY m.gd (Z8 m.sm who.toNat)
theorem Bm (gs:List Zt) (s:Z3):0<=PY gs s/\PY gs s<=1024:=by
 obtain ⟨b0,b1,b2⟩:=xQ gs s.2.2.2.2.1;obtain ⟨n0,n1,n2⟩:=Dq (lo:=s.2.2.2.2.2.1) (hi:=s.2.2.2.2.2.2.1) b0 b1 b2;unfold PY;omega
theorem PZ (m:Z6) (who:Int):0<=Zs m who/\Zs m who<=1024:=Bm _ _
def UU (m:Z6) (but:Int) (q:List Z4):Int:=q.foldl (fun n e=>if e.2=but then n else n+Zs m e.2) 0
theorem Fl (m:Z6) (but:Int) (q:List Z4) (e:Z4):UU m but (q++[e])=if e.2=but then UU m but q else UU m but q+Zs m e.2:=by
 unfold UU;rw [List.foldl_append];rfl
theorem IB (m:Z6) (but:Int):∀ (q:List Z4) (n:Int),0<=n->0<=q.foldl (fun n e=>if e.2=but then n else n+Zs m e.2) n/\q.foldl (fun n e=>if e.2=but then n else n+Zs m e.2) n<=n+1024*q.length
 | [],n,h=>⟨h,by simp⟩
 | e::q,n,h=>by
  have hw:=PZ m e.2;have ih:=IB m but q (if e.2=but then n else n+Zs m e.2) (by split<;>omega);refine ⟨ih.1,Int.le_trans ih.2 ?_⟩;simp only [YT,Int.natCast_add,Int.natCast_one]
  split<;>omega
theorem IC (m:Z6) (but:Int) (q:List Z4):0<=UU m but q/\UU m but q<=1024*q.length:=by
 have:=IB m but q 0 (by omega);unfold UU;omega
def Zc (m:Z6) (b but:Int):Int:=UU m but (atV m.sm b m.sm.length)
theorem Tx (m:Z6) (b but:Int):0<=Zc m b but/\Zc m b but<=1024*m.sm.length:=by
 have h:=IC m but (atV m.sm b m.sm.length);have hl:=Si m.sm b m.sm.length;unfold Zc;refine ⟨h.1,Int.le_trans h.2 ?_⟩;omega
def YV (m:Z6) (room:Int):Nat->Int × Int
 | 0=>(0,0)
 | k+1=>if (Xo m.rm k:Int)=room then ((if (Z8 m.dk k).1 then max (YV m room k).1 (Zc m k (-1)) else (YV m room k).1),(YV m room k).2+Zc m k (-1)) else YV m room k
theorem Pa (m:Z6) (room:Int) (hl:m.sm.length<=12):∀ k:Nat,(0<=(YV m room k).1/\(YV m room k).1<=12288)/\0<=(YV m room k).2/\(YV m room k).2<=12288*k
 | 0=>by simp [YV]
 | k+1=>by
  have ih:=Pa m room hl k;have hu:=Tx m k (-1);unfold YV
  split
  ·simp only
   constructor
   ·split<;>omega
   ·push_cast;omega
  ·push_cast;omega
def TC (m:Z6) (room:Nat):Int:=OJ (ZR m.rm room) (YV m room m.dk.length).1 (YV m room m.dk.length).2
def VC (m:Z6):Nat->Int
 | 0=>0
 | k+1=>VC m k+TC m k
def Pp (m:Z6):Int:=VC m m.rm.length
theorem Oz (m:Z6):∀ k:Nat,-(k:Int)<=VC m k/\VC m k<=1024000000*k
 | 0=>by simp [VC]
 | k+1=>by
  have ih:=Oz m k;have hc:=FR (ZR m.rm k) (Xn (ZR m.rm k) (YV m k m.dk.length).1) (YV m k m.dk.length).2;unfold VC TC OJ
  push_cast
  omega
def QO (s:Z3) (b:Int):Z3:=(2,b,s.2.2)
def WD (m:Z6) (who b:Int):Z6:={ m with sm:=m.sm.set who.toNat (QO (Z8 m.sm who.toNat) b) }
def Za (m:Z6) (who b:Int):Int:=Pp (WD m who b)
def Yw (m:Z6) (who:Int) (b:Nat):Bool:=(Z8 m.dk b).1 && WI (Z8 m.sm who.toNat).2.2.2.1 b
def NS (m:Z6) (who:Int) (b:Nat):Bool:=Yw m who b && Ws (Zs m who) (Zc m b who) (Zd m.rm b)
def UT (m:Z6) (who:Int):Nat->List Int
 | 0=>[]
 | k+1=>if NS m who k then UT m who k++[(k:Int)] else UT m who k
def YN (m:Z6) (who:Int):List Int:=UT m who m.dk.length
theorem OB (m:Z6) (who:Int):∀ k,(UT m who k).length<=k
 | 0=>Z2 _
 | k+1=>by
  have:=OB m who k;unfold UT
  split
  ·simp;omega
  ·omega
theorem OC (m:Z6) (who:Int) (x:Int):∀ k,x ∈ UT m who k ↔ ∃ b:Nat,b<k/\x=(b:Int)/\NS m who b=true
 | 0=>by simp [UT]
 | k+1=>by
  have ih:=OC m who x k;unfold UT
  split
  ·rename_i hf
   rw [List.mem_append,ih];constructor
   ·rintro (⟨b,hb,e,h⟩ | h)
    ·exact ⟨b,by omega,e,h⟩
    ·exact ⟨k,by omega,by simpa using h,hf⟩
   ·rintro ⟨b,hb,e,h⟩
    by_cases hbk:b=k
    ·subst hbk;right;simp [e]
    ·left;exact ⟨b,by omega,e,h⟩
  ·rename_i hf
   rw [ih];constructor
   ·rintro ⟨b,hb,e,h⟩
    exact ⟨b,by omega,e,h⟩
   ·rintro ⟨b,hb,e,h⟩
    by_cases hbk:b=k
    ·subst hbk;exact absurd h hf
    ·exact ⟨b,by omega,e,h⟩
def Sm (m:Z6) (b:Nat):Bool:=(Z8 m.dk b).1 && VK (Zc m b (-1)) (Zd m.rm b)
def WJ (m:Z6):Bool:=(List.range m.dk.length).any (Sm m)
def WT (m:Z6) (who:Int) (a:Int × Int) (b:Int):Int × Int:=if Za m who b<a.2\/(Za m who b=a.2/\b=(Z8 m.sm who.toNat).2.1) then (b,Za m who b) else a
def Xg (m:Z6) (who:Int) (f:List Int) (k:Nat):Int × Int:=((f.take k).drop 1).foldl (WT m who) (Z8 f 0,Za m who (Z8 f 0))
def YE (m:Z6) (who:Int):Nat->Int × Int
 | 0=>(-1,0)
 | k+1=>if Yw m who k && (decide ((YE m who k).1<0) || decide ((YE m who k).2<XM (Zc m k who) (Zd m.rm k))) then ((k:Int),XM (Zc m k who) (Zd m.rm k)) else YE m who k
def YQ (m:Z6) (who:Int):Int:=if !WJ m && decide (0<(YN m who).length) then (Xg m who (YN m who) (YN m who).length).1 else (YE m who m.dk.length).1
theorem FI (m:Z6) (who:Int) (P:Int->Prop):∀ (f:List Int) (a:Int × Int),P a.1->(∀ x ∈ f,P x)->P (f.foldl (WT m who) a).1
 | [],a,h,_=>h
 | b::f,a,h,hf=>by
  refine FI m who P f (WT m who a b) ?_ (fun x hx=>hf x (List.mem_cons_of_mem _ hx));unfold WT
  split
  ·exact hf b (by simp)
  ·exact h
theorem Jr (m:Z6) (who:Int):∀ k:Nat,((YE m who k).1= -1/\ ∀ b,b<k->Yw m who b=false)\/ ∃ b:Nat,b<k/\(YE m who k).1=(b:Int)/\Yw m who b=true
 | 0=> .inl ⟨rfl,fun b hb=>by omega⟩
 | k+1=>by
  have ih:=Jr m who k;unfold YE
  split
  ·rename_i h
   simp only [ZM] at h;exact .inr ⟨k,by omega,rfl,h.1⟩
  ·rename_i h
   rcases ih with ⟨e,hn⟩ | ⟨b,hb,e,hm⟩
   ·refine .inl ⟨e,fun b hb=> ?_⟩
    by_cases hbk:b=k
    ·subst hbk
     cases hm:Yw m who b
     ·rfl
     ·exfalso
      apply h;rw [hm,e];rfl
    ·exact hn b (by omega)
   ·exact .inr ⟨b,by omega,e,hm⟩
theorem VS (m:Z6) (who:Int):(YQ m who= -1/\ ∀ b,b<m.dk.length->Yw m who b=false)\/ ∃ b:Nat,b<m.dk.length/\YQ m who=(b:Int)/\Yw m who b=true:=by
 unfold YQ
 split
 ·rename_i h
  simp only [ZM,YW] at h;right
  have hin:∀ x ∈ YN m who,∃ b:Nat,b<m.dk.length/\x=(b:Int)/\Yw m who b=true:=by
   intro x hx;obtain ⟨b,hb,e,hf⟩:=(OC m who x m.dk.length).1 hx;unfold NS at hf;simp only [ZM] at hf;exact ⟨b,hb,e,hf.1⟩
  unfold Xg;exact FI m who (fun x=> ∃ b:Nat,b<m.dk.length/\x=(b:Int)/\Yw m who b=true) _ _ (hin _ (Vu h.2)) (fun x hx=>hin x (List.mem_of_mem_take (List.mem_of_mem_drop hx)))
 ·exact Jr m who m.dk.length
theorem Tp {st be rk my gu lo hi hd ca ut wk:Int} (h0:1<=st/\st<=3) (h1:0<=be/\be<=7) (h2:inB rk (-5) 5=true) (h3:1<=my/\my<=255) (h4 : -1<=gu/\gu<=5) (h5:Yx lo hi=true) (h6 : -1000000000000<=hd/\hd<=1000000000000) (h7:0<=ca/\ca<=Zl rk-1) (h8:0<=ut/\ut<=1024) (h9:0<=wk/\wk<=100000000000) :
  Zh (st,be,rk,my,gu,lo,hi,hd,ca,ut,wk)=true:=by
 unfold Zh;simp only [ZM];exact ⟨Zn h0.1 h0.2,Zn h1.1 h1.2,h2,Zn h3.1 h3.2,Zn h4.1 h4.2,h5,Zn h6.1 h6.2,Zn h7.1 h7.2,Zn h8.1 h8.2,Zn h9.1 h9.2⟩
theorem Xk {s:Z3} : XV m s=true ↔ s=Vf\/(Zh s=true/\s.2.2.2.2.1<m.gd.length/\s.2.1<m.dk.length):=by
 unfold XV Zx;simp only [ZM,Bool.or_eq_true,YW];constructor
 ·rintro ⟨hg | hp,hr⟩
  ·exact .inl (Wa hg)
  ·right
   refine ⟨hp,?_⟩
   rcases hr with e | e
   ·have:s.1=0:=by simpa using e
    rw [Mp this] at hp;cases hp
   ·exact e
 ·rintro (rfl | ⟨hp,hr⟩)
  ·exact ⟨.inl Ea,.inl rfl⟩
  ·exact ⟨.inr hp,.inr hr⟩
theorem UD {s:Z3} (h:ZL s=false):XL m s=true:=by unfold XL;rw [h];rfl
theorem Nb {s:Z3} (h1:(Z8 m.dk s.2.1.toNat).1=true) (h2:WI s.2.2.2.1 s.2.1=true) (h3:WE (Xq s) (Z8 m.dk s.2.1.toNat).2.2=true):XL m s=true:=by
 unfold XL;rw [h1,h2,show s.2.2.2.2.2.2.2.1=Xq s from rfl,h3];simp
theorem ZK (h:ZI m=true):Loose m:=by
 unfold ZI at h;simp only [ZM] at h;exact Pz h.1
def setS (m:Z6) (k:Nat) (s:Z3):Z6:={ m with sm:=m.sm.set k s }
theorem Loose.setS (h:Loose m) {k:Nat} (hk:k<m.sm.length) {s:Z3} (h1:XV m s=true) (h2:XL m s=true):Loose (setS m k s):=by
 refine ⟨?_,h.desk,h.pace,?_,?_,h.openD⟩
 ·have:=h.head
  unfold YD at this ⊢;unfold Go.Proofs.YtamgfpdahadnfaaGreatDoor.setS;simpa using this
 ·intro i hi
  have hi':i<m.sm.length:=by unfold Go.Proofs.YtamgfpdahadnfaaGreatDoor.setS at hi;simpa using hi
  show XV (Go.Proofs.YtamgfpdahadnfaaGreatDoor.setS m k s) (Z8 (m.sm.set k s) i)=true;rw [Wu (m:=m) (m':=Go.Proofs.YtamgfpdahadnfaaGreatDoor.setS m k s) rfl rfl,ZJ hk]
  split
  ·exact h1
  ·exact h.here i hi'
 ·intro i hi
  have hi':i<m.sm.length:=by unfold Go.Proofs.YtamgfpdahadnfaaGreatDoor.setS at hi;simpa using hi
  show XL m (Z8 (m.sm.set k s) i)=true;rw [ZJ hk]
  split
  ·exact h2
  ·exact h.seat i hi'
theorem Vv {α:Type} [Inhabited α] (xs:List α) (x:α) (i:Nat):Z8 (xs++[x]) i=if i=xs.length then x else Z8 xs i:=by
 unfold Z8
 split
 ·rename_i h;subst h;simp [List.getD]
 ·rename_i h
  rcases Nat.lt_or_ge i xs.length with hi | hi
  ·simp [List.getD,List.getElem?_append_left hi]
  ·simp [List.getD,List.getElem?_append_right hi,List.getElem?_eq_none hi]
   rw [List.getElem?_eq_none (by simp;omega)];rfl
def pushS (m:Z6) (s:Z3):Z6:={ m with sm:=m.sm++[s] }
theorem Loose.pushS (h:Loose m) (hl:m.sm.length<12) {s:Z3} (h1:XV m s=true) (h2:XL m s=true):Loose (pushS m s):=by
 refine ⟨?_,h.desk,h.pace,?_,?_,h.openD⟩
 ·have:=h.head
  unfold YD at this ⊢;unfold Go.Proofs.YtamgfpdahadnfaaGreatDoor.pushS;simp only [ZM,YW] at this ⊢;refine ⟨this.1,this.2.1,?_,this.2.2.2⟩;simp;omega
 ·intro i hi
  have hi':i<m.sm.length+1:=by unfold Go.Proofs.YtamgfpdahadnfaaGreatDoor.pushS at hi;simpa using hi
  show XV (Go.Proofs.YtamgfpdahadnfaaGreatDoor.pushS m s) (Z8 (m.sm++[s]) i)=true;rw [Wu (m:=m) (m':=Go.Proofs.YtamgfpdahadnfaaGreatDoor.pushS m s) rfl rfl,Vv]
  split
  ·exact h1
  ·exact h.here i (by omega)
 ·intro i hi
  have hi':i<m.sm.length+1:=by unfold Go.Proofs.YtamgfpdahadnfaaGreatDoor.pushS at hi;simpa using hi
  show XL m (Z8 (m.sm++[s]) i)=true;rw [Vv]
  split
  ·exact h2
  ·exact h.seat i (by omega)
def Xy (m:Z6) (b:Int):Int:=(Z8 m.dk b.toNat).2.2
def Qk (s:Z3) (b had:Int):Z3:=(2,b,s.2.2.1,s.2.2.2.1,s.2.2.2.2.1,s.2.2.2.2.2.1,s.2.2.2.2.2.2.1,had,s.2.2.2.2.2.2.2.2)
def putS (m:Z6) (s:Z3) (b:Int):Z3:=(s.1,b,s.2.2.1,s.2.2.2.1,s.2.2.2.2.1,s.2.2.2.2.2.1,s.2.2.2.2.2.2.1,Zq (Xq s) (Xy m s.2.1) (Xy m b),s.2.2.2.2.2.2.2.2)
def Wk (s:Z3) (may:Int):Z3:=(s.1,s.2.1,s.2.2.1,may,s.2.2.2.2)
def Jk (s:Z3) (lo hi:Int):Z3:=(s.1,s.2.1,s.2.2.1,s.2.2.2.1,s.2.2.2.2.1,lo,hi,s.2.2.2.2.2.2.2)
def OF (s:Z3) (g:Int):Z3:=(s.1,s.2.1,s.2.2.1,s.2.2.2.1,g,s.2.2.2.2.2)
def Ye (rank may guild:Int):Z3:=(1,0,rank,may,guild,0,1024,0,0,0,0)
theorem VR (h:Loose m):m.dk.length<=8:=by
 have:=h.head;unfold YD at this;simp only [ZM,YW] at this;have h8:=(Zo this.1).2.2.2;omega
theorem BN (h:Loose m):m.gd.length<=6:=by
 have:=h.head;unfold YD at this;simp only [ZM,YW] at this;exact (Vp this.2.1).2
theorem Loose.limits (h:Loose m) {k:Nat} (hk:k<m.sm.length) (hs:(Z8 m.sm k).1 ≠ 0):Zh (Z8 m.sm k)=true/\(Z8 m.sm k).2.2.2.2.1<m.gd.length/\(Z8 m.sm k).2.1<m.dk.length:=by
 rcases Xk.1 (h.here k hk) with e | e
 ·rw [e] at hs;exact absurd rfl hs
 ·exact e
theorem BV (h:Loose m) {k:Nat} (hk:k<m.sm.length) (hp:ZL (Z8 m.sm k)=true):Loose (setS m k (stS (Z8 m.sm k) 1)):=
 h.setS hk (LM (h.here k hk) hp (by omega) (by omega)) (UD rfl)
theorem Ej (h:Loose m) {k:Nat} (hk:k<m.sm.length):Loose (setS m k Vf):=
 h.setS hk (Xk.2 (.inl rfl)) (UD rfl)
theorem JX (h:Loose m) {k:Nat} (hk:k<m.sm.length) {rank:Int} {s:Z3} (hr:Zr (Z8 m.sm k) rank=(s,true)):Loose (setS m k s):=by
 unfold Zr at hr
 split at hr
 ·rename_i hp
  split at hr
  ·rename_i hrk
   obtain ⟨rfl,_⟩:=Prod.mk.inj hr
   have hne:(Z8 m.sm k).1 ≠ 0:=by
    intro e;rw [Mp e] at hp;cases hp
   obtain ⟨_,g1,b1⟩:=h.limits hk hne;refine h.setS hk (Xk.2 (.inr ⟨SL hp hrk,g1,b1⟩)) ?_;have:=h.seat k hk;unfold XL at this ⊢;exact this
  ·cases (Prod.mk.inj hr).2
 ·cases (Prod.mk.inj hr).2
theorem Gq (h:Loose m) {k:Nat} (hk:k<m.sm.length) (hs:(Z8 m.sm k).1 ≠ 0) {lo hi:Int} (hp:Yx lo hi=true):Loose (setS m k (Jk (Z8 m.sm k) lo hi)):=by
 obtain ⟨p,g1,b1⟩:=h.limits hk hs;refine h.setS hk (Xk.2 (.inr ⟨?_,g1,b1⟩)) ?_
 ·generalize Z8 m.sm k=s at *
  obtain ⟨st,be,rk,my,gu,lo',hi',hd,ca,ut,wk⟩:=s;obtain ⟨x0,x1,x2,x3,x4,x5,x6,x7,x8,x9⟩:=Zi p;exact Tp x0 x1 x2 x3 x4 hp x6 x7 x8 x9
 ·have:=h.seat k hk
  unfold XL at this ⊢;exact this
theorem BT (h:Loose m) {k:Nat} (hk:k<m.sm.length) (hs:(Z8 m.sm k).1 ≠ 0) {g:Int} (g0 : -1<=g) (g1:g<m.gd.length):Loose (setS m k (OF (Z8 m.sm k) g)):=by
 obtain ⟨p,_,b1⟩:=h.limits hk hs;have hg:=BN h;refine h.setS hk (Xk.2 (.inr ⟨?_,g1,b1⟩)) ?_
 ·generalize Z8 m.sm k=s at *
  obtain ⟨st,be,rk,my,gu,lo',hi',hd,ca,ut,wk⟩:=s;obtain ⟨x0,x1,x2,x3,x4,x5,x6,x7,x8,x9⟩:=Zi p;exact Tp x0 x1 x2 x3 ⟨g0,by omega⟩ x5 x6 x7 x8 x9
 ·have:=h.seat k hk
  unfold XL at this ⊢;exact this
theorem Gr (h:Loose m) {k:Nat} (hk:k<m.sm.length) (hs:(Z8 m.sm k).1 ≠ 0) {may:Int} (m0:1<=may) (m1:may<=255) (hb:ZL (Z8 m.sm k)=false\/WI may (Z8 m.sm k).2.1=true):Loose (setS m k (Wk (Z8 m.sm k) may)):=by
 obtain ⟨p,g1,b1⟩:=h.limits hk hs;refine h.setS hk (Xk.2 (.inr ⟨?_,g1,b1⟩)) ?_
 ·generalize Z8 m.sm k=s at *
  obtain ⟨st,be,rk,my,gu,lo',hi',hd,ca,ut,wk⟩:=s;obtain ⟨x0,x1,x2,x3,x4,x5,x6,x7,x8,x9⟩:=Zi p;exact Tp x0 x1 x2 ⟨m0,m1⟩ x4 x5 x6 x7 x8 x9
 ·rcases hb with hb | hb
  ·exact UD hb
  ·have:=h.seat k hk
   unfold XL at this;cases hp:ZL (Z8 m.sm k)
   ·exact UD hp
   ·rw [hp] at this
    simp only [Bool.not_true,Bool.false_or,ZM] at this;exact Nb (s:=Wk (Z8 m.sm k) may) this.1 hb this.2.2
theorem Gs {s:Z3} {b:Nat} {had:Int} (h:Loose m) (hp:Zh s=true) (hg:s.2.2.2.2.1<m.gd.length) (hb:b<m.dk.length) (ho:(Z8 m.dk b).1=true) (hm:WI s.2.2.2.1 b=true) (hd:WE had (Z8 m.dk b).2.2=true) :
  XV m (Qk s b had)=true/\XL m (Qk s b had)=true:=by
 have h8:=VR h;obtain ⟨st,be,rk,my,gu,lo',hi',hd',ca,ut,wk⟩:=s;obtain ⟨x0,x1,x2,x3,x4,x5,x6,x7,x8,x9⟩:=Zi hp;obtain ⟨d0,d1,_⟩:=TZ hd;refine ⟨Xk.2 (.inr ⟨Tp (by omega) ⟨by omega,by omega⟩ x2 x3 x4 x5 ⟨d0,d1⟩ x7 x8 x9,hg,?_⟩),?_⟩
 ·show (b:Int)<_;omega
 ·exact Nb (m:=m) (s:=Qk (st,be,rk,my,gu,lo',hi',hd',ca,ut,wk) b had) (by show (Z8 m.dk ((b:Int)).toNat).1=true;simpa using ho) hm (by show WE had (Z8 m.dk ((b:Int)).toNat).2.2=true;simpa using hd)
theorem Pv (h:Loose m) {s:Z3} {b:Nat} (hp:Zh s=true) (hpr:ZL s=true) (hg:s.2.2.2.2.1<m.gd.length) (b0:0<=s.2.1) (b1:s.2.1<m.dk.length) (hband:WE (Xq s) (Xy m s.2.1)=true) (hb:b<m.dk.length) (ho:(Z8 m.dk b).1=true) (hm:WI s.2.2.2.1 b=true) :
  XV m (putS m s b)=true/\XL m (putS m s b)=true:=by
 have h8:=VR h;obtain ⟨k0,k1⟩:=Rk (h.desk s.2.1.toNat (by omega));obtain ⟨k2,k3⟩:=Rk (h.desk b hb);obtain ⟨a0,a1,a2,a3,a4,a5⟩:=TZ hband;have hmk:Xy m (b:Int)=(Z8 m.dk b).2.2:=by unfold Xy;simp
 have hmv:Zq (Xq s) (Xy m s.2.1) (Xy m b)=Xq s-Xy m s.2.1+Xy m b:=Ax a0 a1 a2 a3 (by omega) (by omega);obtain ⟨st,be,rk,my,gu,lo',hi',hd',ca,ut,wk⟩:=s;obtain ⟨x0,x1,x2,x3,x4,x5,x6,x7,x8,x9⟩:=Zi hp;simp only at b0 b1 hmv a4 a5 k0 k1 hg hm;refine ⟨Xk.2 (.inr ⟨?_,hg,?_⟩),?_⟩
 ·unfold putS
  simp only;rw [hmv];exact Tp x0 ⟨by omega,by omega⟩ x2 x3 x4 x5 ⟨by omega,by omega⟩ x7 x8 x9
 ·show (b:Int)<_;omega
 ·refine Nb (m:=m) (s:=putS m (st,be,rk,my,gu,lo',hi',hd',ca,ut,wk) b) (by show (Z8 m.dk ((b:Int)).toNat).1=true;simpa using ho) hm ?_
  show WE (Zq _ _ _) (Z8 m.dk ((b:Int)).toNat).2.2=true;rw [hmv,show ((b:Int)).toNat=b by simp,<-hmk];exact M7 (by omega) (by omega) (by omega) (by omega) (by omega) (by omega)
def TI (m:Z6) (r:Nat) (p:Int):Z6:={ m with pc:=m.pc.set r p }
theorem JW (h:Loose m) {r:Nat} (hr:r<m.rm.length) {p:Int} (p0:0<=p) (p1:p<(ZR m.rm r).2.length):Loose (TI m r p):=by
 have hd:=h.head
 have hpl:m.pc.length=m.rm.length:=by
  unfold YD at hd;simp only [ZM,YW] at hd;exact hd.2.2.2.2.1
 refine ⟨?_,h.desk,?_,h.here,h.seat,h.openD⟩
 ·unfold YD at hd ⊢
  unfold TI;simpa using hd
 ·intro j hj
  have hj':j<m.pc.length:=by unfold TI at hj;simpa using hj
  have:=h.pace j hj';unfold V4 at this ⊢;unfold TI;simp only;rw [ZJ (by omega)]
  split
  ·rename_i e;subst e;exact Zn p0 (by omega)
  ·exact this
def Yc (m:Z6) (b:Nat) (o:Bool):Z6:={ m with dk:=m.dk.set b (o,(Z8 m.dk b).2) }
theorem BU (h:Loose m) {b:Nat} (hb:b<m.dk.length):Loose (Yc m b true):=by
 have hat:∀ j,(Z8 (Yc m b true).dk j)=if j=b then (true,(Z8 m.dk b).2) else Z8 m.dk j:=fun j=>ZJ hb j
 have hmk:∀ j,(Z8 (Yc m b true).dk j).2=(Z8 m.dk j).2:=fun j=>by
  rw [hat];by_cases e:j=b
  ·rw [if_pos e,e]
  ·rw [if_neg e]
 have hop:∀ j,(Z8 m.dk j).1=true->(Z8 (Yc m b true).dk j).1=true:=fun j e=>by
  rw [hat];by_cases e':j=b
  ·rw [if_pos e']
  ·rw [if_neg e'];exact e
 have hlen:(Yc m b true).dk.length=m.dk.length:=by unfold Yc;simp
 refine ⟨?_,?_,h.pace,?_,?_,?_⟩
 ·have:=h.head
  unfold YD at this ⊢;rw [hlen];exact this
 ·intro j hj
  have:=h.desk j (by omega);unfold Vy at this ⊢;rw [hmk];exact this
 ·intro i hi
  rw [Wu (m:=m) (m':=Yc m b true) rfl hlen];exact h.here i hi
 ·intro i hi
  have:=h.seat i hi;unfold XL at this ⊢;show (!ZL (Z8 m.sm i) || _)=true;cases hp:ZL (Z8 m.sm i)
  ·rfl
  ·rw [hp] at this
   simp only [Bool.not_true,Bool.false_or,ZM] at this ⊢;refine ⟨hop _ this.1,this.2.1,?_⟩;show WE _ (Z8 (Yc m b true).dk (Z8 m.sm i).2.1.toNat).2.2=true;rw [hmk];exact this.2.2
 ·exact ⟨b,by omega,by rw [hat,if_pos rfl]⟩
def Yj:Z6:=⟨[],[],[],[],[],0⟩
def WU (m:Z6) (who:Int):Bool:=inB who 0 ((m.sm.length:Int)-1) && !((Z8 m.sm who.toNat).1 ==0)
theorem Yl {who:Int} (h:WU m who=true):∃ k:Nat,who=(k:Int)/\k<m.sm.length/\(Z8 m.sm k).1 ≠ 0:=by
 unfold WU at h;simp only [ZM,Bool.not_eq_true',beq_eq_false_iff_ne] at h;have h1:=ZO h.1;exact ⟨who.toNat,by omega,by omega,h.2⟩
theorem WK (h:Loose m):Few m:=by
 have hd:=h.head;unfold YD at hd;simp only [ZM,YW] at hd;obtain ⟨h1,h2,h3,h4,h5,_⟩:=hd;obtain ⟨r1,r2,r3,r4⟩:=Zo h1;have hg:=(Vp h2).2;refine ⟨by omega,fun r hr=> ?_,by omega,by omega,by omega,by omega⟩;have hrb:=List.all_eq_true.1 r3 r hr;unfold Ze at hrb;simp only [ZM] at hrb;have:=ZO hrb.2.1;omega
def RL (m:Z6) (who:Int):Z6 × Int:=
 if ZI m then (if WU m who then (if ZL (Z8 m.sm who.toNat) then (ZN (setS m who.toNat (stS (Z8 m.sm who.toNat) 1)),0) else (m,2)) else (m,1)) else (Yj,3)
def TE (m:Z6) (who:Int):Z6 × Int:=
 if ZI m then (if WU m who then (ZN (setS m who.toNat Vf),0) else (m,1)) else (Yj,3)
def XD (m:Z6) (who lo hi:Int):Z6 × Int:=
 if ZI m then (if WU m who then (if Yx lo hi then (ZN (setS m who.toNat (Jk (Z8 m.sm who.toNat) lo hi)),0) else (m,3)) else (m,1)) else (Yj,3)
def XE (m:Z6) (who rank:Int):Z6 × Int:=
 if ZI m then (if WU m who then (if (Zr (Z8 m.sm who.toNat) rank).2 then (ZN (setS m who.toNat (Zr (Z8 m.sm who.toNat) rank).1),0) else (m,3)) else (m,1)) else (Yj,3)
theorem ES (h:ZI m=true) (who:Int):ZI (RL m who).1=true:=by
 unfold RL;rw [h];simp only [if_true]
 split
 ·rename_i hw
  obtain ⟨k,rfl,hk,hs⟩:=Yl hw;rw [show ((k:Int)).toNat=k by simp]
  split
  ·rename_i hp
   exact YK (BV (ZK h) hk hp)
  ·exact h
 ·exact h
theorem Gx (h:ZI m=true) (who:Int):ZI (TE m who).1=true:=by
 unfold TE;rw [h];simp only [if_true]
 split
 ·rename_i hw
  obtain ⟨k,rfl,hk,hs⟩:=Yl hw;rw [show ((k:Int)).toNat=k by simp];exact YK (Ej (ZK h) hk)
 ·exact h
theorem Oa (h:ZI m=true) (who lo hi:Int):ZI (XD m who lo hi).1=true:=by
 unfold XD;rw [h];simp only [if_true]
 split
 ·rename_i hw
  obtain ⟨k,rfl,hk,hs⟩:=Yl hw;rw [show ((k:Int)).toNat=k by simp]
  split
  ·rename_i hp
   exact YK (Gq (ZK h) hk hs hp)
  ·exact h
 ·exact h
theorem Ms (h:ZI m=true) (who rank:Int):ZI (XE m who rank).1=true:=by
 unfold XE;rw [h];simp only [if_true]
 split
 ·rename_i hw
  obtain ⟨k,rfl,hk,hs⟩:=Yl hw;rw [show ((k:Int)).toNat=k by simp]
  split
  ·rename_i hp
   exact YK (JX (ZK h) hk (Prod.ext rfl hp))
  ·exact h
 ·exact h
theorem TV (u x n:Int) (w:World):Calls Tryz.prog 280 #[.int .i64 u,.int .i64 x,.int .i64 n] w fun e w'=>e= .returned (.int .i64 (ZE u x n))/\w'=w:=by
 refine Bo u x n 0 1024 0 1024 0 1000 ?_ ?_ ?_ ?_
 ·intro ha
  have hv:ZE u x n= -1:=by simp [ZE,ha]
  rw [hv];clear hv;go_enter Tryz.func280,Tryz.ntmps280;go_wp2_with (first | (go_at_call 105;refine (TO _ _).mono ?_;rintro e w' ⟨rfl,rfl⟩) | (go_at_call 59;refine (ZT _ _ _ _).mono ?_;rintro e w' ⟨rfl,rfl⟩))
  go_ret;exact ⟨rfl,rfl⟩
 ·intro ha hb
  have hv:ZE u x n= -1:=by simp [ZE,hb]
  rw [hv];clear hv;go_enter Tryz.func280,Tryz.ntmps280;go_wp2_with (first | (go_at_call 105;refine (TO _ _).mono ?_;rintro e w' ⟨rfl,rfl⟩) | (go_at_call 59;refine (ZT _ _ _ _).mono ?_;rintro e w' ⟨rfl,rfl⟩))
  go_ret;exact ⟨rfl,rfl⟩
 ·intro ha hb hc
  have hv:ZE u x n= -1:=by simp [ZE,hc]
  rw [hv];clear hv;go_enter Tryz.func280,Tryz.ntmps280;go_wp2_with (first | (go_at_call 105;refine (TO _ _).mono ?_;rintro e w' ⟨rfl,rfl⟩) | (go_at_call 59;refine (ZT _ _ _ _).mono ?_;rintro e w' ⟨rfl,rfl⟩))
  go_ret;exact ⟨rfl,rfl⟩
 ·intro ha hb hc
  have hv:ZE u x n=Ps x n.toNat u:=by simp [ZE,ha,hb,hc]
  rw [hv];clear hv;obtain ⟨a0,a1⟩:=ZO ha;obtain ⟨b0,b1⟩:=ZO hb;obtain ⟨c0,c1⟩:=ZO hc;obtain ⟨m,rfl⟩:=Int.eq_ofNat_of_zero_le c0;rw [Zz];go_enter Tryz.func280,Tryz.ntmps280;go_wp2_with (first | (go_at_call 105;refine (TO _ _).mono ?_;rintro e w' ⟨rfl,rfl⟩) | (go_at_call 59;refine (ZT _ _ _ _).mono ?_;rintro e w' ⟨rfl,rfl⟩))
  go_loop [0,2] (fun s i=> ∃ k:Nat,k<=m/\i= .int .i64 ((m:Int)-k)/\s= .int .i64 (Ps x k u)) (fun _ i=>(intOf i).toNat)
  case atStart=>exact ⟨0,ZA _,by simp,rfl⟩
  case round=>
   obtain ⟨k,hk,rfl,rfl⟩:=hrel;obtain ⟨f1,f2⟩:=F4 x b0 b1 k u a0 a1;have Hs:=Z9 (LB x k u);generalize hz:Ps x k u=z at *;have Hz:=Z9 hz;clear hz;by_cases hlt:k<m
   ·go_wp2_with fail
    go_round
    case rel=>exact ⟨k+1,by omega,by go_num,by rw [uh Hs]⟩
    case measure=>exact ms
   ·go_wp2_with fail
    go_ret;exact ⟨ZC (by rw [<-uh Hz,show k=m from by omega]),rfl⟩
end Go.Proofs.YtamgfpdahadnfaaGreatDoor
