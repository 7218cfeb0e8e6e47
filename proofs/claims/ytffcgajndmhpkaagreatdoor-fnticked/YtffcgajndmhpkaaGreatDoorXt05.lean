/- Part 5 of what the proof rests on. No condition but those that a theorem names. -/
import Derived.Test.YtffcgajndmhpkaaGreatDoorXt04
import Derived.WalkMore
import Derived.Below
set_option maxHeartbeats 8000000
set_option maxRecDepth 100000
namespace Go.Proofs.YtffcgajndmhpkaaGreatDoor
open Go.ChangeShapes Go.WideShapes Go.ChangeAt Go.RowKit Go.Sort
set_option linter.unusedVariables false
variable {w w' w0 w1 w2 w3 w₀ wr W W' X A B C : World} {v v0 v1 v2 v3 v4 u u0 u1 u2 u3 u4 : Value} {m : Z6}
def stS (s:Z3) (st:Int):Z3:=(st,s.2)
def ZL (ss:List Z3) (q:List Z4):List Z3:=q.foldl (fun ss e=>ss.set e.2.toNat (stS (Z8 ss e.2.toNat) 2)) ss
theorem RT (ss:List Z3) (q:List Z4) (e:Z4):ZL ss (q++[e])=(ZL ss q).set e.2.toNat (stS (Z8 (ZL ss q) e.2.toNat) 2):=by
  unfold ZL;rw [List.foldl_append];rfl
theorem Yi (q:List Z4):∀ ss:List Z3,(ZL ss q).length=ss.length:=by
  induction q with
  | nil=>intro ss;rfl
  | cons e q ih=>intro ss;show (ZL (ss.set e.2.toNat (stS (Z8 ss e.2.toNat) 2)) q).length=_;rw [ih,List.length_set]
theorem Sj (q:List Z4):∀ (ss:List Z3) (i:Nat),(∀ e ∈ q,0<=e.2/\e.2<ss.length)->((∃ e ∈ q,e.2=(i:Int))->Z8 (ZL ss q) i=stS (Z8 ss i) 2)/\((∀ e ∈ q,e.2 ≠ (i:Int))->Z8 (ZL ss q) i=Z8 ss i):=by
  induction q with
  | nil=>
    intro ss i h
    exact ⟨fun ⟨e,he,_⟩=>(List.not_mem_nil he).elim,fun _=>rfl⟩
  | cons e q ih=>
    intro ss i h
    obtain ⟨e0,e1⟩:=h e (by simp)
    have hs:=ZK (x:=stS (Z8 ss e.2.toNat) 2) (show e.2.toNat<ss.length by omega) i
    obtain ⟨i1,i2⟩:=ih (ss.set e.2.toNat (stS (Z8 ss e.2.toNat) 2)) i (fun x hx=>by rw [List.length_set];exact h x (List.mem_cons_of_mem _ hx))
    show ((∃ x ∈ e::q,x.2=(i:Int))->Z8 (ZL (ss.set e.2.toNat (stS (Z8 ss e.2.toNat) 2)) q) i=_)/\((∀ x ∈ e::q,x.2 ≠ (i:Int))->Z8 (ZL (ss.set e.2.toNat (stS (Z8 ss e.2.toNat) 2)) q) i=_)
    constructor
    · rintro ⟨x,hx,hxi⟩
      by_cases hq:∃ y ∈ q,y.2=(i:Int)
      · rw [i1 hq,hs]
        split
        · rename_i he;rw [he];rfl
        · rfl
      · rw [i2 (fun y hy e=>hq ⟨y,hy,e⟩),hs]
        rcases List.mem_cons.1 hx with rfl | hx
        · rw [if_pos (by omega)]
          rw [show x.2.toNat=i by omega]
        · exact absurd ⟨x,hx,hxi⟩ hq
    · intro hn
      rw [i2 (fun y hy=>hn y (List.mem_cons_of_mem _ hy)),hs,if_neg]
      have:=hn e (by simp)
      omega
def Xk (ss:List Z3) (b:Int) (d:Yq):Yq:=match atV ss b ss.length with
  | []=>(d.1,-1,d.2.2)
  | e::_=>(d.1,e.2,ZG d.2.2 e.1)
def XU (m:Z6) (b:Nat):Z6:=match atV m.smiths b m.smiths.length with
  | []=>{ m with desks:=m.desks.set b ((Z8 m.desks b).1,-1,(Z8 m.desks b).2.2) }
  | e::t=>{ m with smiths:=(ZL m.smiths (e::t)).set e.2.toNat (stS (Z8 (ZL m.smiths (e::t)) e.2.toNat) 3),desks:=m.desks.set b ((Z8 m.desks b).1,e.2,ZG (Z8 m.desks b).2.2 e.1) }
def Zg (m:Z6):Nat->Z6
  | 0=>m
  | k+1=>XU (Zg m k) k
def ZQ (m:Z6):Z6:=Zg m m.desks.length
theorem IT (m:Z6) (b:Nat):(XU m b).rooms=m.rooms/\(XU m b).guilds=m.guilds/\(XU m b).paces=m.paces/\(XU m b).now=m.now/\(XU m b).smiths.length=m.smiths.length/\(XU m b).desks.length=m.desks.length:=by
  unfold XU
  split
  · simp
  · simp [Yi]
theorem ZM (m:Z6):∀ k,(Zg m k).rooms=m.rooms/\(Zg m k).guilds=m.guilds/\(Zg m k).paces=m.paces/\(Zg m k).now=m.now/\(Zg m k).smiths.length=m.smiths.length/\(Zg m k).desks.length=m.desks.length
  | 0=>⟨rfl,rfl,rfl,rfl,rfl,rfl⟩
  | k+1=>by
    obtain ⟨h1,h2,h3,h4,h5,h6⟩:=ZM m k
    obtain ⟨g1,g2,g3,g4,g5,g6⟩:=IT (Zg m k) k
    exact ⟨g1.trans h1,g2.trans h2,g3.trans h3,g4.trans h4,g5.trans h5,g6.trans h6⟩
theorem Qp (m : Z6) (b : Nat) {i : Nat} (hi : i < m.smiths.length) : Z8 (XU m b).smiths i = if (Z8 m.smiths i).2.1 = (b : Int) ∧ ZP (Z8 m.smiths i) = true then stS (Z8 m.smiths i) (if WX m.smiths b = (i : Int) then 3 else 2) else Z8 m.smiths i := by
  have hq := Yc m.smiths (b : Int)
  have hf : WX m.smiths (b : Int) = match atV m.smiths (b : Int) m.smiths.length with
    | [] => -1
    | h :: _ => h.2 := rfl
  unfold XU
  split
  · rename_i h0
    rw [if_neg]
    intro hp
    have := (hq (XL (Z8 m.smiths i), (i : Int)) m.smiths.length).2 ⟨i, hi, hp.1, hp.2, rfl⟩
    rw [h0] at this
    exact List.not_mem_nil this
  · rename_i e t h0
    rw [h0] at hf
    simp only at hf
    have hin : ∀ x ∈ e :: t, 0 ≤ x.2 ∧ x.2 < m.smiths.length := by
      intro x hx
      rw [← h0] at hx
      obtain ⟨j, hj, _, _, rfl⟩ := (hq x _).1 hx
      exact ⟨by show (0 : Int) ≤ (j : Int); omega, by show (j : Int) < _; omega⟩
    obtain ⟨w1, w2⟩ := Sj (e :: t) m.smiths i hin
    obtain ⟨e0, e1⟩ := hin e (by simp)
    show Z8 ((ZL m.smiths (e :: t)).set e.2.toNat _) i = _
    rw [ZK (by rw [Yi]; omega)]
    by_cases hp : (Z8 m.smiths i).2.1 = (b : Int) ∧ ZP (Z8 m.smiths i) = true
    · have hmem : (XL (Z8 m.smiths i), (i : Int)) ∈ e :: t := by rw [← h0]; exact (hq _ _).2 ⟨i, hi, hp.1, hp.2, rfl⟩
      rw [if_pos hp, hf]
      by_cases hie : i = e.2.toNat
      · rw [if_pos hie, if_pos (by omega), ← hie, w1 ⟨_, hmem, rfl⟩]
        rfl
      · rw [if_neg hie, if_neg (by omega), w1 ⟨_, hmem, rfl⟩]
    · have hnm : ∀ x ∈ e :: t, x.2 ≠ (i : Int) := by
        intro x hx hxi
        rw [← h0] at hx
        obtain ⟨j, hj, j1, j2, rfl⟩ := (hq x _).1 hx
        have : j = i := by have : (j : Int) = (i : Int) := hxi
                           omega
        subst this
        exact hp ⟨j1, j2⟩
      rw [if_neg hp, if_neg (by have := hnm e (by simp); omega), w2 hnm]
theorem IQ (m:Z6) {b:Nat} (hb:b<m.desks.length) (j:Nat):Z8 (XU m b).desks j=if j=b then Xk m.smiths b (Z8 m.desks b) else Z8 m.desks j:=by
  have hf:Xk m.smiths (b:Int) (Z8 m.desks b)=match atV m.smiths (b:Int) m.smiths.length with
    | []=>((Z8 m.desks b).1,-1,(Z8 m.desks b).2.2)
    | e::_=>((Z8 m.desks b).1,e.2,ZG (Z8 m.desks b).2.2 e.1):=rfl
  unfold XU
  split
  · rename_i h0
    rw [h0] at hf
    rw [hf,<-ZK hb]
  · rename_i e t h0
    rw [h0] at hf
    rw [hf,<-ZK hb]
theorem KW (m:Z6) (b:Nat):Alike m.smiths (XU m b).smiths m.smiths.length:=by
  intro i hi
  rw [Qp m b hi]
  split
  · rename_i hp
    refine ⟨rfl,?_,rfl⟩
    rw [hp.2]
    split<;>rfl
  · exact ⟨rfl,rfl,rfl⟩
theorem Alike.trans {a b c:List Z3} {k:Nat} (h:Alike a b k) (g:Alike b c k):Alike a c k:=fun i hi=>⟨(g i hi).1.trans (h i hi).1,(g i hi).2.1.trans (h i hi).2.1,(g i hi).2.2.trans (h i hi).2.2⟩
theorem Xx (m:Z6):∀ k,Alike m.smiths (Zg m k).smiths m.smiths.length
  | 0=>fun _ _=>⟨rfl,rfl,rfl⟩
  | k+1=>by
    have h:=KW (Zg m k) k
    rw [(ZM m k).2.2.2.2.1] at h
    exact (Xx m k).trans h
theorem Rb (m:Z6) (k:Nat) (b:Int):atV (Zg m k).smiths b (Zg m k).smiths.length=atV m.smiths b m.smiths.length:=by
  rw [(ZM m k).2.2.2.2.1]
  exact Mo b _ (Xx m k)
theorem KZ (m:Z6) (k:Nat) (b:Int):WX (Zg m k).smiths b=WX m.smiths b:=by unfold WX;rw [Rb]
theorem NF (m:Z6) (k:Nat) (b:Int) (d:Yq):Xk (Zg m k).smiths b d=Xk m.smiths b d:=by unfold Xk;rw [Rb]
theorem Xy (m:Z6) {i:Nat} (hi:i<m.smiths.length):∀ k:Nat,Z8 (Zg m k).smiths i=if (0<=(Z8 m.smiths i).2.1/\(Z8 m.smiths i).2.1<(k:Int))/\ZP (Z8 m.smiths i)=true then stS (Z8 m.smiths i) (if WX m.smiths (Z8 m.smiths i).2.1=(i:Int) then 3 else 2) else Z8 m.smiths i
  | 0=>by rw [if_neg (by omega)];rfl
  | k+1=>by
    have ih:=Xy m hi k
    have ha:=Xx m k i hi
    show Z8 (XU (Zg m k) k).smiths i=_
    rw [Qp _ _ (by rw [(ZM m k).2.2.2.2.1];exact hi),ha.1,ha.2.1,KZ]
    by_cases hp:ZP (Z8 m.smiths i)=true
    · by_cases hb:(Z8 m.smiths i).2.1=(k:Int)
      · have hc:(0<=(Z8 m.smiths i).2.1/\(Z8 m.smiths i).2.1<((k+1:Nat):Int))/\ZP (Z8 m.smiths i)=true:=⟨by omega,hp⟩
        rw [if_pos ⟨hb,hp⟩,if_pos hc,ih,if_neg (by omega),hb]
      · rw [if_neg (fun h=>hb h.1),ih]
        by_cases hk:0<=(Z8 m.smiths i).2.1/\(Z8 m.smiths i).2.1<(k:Int)
        · have hc:(0<=(Z8 m.smiths i).2.1/\(Z8 m.smiths i).2.1<((k+1:Nat):Int))/\ZP (Z8 m.smiths i)=true:=⟨by omega,hp⟩
          rw [if_pos ⟨hk,hp⟩,if_pos hc]
        · rw [if_neg (fun h=>hk h.1),if_neg (fun h=>hk (by omega))]
    · rw [if_neg (fun h=>hp h.2),ih,if_neg (fun h=>hp h.2),if_neg (fun h=>hp h.2)]
theorem VB (m:Z6) (j:Nat):∀ k:Nat,k<=m.desks.length->Z8 (Zg m k).desks j=if j<k then Xk m.smiths j (Z8 m.desks j) else Z8 m.desks j
  | 0,_=>by rw [if_neg (by omega)];rfl
  | k+1,hk=>by
    have ih:=VB m j k (by omega)
    show Z8 (XU (Zg m k) k).desks j=_
    rw [IQ _ (by rw [(ZM m k).2.2.2.2.2];omega)]
    by_cases hjk:j=k
    · subst hjk
      rw [if_pos rfl,if_pos (by omega),NF,ih,if_neg (by omega)]
    · rw [if_neg hjk,ih]
      by_cases h:j<k
      · rw [if_pos h,if_pos (by omega)]
      · rw [if_neg h,if_neg (by omega)]
structure Loose (m:Z6):Prop where
  head:YY m=true
  desk:∀ j,j<m.desks.length->Wu (Z8 m.desks j)=true
  pace:∀ j,j<m.paces.length->WY m j=true
  here:∀ i,i<m.smiths.length->Yt m (Z8 m.smiths i)=true
  seat:∀ i,i<m.smiths.length->Ym m (Z8 m.smiths i)=true
  openD:∃ j,j<m.desks.length/\(Z8 m.desks j).1=true
theorem Th (h:Ze m=true):Loose m:=by
  unfold Ze We WJ WK US at h
  simp only [Bool.and_eq_true] at h
  obtain ⟨h1,h2,h3,h4,h5⟩:=h
  have h4':=fun i hi=>Lr h4 (k:=i) hi
  simp only [Bool.and_eq_true] at h4'
  obtain ⟨j,hj,ho⟩:=List.any_eq_true.1 h5
  exact ⟨h1,fun j hj=>Lr h2 hj,fun j hj=>Lr h3 hj,fun i hi=>(h4' i hi).1,fun i hi=>(h4' i hi).2,j,List.mem_range.1 hj,ho⟩
theorem Loose.mk' (h:Loose m):Ze m=true:=by
  unfold Ze We WJ WK US
  simp only [Bool.and_eq_true]
  refine ⟨h.head,?_,?_,?_,?_⟩
  · exact List.all_eq_true.2 fun j hj=>h.desk j (List.mem_range.1 hj)
  · exact List.all_eq_true.2 fun j hj=>h.pace j (List.mem_range.1 hj)
  · exact List.all_eq_true.2 fun j hj=>by rw [h.here j (List.mem_range.1 hj),h.seat j (List.mem_range.1 hj)];rfl
  · obtain ⟨j,hj,ho⟩:=h.openD
    exact List.any_eq_true.2 ⟨j,List.mem_range.2 hj,ho⟩
theorem Loose.at (h:Loose m) {i:Nat} (hi:i<m.smiths.length) (hp:ZP (Z8 m.smiths i)=true):0<=(Z8 m.smiths i).2.1/\(Z8 m.smiths i).2.1<m.desks.length/\(Z8 m.desks (Z8 m.smiths i).2.1.toNat).1=true/\Wf (Z8 m.smiths i).2.2.2.1 (Z8 m.smiths i).2.1=true/\Xz (XL (Z8 m.smiths i)) (Z8 m.desks (Z8 m.smiths i).2.1.toNat).2.2=true:=by
  obtain ⟨b0,b1,_⟩:=JQ (h.here i hi) hp
  have hs:=h.seat i hi
  unfold Ym at hs
  rw [hp] at hs
  simp only [Bool.not_true,Bool.false_or,Bool.and_eq_true] at hs
  exact ⟨b0,b1,hs.1,hs.2.1,hs.2.2⟩
theorem U7 {had XO:Int} (h:Xz had XO=true) : -1000000000000<=had/\had<=1000000000000/\ -1000000000000<=XO/\XO<=1000000000000/\ -20000<=had-XO/\had-XO<=63000:=by
  unfold Xz at h
  simp only [Bool.and_eq_true] at h
  have h1:=ZU h.1
  have h2:=ZU h.2.1
  have h3:=ZU h.2.2
  omega
theorem Pt {had XO:Int} (h0 : -1000000000000<=had) (h1:had<=1000000000000) (h2 : -1000000000000<=XO) (h3:XO<=1000000000000) (h4 : -20000<=had-XO) (h5:had-XO<=63000):Xz had XO=true:=by
  unfold Xz;rw [Zp h0 h1,Zp h2 h3,Zp h4 h5];rfl
theorem SW {d:Yq} (h:Wu d=true) : -900000000000<=d.2.2/\d.2.2<=900000000000:=ZU h
theorem FB {s:Z3} {st:Int} (h:ZJ s=true) (hp:ZP s=true) (h0:1<=st) (h1:st<=3):ZJ (stS s st)=true:=by
  obtain ⟨x0,be,rk,my,gu,lo,hi,hd,ca,ut,wk⟩:=s
  have hx:x0 ≠ 0:=by intro e;subst e;cases hp
  unfold ZJ at h ⊢
  rw [Up (x:=(x0,be,rk,my,gu,lo,hi,hd,ca,ut,wk)) hx,Bool.false_or] at h
  unfold Zw at h
  simp only [Bool.and_eq_true] at h
  obtain ⟨g0,g⟩:=h
  have:Zw (stS (x0,be,rk,my,gu,lo,hi,hd,ca,ut,wk) st)=true:=by
    unfold Zw stS
    simp only [Bool.and_eq_true]
    exact ⟨Zp h0 h1,g⟩
  rw [this,Bool.or_true]
theorem Oj {s:Z3} {st:Int} (h:Yt m s=true) (hp:ZP s=true) (h0:1<=st) (h1:st<=3):Yt m (stS s st)=true:=by
  unfold Yt at h ⊢
  simp only [Bool.and_eq_true,Bool.or_eq_true] at h ⊢
  refine ⟨FB h.1 hp h0 h1,.inr ?_⟩
  rcases h.2 with e | e
  · have:s.1=0:=by simpa using e
    unfold ZP at hp
    rw [this] at hp
    cases hp
  · exact e
theorem Xq {m m':Z6} (hg:m'.guilds.length=m.guilds.length) (hd:m'.desks.length=m.desks.length) (s:Z3):Yt m' s=Yt m s:=by unfold Yt;rw [hg,hd]
theorem IW (h:Loose m):Loose (ZQ m):=by
  obtain ⟨e1,e2,e3,e4,e5,e6⟩:=ZM m m.desks.length
  have hd:=fun j=>VB m j m.desks.length (Nat.le_refl _)
  have hopen:∀ j,(Z8 (ZQ m).desks j).1=(Z8 m.desks j).1:=by
    intro j
    unfold ZQ
    rw [hd j]
    split
    · unfold Xk;split<;>rfl
    · rfl
  have hmark:∀ j,j<m.desks.length->(-900000000000<=(Z8 (ZQ m).desks j).2.2/\(Z8 (ZQ m).desks j).2.2<=900000000000)/\(Z8 m.desks j).2.2<=(Z8 (ZQ m).desks j).2.2/\((Z8 (ZQ m).desks j).2.2<=(Z8 m.desks j).2.2\/ ∀ i,i<m.smiths.length->(Z8 m.smiths i).2.1=(j:Int)->ZP (Z8 m.smiths i)=true->(Z8 (ZQ m).desks j).2.2<=XL (Z8 m.smiths i)):=by
    intro j hj
    obtain ⟨k0,k1⟩:=SW (h.desk j hj)
    unfold ZQ
    rw [hd j,if_pos hj]
    unfold Xk
    split
    · exact ⟨⟨k0,k1⟩,Int.le_refl _,.inl (Int.le_refl _)⟩
    · rename_i e t hq
      obtain ⟨_,i,hi,hib,hip,rfl⟩:=TL hq
      obtain ⟨_,_,_,_,hband⟩:=h.at hi hip
      obtain ⟨a0,a1,_⟩:=U7 hband
      have hm:=MI (m:=(Z8 m.desks j).2.2) (f:=XL (Z8 m.smiths i)) (by omega) (by omega) a0 a1
      show (-900000000000<=ZG _ _/\ZG _ _<=900000000000)/\_<=ZG _ _/\(ZG _ _<=_\/_)
      rw [hm]
      refine ⟨by omega,by omega,?_⟩
      by_cases hc:XL (Z8 m.smiths i)<=(Z8 m.desks j).2.2
      · left;omega
      · right
        intro i' hi' hb' hp'
        have:=P9 hq hi' hb' hp'
        simp only at this
        show min (max (Z8 m.desks j).2.2 (XL (Z8 m.smiths i))) 900000000000<=_
        omega
  refine ⟨?_,?_,?_,?_,?_,?_⟩
  · have:=h.head
    unfold YY at this ⊢
    unfold ZQ
    rw [e1,e2,e3,e4,e5,e6]
    exact this
  · intro j hj
    have hj':j<m.desks.length:=by unfold ZQ at hj;omega
    exact Zp (hmark j hj').1.1 (hmark j hj').1.2
  · intro j hj
    have hj':j<m.paces.length:=by unfold ZQ at hj;rw [e3] at hj;exact hj
    have:=h.pace j hj'
    unfold WY at this ⊢
    unfold ZQ
    rw [e1,e3]
    exact this
  · intro i hi
    have hi':i<m.smiths.length:=by unfold ZQ at hi;omega
    rw [Xq (m:=m) (by unfold ZQ;rw [e2]) (by unfold ZQ;rw [e6])]
    unfold ZQ
    rw [Xy m hi']
    split
    · rename_i hp
      exact Oj (h.here i hi') hp.2 (by split<;>omega) (by split<;>omega)
    · exact h.here i hi'
  · intro i hi
    have hi':i<m.smiths.length:=by unfold ZQ at hi;omega
    have ha:=Xx m m.desks.length i hi'
    unfold Ym
    show (!ZP (Z8 (Zg m m.desks.length).smiths i) || _)=true
    rw [ha.2.1]
    cases hp:ZP (Z8 m.smiths i)
    · rfl
    · obtain ⟨b0,b1,ho,hm,hband⟩:=h.at hi' hp
      obtain ⟨a0,a1,a2,a3,a4,a5⟩:=U7 hband
      obtain ⟨⟨q0,q1⟩,q2,q3⟩:=hmark (Z8 m.smiths i).2.1.toNat (by omega)
      have hmay:(Z8 (Zg m m.desks.length).smiths i).2.2.2.1=(Z8 m.smiths i).2.2.2.1:=by
        rw [Xy m hi'];split<;>rfl
      show (!true || ((Z8 (ZQ m).desks (Z8 (Zg m m.desks.length).smiths i).2.1.toNat).1 && (Wf (Z8 (Zg m m.desks.length).smiths i).2.2.2.1 (Z8 (Zg m m.desks.length).smiths i).2.1 && Xz (XL (Z8 (Zg m m.desks.length).smiths i)) (Z8 (ZQ m).desks (Z8 (Zg m m.desks.length).smiths i).2.1.toNat).2.2)))=true
      rw [ha.1,ha.2.2,hmay,hopen,ho,hm]
      rw [Pt a0 a1 (by omega) (by omega) ?_ (by omega)]
      · rfl
      · rcases q3 with q3 | q3
        · omega
        · have:=q3 i hi' (by omega) hp
          omega
  · obtain ⟨j,hj,ho⟩:=h.openD
    exact ⟨j,by unfold ZQ;omega,by rw [hopen];exact ho⟩
theorem Gy {ss : List Z3} {b f : Int} : ∀ k : Nat, (∀ i, i < k → (Z8 ss i).2.1 = b → ZP (Z8 ss i) = true → ((Z8 ss i).1 = 2 ∧ (i : Int) ≠ f) ∨ ((Z8 ss i).1 = 3 ∧ (i : Int) = f)) →
    ∃ wk wt, Yv ss b k = some (wk, wt) ∧ ((wk = -1 ∧ ∀ i, i < k → (Z8 ss i).2.1 = b → ZP (Z8 ss i) = true → (i : Int) ≠ f) ∨ (wk = f ∧ ∃ i : Nat, i < k ∧ (Z8 ss i).2.1 = b ∧ ZP (Z8 ss i) = true ∧ (i : Int) = f)) ∧ (wt = true → ∃ i, i < k ∧ (Z8 ss i).2.1 = b ∧ ZP (Z8 ss i) = true)
  | 0, _ => ⟨-1, false, rfl, .inl ⟨rfl, fun i hi => by omega⟩, fun h => by cases h⟩
  | k + 1, h => by
    obtain ⟨wk, wt, hs, hw, ht⟩ := Gy k (fun i hi => h i (by omega))
    have hu : Yv ss b (k + 1) = if (Z8 ss k).2.1 = b ∧ ZP (Z8 ss k) = true then (if (Z8 ss k).1 = 2 then some (wk, true) else if 0 ≤ wk then none else some ((k : Int), wt)) else some (wk, wt) := by
      show (match Yv ss b k with
        | none => none
        | some (wk, wt) => _) = _
      rw [hs]
    rw [hu]
    by_cases hp : (Z8 ss k).2.1 = b ∧ ZP (Z8 ss k) = true
    · rw [if_pos hp]
      rcases h k (by omega) hp.1 hp.2 with ⟨h2, hne⟩ | ⟨h3, hkf⟩
      · rw [if_pos h2]
        refine ⟨wk, true, rfl, ?_, fun _ => ⟨k, by omega, hp.1, hp.2⟩⟩
        rcases hw with ⟨e, hn⟩ | ⟨e, i, hi, hb, hpi, hif⟩
        · refine .inl ⟨e, fun i hi hb hpi => ?_⟩
          by_cases hik : i = k
          · subst hik; exact hne
          · exact hn i (by omega) hb hpi
        · exact .inr ⟨e, i, by omega, hb, hpi, hif⟩
      · rw [if_neg (by omega)]
        have hw1 : wk = -1 := by
          rcases hw with ⟨e, _⟩ | ⟨e, i, hi, hb, hpi, hif⟩
          · exact e
          · omega
        rw [if_neg (by omega)]
        exact ⟨k, wt, rfl, .inr ⟨hkf, k, by omega, hp.1, hp.2, hkf⟩, fun e => by obtain ⟨i, hi, r⟩ := ht e; exact ⟨i, by omega, r⟩⟩
    · rw [if_neg hp]
      refine ⟨wk, wt, rfl, ?_, fun e => by obtain ⟨i, hi, r⟩ := ht e; exact ⟨i, by omega, r⟩⟩
      rcases hw with ⟨e, hn⟩ | ⟨e, i, hi, r⟩
      · refine .inl ⟨e, fun i hi hb hpi => ?_⟩
        by_cases hik : i = k
        · subst hik; exact absurd ⟨hb, hpi⟩ hp
        · exact hn i (by omega) hb hpi
      · exact .inr ⟨e, i, by omega, r⟩
theorem Y0 (h:Loose m):ZO (ZQ m)=true:=by
  unfold ZO
  rw [Bool.and_eq_true]
  refine ⟨(IW h).mk',?_⟩
  obtain ⟨e1,e2,e3,e4,e5,e6⟩:=ZM m m.desks.length
  refine List.all_eq_true.2 fun b hb=> ?_
  have hb:=List.mem_range.1 hb
  have hb':b<m.desks.length:=by unfold ZQ at hb;omega
  have hn:(ZQ m).smiths.length=m.smiths.length:=e5
  have ha:=Xx m m.desks.length
  have hstate:∀ i,i<m.smiths.length->(Z8 (ZQ m).smiths i).2.1=(b:Int)->ZP (Z8 (ZQ m).smiths i)=true->((Z8 (ZQ m).smiths i).1=2/\(i:Int) ≠ WX m.smiths b)\/((Z8 (ZQ m).smiths i).1=3/\(i:Int)=WX m.smiths b):=by
    intro i hi hib hip
    have hib':(Z8 m.smiths i).2.1=(b:Int):=(ha i hi).1.symm.trans hib
    have hip':ZP (Z8 m.smiths i)=true:=(ha i hi).2.1.symm.trans hip
    unfold ZQ
    rw [Xy m hi,if_pos ⟨by omega,hip'⟩,hib']
    by_cases hf:WX m.smiths (b:Int)=(i:Int)
    · right;rw [if_pos hf];exact ⟨rfl,hf.symm⟩
    · left;rw [if_neg hf];exact ⟨rfl,fun e=>hf e.symm⟩
  obtain ⟨wk,wt,hs,hw,ht⟩:=Gy (b:=(b:Int)) (f:=WX m.smiths b) (ss:=(ZQ m).smiths) m.smiths.length hstate
  unfold YL
  rw [hn,hs]
  simp only
  have hdesk:=VB m b m.desks.length (Nat.le_refl _)
  rw [if_pos hb'] at hdesk
  cases hq:atV m.smiths (b:Int) m.smiths.length with
  | nil=>
    have hempty:∀ i,i<m.smiths.length-> ¬ ((Z8 (ZQ m).smiths i).2.1=(b:Int)/\ZP (Z8 (ZQ m).smiths i)=true):=by
      rintro i hi ⟨hib,hip⟩
      have:=(Yc m.smiths (b:Int) (XL (Z8 m.smiths i),(i:Int)) m.smiths.length).2 ⟨i,hi,(ha i hi).1.symm.trans hib,(ha i hi).2.1.symm.trans hip,rfl⟩
      rw [hq] at this
      exact List.not_mem_nil this
    have hwt:wt=false:=by
      cases wt
      · rfl
      · obtain ⟨i,hi,r⟩:=ht rfl
        exact absurd r (hempty i hi)
    have hwk:wk= -1:=by
      rcases hw with ⟨e,_⟩ | ⟨_,i,hi,hb,hp,_⟩
      · exact e
      · exact absurd ⟨hb,hp⟩ (hempty i hi)
    have hwho:(Z8 (ZQ m).desks b).2.1= -1:=by
      unfold ZQ;rw [hdesk];unfold Xk;rw [hq]
    rw [hwho,hwk,hwt]
    rfl
  | cons e t=>
    obtain ⟨hfe,i,hi,hib,hip,rfl⟩:=TL hq
    have hwho:(Z8 (ZQ m).desks b).2.1=(i:Int):=by
      unfold ZQ;rw [hdesk];unfold Xk;rw [hq]
    have hwk:wk=(i:Int):=by
      rcases hw with ⟨_,hn⟩ | ⟨e,_⟩
      · exact absurd hfe.symm (hn i hi ((ha i hi).1.trans hib) ((ha i hi).2.1.trans hip))
      · exact e.trans hfe
    rw [hwho,hwk]
    have:decide ((i:Int)<0)=false:=decide_eq_false (by omega)
    rw [this]
    simp
def XN (rs:List Z2) (n:Int):Nat:=((List.range rs.length).find? fun r=>decide (n<ZY (rs.take (r+1)))).getD 0
def Zb (rs:List Z2) (n:Int):Bool:=Zf rs && inB n 0 (ZY rs-1)
def OV (rs:List Z2) (n:Int):Int:=if Zb rs n=true then (XN rs n:Int) else -1
def VE (ps:List Z4):Int:=(Z7 ps (ps.length-1)).1
def YR (rs:List Z2) (n:Int):Int:=if Zb rs n=true then VE (ZV rs (XN rs n)).2 else -1
theorem OU {rs:List Z2} {n:Int} {r:Nat} (hr:r<rs.length) (h:n<ZY (rs.take (r+1))) (hl:∀ j,j<r->ZY (rs.take (j+1))<=n):XN rs n=r:=by
 unfold XN
 have:(List.range rs.length).find? (fun r=>decide (n<ZY (rs.take (r+1))))=some r:=by
  rw [List.find?_range_eq_some]
  refine ⟨by simpa using h,by simpa using hr,fun j hj=> ?_⟩
  have:=hl j hj
  simp;omega
 rw [this];rfl
theorem Wm {rs:List Z2} {n:Int} (h:Zb rs n=true):Zf rs=true/\0<=n/\n<ZY rs:=by
 unfold Zb at h;simp only [Bool.and_eq_true] at h
 have:=ZU h.2
 exact ⟨h.1,by omega,by omega⟩
theorem My {rs:List Z2} {n:Int} (h:Zf rs=true) (h0:0<=n) (h1:n<ZY rs):Zb rs n=true:=by
 unfold Zb;rw [h,Zp (by omega) (by omega)];rfl
theorem Ou {rs:List Z2} {n:Int} (h:Zf rs=false):Zb rs n=false:=by unfold Zb;rw [h];rfl
theorem Ov {rs:List Z2} {n:Int} (h:n<0\/ZY rs<=n):Zb rs n=false:=by unfold Zb;rw [V3 (by omega)];simp
theorem Px {rs:List Z2} {n:Int} (h:Zb rs n=true):OV rs n=XN rs n:=by unfold OV;rw [if_pos h]
theorem Ma {rs:List Z2} {n:Int} (h:Zb rs n=false):OV rs n= -1:=by unfold OV;rw [h];rfl
theorem SY {rs:List Z2} {n:Int} (h:Zb rs n=true):YR rs n=VE (ZV rs (XN rs n)).2:=by unfold YR;rw [if_pos h]
theorem SP {rs:List Z2} {n:Int} (h:Zb rs n=true) {r:Nat} (hr:r<=rs.length) (hl:∀ j,j<r->ZY (rs.take (j+1))<=n):r<rs.length:=by
 rcases Nat.lt_or_ge r rs.length with h1 | h1
 ·exact h1
 ·obtain rfl:r=rs.length:=by omega
  have hb:=Wm h
  have h3:=Zo hb.1
  have:=hl (rs.length-1) (by omega)
  rw [show rs.length-1+1=rs.length by omega,VJ] at this
  omega
theorem VK {rs:List Z2} (h:Zf rs=true) (k:Nat) (hk:k<=rs.length):0<=ZY (rs.take k)/\ZY (rs.take k)<=12:=by
 have h3:=Zo h
 have:=SR h3.2.2.1 k hk
 omega
theorem Vu {rs:List Z2} {n:Int} (h:Zb rs n=true):XN rs n<rs.length:=by
 have key:∀ d r:Nat,r+d=rs.length->(∀ j,j<r->ZY (rs.take (j+1))<=n)->XN rs n<rs.length:=by
  intro d
  induction d with
  | zero=>intro r hr hl;have:=SP h (by omega) hl;omega
  | succ d ih=>
   intro r hr hl
   have hlt:=SP h (r:=r) (by omega) hl
   by_cases hc:n<ZY (rs.take (r+1))
   ·rw [OU hlt hc hl];exact hlt
   ·exact ih (r+1) (by omega) (Yu hl (by omega))
 exact key rs.length 0 (by omega) (fun j hj=>by omega)
theorem Oo  {rs:List Z2} (n:Int) (h:IsRooms w v rs) :
  Calls Tryz.prog 263 #[.agg #[v],.int .i64 n] w fun e w'=>e= .returned (.int .i64 (OV rs n))/\Below w.heap.size w w':=by
 have Hv:=Z9 h
 obtain ⟨a,cap,rfl,hc,hm,hr⟩:=h
 clear hr
 by_cases h0:n<0
 ·have H1:=Z9 (Ma (Ov (rs:=rs) (.inl h0)))
  go_enter Tryz.func263,Tryz.ntmps263
  go_wp2_with fail
  go_ret
  exact ⟨ZD (uh H1).symm,(ba _ _)⟩
 by_cases h1:Xn rs<=n
 ·have H1:Hid (OV rs n= -1):=Z9 (Ma (by
   cases hh:Zf rs
   ·exact Ou hh
   ·rw [U8 hh] at h1;exact Ov (.inr h1)))
  go_enter Tryz.func263,Tryz.ntmps263
  go_wp2_with fail
  refine ck (WG ((uh Hv).alloc _)) fun w1 hb=> ?_
  have Hb:=Z9 hb
  clear hb
  generalize Xn rs=m at *
  go_wp2_with fail
  go_ret
  exact ⟨ZD (uh H1).symm,((ba _ _)).trans ((uh Hb).mono (by simp))⟩
 have hh:Zf rs=true:=by
  cases hh:Zf rs
  ·rw [RY hh] at h1;omega
  ·rfl
 have H:Hid (Zb rs n=true):=Z9 (My hh (by omega) (by rw [U8 hh] at h1;omega))
 have Hh:=Z9 hh
 clear hh
 go_enter Tryz.func263,Tryz.ntmps263
 go_wp2_with fail
 refine ck (WG ((uh Hv).alloc _)) fun w1 hb=> ?_
 have hsz:w.heap.size+1<=w1.heap.size:=by have:=hb.size;simpa using this
 have hbox:w1.cell? ⟨w.heap.size,0,none⟩=some (.slice a rs.length cap):=by rw [hb.cell (p:=⟨w.heap.size,0,none⟩) (by simp)];simp
 have B1:Hid (Below w.heap.size w w1):=Z9 (((ba _ _)).trans (hb.mono (by simp)))
 clear hb
 generalize Xn rs=m at *
 go_wp2_with fail
 go_loopw [5] (fun i wr=> ∃ r:Nat,r<=rs.length/\i= .int .i64 r/\(∀ j,j<r->ZY (rs.take (j+1))<=n)/\Below w1.heap.size w1 wr) (fun i _=>rs.length-(intOf i).toNat)
 case atStart=>exact ⟨0,Nat.zero_le _,rfl,fun j hj=>by omega,Below.refl _ _⟩
 case round=>
  obtain ⟨r,hr,rfl,hl,hb⟩:=hrel
  have hlt:=SP (uh H) hr hl
  have hbox2:wr.cell? ⟨w.heap.size,0,none⟩=some (.slice a rs.length cap):=by rw [hb.cell (p:=⟨w.heap.size,0,none⟩) (by show w.heap.size<w1.heap.size;omega)];exact hbox
  have hz:=hb.size
  have hl3:rs.length<=3:=(Zo (uh Hh)).2.1
  have Hl:=Z9 hl
  have Hb:=Z9 hb
  have Hw:Hid (IsRooms wr (.slice a (r+1) cap) (rs.take (r+1))):=Z9 ((((uh Hv).below (uh B1)).below hb).taken (by omega))
  clear hl hb hbox
  go_wp2_with fail
  refine ck (UI (uh Hw) ((Ui (uh Hh)).taken _)) fun w2 hb2=> ?_
  have hbd:=VK (uh Hh) (r+1) (by omega)
  have Hb2:=Z9 hb2
  clear hb2
  by_cases hc2:n<ZY (rs.take (r+1))
  ·have HN:=Z9 (OU hlt hc2 (uh Hl))
   generalize ZY (rs.take (r+1))=s at *
   go_wp2_with fail
   go_ret
   exact ⟨ZD (by rw [Px (uh H),uh HN]),(uh B1).trans (((uh Hb).trans ((uh Hb2).mono hz)).mono (by omega))⟩
  ·have hle:ZY (rs.take (r+1))<=n:=by omega
   have Hle:=Z9 (Yu (uh Hl) hle)
   generalize ZY (rs.take (r+1))=s at *
   go_wp2_with fail
   go_roundw
   case rel=>exact ⟨r+1,by omega,by go_num,uh Hle,(uh Hb).trans ((uh Hb2).mono hz)⟩
   case measure=>exact ms
open Go.ChangeShapes Go.WideShapes Go.ChangeAt Go.RowKit
def Xj (a b c:Int):Int:=if inB a 0 1000000000 && inB b 0 1000000000 && inB c 1 1000000000 then a*b / c else -1
def Vb (x:Int):Nat->Int->Int
 | 0,u=>u
 | n+1,u=>Vb x n ((31*u+x) / 32)
def ZZ (u x n:Int):Int:=if inB u 0 1024 && inB x 0 1024 && inB n 0 1000 then Vb x n.toNat u else -1
theorem F4 {u x:Int} (h1:0<=u) (h2:u<=1024) (h3:0<=x) (h4:x<=1024):0<=(31*u+x) / 32/\(31*u+x) / 32<=1024:=by omega
theorem Oa (x:Int) (h3:0<=x) (h4:x<=1024):∀ (n:Nat) (u:Int),0<=u->u<=1024->0<=Vb x n u/\Vb x n u<=1024
 | 0,u,h1,h2=>⟨h1,h2⟩
 | n+1,u,h1,h2=>Oa x h3 h4 n _ (F4 h1 h2 h3 h4).1 (F4 h1 h2 h3 h4).2
theorem RZ (x:Int):∀ (n:Nat) (u:Int),Vb x (n+1) u=(31*Vb x n u+x) / 32
 | 0,u=>rfl
 | n+1,u=>RZ x n _
theorem Cb {a b:Int} (a0:0<=a) (a1:a<=1000000000) (b0:0<=b) (b1:b<=1000000000):0<=a*b/\a*b<=1000000000000000000:=by
 refine ⟨Int.mul_nonneg a0 b0,?_⟩
 have h:=Int.mul_le_mul a1 b1 b0 (by omega)
 omega
theorem EA {P:Prop} (a b c lo hi l1 h1 l2 h2:Int)
  (k1:inB a lo hi=false->P) (k2:inB a lo hi=true->inB b l1 h1=false->P) (k3:inB a lo hi=true->inB b l1 h1=true->inB c l2 h2=false->P)
  (k4:inB a lo hi=true->inB b l1 h1=true->inB c l2 h2=true->P):P:=by
 cases ha:inB a lo hi
 ·exact k1 ha
 ·cases hb:inB b l1 h1
  ·exact k2 ha hb
  ·cases hc:inB c l2 h2
   ·exact k3 ha hb hc
   ·exact k4 ha hb hc
theorem UX (x:Int) (w:World):Calls Tryz.prog 49 #[.int .i64 x] w fun e w'=>e= .returned (.bool (inB x 0 1024))/\w'=w:=by
 go_enter Tryz.func49,Tryz.ntmps49
 go_wp2_with (go_at_call 40;refine (Z1 _ _ _ _).mono ?_;rintro e w' ⟨rfl,rfl⟩)
 go_ret
 exact ⟨rfl,rfl⟩
theorem O9 (a b c:Int) (w:World):Calls Tryz.prog 323 #[.int .i64 a,.int .i64 b,.int .i64 c] w fun e w'=>e= .returned (.int .i64 (Xj a b c))/\w'=w:=by
 refine EA a b c 0 1000000000 0 1000000000 1 1000000000 ?_ ?_ ?_ ?_
 ·intro ha
  have hv:Xj a b c= -1:=by simp [Xj,ha]
  rw [hv];clear hv
  go_enter Tryz.func323,Tryz.ntmps323
  go_wp2_with (first | (go_at_call 162;refine (Uq _ _).mono ?_;rintro e w' ⟨rfl,rfl⟩) | (go_at_call 40;refine (Z1 _ _ _ _).mono ?_;rintro e w' ⟨rfl,rfl⟩))
  go_ret
  exact ⟨rfl,rfl⟩
 ·intro ha hb
  have hv:Xj a b c= -1:=by simp [Xj,hb]
  rw [hv];clear hv
  go_enter Tryz.func323,Tryz.ntmps323
  go_wp2_with (first | (go_at_call 162;refine (Uq _ _).mono ?_;rintro e w' ⟨rfl,rfl⟩) | (go_at_call 40;refine (Z1 _ _ _ _).mono ?_;rintro e w' ⟨rfl,rfl⟩))
  go_ret
  exact ⟨rfl,rfl⟩
 ·intro ha hb hc
  have hv:Xj a b c= -1:=by simp [Xj,hc]
  rw [hv];clear hv
  go_enter Tryz.func323,Tryz.ntmps323
  go_wp2_with (first | (go_at_call 162;refine (Uq _ _).mono ?_;rintro e w' ⟨rfl,rfl⟩) | (go_at_call 40;refine (Z1 _ _ _ _).mono ?_;rintro e w' ⟨rfl,rfl⟩))
  go_ret
  exact ⟨rfl,rfl⟩
 ·intro ha hb hc
  have hv:Xj a b c=a*b / c:=by simp [Xj,ha,hb,hc]
  rw [hv];clear hv
  obtain ⟨a0,a1⟩:=ZU ha
  obtain ⟨b0,b1⟩:=ZU hb
  obtain ⟨c0,c1⟩:=ZU hc
  obtain ⟨m0,m1⟩:=Cb a0 a1 b0 b1
  go_enter Tryz.func323,Tryz.ntmps323
  go_wp2_with (first | (go_at_call 162;refine (Uq _ _).mono ?_;rintro e w' ⟨rfl,rfl⟩) | (go_at_call 40;refine (Z1 _ _ _ _).mono ?_;rintro e w' ⟨rfl,rfl⟩))
  go_ret
  exact ⟨rfl,rfl⟩
theorem Bo {p:Int->Bool} (a b:Int) : [a,b].all p=(p a && p b):=by simp
theorem Bm {p:Int->Bool} (a:Int) : [a].all p=p a:=by simp
theorem BM (W:World) (a b:Int) (bk:Nat) (hb:bk=W.heap.size):∀ k,k < [a,b].length->(W.alloc (.cells #[.int .i64 a,.int .i64 b] 2)).cell? ⟨bk,k,none⟩=some (.int .i64 ([a,b].getD k 0)):=by
 intro k hk
 rw [World.cell?_alloc_at _ _ _ _ hb]
 match k,hk with
 | 0,_=>rfl
 | 1,_=>rfl
theorem BL (W:World) (a:Int) (bk:Nat) (hb:bk=W.heap.size):∀ k,k < [a].length->(W.alloc (.cells #[.int .i64 a] 2)).cell? ⟨bk,k,none⟩=some (.int .i64 ([a].getD k 0)):=by
 intro k hk
 rw [World.cell?_alloc_at _ _ _ _ hb]
 match k,hk with
 | 0,_=>rfl
theorem Ug (a b:Int) (W:World) (bk:Nat) (hb:bk=W.heap.size):Calls Tryz.prog 264 #[.func (Fn.func 265) #[] #[],.slice (some ⟨bk,0,none⟩) 2 2] (W.alloc (.cells #[.int .i64 a,.int .i64 b] 2))
  fun e w'=>e= .returned (.bool (inB a 0 1024 && inB b 0 1024))/\w'=W.alloc (.cells #[.int .i64 a,.int .i64 b] 2):=by
 have h:=M6 bk 2 [a,b] (W.alloc (.cells #[.int .i64 a,.int .i64 b] 2)) (by simp) (BM W a b bk hb)
 rw [Bo] at h
 exact h
theorem Sq (a:Int) (W:World) (bk:Nat) (hb:bk=W.heap.size):Calls Tryz.prog 264 #[.func (Fn.func 266) #[] #[],.slice (some ⟨bk,0,none⟩) 1 1] (W.alloc (.cells #[.int .i64 a] 2))
  fun e w'=>e= .returned (.bool (inB a 0 1000))/\w'=W.alloc (.cells #[.int .i64 a] 2):=by
 have h:=Qv bk 1 [a] (W.alloc (.cells #[.int .i64 a] 2)) (by simp) (BL W a bk hb)
 rw [Bm] at h
 exact h
def SF (need:Int) (p:Z4):Bool:=decide (5*need<=4*p.1)
def RE (need:Int):List Z4->Nat
 | []=>0
 | [_]=>0
 | p::q::ps=>if SF need p then 0 else RE need (q::ps)+1
def XM (r:Z2) (need:Int):Int:=if Zn r && inB need 0 1000000 then RE need r.2 else -1
def XK (r:Z2) (pace work:Int):Int:=if Zn r && (inB work 0 1000000 && inB pace 0 (r.2.length-1)) then Xj (Z7 r.2 pace.toNat).2 work (Z7 r.2 pace.toNat).1 else -1
def LV (r:Z2) (need work:Int):Int:=XK r (XM r need) work
theorem Kj (p:Z4) (ps:List Z4):Z7 (p::ps) 0=p:=rfl
theorem Kl (p:Z4) (ps:List Z4) (k:Nat):Z7 (p::ps) (k+1)=Z7 ps k:=by unfold Z7;simp [List.getD]
theorem Dt {need:Int} {p:Z4} (h:5*need<=4*p.1):SF need p=true:=decide_eq_true h
theorem Ds {need:Int} {p:Z4} (h:4*p.1<5*need):SF need p=false:=decide_eq_false (by omega)
theorem OM (need:Int):∀ (ps:List Z4) (k:Nat),k+1<=ps.length->(∀ j,j<k->SF need (Z7 ps j)=false)->(k+1=ps.length\/SF need (Z7 ps k)=true)->RE need ps=k
 | [],k,hk,_,_=>by simp at hk
 | [p],k,hk,_,_=>by simp at hk;subst hk;rfl
 | p::q::ps,0,_,_,he=>by
  rcases he with he | he
  ·simp at he
  ·rw [Kj] at he;simp [RE,he]
 | p::q::ps,k+1,hk,hlo,he=>by
  have h0:=hlo 0 (by omega)
  rw [Kj] at h0
  have ih:=OM need (q::ps) k (by simp at hk ⊢;omega) (fun j hj=>by have:=hlo (j+1) (by omega);rwa [Kl] at this) (by
   rcases he with he | he
   ·left;simp at he ⊢;omega
   ·right;rwa [Kl] at he)
  simp [RE,h0,ih]
theorem Kp (need:Int):∀ ps:List Z4,1<=ps.length->RE need ps+1<=ps.length
 | [],h=>by simp at h
 | [p],_=>by simp [RE]
 | p::q::ps,_=>by
  have ih:=Kp need (q::ps) (by simp)
  unfold RE;split<;>simp at ih ⊢;omega
theorem MQ {r:Z2} (h:Zn r=true) {k:Nat} (hk:k<r.2.length):1<=(Z7 r.2 k).1/\(Z7 r.2 k).1<=1024/\1<=(Z7 r.2 k).2/\(Z7 r.2 k).2<=1024:=by
 unfold Zn at h;simp only [Bool.and_eq_true] at h
 have h1:=MK h.2.2 hk
 unfold Xu UZ at h1;simp only [Bool.and_eq_true] at h1
 have a:=ZU h1.1.1;have b:=ZU h1.1.2
 omega
theorem Km {r:Z2} {need:Int} (h:Zn r=false):XM r need= -1:=by unfold XM;simp [h]
theorem Kn {r:Z2} {need:Int} (h:inB need 0 1000000=false):XM r need= -1:=by unfold XM;simp [h]
theorem Iq {r:Z2} {need:Int} (h:Zn r=true) (h2:inB need 0 1000000=true):XM r need=RE need r.2:=by unfold XM;simp [h,h2]
theorem P2 {r:Z2} {pace work:Int} (h:Zn r=false):XK r pace work= -1:=by unfold XK;simp [h]
theorem P4 {r:Z2} {pace work:Int} (h:inB work 0 1000000=false):XK r pace work= -1:=by unfold XK;simp [h]
theorem P5 {r:Z2} {pace work:Int} (h:inB pace 0 (r.2.length-1)=false):XK r pace work= -1:=by unfold XK;simp [h]
theorem NV {r:Z2} {pace work:Int} (h:Zn r=true) (h2:inB work 0 1000000=true) (h3:inB pace 0 (r.2.length-1)=true):XK r pace work=Xj (Z7 r.2 pace.toNat).2 work (Z7 r.2 pace.toNat).1:=by unfold XK;simp [h,h2,h3]
theorem Fg {a b c:Int} (a0:0<=a) (a1:a<=1000000000) (b0:0<=b) (b1:b<=1000000000) (c0:1<=c) (c1:c<=1000000000):Xj a b c=a*b / c:=by
 unfold Xj;rw [Zp a0 a1,Zp b0 b1,Zp c0 c1];rfl
theorem Jn (r:Z2) (pace work:Int) : -1<=XK r pace work/\XK r pace work<=1024000000:=by
 cases h:Zn r
 ·rw [P2 h];omega
 cases h2:inB work 0 1000000
 ·rw [P4 h2];omega
 cases h3:inB pace 0 (r.2.length-1)
 ·rw [P5 h3];omega
 rw [NV h h2 h3]
 have hb:=ZU h2;have hp:=ZU h3
 have hr:=MQ h (k:=pace.toNat) (by omega)
 generalize Z7 r.2 pace.toNat=p at *
 rw [Fg (by omega) (by omega) (by omega) (by omega) (by omega) (by omega)]
 have m0:0<=p.2*work:=Int.mul_nonneg (by omega) (by omega)
 have m1:p.2*work<=1024*1000000:=Int.mul_le_mul (by omega) (by omega) (by omega) (by omega)
 have d0:=Int.ediv_nonneg m0 (show 0<=p.1 by omega)
 have d1:=Int.ediv_le_self p.1 m0
 omega
theorem Yr (x:Int) (w:World):Calls Tryz.prog 185 #[.int .i64 x] w fun e w'=>e= .returned (.bool (inB x 0 1000000))/\w'=w:=by
 go_enter Tryz.func185,Tryz.ntmps185
 go_wp2_with (go_at_call 40;refine (Z1 _ _ _ _).mono ?_;rintro e w' ⟨rfl,rfl⟩)
 go_ret
 exact ⟨rfl,rfl⟩
def amt (x:Int):Bool:=inB x 0 1000000
def VT (w u f:Int):Bool:=(amt w && (amt u && amt f)) && decide (5*(w+u)<=4*f)
def OG (u f:Int):Bool:=(amt u && amt f) && !decide (5*u<=4*f)
def UR (u f:Int):Int:=if amt u && amt f then f-u else -1000001
theorem DR (u f:Int):decide (4*f<5*u)= !decide (5*u<=4*f):=by
 by_cases h:5*u<=4*f
 ·rw [decide_eq_true h,decide_eq_false (by omega)];rfl
 ·rw [decide_eq_false h,decide_eq_true (by omega)];rfl
theorem Vw (x u f:Int) (w:World):Calls Tryz.prog 305 #[.int .i64 x,.int .i64 u,.int .i64 f] w fun e w'=>e= .returned (.bool (VT x u f))/\w'=w:=by
 cases hx:inB x 0 1000000
 ·go_enter Tryz.func305,Tryz.ntmps305
  go_wp2_with (go_at_call 185;refine (Yr _ _).mono ?_;rintro e w' ⟨rfl,rfl⟩)
  go_ret
  exact ⟨Z5 (by simp [VT,amt,hx]),rfl⟩
 ·cases hu:inB u 0 1000000
  ·go_enter Tryz.func305,Tryz.ntmps305
   go_wp2_with (go_at_call 185;refine (Yr _ _).mono ?_;rintro e w' ⟨rfl,rfl⟩)
   go_ret
   exact ⟨Z5 (by simp [VT,amt,hx,hu]),rfl⟩
  ·cases hf:inB f 0 1000000
   ·go_enter Tryz.func305,Tryz.ntmps305
    go_wp2_with (go_at_call 185;refine (Yr _ _).mono ?_;rintro e w' ⟨rfl,rfl⟩)
    go_ret
    exact ⟨Z5 (by simp [VT,amt,hx,hu,hf]),rfl⟩
   ·obtain ⟨x0,x1⟩:=ZU hx
    obtain ⟨u0,u1⟩:=ZU hu
    obtain ⟨f0,f1⟩:=ZU hf
    go_enter Tryz.func305,Tryz.ntmps305
    go_wp2_with (go_at_call 185;refine (Yr _ _).mono ?_;rintro e w' ⟨rfl,rfl⟩)
    go_ret
    exact ⟨Z5 (by simp [VT,amt,hx,hu,hf]),rfl⟩
theorem PT (u f:Int) (w:World):Calls Tryz.prog 316 #[.int .i64 u,.int .i64 f] w fun e w'=>e= .returned (.bool (OG u f))/\w'=w:=by
 cases hu:inB u 0 1000000
 ·go_enter Tryz.func316,Tryz.ntmps316
  go_wp2_with (go_at_call 185;refine (Yr _ _).mono ?_;rintro e w' ⟨rfl,rfl⟩)
  go_ret
  exact ⟨Z5 (by simp [OG,amt,hu]),rfl⟩
 ·cases hf:inB f 0 1000000
  ·go_enter Tryz.func316,Tryz.ntmps316
   go_wp2_with (go_at_call 185;refine (Yr _ _).mono ?_;rintro e w' ⟨rfl,rfl⟩)
   go_ret
   exact ⟨Z5 (by simp [OG,amt,hu,hf]),rfl⟩
  ·obtain ⟨u0,u1⟩:=ZU hu
   obtain ⟨f0,f1⟩:=ZU hf
   go_enter Tryz.func316,Tryz.ntmps316
   go_wp2_with (go_at_call 185;refine (Yr _ _).mono ?_;rintro e w' ⟨rfl,rfl⟩)
   go_ret
   exact ⟨Z5 (by simp [OG,amt,hu,hf,DR]),rfl⟩
theorem PS (u f:Int) (w:World):Calls Tryz.prog 302 #[.int .i64 u,.int .i64 f] w fun e w'=>e= .returned (.int .i64 (UR u f))/\w'=w:=by
 cases hu:inB u 0 1000000
 ·go_enter Tryz.func302,Tryz.ntmps302
  go_wp2_with (go_at_call 185;refine (Yr _ _).mono ?_;rintro e w' ⟨rfl,rfl⟩)
  go_ret
  exact ⟨ZD (by simp [UR,amt,hu]),rfl⟩
 ·cases hf:inB f 0 1000000
  ·go_enter Tryz.func302,Tryz.ntmps302
   go_wp2_with (go_at_call 185;refine (Yr _ _).mono ?_;rintro e w' ⟨rfl,rfl⟩)
   go_ret
   exact ⟨ZD (by simp [UR,amt,hu,hf]),rfl⟩
  ·obtain ⟨u0,u1⟩:=ZU hu
   obtain ⟨f0,f1⟩:=ZU hf
   go_enter Tryz.func302,Tryz.ntmps302
   go_wp2_with (go_at_call 185;refine (Yr _ _).mono ?_;rintro e w' ⟨rfl,rfl⟩)
   go_ret
   exact ⟨ZD (by simp [UR,amt,hu,hf]),rfl⟩
end Go.Proofs.YtffcgajndmhpkaaGreatDoor
