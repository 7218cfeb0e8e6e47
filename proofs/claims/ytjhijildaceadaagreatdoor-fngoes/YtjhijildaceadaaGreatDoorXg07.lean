/- Part 7 of what the proof rests on. No condition but those that a theorem names. -/
import Derived.Test.YtjhijildaceadaaGreatDoorXg06
import Derived.WalkMore
set_option maxHeartbeats 8000000
set_option maxRecDepth 100000
namespace Go.Proofs.YtjhijildaceadaaGreatDoor
set_option linter.unusedVariables false
variable {m : Z4}
def V8 (x:Int):Bool:=inB x (-1000000000000) 1000000000000
def Wi (h m:Int):Bool:=(V8 h && V8 m) && inB (h-m) (-20000) 63000
def Y8 (h m:Int):Int:=if V8 m then max h (m-20000) else h
def Zv (h f t:Int):Int:=if V8 h && (V8 f && V8 t) then h-f+t else h
def ZI (m f:Int):Int:=if V8 m && V8 f then min (max m f) 900000000000 else m
theorem OL {x:Int} (h:V8 x=true) : -1000000000000<=x/\x<=1000000000000:=ZR h
theorem GR (x y:Int):([x,y].all fun z=>inB z (-1000000000000) 1000000000000)=(V8 x && V8 y):=by simp [V8]
theorem Dr (h m:Int):([h].all fun z=>inB z (m-20000) (m+63000))=inB (h-m) (-20000) 63000:=by
 simp only [List.all_cons,List.all_nil,Bool.and_true]
 unfold inB
 congr 1
 exact propext ⟨fun h=>by omega,fun h=>by omega⟩
theorem OK {x:Int} (h0 : -1000000000000<=x) (h1:x<=1000000000000):V8 x=true:=Zm h0 h1
theorem EB {h f t:Int} (h0 : -1000000000000<=h) (h1:h<=1000000000000) (f0 : -1000000000000<=f) (f1:f<=1000000000000) (t0 : -1000000000000<=t) (t1:t<=1000000000000):Zv h f t=h-f+t:=by
 unfold Zv;rw [OK h0 h1,OK f0 f1,OK t0 t1];rfl
theorem Nn {m f:Int} (m0 : -1000000000000<=m) (m1:m<=1000000000000) (f0 : -1000000000000<=f) (f1:f<=1000000000000):ZI m f=min (max m f) 900000000000:=by
 unfold ZI;rw [OK m0 m1,OK f0 f1];rfl
open Go.ChangeShapes Go.WideShapes Go.ChangeAt Go.RowKit Go.Sort
def stS (s:Z3) (st:Int):Z3:=(st,s.2)
def ZM (ss:List Z3) (q:List Z6):List Z3:=q.foldl (fun ss e=>ss.set e.2.toNat (stS (Z8 ss e.2.toNat) 2)) ss
theorem Si (ss:List Z3) (q:List Z6) (e:Z6):ZM ss (q++[e])=(ZM ss q).set e.2.toNat (stS (Z8 (ZM ss q) e.2.toNat) 2):=by
  unfold ZM;rw [List.foldl_append];rfl
theorem Yp (q:List Z6):∀ ss:List Z3,(ZM ss q).length=ss.length:=by
  induction q with
  | nil=>intro ss;rfl
  | cons e q ih=>intro ss;show (ZM (ss.set e.2.toNat (stS (Z8 ss e.2.toNat) 2)) q).length=_;rw [ih,List.length_set]
theorem SD (q:List Z6):∀ (ss:List Z3) (i:Nat),(∀ e ∈ q,0<=e.2/\e.2<ss.length)->((∃ e ∈ q,e.2=(i:Int))->Z8 (ZM ss q) i=stS (Z8 ss i) 2)/\((∀ e ∈ q,e.2 ≠ (i:Int))->Z8 (ZM ss q) i=Z8 ss i):=by
  induction q with
  | nil=>
    intro ss i h
    exact ⟨fun ⟨e,he,_⟩=>(List.not_mem_nil he).elim,fun _=>rfl⟩
  | cons e q ih=>
    intro ss i h
    obtain ⟨e0,e1⟩:=h e (by simp)
    have hs:=ZJ (x:=stS (Z8 ss e.2.toNat) 2) (show e.2.toNat<ss.length by omega) i
    obtain ⟨i1,i2⟩:=ih (ss.set e.2.toNat (stS (Z8 ss e.2.toNat) 2)) i (fun x hx=>by rw [List.length_set];exact h x (List.mem_cons_of_mem _ hx))
    show ((∃ x ∈ e::q,x.2=(i:Int))->Z8 (ZM (ss.set e.2.toNat (stS (Z8 ss e.2.toNat) 2)) q) i=_)/\((∀ x ∈ e::q,x.2 ≠ (i:Int))->Z8 (ZM (ss.set e.2.toNat (stS (Z8 ss e.2.toNat) 2)) q) i=_)
    constructor
    · rintro ⟨x,hx,hxi⟩
      by_cases hq:∃ y ∈ q,y.2=(i:Int)
      · rw [i1 hq,hs]
        split
        · rename_i he;rw [he];rfl
        · rfl
      · rw [i2 (fun y hy e=>hq ⟨y,hy,e⟩),hs]
        rcases List.mem_cons.1 hx with rfl | hx
        · rw [if_pos (by omega)]
          rw [show x.2.toNat=i by omega]
        · exact absurd ⟨x,hx,hxi⟩ hq
    · intro hn
      rw [i2 (fun y hy=>hn y (List.mem_cons_of_mem _ hy)),hs,if_neg]
      have:=hn e (by simp)
      omega
def Xs (ss:List Z3) (b:Int) (d:Yx):Yx:=match atV ss b ss.length with
  | []=>(d.1,-1,d.2.2)
  | e::_=>(d.1,e.2,ZI d.2.2 e.1)
def XU (m:Z4) (b:Nat):Z4:=match atV m.smiths b m.smiths.length with
  | []=>{ m with desks:=m.desks.set b ((Z8 m.desks b).1,-1,(Z8 m.desks b).2.2) }
  | e::t=>{ m with smiths:=(ZM m.smiths (e::t)).set e.2.toNat (stS (Z8 (ZM m.smiths (e::t)) e.2.toNat) 3),desks:=m.desks.set b ((Z8 m.desks b).1,e.2,ZI (Z8 m.desks b).2.2 e.1) }
def Zo (m:Z4):Nat->Z4
  | 0=>m
  | k+1=>XU (Zo m k) k
def ZV (m:Z4):Z4:=Zo m m.desks.length
theorem Jy (m:Z4) (b:Nat):(XU m b).rooms=m.rooms/\(XU m b).guilds=m.guilds/\(XU m b).paces=m.paces/\(XU m b).now=m.now/\(XU m b).smiths.length=m.smiths.length/\(XU m b).desks.length=m.desks.length:=by
  unfold XU
  split
  · simp
  · simp [Yp]
theorem ZQ (m:Z4):∀ k,(Zo m k).rooms=m.rooms/\(Zo m k).guilds=m.guilds/\(Zo m k).paces=m.paces/\(Zo m k).now=m.now/\(Zo m k).smiths.length=m.smiths.length/\(Zo m k).desks.length=m.desks.length
  | 0=>⟨rfl,rfl,rfl,rfl,rfl,rfl⟩
  | k+1=>by
    obtain ⟨h1,h2,h3,h4,h5,h6⟩:=ZQ m k
    obtain ⟨g1,g2,g3,g4,g5,g6⟩:=Jy (Zo m k) k
    exact ⟨g1.trans h1,g2.trans h2,g3.trans h3,g4.trans h4,g5.trans h5,g6.trans h6⟩
theorem QO (m : Z4) (b : Nat) {i : Nat} (hi : i < m.smiths.length) : Z8 (XU m b).smiths i = if (Z8 m.smiths i).2.1 = (b : Int) ∧ ZT (Z8 m.smiths i) = true then stS (Z8 m.smiths i) (if Xd m.smiths b = (i : Int) then 3 else 2) else Z8 m.smiths i := by
  have hq := Yj m.smiths (b : Int)
  have hf : Xd m.smiths (b : Int) = match atV m.smiths (b : Int) m.smiths.length with
    | [] => -1
    | h :: _ => h.2 := rfl
  unfold XU
  split
  · rename_i h0
    rw [if_neg]
    intro hp
    have := (hq (XM (Z8 m.smiths i), (i : Int)) m.smiths.length).2 ⟨i, hi, hp.1, hp.2, rfl⟩
    rw [h0] at this
    exact List.not_mem_nil this
  · rename_i e t h0
    rw [h0] at hf
    simp only at hf
    have hin : ∀ x ∈ e :: t, 0 ≤ x.2 ∧ x.2 < m.smiths.length := by
      intro x hx
      rw [← h0] at hx
      obtain ⟨j, hj, _, _, rfl⟩ := (hq x _).1 hx
      exact ⟨by show (0 : Int) ≤ (j : Int); omega, by show (j : Int) < _; omega⟩
    obtain ⟨w1, w2⟩ := SD (e :: t) m.smiths i hin
    obtain ⟨e0, e1⟩ := hin e (by simp)
    show Z8 ((ZM m.smiths (e :: t)).set e.2.toNat _) i = _
    rw [ZJ (by rw [Yp]; omega)]
    by_cases hp : (Z8 m.smiths i).2.1 = (b : Int) ∧ ZT (Z8 m.smiths i) = true
    · have hmem : (XM (Z8 m.smiths i), (i : Int)) ∈ e :: t := by rw [← h0]; exact (hq _ _).2 ⟨i, hi, hp.1, hp.2, rfl⟩
      rw [if_pos hp, hf]
      by_cases hie : i = e.2.toNat
      · rw [if_pos hie, if_pos (by omega), ← hie, w1 ⟨_, hmem, rfl⟩]
        rfl
      · rw [if_neg hie, if_neg (by omega), w1 ⟨_, hmem, rfl⟩]
    · have hnm : ∀ x ∈ e :: t, x.2 ≠ (i : Int) := by
        intro x hx hxi
        rw [← h0] at hx
        obtain ⟨j, hj, j1, j2, rfl⟩ := (hq x _).1 hx
        have : j = i := by have : (j : Int) = (i : Int) := hxi
                           omega
        subst this
        exact hp ⟨j1, j2⟩
      rw [if_neg hp, if_neg (by have := hnm e (by simp); omega), w2 hnm]
theorem Jv (m:Z4) {b:Nat} (hb:b<m.desks.length) (j:Nat):Z8 (XU m b).desks j=if j=b then Xs m.smiths b (Z8 m.desks b) else Z8 m.desks j:=by
  have hf:Xs m.smiths (b:Int) (Z8 m.desks b)=match atV m.smiths (b:Int) m.smiths.length with
    | []=>((Z8 m.desks b).1,-1,(Z8 m.desks b).2.2)
    | e::_=>((Z8 m.desks b).1,e.2,ZI (Z8 m.desks b).2.2 e.1):=rfl
  unfold XU
  split
  · rename_i h0
    rw [h0] at hf
    rw [hf,<-ZJ hb]
  · rename_i e t h0
    rw [h0] at hf
    rw [hf,<-ZJ hb]
theorem LH (m:Z4) (b:Nat):Alike m.smiths (XU m b).smiths m.smiths.length:=by
  intro i hi
  rw [QO m b hi]
  split
  · rename_i hp
    refine ⟨rfl,?_,rfl⟩
    rw [hp.2]
    split<;>rfl
  · exact ⟨rfl,rfl,rfl⟩
theorem Alike.trans {a b c:List Z3} {k:Nat} (h:Alike a b k) (g:Alike b c k):Alike a c k:=fun i hi=>⟨(g i hi).1.trans (h i hi).1,(g i hi).2.1.trans (h i hi).2.1,(g i hi).2.2.trans (h i hi).2.2⟩
theorem XV (m:Z4):∀ k,Alike m.smiths (Zo m k).smiths m.smiths.length
  | 0=>fun _ _=>⟨rfl,rfl,rfl⟩
  | k+1=>by
    have h:=LH (Zo m k) k
    rw [(ZQ m k).2.2.2.2.1] at h
    exact (XV m k).trans h
theorem Ru (m:Z4) (k:Nat) (b:Int):atV (Zo m k).smiths b (Zo m k).smiths.length=atV m.smiths b m.smiths.length:=by
  rw [(ZQ m k).2.2.2.2.1]
  exact MY b _ (XV m k)
theorem LI (m:Z4) (k:Nat) (b:Int):Xd (Zo m k).smiths b=Xd m.smiths b:=by unfold Xd;rw [Ru]
theorem Og (m:Z4) (k:Nat) (b:Int) (d:Yx):Xs (Zo m k).smiths b d=Xs m.smiths b d:=by unfold Xs;rw [Ru]
theorem Yo (m:Z4) {i:Nat} (hi:i<m.smiths.length):∀ k:Nat,Z8 (Zo m k).smiths i=if (0<=(Z8 m.smiths i).2.1/\(Z8 m.smiths i).2.1<(k:Int))/\ZT (Z8 m.smiths i)=true then stS (Z8 m.smiths i) (if Xd m.smiths (Z8 m.smiths i).2.1=(i:Int) then 3 else 2) else Z8 m.smiths i
  | 0=>by rw [if_neg (by omega)];rfl
  | k+1=>by
    have ih:=Yo m hi k
    have ha:=XV m k i hi
    show Z8 (XU (Zo m k) k).smiths i=_
    rw [QO _ _ (by rw [(ZQ m k).2.2.2.2.1];exact hi),ha.1,ha.2.1,LI]
    by_cases hp:ZT (Z8 m.smiths i)=true
    · by_cases hb:(Z8 m.smiths i).2.1=(k:Int)
      · have hc:(0<=(Z8 m.smiths i).2.1/\(Z8 m.smiths i).2.1<((k+1:Nat):Int))/\ZT (Z8 m.smiths i)=true:=⟨by omega,hp⟩
        rw [if_pos ⟨hb,hp⟩,if_pos hc,ih,if_neg (by omega),hb]
      · rw [if_neg (fun h=>hb h.1),ih]
        by_cases hk:0<=(Z8 m.smiths i).2.1/\(Z8 m.smiths i).2.1<(k:Int)
        · have hc:(0<=(Z8 m.smiths i).2.1/\(Z8 m.smiths i).2.1<((k+1:Nat):Int))/\ZT (Z8 m.smiths i)=true:=⟨by omega,hp⟩
          rw [if_pos ⟨hk,hp⟩,if_pos hc]
        · rw [if_neg (fun h=>hk h.1),if_neg (fun h=>hk (by omega))]
    · rw [if_neg (fun h=>hp h.2),ih,if_neg (fun h=>hp h.2),if_neg (fun h=>hp h.2)]
theorem VJ (m:Z4) (j:Nat):∀ k:Nat,k<=m.desks.length->Z8 (Zo m k).desks j=if j<k then Xs m.smiths j (Z8 m.desks j) else Z8 m.desks j
  | 0,_=>by rw [if_neg (by omega)];rfl
  | k+1,hk=>by
    have ih:=VJ m j k (by omega)
    show Z8 (XU (Zo m k) k).desks j=_
    rw [Jv _ (by rw [(ZQ m k).2.2.2.2.2];omega)]
    by_cases hjk:j=k
    · subst hjk
      rw [if_pos rfl,if_pos (by omega),Og,ih,if_neg (by omega)]
    · rw [if_neg hjk,ih]
      by_cases h:j<k
      · rw [if_pos h,if_pos (by omega)]
      · rw [if_neg h,if_neg (by omega)]
structure Loose (m:Z4):Prop where
  head:YW m=true
  desk:∀ j,j<m.desks.length->Wy (Z8 m.desks j)=true
  pace:∀ j,j<m.paces.length->Xf m j=true
  here:∀ i,i<m.smiths.length->YA m (Z8 m.smiths i)=true
  seat:∀ i,i<m.smiths.length->Yt m (Z8 m.smiths i)=true
  openD:∃ j,j<m.desks.length/\(Z8 m.desks j).1=true
theorem RS (h:YY m=true):Loose m:=by
  unfold YY Wk WN WO U6 at h
  simp only [Bool.and_eq_true] at h
  obtain ⟨h1,h2,h3,h4,h5⟩:=h
  have h4':=fun i hi=>Me h4 (k:=i) hi
  simp only [Bool.and_eq_true] at h4'
  obtain ⟨j,hj,ho⟩:=List.any_eq_true.1 h5
  exact ⟨h1,fun j hj=>Me h2 hj,fun j hj=>Me h3 hj,fun i hi=>(h4' i hi).1,fun i hi=>(h4' i hi).2,j,List.mem_range.1 hj,ho⟩
theorem Loose.mk' (h:Loose m):YY m=true:=by
  unfold YY Wk WN WO U6
  simp only [Bool.and_eq_true]
  refine ⟨h.head,?_,?_,?_,?_⟩
  · exact List.all_eq_true.2 fun j hj=>h.desk j (List.mem_range.1 hj)
  · exact List.all_eq_true.2 fun j hj=>h.pace j (List.mem_range.1 hj)
  · exact List.all_eq_true.2 fun j hj=>by rw [h.here j (List.mem_range.1 hj),h.seat j (List.mem_range.1 hj)];rfl
  · obtain ⟨j,hj,ho⟩:=h.openD
    exact List.any_eq_true.2 ⟨j,List.mem_range.2 hj,ho⟩
theorem Loose.at (h:Loose m) {i:Nat} (hi:i<m.smiths.length) (hp:ZT (Z8 m.smiths i)=true):0<=(Z8 m.smiths i).2.1/\(Z8 m.smiths i).2.1<m.desks.length/\(Z8 m.desks (Z8 m.smiths i).2.1.toNat).1=true/\Wl (Z8 m.smiths i).2.2.2.1 (Z8 m.smiths i).2.1=true/\XD (XM (Z8 m.smiths i)) (Z8 m.desks (Z8 m.smiths i).2.1.toNat).2.2=true:=by
  obtain ⟨b0,b1,_⟩:=KA (h.here i hi) hp
  have hs:=h.seat i hi
  unfold Yt at hs
  rw [hp] at hs
  simp only [Bool.not_true,Bool.false_or,Bool.and_eq_true] at hs
  exact ⟨b0,b1,hs.1,hs.2.1,hs.2.2⟩
theorem Vj {had XP:Int} (h:XD had XP=true) : -1000000000000<=had/\had<=1000000000000/\ -1000000000000<=XP/\XP<=1000000000000/\ -20000<=had-XP/\had-XP<=63000:=by
  unfold XD at h
  simp only [Bool.and_eq_true] at h
  have h1:=ZR h.1
  have h2:=ZR h.2.1
  have h3:=ZR h.2.2
  omega
theorem PS {had XP:Int} (h0 : -1000000000000<=had) (h1:had<=1000000000000) (h2 : -1000000000000<=XP) (h3:XP<=1000000000000) (h4 : -20000<=had-XP) (h5:had-XP<=63000):XD had XP=true:=by
  unfold XD;rw [Zm h0 h1,Zm h2 h3,Zm h4 h5];rfl
theorem Ti {d:Yx} (h:Wy d=true) : -900000000000<=d.2.2/\d.2.2<=900000000000:=ZR h
theorem Gt {s:Z3} {st:Int} (h:ZG s=true) (hp:ZT s=true) (h0:1<=st) (h1:st<=3):ZG (stS s st)=true:=by
  obtain ⟨x0,be,rk,my,gu,lo,hi,hd,ca,ut,wk⟩:=s
  have hx:x0 ≠ 0:=by intro e;subst e;cases hp
  unfold ZG at h ⊢
  rw [Tm (x:=(x0,be,rk,my,gu,lo,hi,hd,ca,ut,wk)) hx,Bool.false_or] at h
  unfold Zj at h
  simp only [Bool.and_eq_true] at h
  obtain ⟨g0,g⟩:=h
  have:Zj (stS (x0,be,rk,my,gu,lo,hi,hd,ca,ut,wk) st)=true:=by
    unfold Zj stS
    simp only [Bool.and_eq_true]
    exact ⟨Zm h0 h1,g⟩
  rw [this,Bool.or_true]
theorem ON {s:Z3} {st:Int} (h:YA m s=true) (hp:ZT s=true) (h0:1<=st) (h1:st<=3):YA m (stS s st)=true:=by
  unfold YA at h ⊢
  simp only [Bool.and_eq_true,Bool.or_eq_true] at h ⊢
  refine ⟨Gt h.1 hp h0 h1,.inr ?_⟩
  rcases h.2 with e | e
  · have:s.1=0:=by simpa using e
    unfold ZT at hp
    rw [this] at hp
    cases hp
  · exact e
theorem Xx {m m':Z4} (hg:m'.guilds.length=m.guilds.length) (hd:m'.desks.length=m.desks.length) (s:Z3):YA m' s=YA m s:=by unfold YA;rw [hg,hd]
theorem JB (h:Loose m):Loose (ZV m):=by
  obtain ⟨e1,e2,e3,e4,e5,e6⟩:=ZQ m m.desks.length
  have hd:=fun j=>VJ m j m.desks.length (Nat.le_refl _)
  have hopen:∀ j,(Z8 (ZV m).desks j).1=(Z8 m.desks j).1:=by
    intro j
    unfold ZV
    rw [hd j]
    split
    · unfold Xs;split<;>rfl
    · rfl
  have hmark:∀ j,j<m.desks.length->(-900000000000<=(Z8 (ZV m).desks j).2.2/\(Z8 (ZV m).desks j).2.2<=900000000000)/\(Z8 m.desks j).2.2<=(Z8 (ZV m).desks j).2.2/\((Z8 (ZV m).desks j).2.2<=(Z8 m.desks j).2.2\/ ∀ i,i<m.smiths.length->(Z8 m.smiths i).2.1=(j:Int)->ZT (Z8 m.smiths i)=true->(Z8 (ZV m).desks j).2.2<=XM (Z8 m.smiths i)):=by
    intro j hj
    obtain ⟨k0,k1⟩:=Ti (h.desk j hj)
    unfold ZV
    rw [hd j,if_pos hj]
    unfold Xs
    split
    · exact ⟨⟨k0,k1⟩,Int.le_refl _,.inl (Int.le_refl _)⟩
    · rename_i e t hq
      obtain ⟨_,i,hi,hib,hip,rfl⟩:=Ua hq
      obtain ⟨_,_,_,_,hband⟩:=h.at hi hip
      obtain ⟨a0,a1,_⟩:=Vj hband
      have hm:=Nn (m:=(Z8 m.desks j).2.2) (f:=XM (Z8 m.smiths i)) (by omega) (by omega) a0 a1
      show (-900000000000<=ZI _ _/\ZI _ _<=900000000000)/\_<=ZI _ _/\(ZI _ _<=_\/_)
      rw [hm]
      refine ⟨by omega,by omega,?_⟩
      by_cases hc:XM (Z8 m.smiths i)<=(Z8 m.desks j).2.2
      · left;omega
      · right
        intro i' hi' hb' hp'
        have:=Qr hq hi' hb' hp'
        simp only at this
        show min (max (Z8 m.desks j).2.2 (XM (Z8 m.smiths i))) 900000000000<=_
        omega
  refine ⟨?_,?_,?_,?_,?_,?_⟩
  · have:=h.head
    unfold YW at this ⊢
    unfold ZV
    rw [e1,e2,e3,e4,e5,e6]
    exact this
  · intro j hj
    have hj':j<m.desks.length:=by unfold ZV at hj;omega
    exact Zm (hmark j hj').1.1 (hmark j hj').1.2
  · intro j hj
    have hj':j<m.paces.length:=by unfold ZV at hj;rw [e3] at hj;exact hj
    have:=h.pace j hj'
    unfold Xf at this ⊢
    unfold ZV
    rw [e1,e3]
    exact this
  · intro i hi
    have hi':i<m.smiths.length:=by unfold ZV at hi;omega
    rw [Xx (m:=m) (by unfold ZV;rw [e2]) (by unfold ZV;rw [e6])]
    unfold ZV
    rw [Yo m hi']
    split
    · rename_i hp
      exact ON (h.here i hi') hp.2 (by split<;>omega) (by split<;>omega)
    · exact h.here i hi'
  · intro i hi
    have hi':i<m.smiths.length:=by unfold ZV at hi;omega
    have ha:=XV m m.desks.length i hi'
    unfold Yt
    show (!ZT (Z8 (Zo m m.desks.length).smiths i) || _)=true
    rw [ha.2.1]
    cases hp:ZT (Z8 m.smiths i)
    · rfl
    · obtain ⟨b0,b1,ho,hm,hband⟩:=h.at hi' hp
      obtain ⟨a0,a1,a2,a3,a4,a5⟩:=Vj hband
      obtain ⟨⟨q0,q1⟩,q2,q3⟩:=hmark (Z8 m.smiths i).2.1.toNat (by omega)
      have hmay:(Z8 (Zo m m.desks.length).smiths i).2.2.2.1=(Z8 m.smiths i).2.2.2.1:=by
        rw [Yo m hi'];split<;>rfl
      show (!true || ((Z8 (ZV m).desks (Z8 (Zo m m.desks.length).smiths i).2.1.toNat).1 && (Wl (Z8 (Zo m m.desks.length).smiths i).2.2.2.1 (Z8 (Zo m m.desks.length).smiths i).2.1 && XD (XM (Z8 (Zo m m.desks.length).smiths i)) (Z8 (ZV m).desks (Z8 (Zo m m.desks.length).smiths i).2.1.toNat).2.2)))=true
      rw [ha.1,ha.2.2,hmay,hopen,ho,hm]
      rw [PS a0 a1 (by omega) (by omega) ?_ (by omega)]
      · rfl
      · rcases q3 with q3 | q3
        · omega
        · have:=q3 i hi' (by omega) hp
          omega
  · obtain ⟨j,hj,ho⟩:=h.openD
    exact ⟨j,by unfold ZV;omega,by rw [hopen];exact ho⟩
theorem Ii {ss : List Z3} {b f : Int} : ∀ k : Nat, (∀ i, i < k → (Z8 ss i).2.1 = b → ZT (Z8 ss i) = true → ((Z8 ss i).1 = 2 ∧ (i : Int) ≠ f) ∨ ((Z8 ss i).1 = 3 ∧ (i : Int) = f)) →
    ∃ wk wt, Yn ss b k = some (wk, wt) ∧ ((wk = -1 ∧ ∀ i, i < k → (Z8 ss i).2.1 = b → ZT (Z8 ss i) = true → (i : Int) ≠ f) ∨ (wk = f ∧ ∃ i : Nat, i < k ∧ (Z8 ss i).2.1 = b ∧ ZT (Z8 ss i) = true ∧ (i : Int) = f)) ∧ (wt = true → ∃ i, i < k ∧ (Z8 ss i).2.1 = b ∧ ZT (Z8 ss i) = true)
  | 0, _ => ⟨-1, false, rfl, .inl ⟨rfl, fun i hi => by omega⟩, fun h => by cases h⟩
  | k + 1, h => by
    obtain ⟨wk, wt, hs, hw, ht⟩ := Ii k (fun i hi => h i (by omega))
    have hu : Yn ss b (k + 1) = if (Z8 ss k).2.1 = b ∧ ZT (Z8 ss k) = true then (if (Z8 ss k).1 = 2 then some (wk, true) else if 0 ≤ wk then none else some ((k : Int), wt)) else some (wk, wt) := by
      show (match Yn ss b k with
        | none => none
        | some (wk, wt) => _) = _
      rw [hs]
    rw [hu]
    by_cases hp : (Z8 ss k).2.1 = b ∧ ZT (Z8 ss k) = true
    · rw [if_pos hp]
      rcases h k (by omega) hp.1 hp.2 with ⟨h2, hne⟩ | ⟨h3, hkf⟩
      · rw [if_pos h2]
        refine ⟨wk, true, rfl, ?_, fun _ => ⟨k, by omega, hp.1, hp.2⟩⟩
        rcases hw with ⟨e, hn⟩ | ⟨e, i, hi, hb, hpi, hif⟩
        · refine .inl ⟨e, fun i hi hb hpi => ?_⟩
          by_cases hik : i = k
          · subst hik; exact hne
          · exact hn i (by omega) hb hpi
        · exact .inr ⟨e, i, by omega, hb, hpi, hif⟩
      · rw [if_neg (by omega)]
        have hw1 : wk = -1 := by
          rcases hw with ⟨e, _⟩ | ⟨e, i, hi, hb, hpi, hif⟩
          · exact e
          · omega
        rw [if_neg (by omega)]
        exact ⟨k, wt, rfl, .inr ⟨hkf, k, by omega, hp.1, hp.2, hkf⟩, fun e => by obtain ⟨i, hi, r⟩ := ht e; exact ⟨i, by omega, r⟩⟩
    · rw [if_neg hp]
      refine ⟨wk, wt, rfl, ?_, fun e => by obtain ⟨i, hi, r⟩ := ht e; exact ⟨i, by omega, r⟩⟩
      rcases hw with ⟨e, hn⟩ | ⟨e, i, hi, r⟩
      · refine .inl ⟨e, fun i hi hb hpi => ?_⟩
        by_cases hik : i = k
        · subst hik; exact absurd ⟨hb, hpi⟩ hp
        · exact hn i (by omega) hb hpi
      · exact .inr ⟨e, i, by omega, r⟩
theorem Y4 (h:Loose m):ZP (ZV m)=true:=by
  unfold ZP
  rw [Bool.and_eq_true]
  refine ⟨(JB h).mk',?_⟩
  obtain ⟨e1,e2,e3,e4,e5,e6⟩:=ZQ m m.desks.length
  refine List.all_eq_true.2 fun b hb=> ?_
  have hb:=List.mem_range.1 hb
  have hb':b<m.desks.length:=by unfold ZV at hb;omega
  have hn:(ZV m).smiths.length=m.smiths.length:=e5
  have ha:=XV m m.desks.length
  have hstate:∀ i,i<m.smiths.length->(Z8 (ZV m).smiths i).2.1=(b:Int)->ZT (Z8 (ZV m).smiths i)=true->((Z8 (ZV m).smiths i).1=2/\(i:Int) ≠ Xd m.smiths b)\/((Z8 (ZV m).smiths i).1=3/\(i:Int)=Xd m.smiths b):=by
    intro i hi hib hip
    have hib':(Z8 m.smiths i).2.1=(b:Int):=(ha i hi).1.symm.trans hib
    have hip':ZT (Z8 m.smiths i)=true:=(ha i hi).2.1.symm.trans hip
    unfold ZV
    rw [Yo m hi,if_pos ⟨by omega,hip'⟩,hib']
    by_cases hf:Xd m.smiths (b:Int)=(i:Int)
    · right;rw [if_pos hf];exact ⟨rfl,hf.symm⟩
    · left;rw [if_neg hf];exact ⟨rfl,fun e=>hf e.symm⟩
  obtain ⟨wk,wt,hs,hw,ht⟩:=Ii (b:=(b:Int)) (f:=Xd m.smiths b) (ss:=(ZV m).smiths) m.smiths.length hstate
  unfold YH
  rw [hn,hs]
  simp only
  have hdesk:=VJ m b m.desks.length (Nat.le_refl _)
  rw [if_pos hb'] at hdesk
  cases hq:atV m.smiths (b:Int) m.smiths.length with
  | nil=>
    have hempty:∀ i,i<m.smiths.length-> ¬ ((Z8 (ZV m).smiths i).2.1=(b:Int)/\ZT (Z8 (ZV m).smiths i)=true):=by
      rintro i hi ⟨hib,hip⟩
      have:=(Yj m.smiths (b:Int) (XM (Z8 m.smiths i),(i:Int)) m.smiths.length).2 ⟨i,hi,(ha i hi).1.symm.trans hib,(ha i hi).2.1.symm.trans hip,rfl⟩
      rw [hq] at this
      exact List.not_mem_nil this
    have hwt:wt=false:=by
      cases wt
      · rfl
      · obtain ⟨i,hi,r⟩:=ht rfl
        exact absurd r (hempty i hi)
    have hwk:wk= -1:=by
      rcases hw with ⟨e,_⟩ | ⟨_,i,hi,hb,hp,_⟩
      · exact e
      · exact absurd ⟨hb,hp⟩ (hempty i hi)
    have hwho:(Z8 (ZV m).desks b).2.1= -1:=by
      unfold ZV;rw [hdesk];unfold Xs;rw [hq]
    rw [hwho,hwk,hwt]
    rfl
  | cons e t=>
    obtain ⟨hfe,i,hi,hib,hip,rfl⟩:=Ua hq
    have hwho:(Z8 (ZV m).desks b).2.1=(i:Int):=by
      unfold ZV;rw [hdesk];unfold Xs;rw [hq]
    have hwk:wk=(i:Int):=by
      rcases hw with ⟨_,hn⟩ | ⟨e,_⟩
      · exact absurd hfe.symm (hn i hi ((ha i hi).1.trans hib) ((ha i hi).2.1.trans hip))
      · exact e.trans hfe
    rw [hwho,hwk]
    have:decide ((i:Int)<0)=false:=decide_eq_false (by omega)
    rw [this]
    simp
def WL (rs:List Z2) (n:Int):Nat:=((List.range rs.length).find? fun r=>decide (n<ZY (rs.take (r+1)))).getD 0
def Xe (rs:List Z2) (n:Int):Bool:=Ze rs && inB n 0 (ZY rs-1)
def VL (ps:List Z6):Int:=(Z7 ps (ps.length-1)).1
def YV (rs:List Z2) (n:Int):Int:=if Xe rs n=true then VL (ZW rs (WL rs n)).2 else -1
theorem Lt {rs:List Z2} {n:Int} {r:Nat} (hr:r<rs.length) (h:n<ZY (rs.take (r+1))) (hl:∀ j,j<r->ZY (rs.take (j+1))<=n):WL rs n=r:=by
 unfold WL
 have:(List.range rs.length).find? (fun r=>decide (n<ZY (rs.take (r+1))))=some r:=by
  rw [List.find?_range_eq_some]
  refine ⟨by simpa using h,by simpa using hr,fun j hj=> ?_⟩
  have:=hl j hj
  simp;omega
 rw [this];rfl
theorem Wt {rs:List Z2} {n:Int} (h:Xe rs n=true):Ze rs=true/\0<=n/\n<ZY rs:=by
 unfold Xe at h;simp only [Bool.and_eq_true] at h
 have:=ZR h.2
 exact ⟨h.1,by omega,by omega⟩
theorem FP {rs:List Z2} {n:Int} (h:Ze rs=true) (h0:0<=n) (h1:n<ZY rs):Xe rs n=true:=by
 unfold Xe;rw [h,Zm (by omega) (by omega)];rfl
theorem Tl {rs:List Z2} {n:Int} (h:Xe rs n=true):YV rs n=VL (ZW rs (WL rs n)).2:=by unfold YV;rw [if_pos h]
theorem Rl {rs:List Z2} {n:Int} (h:Xe rs n=true) {r:Nat} (hr:r<=rs.length) (hl:∀ j,j<r->ZY (rs.take (j+1))<=n):r<rs.length:=by
 rcases Nat.lt_or_ge r rs.length with h1 | h1
 ·exact h1
 ·obtain rfl:r=rs.length:=by omega
  have hb:=Wt h
  have h3:=Zi hb.1
  have:=hl (rs.length-1) (by omega)
  rw [show rs.length-1+1=rs.length by omega,TZ] at this
  omega
theorem RE {rs:List Z2} (h:Ze rs=true) (k:Nat) (hk:k<=rs.length):0<=ZY (rs.take k)/\ZY (rs.take k)<=12:=by
 have h3:=Zi h
 have:=Te h3.2.2.1 k hk
 omega
theorem Pp {rs:List Z2} {n:Int} (h:Xe rs n=true):WL rs n<rs.length:=by
 have key:∀ d r:Nat,r+d=rs.length->(∀ j,j<r->ZY (rs.take (j+1))<=n)->WL rs n<rs.length:=by
  intro d
  induction d with
  | zero=>intro r hr hl;have:=Rl h (by omega) hl;omega
  | succ d ih=>
   intro r hr hl
   have hlt:=Rl h (r:=r) (by omega) hl
   by_cases hc:n<ZY (rs.take (r+1))
   ·rw [Lt hlt hc hl];exact hlt
   ·exact ih (r+1) (by omega) (Ys hl (by omega))
 exact key rs.length 0 (by omega) (fun j hj=>by omega)
open Go.ChangeShapes Go.WideShapes Go.ChangeAt Go.RowKit
def Xq (a b c:Int):Int:=if inB a 0 1000000000 && inB b 0 1000000000 && inB c 1 1000000000 then a*b / c else -1
def RM (x:Int):Nat->Int->Int
 | 0,u=>u
 | n+1,u=>RM x n ((31*u+x) / 32)
def ZN (u x n:Int):Int:=if inB u 0 1024 && inB x 0 1024 && inB n 0 1000 then RM x n.toNat u else -1
theorem GM {u x:Int} (h1:0<=u) (h2:u<=1024) (h3:0<=x) (h4:x<=1024):0<=(31*u+x) / 32/\(31*u+x) / 32<=1024:=by omega
theorem Kd (x:Int) (h3:0<=x) (h4:x<=1024):∀ (n:Nat) (u:Int),0<=u->u<=1024->0<=RM x n u/\RM x n u<=1024
 | 0,u,h1,h2=>⟨h1,h2⟩
 | n+1,u,h1,h2=>Kd x h3 h4 n _ (GM h1 h2 h3 h4).1 (GM h1 h2 h3 h4).2
theorem OF (x:Int):∀ (n:Nat) (u:Int),RM x (n+1) u=(31*RM x n u+x) / 32
 | 0,u=>rfl
 | n+1,u=>OF x n _
theorem CR {a b:Int} (a0:0<=a) (a1:a<=1000000000) (b0:0<=b) (b1:b<=1000000000):0<=a*b/\a*b<=1000000000000000000:=by
 refine ⟨Int.mul_nonneg a0 b0,?_⟩
 have h:=Int.mul_le_mul a1 b1 b0 (by omega)
 omega
theorem Dk {P:Prop} (a b c lo hi l1 h1 l2 h2:Int)
  (k1:inB a lo hi=false->P) (k2:inB a lo hi=true->inB b l1 h1=false->P) (k3:inB a lo hi=true->inB b l1 h1=true->inB c l2 h2=false->P)
  (k4:inB a lo hi=true->inB b l1 h1=true->inB c l2 h2=true->P):P:=by
 cases ha:inB a lo hi
 ·exact k1 ha
 ·cases hb:inB b l1 h1
  ·exact k2 ha hb
  ·cases hc:inB c l2 h2
   ·exact k3 ha hb hc
   ·exact k4 ha hb hc
theorem Va (x:Int) (w:World):Calls Tryz.prog 163 #[.int .i64 x] w fun e w'=>e= .returned (.bool (inB x 0 1024))/\w'=w:=by
 go_enter Tryz.func163,Tryz.ntmps163
 go_wp2_with (go_at_call 76;refine (Z1 _ _ _ _).mono ?_;rintro e w' ⟨rfl,rfl⟩)
 go_ret
 exact ⟨rfl,rfl⟩
theorem PB (a b c:Int) (w:World):Calls Tryz.prog 372 #[.int .i64 a,.int .i64 b,.int .i64 c] w fun e w'=>e= .returned (.int .i64 (Xq a b c))/\w'=w:=by
 refine Dk a b c 0 1000000000 0 1000000000 1 1000000000 ?_ ?_ ?_ ?_
 ·intro ha
  have hv:Xq a b c= -1:=by simp [Xq,ha]
  rw [hv];clear hv
  go_enter Tryz.func372,Tryz.ntmps372
  go_wp2_with (first | (go_at_call 375;refine (UE _ _).mono ?_;rintro e w' ⟨rfl,rfl⟩) | (go_at_call 76;refine (Z1 _ _ _ _).mono ?_;rintro e w' ⟨rfl,rfl⟩))
  go_ret
  exact ⟨rfl,rfl⟩
 ·intro ha hb
  have hv:Xq a b c= -1:=by simp [Xq,hb]
  rw [hv];clear hv
  go_enter Tryz.func372,Tryz.ntmps372
  go_wp2_with (first | (go_at_call 375;refine (UE _ _).mono ?_;rintro e w' ⟨rfl,rfl⟩) | (go_at_call 76;refine (Z1 _ _ _ _).mono ?_;rintro e w' ⟨rfl,rfl⟩))
  go_ret
  exact ⟨rfl,rfl⟩
 ·intro ha hb hc
  have hv:Xq a b c= -1:=by simp [Xq,hc]
  rw [hv];clear hv
  go_enter Tryz.func372,Tryz.ntmps372
  go_wp2_with (first | (go_at_call 375;refine (UE _ _).mono ?_;rintro e w' ⟨rfl,rfl⟩) | (go_at_call 76;refine (Z1 _ _ _ _).mono ?_;rintro e w' ⟨rfl,rfl⟩))
  go_ret
  exact ⟨rfl,rfl⟩
 ·intro ha hb hc
  have hv:Xq a b c=a*b / c:=by simp [Xq,ha,hb,hc]
  rw [hv];clear hv
  obtain ⟨a0,a1⟩:=ZR ha
  obtain ⟨b0,b1⟩:=ZR hb
  obtain ⟨c0,c1⟩:=ZR hc
  obtain ⟨m0,m1⟩:=CR a0 a1 b0 b1
  go_enter Tryz.func372,Tryz.ntmps372
  go_wp2_with (first | (go_at_call 375;refine (UE _ _).mono ?_;rintro e w' ⟨rfl,rfl⟩) | (go_at_call 76;refine (Z1 _ _ _ _).mono ?_;rintro e w' ⟨rfl,rfl⟩))
  go_ret
  exact ⟨rfl,rfl⟩
def SW (need:Int) (p:Z6):Bool:=decide (5*need<=4*p.1)
def RV (need:Int):List Z6->Nat
 | []=>0
 | [_]=>0
 | p::q::ps=>if SW need p then 0 else RV need (q::ps)+1
def XN (r:Z2) (need:Int):Int:=if Zu r && inB need 0 1000000 then RV need r.2 else -1
def XL (r:Z2) (pace work:Int):Int:=if Zu r && (inB work 0 1000000 && inB pace 0 (r.2.length-1)) then Xq (Z7 r.2 pace.toNat).2 work (Z7 r.2 pace.toNat).1 else -1
def MC (r:Z2) (need work:Int):Int:=XL r (XN r need) work
theorem Lb (p:Z6) (ps:List Z6):Z7 (p::ps) 0=p:=rfl
theorem Ld (p:Z6) (ps:List Z6) (k:Nat):Z7 (p::ps) (k+1)=Z7 ps k:=by unfold Z7;simp [List.getD]
theorem Eb {need:Int} {p:Z6} (h:5*need<=4*p.1):SW need p=true:=decide_eq_true h
theorem Ea {need:Int} {p:Z6} (h:4*p.1<5*need):SW need p=false:=decide_eq_false (by omega)
theorem Pc (need:Int):∀ (ps:List Z6) (k:Nat),k+1<=ps.length->(∀ j,j<k->SW need (Z7 ps j)=false)->(k+1=ps.length\/SW need (Z7 ps k)=true)->RV need ps=k
 | [],k,hk,_,_=>by simp at hk
 | [p],k,hk,_,_=>by simp at hk;subst hk;rfl
 | p::q::ps,0,_,_,he=>by
  rcases he with he | he
  ·simp at he
  ·rw [Lb] at he;simp [RV,he]
 | p::q::ps,k+1,hk,hlo,he=>by
  have h0:=hlo 0 (by omega)
  rw [Lb] at h0
  have ih:=Pc need (q::ps) k (by simp at hk ⊢;omega) (fun j hj=>by have:=hlo (j+1) (by omega);rwa [Ld] at this) (by
   rcases he with he | he
   ·left;simp at he ⊢;omega
   ·right;rwa [Ld] at he)
  simp [RV,h0,ih]
theorem Lg (need:Int):∀ ps:List Z6,1<=ps.length->RV need ps+1<=ps.length
 | [],h=>by simp at h
 | [p],_=>by simp [RV]
 | p::q::ps,_=>by
  have ih:=Lg need (q::ps) (by simp)
  unfold RV;split<;>simp at ih ⊢;omega
theorem Nv {r:Z2} (h:Zu r=true) {k:Nat} (hk:k<r.2.length):1<=(Z7 r.2 k).1/\(Z7 r.2 k).1<=1024/\1<=(Z7 r.2 k).2/\(Z7 r.2 k).2<=1024:=by
 unfold Zu at h;simp only [Bool.and_eq_true] at h
 have h1:=Nq h.2.2 hk
 unfold XB Vb at h1;simp only [Bool.and_eq_true] at h1
 have a:=ZR h1.1.1;have b:=ZR h1.1.2
 omega
theorem Le {r:Z2} {need:Int} (h:Zu r=false):XN r need= -1:=by unfold XN;simp [h]
theorem Lf {r:Z2} {need:Int} (h:inB need 0 1000000=false):XN r need= -1:=by unfold XN;simp [h]
theorem I8 {r:Z2} {need:Int} (h:Zu r=true) (h2:inB need 0 1000000=true):XN r need=RV need r.2:=by unfold XN;simp [h,h2]
theorem Qn {r:Z2} {pace work:Int} (h:Zu r=false):XL r pace work= -1:=by unfold XL;simp [h]
theorem Qo {r:Z2} {pace work:Int} (h:inB work 0 1000000=false):XL r pace work= -1:=by unfold XL;simp [h]
theorem Qp {r:Z2} {pace work:Int} (h:inB pace 0 (r.2.length-1)=false):XL r pace work= -1:=by unfold XL;simp [h]
theorem Ox {r:Z2} {pace work:Int} (h:Zu r=true) (h2:inB work 0 1000000=true) (h3:inB pace 0 (r.2.length-1)=true):XL r pace work=Xq (Z7 r.2 pace.toNat).2 work (Z7 r.2 pace.toNat).1:=by unfold XL;simp [h,h2,h3]
theorem F5 {a b c:Int} (a0:0<=a) (a1:a<=1000000000) (b0:0<=b) (b1:b<=1000000000) (c0:1<=c) (c1:c<=1000000000):Xq a b c=a*b / c:=by
 unfold Xq;rw [Zm a0 a1,Zm b0 b1,Zm c0 c1];rfl
theorem J2 (r:Z2) (pace work:Int) : -1<=XL r pace work/\XL r pace work<=1024000000:=by
 cases h:Zu r
 ·rw [Qn h];omega
 cases h2:inB work 0 1000000
 ·rw [Qo h2];omega
 cases h3:inB pace 0 (r.2.length-1)
 ·rw [Qp h3];omega
 rw [Ox h h2 h3]
 have hb:=ZR h2;have hp:=ZR h3
 have hr:=Nv h (k:=pace.toNat) (by omega)
 generalize Z7 r.2 pace.toNat=p at *
 rw [F5 (by omega) (by omega) (by omega) (by omega) (by omega) (by omega)]
 have m0:0<=p.2*work:=Int.mul_nonneg (by omega) (by omega)
 have m1:p.2*work<=1024*1000000:=Int.mul_le_mul (by omega) (by omega) (by omega) (by omega)
 have d0:=Int.ediv_nonneg m0 (show 0<=p.1 by omega)
 have d1:=Int.ediv_le_self p.1 m0
 omega
theorem Yy (x:Int) (w:World):Calls Tryz.prog 226 #[.int .i64 x] w fun e w'=>e= .returned (.bool (inB x 0 1000000))/\w'=w:=by
 go_enter Tryz.func226,Tryz.ntmps226
 go_wp2_with (go_at_call 76;refine (Z1 _ _ _ _).mono ?_;rintro e w' ⟨rfl,rfl⟩)
 go_ret
 exact ⟨rfl,rfl⟩
def amt (x:Int):Bool:=inB x 0 1000000
def VV (w u f:Int):Bool:=(amt w && (amt u && amt f)) && decide (5*(w+u)<=4*f)
def O7 (u f:Int):Bool:=(amt u && amt f) && !decide (5*u<=4*f)
def U5 (u f:Int):Int:=if amt u && amt f then f-u else -1000001
theorem EC (u f:Int):decide (4*f<5*u)= !decide (5*u<=4*f):=by
 by_cases h:5*u<=4*f
 ·rw [decide_eq_true h,decide_eq_false (by omega)];rfl
 ·rw [decide_eq_false h,decide_eq_true (by omega)];rfl
theorem VD (x u f:Int) (w:World):Calls Tryz.prog 222 #[.int .i64 x,.int .i64 u,.int .i64 f] w fun e w'=>e= .returned (.bool (VV x u f))/\w'=w:=by
 cases hx:inB x 0 1000000
 ·go_enter Tryz.func222,Tryz.ntmps222
  go_wp2_with (go_at_call 226;refine (Yy _ _).mono ?_;rintro e w' ⟨rfl,rfl⟩)
  go_ret
  exact ⟨Z5 (by simp [VV,amt,hx]),rfl⟩
 ·cases hu:inB u 0 1000000
  ·go_enter Tryz.func222,Tryz.ntmps222
   go_wp2_with (go_at_call 226;refine (Yy _ _).mono ?_;rintro e w' ⟨rfl,rfl⟩)
   go_ret
   exact ⟨Z5 (by simp [VV,amt,hx,hu]),rfl⟩
  ·cases hf:inB f 0 1000000
   ·go_enter Tryz.func222,Tryz.ntmps222
    go_wp2_with (go_at_call 226;refine (Yy _ _).mono ?_;rintro e w' ⟨rfl,rfl⟩)
    go_ret
    exact ⟨Z5 (by simp [VV,amt,hx,hu,hf]),rfl⟩
   ·obtain ⟨x0,x1⟩:=ZR hx
    obtain ⟨u0,u1⟩:=ZR hu
    obtain ⟨f0,f1⟩:=ZR hf
    go_enter Tryz.func222,Tryz.ntmps222
    go_wp2_with (go_at_call 226;refine (Yy _ _).mono ?_;rintro e w' ⟨rfl,rfl⟩)
    go_ret
    exact ⟨Z5 (by simp [VV,amt,hx,hu,hf]),rfl⟩
theorem Qf (u f:Int) (w:World):Calls Tryz.prog 224 #[.int .i64 u,.int .i64 f] w fun e w'=>e= .returned (.bool (O7 u f))/\w'=w:=by
 cases hu:inB u 0 1000000
 ·go_enter Tryz.func224,Tryz.ntmps224
  go_wp2_with (go_at_call 226;refine (Yy _ _).mono ?_;rintro e w' ⟨rfl,rfl⟩)
  go_ret
  exact ⟨Z5 (by simp [O7,amt,hu]),rfl⟩
 ·cases hf:inB f 0 1000000
  ·go_enter Tryz.func224,Tryz.ntmps224
   go_wp2_with (go_at_call 226;refine (Yy _ _).mono ?_;rintro e w' ⟨rfl,rfl⟩)
   go_ret
   exact ⟨Z5 (by simp [O7,amt,hu,hf]),rfl⟩
  ·obtain ⟨u0,u1⟩:=ZR hu
   obtain ⟨f0,f1⟩:=ZR hf
   go_enter Tryz.func224,Tryz.ntmps224
   go_wp2_with (go_at_call 226;refine (Yy _ _).mono ?_;rintro e w' ⟨rfl,rfl⟩)
   go_ret
   exact ⟨Z5 (by simp [O7,amt,hu,hf,EC]),rfl⟩
theorem Qe (u f:Int) (w:World):Calls Tryz.prog 159 #[.int .i64 u,.int .i64 f] w fun e w'=>e= .returned (.int .i64 (U5 u f))/\w'=w:=by
 cases hu:inB u 0 1000000
 ·go_enter Tryz.func159,Tryz.ntmps159
  go_wp2_with (go_at_call 226;refine (Yy _ _).mono ?_;rintro e w' ⟨rfl,rfl⟩)
  go_ret
  exact ⟨Zy (by simp [U5,amt,hu]),rfl⟩
 ·cases hf:inB f 0 1000000
  ·go_enter Tryz.func159,Tryz.ntmps159
   go_wp2_with (go_at_call 226;refine (Yy _ _).mono ?_;rintro e w' ⟨rfl,rfl⟩)
   go_ret
   exact ⟨Zy (by simp [U5,amt,hu,hf]),rfl⟩
  ·obtain ⟨u0,u1⟩:=ZR hu
   obtain ⟨f0,f1⟩:=ZR hf
   go_enter Tryz.func159,Tryz.ntmps159
   go_wp2_with (go_at_call 226;refine (Yy _ _).mono ?_;rintro e w' ⟨rfl,rfl⟩)
   go_ret
   exact ⟨Zy (by simp [U5,amt,hu,hf]),rfl⟩
end Go.Proofs.YtjhijildaceadaaGreatDoor
