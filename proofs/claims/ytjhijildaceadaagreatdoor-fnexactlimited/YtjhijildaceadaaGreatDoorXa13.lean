/- Part 13 of what the proof rests on. No condition but those that a theorem names. -/
import Derived.Test.YtjhijildaceadaaGreatDoorXa12
set_option maxHeartbeats 8000000
set_option maxRecDepth 100000
namespace Go.Proofs.YtjhijildaceadaaGreatDoor
open Go.ChangeShapes Go.WideShapes Go.ChangeAt Go.RowKit Go.Sort
set_option linter.unusedVariables false
variable {w w' w0 w1 w2 w3 w₀ wr W W' X A B C : World} {v v0 v1 v2 v3 v4 u u0 u1 u2 u3 u4 : Value} {m : Z4}
def stS (s:Z2) (st:Int):Z2:=(st,s.2)
def ZQ (ss:List Z2) (q:List Z6):List Z2:=q.foldl (fun ss e=>ss.set e.2.toNat (stS (Z8 ss e.2.toNat) 2)) ss
theorem Rp (ss:List Z2) (q:List Z6) (e:Z6):ZQ ss (q++[e])=(ZQ ss q).set e.2.toNat (stS (Z8 (ZQ ss q) e.2.toNat) 2):=by
  unfold ZQ;rw [List.foldl_append];rfl
theorem Yf (q:List Z6):∀ ss:List Z2,(ZQ ss q).length=ss.length:=by
  induction q with
  | nil=>intro ss;rfl
  | cons e q ih=>intro ss;show (ZQ (ss.set e.2.toNat (stS (Z8 ss e.2.toNat) 2)) q).length=_;rw [ih,List.length_set]
theorem RS (q:List Z6):∀ (ss:List Z2) (i:Nat),(∀ e ∈ q,0<=e.2/\e.2<ss.length)->((∃ e ∈ q,e.2=(i:Int))->Z8 (ZQ ss q) i=stS (Z8 ss i) 2)/\((∀ e ∈ q,e.2 ≠ (i:Int))->Z8 (ZQ ss q) i=Z8 ss i):=by
  induction q with
  | nil=>
    intro ss i h
    exact ⟨fun ⟨e,he,_⟩=>(List.not_mem_nil he).elim,fun _=>rfl⟩
  | cons e q ih=>
    intro ss i h
    obtain ⟨e0,e1⟩:=h e (by simp)
    have hs:=ZV (x:=stS (Z8 ss e.2.toNat) 2) (show e.2.toNat<ss.length by omega) i
    obtain ⟨i1,i2⟩:=ih (ss.set e.2.toNat (stS (Z8 ss e.2.toNat) 2)) i (fun x hx=>by rw [List.length_set];exact h x (List.mem_cons_of_mem _ hx))
    show ((∃ x ∈ e::q,x.2=(i:Int))->Z8 (ZQ (ss.set e.2.toNat (stS (Z8 ss e.2.toNat) 2)) q) i=_)/\((∀ x ∈ e::q,x.2 ≠ (i:Int))->Z8 (ZQ (ss.set e.2.toNat (stS (Z8 ss e.2.toNat) 2)) q) i=_)
    constructor
    · rintro ⟨x,hx,hxi⟩
      by_cases hq:∃ y ∈ q,y.2=(i:Int)
      · rw [i1 hq,hs]
        split
        · rename_i he;rw [he];rfl
        · rfl
      · rw [i2 (fun y hy e=>hq ⟨y,hy,e⟩),hs]
        rcases List.mem_cons.1 hx with rfl | hx
        · rw [if_pos (by omega)]
          rw [show x.2.toNat=i by omega]
        · exact absurd ⟨x,hx,hxi⟩ hq
    · intro hn
      rw [i2 (fun y hy=>hn y (List.mem_cons_of_mem _ hy)),hs,if_neg]
      have:=hn e (by simp)
      omega
def Xd (ss:List Z2) (b:Int) (d:YG):YG:=match atV ss b ss.length with
  | []=>(d.1,-1,d.2.2)
  | e::_=>(d.1,e.2,ZM d.2.2 e.1)
def XM (m:Z4) (b:Nat):Z4:=match atV m.smiths b m.smiths.length with
  | []=>{ m with desks:=m.desks.set b ((Z8 m.desks b).1,-1,(Z8 m.desks b).2.2) }
  | e::t=>{ m with smiths:=(ZQ m.smiths (e::t)).set e.2.toNat (stS (Z8 (ZQ m.smiths (e::t)) e.2.toNat) 3),desks:=m.desks.set b ((Z8 m.desks b).1,e.2,ZM (Z8 m.desks b).2.2 e.1) }
def Zz (m:Z4):Nat->Z4
  | 0=>m
  | k+1=>XM (Zz m k) k
def ZL (m:Z4):Z4:=Zz m m.desks.length
theorem Ib (m:Z4) (b:Nat):(XM m b).rooms=m.rooms/\(XM m b).guilds=m.guilds/\(XM m b).paces=m.paces/\(XM m b).now=m.now/\(XM m b).smiths.length=m.smiths.length/\(XM m b).desks.length=m.desks.length:=by
  unfold XM
  split
  · simp
  · simp [Yf]
theorem ZA (m:Z4):∀ k,(Zz m k).rooms=m.rooms/\(Zz m k).guilds=m.guilds/\(Zz m k).paces=m.paces/\(Zz m k).now=m.now/\(Zz m k).smiths.length=m.smiths.length/\(Zz m k).desks.length=m.desks.length
  | 0=>⟨rfl,rfl,rfl,rfl,rfl,rfl⟩
  | k+1=>by
    obtain ⟨h1,h2,h3,h4,h5,h6⟩:=ZA m k
    obtain ⟨g1,g2,g3,g4,g5,g6⟩:=Ib (Zz m k) k
    exact ⟨g1.trans h1,g2.trans h2,g3.trans h3,g4.trans h4,g5.trans h5,g6.trans h6⟩
theorem PN (m : Z4) (b : Nat) {i : Nat} (hi : i < m.smiths.length) : Z8 (XM m b).smiths i = if (Z8 m.smiths i).2.1 = (b : Int) ∧ ZW (Z8 m.smiths i) = true then stS (Z8 m.smiths i) (if Xz m.smiths b = (i : Int) then 3 else 2) else Z8 m.smiths i := by
  have hq := Yl m.smiths (b : Int)
  have hf : Xz m.smiths (b : Int) = match atV m.smiths (b : Int) m.smiths.length with
    | [] => -1
    | h :: _ => h.2 := rfl
  unfold XM
  split
  · rename_i h0
    rw [if_neg]
    intro hp
    have := (hq (XS (Z8 m.smiths i), (i : Int)) m.smiths.length).2 ⟨i, hi, hp.1, hp.2, rfl⟩
    rw [h0] at this
    exact List.not_mem_nil this
  · rename_i e t h0
    rw [h0] at hf
    simp only at hf
    have hin : ∀ x ∈ e :: t, 0 ≤ x.2 ∧ x.2 < m.smiths.length := by
      intro x hx
      rw [← h0] at hx
      obtain ⟨j, hj, _, _, rfl⟩ := (hq x _).1 hx
      exact ⟨by show (0 : Int) ≤ (j : Int); omega, by show (j : Int) < _; omega⟩
    obtain ⟨w1, w2⟩ := RS (e :: t) m.smiths i hin
    obtain ⟨e0, e1⟩ := hin e (by simp)
    show Z8 ((ZQ m.smiths (e :: t)).set e.2.toNat _) i = _
    rw [ZV (by rw [Yf]; omega)]
    by_cases hp : (Z8 m.smiths i).2.1 = (b : Int) ∧ ZW (Z8 m.smiths i) = true
    · have hmem : (XS (Z8 m.smiths i), (i : Int)) ∈ e :: t := by rw [← h0]; exact (hq _ _).2 ⟨i, hi, hp.1, hp.2, rfl⟩
      rw [if_pos hp, hf]
      by_cases hie : i = e.2.toNat
      · rw [if_pos hie, if_pos (by omega), ← hie, w1 ⟨_, hmem, rfl⟩]
        rfl
      · rw [if_neg hie, if_neg (by omega), w1 ⟨_, hmem, rfl⟩]
    · have hnm : ∀ x ∈ e :: t, x.2 ≠ (i : Int) := by
        intro x hx hxi
        rw [← h0] at hx
        obtain ⟨j, hj, j1, j2, rfl⟩ := (hq x _).1 hx
        have : j = i := by have : (j : Int) = (i : Int) := hxi
                           omega
        subst this
        exact hp ⟨j1, j2⟩
      rw [if_neg hp, if_neg (by have := hnm e (by simp); omega), w2 hnm]
theorem H9 (m:Z4) {b:Nat} (hb:b<m.desks.length) (j:Nat):Z8 (XM m b).desks j=if j=b then Xd m.smiths b (Z8 m.desks b) else Z8 m.desks j:=by
  have hf:Xd m.smiths (b:Int) (Z8 m.desks b)=match atV m.smiths (b:Int) m.smiths.length with
    | []=>((Z8 m.desks b).1,-1,(Z8 m.desks b).2.2)
    | e::_=>((Z8 m.desks b).1,e.2,ZM (Z8 m.desks b).2.2 e.1):=rfl
  unfold XM
  split
  · rename_i h0
    rw [h0] at hf
    rw [hf,<-ZV hb]
  · rename_i e t h0
    rw [h0] at hf
    rw [hf,<-ZV hb]
theorem Kj (m:Z4) (b:Nat):Alike m.smiths (XM m b).smiths m.smiths.length:=by
  intro i hi
  rw [PN m b hi]
  split
  · rename_i hp
    refine ⟨rfl,?_,rfl⟩
    rw [hp.2]
    split<;>rfl
  · exact ⟨rfl,rfl,rfl⟩
theorem Alike.trans {a b c:List Z2} {k:Nat} (h:Alike a b k) (g:Alike b c k):Alike a c k:=fun i hi=>⟨(g i hi).1.trans (h i hi).1,(g i hi).2.1.trans (h i hi).2.1,(g i hi).2.2.trans (h i hi).2.2⟩
theorem WA (m:Z4):∀ k,Alike m.smiths (Zz m k).smiths m.smiths.length
  | 0=>fun _ _=>⟨rfl,rfl,rfl⟩
  | k+1=>by
    have h:=Kj (Zz m k) k
    rw [(ZA m k).2.2.2.2.1] at h
    exact (WA m k).trans h
theorem Mt (m:Z4) (k:Nat) (b:Int):atV (Zz m k).smiths b (Zz m k).smiths.length=atV m.smiths b m.smiths.length:=by
  rw [(ZA m k).2.2.2.2.1]
  exact Se b _ (WA m k)
theorem Kk (m:Z4) (k:Nat) (b:Int):Xz (Zz m k).smiths b=Xz m.smiths b:=by unfold Xz;rw [Mt]
theorem M5 (m:Z4) (k:Nat) (b:Int) (d:YG):Xd (Zz m k).smiths b d=Xd m.smiths b d:=by unfold Xd;rw [Mt]
theorem XN (m:Z4) {i:Nat} (hi:i<m.smiths.length):∀ k:Nat,Z8 (Zz m k).smiths i=if (0<=(Z8 m.smiths i).2.1/\(Z8 m.smiths i).2.1<(k:Int))/\ZW (Z8 m.smiths i)=true then stS (Z8 m.smiths i) (if Xz m.smiths (Z8 m.smiths i).2.1=(i:Int) then 3 else 2) else Z8 m.smiths i
  | 0=>by rw [if_neg (by omega)];rfl
  | k+1=>by
    have ih:=XN m hi k
    have ha:=WA m k i hi
    show Z8 (XM (Zz m k) k).smiths i=_
    rw [PN _ _ (by rw [(ZA m k).2.2.2.2.1];exact hi),ha.1,ha.2.1,Kk]
    by_cases hp:ZW (Z8 m.smiths i)=true
    · by_cases hb:(Z8 m.smiths i).2.1=(k:Int)
      · have hc:(0<=(Z8 m.smiths i).2.1/\(Z8 m.smiths i).2.1<((k+1:Nat):Int))/\ZW (Z8 m.smiths i)=true:=⟨by omega,hp⟩
        rw [if_pos ⟨hb,hp⟩,if_pos hc,ih,if_neg (by omega),hb]
      · rw [if_neg (fun h=>hb h.1),ih]
        by_cases hk:0<=(Z8 m.smiths i).2.1/\(Z8 m.smiths i).2.1<(k:Int)
        · have hc:(0<=(Z8 m.smiths i).2.1/\(Z8 m.smiths i).2.1<((k+1:Nat):Int))/\ZW (Z8 m.smiths i)=true:=⟨by omega,hp⟩
          rw [if_pos ⟨hk,hp⟩,if_pos hc]
        · rw [if_neg (fun h=>hk h.1),if_neg (fun h=>hk (by omega))]
    · rw [if_neg (fun h=>hp h.2),ih,if_neg (fun h=>hp h.2),if_neg (fun h=>hp h.2)]
theorem V3 (m:Z4) (j:Nat):∀ k:Nat,k<=m.desks.length->Z8 (Zz m k).desks j=if j<k then Xd m.smiths j (Z8 m.desks j) else Z8 m.desks j
  | 0,_=>by rw [if_neg (by omega)];rfl
  | k+1,hk=>by
    have ih:=V3 m j k (by omega)
    show Z8 (XM (Zz m k) k).desks j=_
    rw [H9 _ (by rw [(ZA m k).2.2.2.2.2];omega)]
    by_cases hjk:j=k
    · subst hjk
      rw [if_pos rfl,if_pos (by omega),M5,ih,if_neg (by omega)]
    · rw [if_neg hjk,ih]
      by_cases h:j<k
      · rw [if_pos h,if_pos (by omega)]
      · rw [if_neg h,if_neg (by omega)]
structure Loose (m:Z4):Prop where
  head:Yc m=true
  desk:∀ j,j<m.desks.length->Vw (Z8 m.desks j)=true
  pace:∀ j,j<m.paces.length->Wl m j=true
  here:∀ i,i<m.smiths.length->YJ m (Z8 m.smiths i)=true
  seat:∀ i,i<m.smiths.length->Ye m (Z8 m.smiths i)=true
  openD:∃ j,j<m.desks.length/\(Z8 m.desks j).1=true
theorem Jr (h:YF m=true):Loose m:=by
  unfold YF VP Wo Wp UF at h
  simp only [Bool.and_eq_true] at h
  obtain ⟨h1,h2,h3,h4,h5⟩:=h
  have h4':=fun i hi=>FJ h4 (k:=i) hi
  simp only [Bool.and_eq_true] at h4'
  obtain ⟨j,hj,ho⟩:=List.any_eq_true.1 h5
  exact ⟨h1,fun j hj=>FJ h2 hj,fun j hj=>FJ h3 hj,fun i hi=>(h4' i hi).1,fun i hi=>(h4' i hi).2,j,List.mem_range.1 hj,ho⟩
theorem Loose.mk' (h:Loose m):YF m=true:=by
  unfold YF VP Wo Wp UF
  simp only [Bool.and_eq_true]
  refine ⟨h.head,?_,?_,?_,?_⟩
  · exact List.all_eq_true.2 fun j hj=>h.desk j (List.mem_range.1 hj)
  · exact List.all_eq_true.2 fun j hj=>h.pace j (List.mem_range.1 hj)
  · exact List.all_eq_true.2 fun j hj=>by rw [h.here j (List.mem_range.1 hj),h.seat j (List.mem_range.1 hj)];rfl
  · obtain ⟨j,hj,ho⟩:=h.openD
    exact List.any_eq_true.2 ⟨j,List.mem_range.2 hj,ho⟩
theorem Loose.at (h:Loose m) {i:Nat} (hi:i<m.smiths.length) (hp:ZW (Z8 m.smiths i)=true):0<=(Z8 m.smiths i).2.1/\(Z8 m.smiths i).2.1<m.desks.length/\(Z8 m.desks (Z8 m.smiths i).2.1.toNat).1=true/\Xp (Z8 m.smiths i).2.2.2.1 (Z8 m.smiths i).2.1=true/\Xe (XS (Z8 m.smiths i)) (Z8 m.desks (Z8 m.smiths i).2.1.toNat).2.2=true:=by
  obtain ⟨b0,b1,_⟩:=I5 (h.here i hi) hp
  have hs:=h.seat i hi
  unfold Ye at hs
  rw [hp] at hs
  simp only [Bool.not_true,Bool.false_or,Bool.and_eq_true] at hs
  exact ⟨b0,b1,hs.1,hs.2.1,hs.2.2⟩
theorem UM {had Xb:Int} (h:Xe had Xb=true) : -1000000000000<=had/\had<=1000000000000/\ -1000000000000<=Xb/\Xb<=1000000000000/\ -20000<=had-Xb/\had-Xb<=63000:=by
  unfold Xe at h
  simp only [Bool.and_eq_true] at h
  have h1:=ZP h.1
  have h2:=ZP h.2.1
  have h3:=ZP h.2.2
  omega
theorem KH {had Xb:Int} (h0 : -1000000000000<=had) (h1:had<=1000000000000) (h2 : -1000000000000<=Xb) (h3:Xb<=1000000000000) (h4 : -20000<=had-Xb) (h5:had-Xb<=63000):Xe had Xb=true:=by
  unfold Xe;rw [Zj h0 h1,Zj h2 h3,Zj h4 h5];rfl
theorem QQ {d:YG} (h:Vw d=true) : -900000000000<=d.2.2/\d.2.2<=900000000000:=ZP h
theorem ET {s:Z2} {st:Int} (h:Zu s=true) (hp:ZW s=true) (h0:1<=st) (h1:st<=3):Zu (stS s st)=true:=by
  obtain ⟨x0,be,rk,my,gu,lo,hi,hd,ca,ut,wk⟩:=s
  have hx:x0 ≠ 0:=by intro e;subst e;cases hp
  unfold Zu at h ⊢
  rw [Ns (x:=(x0,be,rk,my,gu,lo,hi,hd,ca,ut,wk)) hx,Bool.false_or] at h
  unfold Zg at h
  simp only [Bool.and_eq_true] at h
  obtain ⟨g0,g⟩:=h
  have:Zg (stS (x0,be,rk,my,gu,lo,hi,hd,ca,ut,wk) st)=true:=by
    unfold Zg stS
    simp only [Bool.and_eq_true]
    exact ⟨Zj h0 h1,g⟩
  rw [this,Bool.or_true]
theorem I6 {s:Z2} {st:Int} (h:YJ m s=true) (hp:ZW s=true) (h0:1<=st) (h1:st<=3):YJ m (stS s st)=true:=by
  unfold YJ at h ⊢
  simp only [Bool.and_eq_true,Bool.or_eq_true] at h ⊢
  refine ⟨ET h.1 hp h0 h1,.inr ?_⟩
  rcases h.2 with e | e
  · have:s.1=0:=by simpa using e
    unfold ZW at hp
    rw [this] at hp
    cases hp
  · exact e
theorem WD {m m':Z4} (hg:m'.guilds.length=m.guilds.length) (hd:m'.desks.length=m.desks.length) (s:Z2):YJ m' s=YJ m s:=by unfold YJ;rw [hg,hd]
theorem Ie (h:Loose m):Loose (ZL m):=by
  obtain ⟨e1,e2,e3,e4,e5,e6⟩:=ZA m m.desks.length
  have hd:=fun j=>V3 m j m.desks.length (Nat.le_refl _)
  have hopen:∀ j,(Z8 (ZL m).desks j).1=(Z8 m.desks j).1:=by
    intro j
    unfold ZL
    rw [hd j]
    split
    · unfold Xd;split<;>rfl
    · rfl
  have hmark:∀ j,j<m.desks.length->(-900000000000<=(Z8 (ZL m).desks j).2.2/\(Z8 (ZL m).desks j).2.2<=900000000000)/\(Z8 m.desks j).2.2<=(Z8 (ZL m).desks j).2.2/\((Z8 (ZL m).desks j).2.2<=(Z8 m.desks j).2.2\/ ∀ i,i<m.smiths.length->(Z8 m.smiths i).2.1=(j:Int)->ZW (Z8 m.smiths i)=true->(Z8 (ZL m).desks j).2.2<=XS (Z8 m.smiths i)):=by
    intro j hj
    obtain ⟨k0,k1⟩:=QQ (h.desk j hj)
    unfold ZL
    rw [hd j,if_pos hj]
    unfold Xd
    split
    · exact ⟨⟨k0,k1⟩,Int.le_refl _,.inl (Int.le_refl _)⟩
    · rename_i e t hq
      obtain ⟨_,i,hi,hib,hip,rfl⟩:=TJ hq
      obtain ⟨_,_,_,_,hband⟩:=h.at hi hip
      obtain ⟨a0,a1,_⟩:=UM hband
      have hm:=Md (m:=(Z8 m.desks j).2.2) (f:=XS (Z8 m.smiths i)) (by omega) (by omega) a0 a1
      show (-900000000000<=ZM _ _/\ZM _ _<=900000000000)/\_<=ZM _ _/\(ZM _ _<=_\/_)
      rw [hm]
      refine ⟨by omega,by omega,?_⟩
      by_cases hc:XS (Z8 m.smiths i)<=(Z8 m.desks j).2.2
      · left;omega
      · right
        intro i' hi' hb' hp'
        have:=Pw hq hi' hb' hp'
        simp only at this
        show min (max (Z8 m.desks j).2.2 (XS (Z8 m.smiths i))) 900000000000<=_
        omega
  refine ⟨?_,?_,?_,?_,?_,?_⟩
  · have:=h.head
    unfold Yc at this ⊢
    unfold ZL
    rw [e1,e2,e3,e4,e5,e6]
    exact this
  · intro j hj
    have hj':j<m.desks.length:=by unfold ZL at hj;omega
    exact Zj (hmark j hj').1.1 (hmark j hj').1.2
  · intro j hj
    have hj':j<m.paces.length:=by unfold ZL at hj;rw [e3] at hj;exact hj
    have:=h.pace j hj'
    unfold Wl at this ⊢
    unfold ZL
    rw [e1,e3]
    exact this
  · intro i hi
    have hi':i<m.smiths.length:=by unfold ZL at hi;omega
    rw [WD (m:=m) (by unfold ZL;rw [e2]) (by unfold ZL;rw [e6])]
    unfold ZL
    rw [XN m hi']
    split
    · rename_i hp
      exact I6 (h.here i hi') hp.2 (by split<;>omega) (by split<;>omega)
    · exact h.here i hi'
  · intro i hi
    have hi':i<m.smiths.length:=by unfold ZL at hi;omega
    have ha:=WA m m.desks.length i hi'
    unfold Ye
    show (!ZW (Z8 (Zz m m.desks.length).smiths i) || _)=true
    rw [ha.2.1]
    cases hp:ZW (Z8 m.smiths i)
    · rfl
    · obtain ⟨b0,b1,ho,hm,hband⟩:=h.at hi' hp
      obtain ⟨a0,a1,a2,a3,a4,a5⟩:=UM hband
      obtain ⟨⟨q0,q1⟩,q2,q3⟩:=hmark (Z8 m.smiths i).2.1.toNat (by omega)
      have hmay:(Z8 (Zz m m.desks.length).smiths i).2.2.2.1=(Z8 m.smiths i).2.2.2.1:=by
        rw [XN m hi'];split<;>rfl
      show (!true || ((Z8 (ZL m).desks (Z8 (Zz m m.desks.length).smiths i).2.1.toNat).1 && (Xp (Z8 (Zz m m.desks.length).smiths i).2.2.2.1 (Z8 (Zz m m.desks.length).smiths i).2.1 && Xe (XS (Z8 (Zz m m.desks.length).smiths i)) (Z8 (ZL m).desks (Z8 (Zz m m.desks.length).smiths i).2.1.toNat).2.2)))=true
      rw [ha.1,ha.2.2,hmay,hopen,ho,hm]
      rw [KH a0 a1 (by omega) (by omega) ?_ (by omega)]
      · rfl
      · rcases q3 with q3 | q3
        · omega
        · have:=q3 i hi' (by omega) hp
          omega
  · obtain ⟨j,hj,ho⟩:=h.openD
    exact ⟨j,by unfold ZL;omega,by rw [hopen];exact ho⟩
theorem FE {ss : List Z2} {b f : Int} : ∀ k : Nat, (∀ i, i < k → (Z8 ss i).2.1 = b → ZW (Z8 ss i) = true → ((Z8 ss i).1 = 2 ∧ (i : Int) ≠ f) ∨ ((Z8 ss i).1 = 3 ∧ (i : Int) = f)) →
    ∃ wk wt, XX ss b k = some (wk, wt) ∧ ((wk = -1 ∧ ∀ i, i < k → (Z8 ss i).2.1 = b → ZW (Z8 ss i) = true → (i : Int) ≠ f) ∨ (wk = f ∧ ∃ i : Nat, i < k ∧ (Z8 ss i).2.1 = b ∧ ZW (Z8 ss i) = true ∧ (i : Int) = f)) ∧ (wt = true → ∃ i, i < k ∧ (Z8 ss i).2.1 = b ∧ ZW (Z8 ss i) = true)
  | 0, _ => ⟨-1, false, rfl, .inl ⟨rfl, fun i hi => by omega⟩, fun h => by cases h⟩
  | k + 1, h => by
    obtain ⟨wk, wt, hs, hw, ht⟩ := FE k (fun i hi => h i (by omega))
    have hu : XX ss b (k + 1) = if (Z8 ss k).2.1 = b ∧ ZW (Z8 ss k) = true then (if (Z8 ss k).1 = 2 then some (wk, true) else if 0 ≤ wk then none else some ((k : Int), wt)) else some (wk, wt) := by
      show (match XX ss b k with
        | none => none
        | some (wk, wt) => _) = _
      rw [hs]
    rw [hu]
    by_cases hp : (Z8 ss k).2.1 = b ∧ ZW (Z8 ss k) = true
    · rw [if_pos hp]
      rcases h k (by omega) hp.1 hp.2 with ⟨h2, hne⟩ | ⟨h3, hkf⟩
      · rw [if_pos h2]
        refine ⟨wk, true, rfl, ?_, fun _ => ⟨k, by omega, hp.1, hp.2⟩⟩
        rcases hw with ⟨e, hn⟩ | ⟨e, i, hi, hb, hpi, hif⟩
        · refine .inl ⟨e, fun i hi hb hpi => ?_⟩
          by_cases hik : i = k
          · subst hik; exact hne
          · exact hn i (by omega) hb hpi
        · exact .inr ⟨e, i, by omega, hb, hpi, hif⟩
      · rw [if_neg (by omega)]
        have hw1 : wk = -1 := by
          rcases hw with ⟨e, _⟩ | ⟨e, i, hi, hb, hpi, hif⟩
          · exact e
          · omega
        rw [if_neg (by omega)]
        exact ⟨k, wt, rfl, .inr ⟨hkf, k, by omega, hp.1, hp.2, hkf⟩, fun e => by obtain ⟨i, hi, r⟩ := ht e; exact ⟨i, by omega, r⟩⟩
    · rw [if_neg hp]
      refine ⟨wk, wt, rfl, ?_, fun e => by obtain ⟨i, hi, r⟩ := ht e; exact ⟨i, by omega, r⟩⟩
      rcases hw with ⟨e, hn⟩ | ⟨e, i, hi, r⟩
      · refine .inl ⟨e, fun i hi hb hpi => ?_⟩
        by_cases hik : i = k
        · subst hik; exact absurd ⟨hb, hpi⟩ hp
        · exact hn i (by omega) hb hpi
      · exact .inr ⟨e, i, by omega, r⟩
theorem V4 (h:Loose m):Zo (ZL m)=true:=by
  unfold Zo
  rw [Bool.and_eq_true]
  refine ⟨(Ie h).mk',?_⟩
  obtain ⟨e1,e2,e3,e4,e5,e6⟩:=ZA m m.desks.length
  refine List.all_eq_true.2 fun b hb=> ?_
  have hb:=List.mem_range.1 hb
  have hb':b<m.desks.length:=by unfold ZL at hb;omega
  have hn:(ZL m).smiths.length=m.smiths.length:=e5
  have ha:=WA m m.desks.length
  have hstate:∀ i,i<m.smiths.length->(Z8 (ZL m).smiths i).2.1=(b:Int)->ZW (Z8 (ZL m).smiths i)=true->((Z8 (ZL m).smiths i).1=2/\(i:Int) ≠ Xz m.smiths b)\/((Z8 (ZL m).smiths i).1=3/\(i:Int)=Xz m.smiths b):=by
    intro i hi hib hip
    have hib':(Z8 m.smiths i).2.1=(b:Int):=(ha i hi).1.symm.trans hib
    have hip':ZW (Z8 m.smiths i)=true:=(ha i hi).2.1.symm.trans hip
    unfold ZL
    rw [XN m hi,if_pos ⟨by omega,hip'⟩,hib']
    by_cases hf:Xz m.smiths (b:Int)=(i:Int)
    · right;rw [if_pos hf];exact ⟨rfl,hf.symm⟩
    · left;rw [if_neg hf];exact ⟨rfl,fun e=>hf e.symm⟩
  obtain ⟨wk,wt,hs,hw,ht⟩:=FE (b:=(b:Int)) (f:=Xz m.smiths b) (ss:=(ZL m).smiths) m.smiths.length hstate
  unfold Yn
  rw [hn,hs]
  simp only
  have hdesk:=V3 m b m.desks.length (Nat.le_refl _)
  rw [if_pos hb'] at hdesk
  cases hq:atV m.smiths (b:Int) m.smiths.length with
  | nil=>
    have hempty:∀ i,i<m.smiths.length-> ¬ ((Z8 (ZL m).smiths i).2.1=(b:Int)/\ZW (Z8 (ZL m).smiths i)=true):=by
      rintro i hi ⟨hib,hip⟩
      have:=(Yl m.smiths (b:Int) (XS (Z8 m.smiths i),(i:Int)) m.smiths.length).2 ⟨i,hi,(ha i hi).1.symm.trans hib,(ha i hi).2.1.symm.trans hip,rfl⟩
      rw [hq] at this
      exact List.not_mem_nil this
    have hwt:wt=false:=by
      cases wt
      · rfl
      · obtain ⟨i,hi,r⟩:=ht rfl
        exact absurd r (hempty i hi)
    have hwk:wk= -1:=by
      rcases hw with ⟨e,_⟩ | ⟨_,i,hi,hb,hp,_⟩
      · exact e
      · exact absurd ⟨hb,hp⟩ (hempty i hi)
    have hwho:(Z8 (ZL m).desks b).2.1= -1:=by
      unfold ZL;rw [hdesk];unfold Xd;rw [hq]
    rw [hwho,hwk,hwt]
    rfl
  | cons e t=>
    obtain ⟨hfe,i,hi,hib,hip,rfl⟩:=TJ hq
    have hwho:(Z8 (ZL m).desks b).2.1=(i:Int):=by
      unfold ZL;rw [hdesk];unfold Xd;rw [hq]
    have hwk:wk=(i:Int):=by
      rcases hw with ⟨_,hn⟩ | ⟨e,_⟩
      · exact absurd hfe.symm (hn i hi ((ha i hi).1.trans hib) ((ha i hi).2.1.trans hip))
      · exact e.trans hfe
    rw [hwho,hwk]
    have:decide ((i:Int)<0)=false:=decide_eq_false (by omega)
    rw [this]
    simp
def WT (rs:List Z3) (n:Int):Nat:=((List.range rs.length).find? fun r=>decide (n<Z0 (rs.take (r+1)))).getD 0
def YV (rs:List Z3) (n:Int):Bool:=YN rs && inB n 0 (Z0 rs-1)
def Mj (rs:List Z3) (n:Int):Int:=if YV rs n=true then (WT rs n:Int) else -1
def U7 (ps:List Z6):Int:=(Z7 ps (ps.length-1)).1
def YP (rs:List Z3) (n:Int):Int:=if YV rs n=true then U7 (ZY rs (WT rs n)).2 else -1
theorem Tb {rs:List Z3} {n:Int} {r:Nat} (hr:r<rs.length) (h:n<Z0 (rs.take (r+1))) (hl:∀ j,j<r->Z0 (rs.take (j+1))<=n):WT rs n=r:=by
 unfold WT
 have:(List.range rs.length).find? (fun r=>decide (n<Z0 (rs.take (r+1))))=some r:=by
  rw [List.find?_range_eq_some]
  refine ⟨by simpa using h,by simpa using hr,fun j hj=> ?_⟩
  have:=hl j hj
  simp;omega
 rw [this];rfl
theorem XC {rs:List Z3} {n:Int} (h:YV rs n=true):YN rs=true/\0<=n/\n<Z0 rs:=by
 unfold YV at h;simp only [Bool.and_eq_true] at h
 have:=ZP h.2
 exact ⟨h.1,by omega,by omega⟩
theorem LV {rs:List Z3} {n:Int} (h:YN rs=true) (h0:0<=n) (h1:n<Z0 rs):YV rs n=true:=by
 unfold YV;rw [h,Zj (by omega) (by omega)];rfl
theorem Gj {rs:List Z3} {n:Int} (h:YN rs=false):YV rs n=false:=by unfold YV;rw [h];rfl
theorem NP {rs:List Z3} {n:Int} (h:n<0\/Z0 rs<=n):YV rs n=false:=by unfold YV;rw [Xj (by omega)];simp
theorem FB {rs:List Z3} {n:Int} (h:YV rs n=true):Mj rs n=WT rs n:=by unfold Mj;rw [if_pos h]
theorem Lx {rs:List Z3} {n:Int} (h:YV rs n=false):Mj rs n= -1:=by unfold Mj;rw [h];rfl
theorem QS {rs:List Z3} {n:Int} (h:YV rs n=true):YP rs n=U7 (ZY rs (WT rs n)).2:=by unfold YP;rw [if_pos h]
theorem CS {rs:List Z3} {n:Int} (h:YV rs n=false):YP rs n= -1:=by unfold YP;rw [h];rfl
theorem Va {rs:List Z3} {n:Int} (h:YV rs n=true) {r:Nat} (hr:r<=rs.length) (hl:∀ j,j<r->Z0 (rs.take (j+1))<=n):r<rs.length:=by
 rcases Nat.lt_or_ge r rs.length with h1 | h1
 ·exact h1
 ·obtain rfl:r=rs.length:=by omega
  have hb:=XC h
  have h3:=Zi hb.1
  have:=hl (rs.length-1) (by omega)
  rw [show rs.length-1+1=rs.length by omega,Wa] at this
  omega
theorem Ya {rs:List Z3} (h:YN rs=true) (k:Nat) (hk:k<=rs.length):0<=Z0 (rs.take k)/\Z0 (rs.take k)<=12:=by
 have h3:=Zi h
 have:=SC h3.2.2.1 k hk
 omega
theorem Ov {rs:List Z3} {n:Int} (h:YV rs n=true):WT rs n<rs.length:=by
 have key:∀ d r:Nat,r+d=rs.length->(∀ j,j<r->Z0 (rs.take (j+1))<=n)->WT rs n<rs.length:=by
  intro d
  induction d with
  | zero=>intro r hr hl;have:=Va h (by omega) hl;omega
  | succ d ih=>
   intro r hr hl
   have hlt:=Va h (r:=r) (by omega) hl
   by_cases hc:n<Z0 (rs.take (r+1))
   ·rw [Tb hlt hc hl];exact hlt
   ·exact ih (r+1) (by omega) (Y2 hl (by omega))
 exact key rs.length 0 (by omega) (fun j hj=>by omega)
theorem SM  {rs:List Z3} (n:Int) (h:IsRooms w v rs) :
  Calls Tryz.prog 369 #[.agg #[v],.int .i64 n] w fun e w'=>e= .returned (.int .i64 (Mj rs n))/\Below w.heap.size w w':=by
 have Hv:=Z9 h
 obtain ⟨a,cap,rfl,hc,hm,hr⟩:=h
 clear hr
 by_cases h0:n<0
 ·have H1:=Z9 (Lx (NP (rs:=rs) (.inl h0)))
  go_enter Tryz.func369,Tryz.ntmps369
  go_wp2_with fail
  go_ret
  exact ⟨ZS (uh H1).symm,(Below.refl _ _).alloc (Nat.le_refl _) _⟩
 by_cases h1:Xg rs<=n
 ·have H1:Hid (Mj rs n= -1):=Z9 (Lx (by
   cases hh:YN rs
   ·exact Gj hh
   ·rw [UN hh] at h1;exact NP (.inr h1)))
  go_enter Tryz.func369,Tryz.ntmps369
  go_wp2_with fail
  refine (Wi ((uh Hv).alloc _)).mono ?_
  rintro e w1 ⟨rfl,hb⟩
  have Hb:=Z9 hb
  clear hb
  generalize Xg rs=m at *
  go_wp2_with fail
  go_ret
  exact ⟨ZS (uh H1).symm,((Below.refl _ _).alloc (Nat.le_refl _) _).trans ((uh Hb).mono (by simp))⟩
 have hh:YN rs=true:=by
  cases hh:YN rs
  ·rw [Rz hh] at h1;omega
  ·rfl
 have H:Hid (YV rs n=true):=Z9 (LV hh (by omega) (by rw [UN hh] at h1;omega))
 have Hh:=Z9 hh
 clear hh
 go_enter Tryz.func369,Tryz.ntmps369
 go_wp2_with fail
 refine (Wi ((uh Hv).alloc _)).mono ?_
 rintro e w1 ⟨rfl,hb⟩
 have hsz:w.heap.size+1<=w1.heap.size:=by have:=hb.size;simpa using this
 have hbox:w1.cell? ⟨w.heap.size,0,none⟩=some (.slice a rs.length cap):=by rw [hb.cell (p:=⟨w.heap.size,0,none⟩) (by simp)];simp
 have B1:Hid (Below w.heap.size w w1):=Z9 (((Below.refl _ _).alloc (Nat.le_refl _) _).trans (hb.mono (by simp)))
 clear hb
 generalize Xg rs=m at *
 go_wp2_with fail
 go_loopw [5] (fun i wr=> ∃ r:Nat,r<=rs.length/\i= .int .i64 r/\(∀ j,j<r->Z0 (rs.take (j+1))<=n)/\Below w1.heap.size w1 wr) (fun i _=>rs.length-(intOf i).toNat)
 case atStart=>exact ⟨0,Nat.zero_le _,rfl,fun j hj=>by omega,Below.refl _ _⟩
 case round=>
  obtain ⟨r,hr,rfl,hl,hb⟩:=hrel
  have hlt:=Va (uh H) hr hl
  have hbox2:wr.cell? ⟨w.heap.size,0,none⟩=some (.slice a rs.length cap):=by rw [hb.cell (p:=⟨w.heap.size,0,none⟩) (by show w.heap.size<w1.heap.size;omega)];exact hbox
  have hz:=hb.size
  have hl3:rs.length<=3:=(Zi (uh Hh)).2.1
  have Hl:=Z9 hl
  have Hb:=Z9 hb
  have Hw:Hid (IsRooms wr (.slice a (r+1) cap) (rs.take (r+1))):=Z9 ((((uh Hv).below (uh B1)).below hb).taken (by omega))
  clear hl hb hbox
  go_wp2_with fail
  refine (WK (uh Hw) ((Sb (uh Hh)).taken _)).mono ?_
  rintro e w2 ⟨rfl,hb2⟩
  have hbd:=Ya (uh Hh) (r+1) (by omega)
  have Hb2:=Z9 hb2
  clear hb2
  by_cases hc2:n<Z0 (rs.take (r+1))
  ·have HN:=Z9 (Tb hlt hc2 (uh Hl))
   generalize Z0 (rs.take (r+1))=s at *
   go_wp2_with fail
   go_ret
   exact ⟨ZS (by rw [FB (uh H),uh HN]),(uh B1).trans (((uh Hb).trans ((uh Hb2).mono hz)).mono (by omega))⟩
  ·have hle:Z0 (rs.take (r+1))<=n:=by omega
   have Hle:=Z9 (Y2 (uh Hl) hle)
   generalize Z0 (rs.take (r+1))=s at *
   go_wp2_with fail
   go_roundw
   case rel=>exact ⟨r+1,by omega,by go_num,uh Hle,(uh Hb).trans ((uh Hb2).mono hz)⟩
   case measure=>simp [intOf];omega
open Go.ChangeShapes Go.WideShapes Go.ChangeAt Go.RowKit
def YW (a b c:Int):Int:=if inB a 0 1000000000 && inB b 0 1000000000 && inB c 1 1000000000 then a*b / c else -1
theorem Di {a b:Int} (a0:0<=a) (a1:a<=1000000000) (b0:0<=b) (b1:b<=1000000000):0<=a*b/\a*b<=1000000000000000000:=by
 refine ⟨Int.mul_nonneg a0 b0,?_⟩
 have h:=Int.mul_le_mul a1 b1 b0 (by omega)
 omega
theorem BT {P:Prop} (a b c lo hi l1 h1 l2 h2:Int)
  (k1:inB a lo hi=false->P) (k2:inB a lo hi=true->inB b l1 h1=false->P) (k3:inB a lo hi=true->inB b l1 h1=true->inB c l2 h2=false->P)
  (k4:inB a lo hi=true->inB b l1 h1=true->inB c l2 h2=true->P):P:=by
 cases ha:inB a lo hi
 ·exact k1 ha
 ·cases hb:inB b l1 h1
  ·exact k2 ha hb
  ·cases hc:inB c l2 h2
   ·exact k3 ha hb hc
   ·exact k4 ha hb hc
theorem OF (a b c:Int) (w:World):Calls Tryz.prog 372 #[.int .i64 a,.int .i64 b,.int .i64 c] w fun e w'=>e= .returned (.int .i64 (YW a b c))/\w'=w:=by
 refine BT a b c 0 1000000000 0 1000000000 1 1000000000 ?_ ?_ ?_ ?_
 ·intro ha
  have hv:YW a b c= -1:=by simp [YW,ha]
  rw [hv];clear hv
  go_enter Tryz.func372,Tryz.ntmps372
  go_wp2_with (first | (go_at_call 375;refine (Sm _ _).mono ?_;rintro e w' ⟨rfl,rfl⟩) | (go_at_call 76;refine (ZX _ _ _ _).mono ?_;rintro e w' ⟨rfl,rfl⟩))
  go_ret
  exact ⟨rfl,rfl⟩
 ·intro ha hb
  have hv:YW a b c= -1:=by simp [YW,hb]
  rw [hv];clear hv
  go_enter Tryz.func372,Tryz.ntmps372
  go_wp2_with (first | (go_at_call 375;refine (Sm _ _).mono ?_;rintro e w' ⟨rfl,rfl⟩) | (go_at_call 76;refine (ZX _ _ _ _).mono ?_;rintro e w' ⟨rfl,rfl⟩))
  go_ret
  exact ⟨rfl,rfl⟩
 ·intro ha hb hc
  have hv:YW a b c= -1:=by simp [YW,hc]
  rw [hv];clear hv
  go_enter Tryz.func372,Tryz.ntmps372
  go_wp2_with (first | (go_at_call 375;refine (Sm _ _).mono ?_;rintro e w' ⟨rfl,rfl⟩) | (go_at_call 76;refine (ZX _ _ _ _).mono ?_;rintro e w' ⟨rfl,rfl⟩))
  go_ret
  exact ⟨rfl,rfl⟩
 ·intro ha hb hc
  have hv:YW a b c=a*b / c:=by simp [YW,ha,hb,hc]
  rw [hv];clear hv
  obtain ⟨a0,a1⟩:=ZP ha
  obtain ⟨b0,b1⟩:=ZP hb
  obtain ⟨c0,c1⟩:=ZP hc
  obtain ⟨m0,m1⟩:=Di a0 a1 b0 b1
  go_enter Tryz.func372,Tryz.ntmps372
  go_wp2_with (first | (go_at_call 375;refine (Sm _ _).mono ?_;rintro e w' ⟨rfl,rfl⟩) | (go_at_call 76;refine (ZX _ _ _ _).mono ?_;rintro e w' ⟨rfl,rfl⟩))
  go_ret
  exact ⟨rfl,rfl⟩
theorem AV {p:Int->Bool} (a b:Int) : [a,b].all p=(p a && p b):=by simp
theorem AU {p:Int->Bool} (a:Int) : [a].all p=p a:=by simp
theorem Bg (W:World) (a b:Int) (bk:Nat) (hb:bk=W.heap.size):∀ k,k < [a,b].length->(W.alloc (.cells #[.int .i64 a,.int .i64 b] 2)).cell? ⟨bk,k,none⟩=some (.int .i64 ([a,b].getD k 0)):=by
 intro k hk
 rw [World.cell?_alloc_at _ _ _ _ hb]
 match k,hk with
 | 0,_=>rfl
 | 1,_=>rfl
theorem Bf (W:World) (a:Int) (bk:Nat) (hb:bk=W.heap.size):∀ k,k < [a].length->(W.alloc (.cells #[.int .i64 a] 2)).cell? ⟨bk,k,none⟩=some (.int .i64 ([a].getD k 0)):=by
 intro k hk
 rw [World.cell?_alloc_at _ _ _ _ hb]
 match k,hk with
 | 0,_=>rfl
theorem Vl (a b:Int) (W:World) (bk:Nat) (hb:bk=W.heap.size):Calls Tryz.prog 378 #[.func (Fn.func 379) #[] #[],.slice (some ⟨bk,0,none⟩) 2 2] (W.alloc (.cells #[.int .i64 a,.int .i64 b] 2))
  fun e w'=>e= .returned (.bool (inB a 0 1000000000 && inB b 0 1000000000))/\w'=W.alloc (.cells #[.int .i64 a,.int .i64 b] 2):=by
 have h:=O2 bk 2 [a,b] (W.alloc (.cells #[.int .i64 a,.int .i64 b] 2)) (by simp) (Bg W a b bk hb)
 rw [AV] at h
 exact h
theorem RZ (a:Int) (W:World) (bk:Nat) (hb:bk=W.heap.size):Calls Tryz.prog 378 #[.func (Fn.func 380) #[] #[],.slice (some ⟨bk,0,none⟩) 1 1] (W.alloc (.cells #[.int .i64 a] 2))
  fun e w'=>e= .returned (.bool (inB a 1 1000000000))/\w'=W.alloc (.cells #[.int .i64 a] 2):=by
 have h:=PU bk 1 [a] (W.alloc (.cells #[.int .i64 a] 2)) (by simp) (Bf W a bk hb)
 rw [AU] at h
 exact h
theorem NG (a b c:Int) (w:World):Calls Tryz.prog 376 #[.int .i64 a,.int .i64 b,.int .i64 c] w fun e w'=>e= .returned (.int .i64 (YW a b c))/\Below w.heap.size w w':=by
 refine BT a b c 0 1000000000 0 1000000000 1 1000000000 ?_ ?_ ?_ ?_
 ·intro ha
  have hv:YW a b c= -1:=by simp [YW,ha]
  rw [hv];clear hv
  go_enter Tryz.func376,Tryz.ntmps376
  go_wp2_with fail
  refine (Vl a b _ _ rfl).mono ?_
  rintro e w' ⟨rfl,rfl⟩
  go_wp2_with fail
  go_ret
  exact ⟨rfl,(Below.refl _ _).alloc (Nat.le_refl _) _⟩
 ·intro ha hb
  have hv:YW a b c= -1:=by simp [YW,hb]
  rw [hv];clear hv
  go_enter Tryz.func376,Tryz.ntmps376
  go_wp2_with fail
  refine (Vl a b _ _ rfl).mono ?_
  rintro e w' ⟨rfl,rfl⟩
  go_wp2_with fail
  go_ret
  exact ⟨rfl,(Below.refl _ _).alloc (Nat.le_refl _) _⟩
 ·intro ha hb hc
  have hv:YW a b c= -1:=by simp [YW,hc]
  rw [hv];clear hv
  go_enter Tryz.func376,Tryz.ntmps376
  go_wp2_with fail
  refine (Vl a b _ _ rfl).mono ?_
  rintro e w' ⟨rfl,rfl⟩
  go_wp2_with fail
  refine (RZ c _ _ (by simp)).mono ?_
  rintro e w' ⟨rfl,rfl⟩
  go_wp2_with fail
  go_ret
  exact ⟨rfl,((Below.refl _ _).alloc (Nat.le_refl _) _).alloc (by simp) _⟩
 ·intro ha hb hc
  have hv:YW a b c=a*b / c:=by simp [YW,ha,hb,hc]
  rw [hv];clear hv
  obtain ⟨a0,a1⟩:=ZP ha
  obtain ⟨b0,b1⟩:=ZP hb
  obtain ⟨c0,c1⟩:=ZP hc
  obtain ⟨m0,m1⟩:=Di a0 a1 b0 b1
  go_enter Tryz.func376,Tryz.ntmps376
  go_wp2_with fail
  refine (Vl a b _ _ rfl).mono ?_
  rintro e w' ⟨rfl,rfl⟩
  go_wp2_with fail
  refine (RZ c _ _ (by simp)).mono ?_
  rintro e w' ⟨rfl,rfl⟩
  go_wp2_with fail
  go_ret
  exact ⟨rfl,((Below.refl _ _).alloc (Nat.le_refl _) _).alloc (by simp) _⟩
def Vf (need:Int) (p:Z6):Bool:=decide (5*need<=4*p.1)
def Oj (need:Int):List Z6->Nat
 | []=>0
 | [_]=>0
 | p::q::ps=>if Vf need p then 0 else Oj need (q::ps)+1
def WM (r:Z3) (need:Int):Int:=if Zm r && inB need 0 1000000 then Oj need r.2 else -1
def XR (r:Z3) (pace work:Int):Int:=if Zm r && (inB work 0 1000000 && inB pace 0 (r.2.length-1)) then YW (Z7 r.2 pace.toNat).2 work (Z7 r.2 pace.toNat).1 else -1
def Qc (r:Z3) (need work:Int):Int:=XR r (WM r need) work
theorem JC (p:Z6) (ps:List Z6):Z7 (p::ps) 0=p:=rfl
theorem JE (p:Z6) (ps:List Z6) (k:Nat):Z7 (p::ps) (k+1)=Z7 ps k:=by unfold Z7;simp [List.getD]
theorem CL {need:Int} {p:Z6} (h:5*need<=4*p.1):Vf need p=true:=decide_eq_true h
theorem CK {need:Int} {p:Z6} (h:4*p.1<5*need):Vf need p=false:=decide_eq_false (by omega)
theorem S5 (need:Int):∀ (ps:List Z6) (k:Nat),k+1<=ps.length->(∀ j,j<k->Vf need (Z7 ps j)=false)->(k+1=ps.length\/Vf need (Z7 ps k)=true)->Oj need ps=k
 | [],k,hk,_,_=>by simp at hk
 | [p],k,hk,_,_=>by simp at hk;subst hk;rfl
 | p::q::ps,0,_,_,he=>by
  rcases he with he | he
  ·simp at he
  ·rw [JC] at he;simp [Oj,he]
 | p::q::ps,k+1,hk,hlo,he=>by
  have h0:=hlo 0 (by omega)
  rw [JC] at h0
  have ih:=S5 need (q::ps) k (by simp at hk ⊢;omega) (fun j hj=>by have:=hlo (j+1) (by omega);rwa [JE] at this) (by
   rcases he with he | he
   ·left;simp at he ⊢;omega
   ·right;rwa [JE] at he)
  simp [Oj,h0,ih]
theorem Qp {r:Z3} (h:Zm r=true) {k:Nat} (hk:k<r.2.length):1<=(Z7 r.2 k).1/\(Z7 r.2 k).1<=1024/\1<=(Z7 r.2 k).2/\(Z7 r.2 k).2<=1024:=by
 unfold Zm at h;simp only [Bool.and_eq_true] at h
 have h1:=ED h.2.2 hk
 unfold WU Un at h1;simp only [Bool.and_eq_true] at h1
 have a:=ZP h1.1.1;have b:=ZP h1.1.2
 omega
theorem PF {r:Z3} {need:Int} (h:Zm r=false):WM r need= -1:=by unfold WM;simp [h]
theorem PG {r:Z3} {need:Int} (h:inB need 0 1000000=false):WM r need= -1:=by unfold WM;simp [h]
theorem Oi {r:Z3} {need:Int} (h:Zm r=true) (h2:inB need 0 1000000=true):WM r need=Oj need r.2:=by unfold WM;simp [h,h2]
theorem SG {r:Z3} {pace work:Int} (h:Zm r=false):XR r pace work= -1:=by unfold XR;simp [h]
theorem SH {r:Z3} {pace work:Int} (h:inB work 0 1000000=false):XR r pace work= -1:=by unfold XR;simp [h]
theorem UH {r:Z3} {pace work:Int} (h:inB pace 0 (r.2.length-1)=false):XR r pace work= -1:=by unfold XR;simp [h]
theorem RA {r:Z3} {pace work:Int} (h:Zm r=true) (h2:inB work 0 1000000=true) (h3:inB pace 0 (r.2.length-1)=true):XR r pace work=YW (Z7 r.2 pace.toNat).2 work (Z7 r.2 pace.toNat).1:=by unfold XR;simp [h,h2,h3]
theorem Ex {a b c:Int} (a0:0<=a) (a1:a<=1000000000) (b0:0<=b) (b1:b<=1000000000) (c0:1<=c) (c1:c<=1000000000):YW a b c=a*b / c:=by
 unfold YW;rw [Zj a0 a1,Zj b0 b1,Zj c0 c1];rfl
theorem IJ (r:Z3) (pace work:Int) : -1<=XR r pace work/\XR r pace work<=1024000000:=by
 cases h:Zm r
 ·rw [SG h];omega
 cases h2:inB work 0 1000000
 ·rw [SH h2];omega
 cases h3:inB pace 0 (r.2.length-1)
 ·rw [UH h3];omega
 rw [RA h h2 h3]
 have hb:=ZP h2;have hp:=ZP h3
 have hr:=Qp h (k:=pace.toNat) (by omega)
 generalize Z7 r.2 pace.toNat=p at *
 rw [Ex (by omega) (by omega) (by omega) (by omega) (by omega) (by omega)]
 have m0:0<=p.2*work:=Int.mul_nonneg (by omega) (by omega)
 have m1:p.2*work<=1024*1000000:=Int.mul_le_mul (by omega) (by omega) (by omega) (by omega)
 have d0:=Int.ediv_nonneg m0 (show 0<=p.1 by omega)
 have d1:=Int.ediv_le_self p.1 m0
 omega
end Go.Proofs.YtjhijildaceadaaGreatDoor
