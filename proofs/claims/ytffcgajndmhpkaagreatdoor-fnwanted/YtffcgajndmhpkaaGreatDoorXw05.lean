/- Part 5 of what the proof rests on. No condition but those that a theorem names. -/
import Derived.Test.YtffcgajndmhpkaaGreatDoorXw04
import Derived.WalkMore
import Derived.Below
set_option maxHeartbeats 8000000
set_option maxRecDepth 100000
namespace Go.Proofs.YtffcgajndmhpkaaGreatDoor
open Go.ChangeShapes Go.WideShapes Go.ChangeAt Go.RowKit Go.Sort
set_option linter.unusedVariables false
variable {m : Z4}
def stS (s:Z3) (st:Int):Z3:=(st,s.2)
def ZM (ss:List Z3) (q:List Z6):List Z3:=q.foldl (fun ss e=>ss.set e.2.toNat (stS (Z8 ss e.2.toNat) 2)) ss
theorem RG (ss:List Z3) (q:List Z6) (e:Z6):ZM ss (q++[e])=(ZM ss q).set e.2.toNat (stS (Z8 (ZM ss q) e.2.toNat) 2):=by
  unfold ZM;rw [List.foldl_append];rfl
theorem Ye (q:List Z6):∀ ss:List Z3,(ZM ss q).length=ss.length:=by
  induction q with
  | nil=>intro ss;rfl
  | cons e q ih=>intro ss;show (ZM (ss.set e.2.toNat (stS (Z8 ss e.2.toNat) 2)) q).length=_;rw [ih,List.length_set]
theorem R1 (q:List Z6):∀ (ss:List Z3) (i:Nat),(∀ e ∈ q,0<=e.2/\e.2<ss.length)->((∃ e ∈ q,e.2=(i:Int))->Z8 (ZM ss q) i=stS (Z8 ss i) 2)/\((∀ e ∈ q,e.2 ≠ (i:Int))->Z8 (ZM ss q) i=Z8 ss i):=by
  induction q with
  | nil=>
    intro ss i h
    exact ⟨fun ⟨e,he,_⟩=>(List.not_mem_nil he).elim,fun _=>rfl⟩
  | cons e q ih=>
    intro ss i h
    obtain ⟨e0,e1⟩:=h e (by simp)
    have hs:=ZK (x:=stS (Z8 ss e.2.toNat) 2) (show e.2.toNat<ss.length by omega) i
    obtain ⟨i1,i2⟩:=ih (ss.set e.2.toNat (stS (Z8 ss e.2.toNat) 2)) i (fun x hx=>by rw [List.length_set];exact h x (List.mem_cons_of_mem _ hx))
    show ((∃ x ∈ e::q,x.2=(i:Int))->Z8 (ZM (ss.set e.2.toNat (stS (Z8 ss e.2.toNat) 2)) q) i=_)/\((∀ x ∈ e::q,x.2 ≠ (i:Int))->Z8 (ZM (ss.set e.2.toNat (stS (Z8 ss e.2.toNat) 2)) q) i=_)
    constructor
    · rintro ⟨x,hx,hxi⟩
      by_cases hq:∃ y ∈ q,y.2=(i:Int)
      · rw [i1 hq,hs]
        split
        · rename_i he;rw [he];rfl
        · rfl
      · rw [i2 (fun y hy e=>hq ⟨y,hy,e⟩),hs]
        rcases List.mem_cons.1 hx with rfl | hx
        · rw [if_pos (by omega)]
          rw [show x.2.toNat=i by omega]
        · exact absurd ⟨x,hx,hxi⟩ hq
    · intro hn
      rw [i2 (fun y hy=>hn y (List.mem_cons_of_mem _ hy)),hs,if_neg]
      have:=hn e (by simp)
      omega
def Xh (ss:List Z3) (b:Int) (d:Yq):Yq:=match atV ss b ss.length with
  | []=>(d.1,-1,d.2.2)
  | e::_=>(d.1,e.2,ZL d.2.2 e.1)
def Yk (m:Z4) (b:Nat):Z4:=match atV m.smiths b m.smiths.length with
  | []=>{ m with desks:=m.desks.set b ((Z8 m.desks b).1,-1,(Z8 m.desks b).2.2) }
  | e::t=>{ m with smiths:=(ZM m.smiths (e::t)).set e.2.toNat (stS (Z8 (ZM m.smiths (e::t)) e.2.toNat) 3),desks:=m.desks.set b ((Z8 m.desks b).1,e.2,ZL (Z8 m.desks b).2.2 e.1) }
def Zs (m:Z4):Nat->Z4
  | 0=>m
  | k+1=>Yk (Zs m k) k
def ZX (m:Z4):Z4:=Zs m m.desks.length
theorem IF (m:Z4) (b:Nat):(Yk m b).rooms=m.rooms/\(Yk m b).guilds=m.guilds/\(Yk m b).paces=m.paces/\(Yk m b).now=m.now/\(Yk m b).smiths.length=m.smiths.length/\(Yk m b).desks.length=m.desks.length:=by
  unfold Yk
  split
  · simp
  · simp [Ye]
theorem ZQ (m:Z4):∀ k,(Zs m k).rooms=m.rooms/\(Zs m k).guilds=m.guilds/\(Zs m k).paces=m.paces/\(Zs m k).now=m.now/\(Zs m k).smiths.length=m.smiths.length/\(Zs m k).desks.length=m.desks.length
  | 0=>⟨rfl,rfl,rfl,rfl,rfl,rfl⟩
  | k+1=>by
    obtain ⟨h1,h2,h3,h4,h5,h6⟩:=ZQ m k
    obtain ⟨g1,g2,g3,g4,g5,g6⟩:=IF (Zs m k) k
    exact ⟨g1.trans h1,g2.trans h2,g3.trans h3,g4.trans h4,g5.trans h5,g6.trans h6⟩
theorem Qc (m : Z4) (b : Nat) {i : Nat} (hi : i < m.smiths.length) : Z8 (Yk m b).smiths i = if (Z8 m.smiths i).2.1 = (b : Int) ∧ ZR (Z8 m.smiths i) = true then stS (Z8 m.smiths i) (if WR m.smiths b = (i : Int) then 3 else 2) else Z8 m.smiths i := by
  have hq := Yt m.smiths (b : Int)
  have hf : WR m.smiths (b : Int) = match atV m.smiths (b : Int) m.smiths.length with
    | [] => -1
    | h :: _ => h.2 := rfl
  unfold Yk
  split
  · rename_i h0
    rw [if_neg]
    intro hp
    have := (hq (XG (Z8 m.smiths i), (i : Int)) m.smiths.length).2 ⟨i, hi, hp.1, hp.2, rfl⟩
    rw [h0] at this
    exact List.not_mem_nil this
  · rename_i e t h0
    rw [h0] at hf
    simp only at hf
    have hin : ∀ x ∈ e :: t, 0 ≤ x.2 ∧ x.2 < m.smiths.length := by
      intro x hx
      rw [← h0] at hx
      obtain ⟨j, hj, _, _, rfl⟩ := (hq x _).1 hx
      exact ⟨by show (0 : Int) ≤ (j : Int); omega, by show (j : Int) < _; omega⟩
    obtain ⟨w1, w2⟩ := R1 (e :: t) m.smiths i hin
    obtain ⟨e0, e1⟩ := hin e (by simp)
    show Z8 ((ZM m.smiths (e :: t)).set e.2.toNat _) i = _
    rw [ZK (by rw [Ye]; omega)]
    by_cases hp : (Z8 m.smiths i).2.1 = (b : Int) ∧ ZR (Z8 m.smiths i) = true
    · have hmem : (XG (Z8 m.smiths i), (i : Int)) ∈ e :: t := by rw [← h0]; exact (hq _ _).2 ⟨i, hi, hp.1, hp.2, rfl⟩
      rw [if_pos hp, hf]
      by_cases hie : i = e.2.toNat
      · rw [if_pos hie, if_pos (by omega), ← hie, w1 ⟨_, hmem, rfl⟩]
        rfl
      · rw [if_neg hie, if_neg (by omega), w1 ⟨_, hmem, rfl⟩]
    · have hnm : ∀ x ∈ e :: t, x.2 ≠ (i : Int) := by
        intro x hx hxi
        rw [← h0] at hx
        obtain ⟨j, hj, j1, j2, rfl⟩ := (hq x _).1 hx
        have : j = i := by have : (j : Int) = (i : Int) := hxi
                           omega
        subst this
        exact hp ⟨j1, j2⟩
      rw [if_neg hp, if_neg (by have := hnm e (by simp); omega), w2 hnm]
theorem ID (m:Z4) {b:Nat} (hb:b<m.desks.length) (j:Nat):Z8 (Yk m b).desks j=if j=b then Xh m.smiths b (Z8 m.desks b) else Z8 m.desks j:=by
  have hf:Xh m.smiths (b:Int) (Z8 m.desks b)=match atV m.smiths (b:Int) m.smiths.length with
    | []=>((Z8 m.desks b).1,-1,(Z8 m.desks b).2.2)
    | e::_=>((Z8 m.desks b).1,e.2,ZL (Z8 m.desks b).2.2 e.1):=rfl
  unfold Yk
  split
  · rename_i h0
    rw [h0] at hf
    rw [hf,<-ZK hb]
  · rename_i e t h0
    rw [h0] at hf
    rw [hf,<-ZK hb]
theorem KI (m:Z4) (b:Nat):Alike m.smiths (Yk m b).smiths m.smiths.length:=by
  intro i hi
  rw [Qc m b hi]
  split
  · rename_i hp
    refine ⟨rfl,?_,rfl⟩
    rw [hp.2]
    split<;>rfl
  · exact ⟨rfl,rfl,rfl⟩
theorem Alike.trans {a b c:List Z3} {k:Nat} (h:Alike a b k) (g:Alike b c k):Alike a c k:=fun i hi=>⟨(g i hi).1.trans (h i hi).1,(g i hi).2.1.trans (h i hi).2.1,(g i hi).2.2.trans (h i hi).2.2⟩
theorem Xs (m:Z4):∀ k,Alike m.smiths (Zs m k).smiths m.smiths.length
  | 0=>fun _ _=>⟨rfl,rfl,rfl⟩
  | k+1=>by
    have h:=KI (Zs m k) k
    rw [(ZQ m k).2.2.2.2.1] at h
    exact (Xs m k).trans h
theorem QX (m:Z4) (k:Nat) (b:Int):atV (Zs m k).smiths b (Zs m k).smiths.length=atV m.smiths b m.smiths.length:=by
  rw [(ZQ m k).2.2.2.2.1]
  exact Md b _ (Xs m k)
theorem KJ (m:Z4) (k:Nat) (b:Int):WR (Zs m k).smiths b=WR m.smiths b:=by unfold WR;rw [QX]
theorem Nv (m:Z4) (k:Nat) (b:Int) (d:Yq):Xh (Zs m k).smiths b d=Xh m.smiths b d:=by unfold Xh;rw [QX]
theorem Xt (m:Z4) {i:Nat} (hi:i<m.smiths.length):∀ k:Nat,Z8 (Zs m k).smiths i=if (0<=(Z8 m.smiths i).2.1/\(Z8 m.smiths i).2.1<(k:Int))/\ZR (Z8 m.smiths i)=true then stS (Z8 m.smiths i) (if WR m.smiths (Z8 m.smiths i).2.1=(i:Int) then 3 else 2) else Z8 m.smiths i
  | 0=>by rw [if_neg (by omega)];rfl
  | k+1=>by
    have ih:=Xt m hi k
    have ha:=Xs m k i hi
    show Z8 (Yk (Zs m k) k).smiths i=_
    rw [Qc _ _ (by rw [(ZQ m k).2.2.2.2.1];exact hi),ha.1,ha.2.1,KJ]
    by_cases hp:ZR (Z8 m.smiths i)=true
    · by_cases hb:(Z8 m.smiths i).2.1=(k:Int)
      · have hc:(0<=(Z8 m.smiths i).2.1/\(Z8 m.smiths i).2.1<((k+1:Nat):Int))/\ZR (Z8 m.smiths i)=true:=⟨by omega,hp⟩
        rw [if_pos ⟨hb,hp⟩,if_pos hc,ih,if_neg (by omega),hb]
      · rw [if_neg (fun h=>hb h.1),ih]
        by_cases hk:0<=(Z8 m.smiths i).2.1/\(Z8 m.smiths i).2.1<(k:Int)
        · have hc:(0<=(Z8 m.smiths i).2.1/\(Z8 m.smiths i).2.1<((k+1:Nat):Int))/\ZR (Z8 m.smiths i)=true:=⟨by omega,hp⟩
          rw [if_pos ⟨hk,hp⟩,if_pos hc]
        · rw [if_neg (fun h=>hk h.1),if_neg (fun h=>hk (by omega))]
    · rw [if_neg (fun h=>hp h.2),ih,if_neg (fun h=>hp h.2),if_neg (fun h=>hp h.2)]
theorem Vr (m:Z4) (j:Nat):∀ k:Nat,k<=m.desks.length->Z8 (Zs m k).desks j=if j<k then Xh m.smiths j (Z8 m.desks j) else Z8 m.desks j
  | 0,_=>by rw [if_neg (by omega)];rfl
  | k+1,hk=>by
    have ih:=Vr m j k (by omega)
    show Z8 (Yk (Zs m k) k).desks j=_
    rw [ID _ (by rw [(ZQ m k).2.2.2.2.2];omega)]
    by_cases hjk:j=k
    · subst hjk
      rw [if_pos rfl,if_pos (by omega),Nv,ih,if_neg (by omega)]
    · rw [if_neg hjk,ih]
      by_cases h:j<k
      · rw [if_pos h,if_pos (by omega)]
      · rw [if_neg h,if_neg (by omega)]
structure Loose (m:Z4):Prop where
  head:Y2 m=true
  desk:∀ j,j<m.desks.length->Ws (Z8 m.desks j)=true
  pace:∀ j,j<m.paces.length->WS m j=true
  here:∀ i,i<m.smiths.length->Yv m (Z8 m.smiths i)=true
  seat:∀ i,i<m.smiths.length->Yj m (Z8 m.smiths i)=true
  openD:∃ j,j<m.desks.length/\(Z8 m.desks j).1=true
theorem S7 (h:Y0 m=true):Loose m:=by
  unfold Y0 Wd WC WD UO at h
  simp only [Bool.and_eq_true] at h
  obtain ⟨h1,h2,h3,h4,h5⟩:=h
  have h4':=fun i hi=>Lg h4 (k:=i) hi
  simp only [Bool.and_eq_true] at h4'
  obtain ⟨j,hj,ho⟩:=List.any_eq_true.1 h5
  exact ⟨h1,fun j hj=>Lg h2 hj,fun j hj=>Lg h3 hj,fun i hi=>(h4' i hi).1,fun i hi=>(h4' i hi).2,j,List.mem_range.1 hj,ho⟩
theorem Loose.mk' (h:Loose m):Y0 m=true:=by
  unfold Y0 Wd WC WD UO
  simp only [Bool.and_eq_true]
  refine ⟨h.head,?_,?_,?_,?_⟩
  · exact List.all_eq_true.2 fun j hj=>h.desk j (List.mem_range.1 hj)
  · exact List.all_eq_true.2 fun j hj=>h.pace j (List.mem_range.1 hj)
  · exact List.all_eq_true.2 fun j hj=>by rw [h.here j (List.mem_range.1 hj),h.seat j (List.mem_range.1 hj)];rfl
  · obtain ⟨j,hj,ho⟩:=h.openD
    exact List.any_eq_true.2 ⟨j,List.mem_range.2 hj,ho⟩
theorem Loose.at (h:Loose m) {i:Nat} (hi:i<m.smiths.length) (hp:ZR (Z8 m.smiths i)=true):0<=(Z8 m.smiths i).2.1/\(Z8 m.smiths i).2.1<m.desks.length/\(Z8 m.desks (Z8 m.smiths i).2.1.toNat).1=true/\We (Z8 m.smiths i).2.2.2.1 (Z8 m.smiths i).2.1=true/\Xw (XG (Z8 m.smiths i)) (Z8 m.desks (Z8 m.smiths i).2.1.toNat).2.2=true:=by
  obtain ⟨b0,b1,_⟩:=JH (h.here i hi) hp
  have hs:=h.seat i hi
  unfold Yj at hs
  rw [hp] at hs
  simp only [Bool.not_true,Bool.false_or,Bool.and_eq_true] at hs
  exact ⟨b0,b1,hs.1,hs.2.1,hs.2.2⟩
theorem U1 {had XK:Int} (h:Xw had XK=true) : -1000000000000<=had/\had<=1000000000000/\ -1000000000000<=XK/\XK<=1000000000000/\ -20000<=had-XK/\had-XK<=63000:=by
  unfold Xw at h
  simp only [Bool.and_eq_true] at h
  have h1:=ZU h.1
  have h2:=ZU h.2.1
  have h3:=ZU h.2.2
  omega
theorem Pj {had XK:Int} (h0 : -1000000000000<=had) (h1:had<=1000000000000) (h2 : -1000000000000<=XK) (h3:XK<=1000000000000) (h4 : -20000<=had-XK) (h5:had-XK<=63000):Xw had XK=true:=by
  unfold Xw;rw [Zv h0 h1,Zv h2 h3,Zv h4 h5];rfl
theorem SI {d:Yq} (h:Ws d=true) : -900000000000<=d.2.2/\d.2.2<=900000000000:=ZU h
theorem Fk {s:Z3} {st:Int} (h:ZE s=true) (hp:ZR s=true) (h0:1<=st) (h1:st<=3):ZE (stS s st)=true:=by
  obtain ⟨x0,be,rk,my,gu,lo,hi,hd,ca,ut,wk⟩:=s
  have hx:x0 ≠ 0:=by intro e;subst e;cases hp
  unfold ZE at h ⊢
  rw [SL (x:=(x0,be,rk,my,gu,lo,hi,hd,ca,ut,wk)) hx,Bool.false_or] at h
  unfold Zf at h
  simp only [Bool.and_eq_true] at h
  obtain ⟨g0,g⟩:=h
  have:Zf (stS (x0,be,rk,my,gu,lo,hi,hd,ca,ut,wk) st)=true:=by
    unfold Zf stS
    simp only [Bool.and_eq_true]
    exact ⟨Zv h0 h1,g⟩
  rw [this,Bool.or_true]
theorem N9 {s:Z3} {st:Int} (h:Yv m s=true) (hp:ZR s=true) (h0:1<=st) (h1:st<=3):Yv m (stS s st)=true:=by
  unfold Yv at h ⊢
  simp only [Bool.and_eq_true,Bool.or_eq_true] at h ⊢
  refine ⟨Fk h.1 hp h0 h1,.inr ?_⟩
  rcases h.2 with e | e
  · have:s.1=0:=by simpa using e
    unfold ZR at hp
    rw [this] at hp
    cases hp
  · exact e
theorem Xm {m m':Z4} (hg:m'.guilds.length=m.guilds.length) (hd:m'.desks.length=m.desks.length) (s:Z3):Yv m' s=Yv m s:=by unfold Yv;rw [hg,hd]
theorem IJ (h:Loose m):Loose (ZX m):=by
  obtain ⟨e1,e2,e3,e4,e5,e6⟩:=ZQ m m.desks.length
  have hd:=fun j=>Vr m j m.desks.length (Nat.le_refl _)
  have hopen:∀ j,(Z8 (ZX m).desks j).1=(Z8 m.desks j).1:=by
    intro j
    unfold ZX
    rw [hd j]
    split
    · unfold Xh;split<;>rfl
    · rfl
  have hmark:∀ j,j<m.desks.length->(-900000000000<=(Z8 (ZX m).desks j).2.2/\(Z8 (ZX m).desks j).2.2<=900000000000)/\(Z8 m.desks j).2.2<=(Z8 (ZX m).desks j).2.2/\((Z8 (ZX m).desks j).2.2<=(Z8 m.desks j).2.2\/ ∀ i,i<m.smiths.length->(Z8 m.smiths i).2.1=(j:Int)->ZR (Z8 m.smiths i)=true->(Z8 (ZX m).desks j).2.2<=XG (Z8 m.smiths i)):=by
    intro j hj
    obtain ⟨k0,k1⟩:=SI (h.desk j hj)
    unfold ZX
    rw [hd j,if_pos hj]
    unfold Xh
    split
    · exact ⟨⟨k0,k1⟩,Int.le_refl _,.inl (Int.le_refl _)⟩
    · rename_i e t hq
      obtain ⟨_,i,hi,hib,hip,rfl⟩:=TG hq
      obtain ⟨_,_,_,_,hband⟩:=h.at hi hip
      obtain ⟨a0,a1,_⟩:=U1 hband
      have hm:=Mw (m:=(Z8 m.desks j).2.2) (f:=XG (Z8 m.smiths i)) (by omega) (by omega) a0 a1
      show (-900000000000<=ZL _ _/\ZL _ _<=900000000000)/\_<=ZL _ _/\(ZL _ _<=_\/_)
      rw [hm]
      refine ⟨by omega,by omega,?_⟩
      by_cases hc:XG (Z8 m.smiths i)<=(Z8 m.desks j).2.2
      · left;omega
      · right
        intro i' hi' hb' hp'
        have:=PS hq hi' hb' hp'
        simp only at this
        show min (max (Z8 m.desks j).2.2 (XG (Z8 m.smiths i))) 900000000000<=_
        omega
  refine ⟨?_,?_,?_,?_,?_,?_⟩
  · have:=h.head
    unfold Y2 at this ⊢
    unfold ZX
    rw [e1,e2,e3,e4,e5,e6]
    exact this
  · intro j hj
    have hj':j<m.desks.length:=by unfold ZX at hj;omega
    exact Zv (hmark j hj').1.1 (hmark j hj').1.2
  · intro j hj
    have hj':j<m.paces.length:=by unfold ZX at hj;rw [e3] at hj;exact hj
    have:=h.pace j hj'
    unfold WS at this ⊢
    unfold ZX
    rw [e1,e3]
    exact this
  · intro i hi
    have hi':i<m.smiths.length:=by unfold ZX at hi;omega
    rw [Xm (m:=m) (by unfold ZX;rw [e2]) (by unfold ZX;rw [e6])]
    unfold ZX
    rw [Xt m hi']
    split
    · rename_i hp
      exact N9 (h.here i hi') hp.2 (by split<;>omega) (by split<;>omega)
    · exact h.here i hi'
  · intro i hi
    have hi':i<m.smiths.length:=by unfold ZX at hi;omega
    have ha:=Xs m m.desks.length i hi'
    unfold Yj
    show (!ZR (Z8 (Zs m m.desks.length).smiths i) || _)=true
    rw [ha.2.1]
    cases hp:ZR (Z8 m.smiths i)
    · rfl
    · obtain ⟨b0,b1,ho,hm,hband⟩:=h.at hi' hp
      obtain ⟨a0,a1,a2,a3,a4,a5⟩:=U1 hband
      obtain ⟨⟨q0,q1⟩,q2,q3⟩:=hmark (Z8 m.smiths i).2.1.toNat (by omega)
      have hmay:(Z8 (Zs m m.desks.length).smiths i).2.2.2.1=(Z8 m.smiths i).2.2.2.1:=by
        rw [Xt m hi'];split<;>rfl
      show (!true || ((Z8 (ZX m).desks (Z8 (Zs m m.desks.length).smiths i).2.1.toNat).1 && (We (Z8 (Zs m m.desks.length).smiths i).2.2.2.1 (Z8 (Zs m m.desks.length).smiths i).2.1 && Xw (XG (Z8 (Zs m m.desks.length).smiths i)) (Z8 (ZX m).desks (Z8 (Zs m m.desks.length).smiths i).2.1.toNat).2.2)))=true
      rw [ha.1,ha.2.2,hmay,hopen,ho,hm]
      rw [Pj a0 a1 (by omega) (by omega) ?_ (by omega)]
      · rfl
      · rcases q3 with q3 | q3
        · omega
        · have:=q3 i hi' (by omega) hp
          omega
  · obtain ⟨j,hj,ho⟩:=h.openD
    exact ⟨j,by unfold ZX;omega,by rw [hopen];exact ho⟩
theorem Gh {ss : List Z3} {b f : Int} : ∀ k : Nat, (∀ i, i < k → (Z8 ss i).2.1 = b → ZR (Z8 ss i) = true → ((Z8 ss i).1 = 2 ∧ (i : Int) ≠ f) ∨ ((Z8 ss i).1 = 3 ∧ (i : Int) = f)) →
    ∃ wk wt, Yc ss b k = some (wk, wt) ∧ ((wk = -1 ∧ ∀ i, i < k → (Z8 ss i).2.1 = b → ZR (Z8 ss i) = true → (i : Int) ≠ f) ∨ (wk = f ∧ ∃ i : Nat, i < k ∧ (Z8 ss i).2.1 = b ∧ ZR (Z8 ss i) = true ∧ (i : Int) = f)) ∧ (wt = true → ∃ i, i < k ∧ (Z8 ss i).2.1 = b ∧ ZR (Z8 ss i) = true)
  | 0, _ => ⟨-1, false, rfl, .inl ⟨rfl, fun i hi => by omega⟩, fun h => by cases h⟩
  | k + 1, h => by
    obtain ⟨wk, wt, hs, hw, ht⟩ := Gh k (fun i hi => h i (by omega))
    have hu : Yc ss b (k + 1) = if (Z8 ss k).2.1 = b ∧ ZR (Z8 ss k) = true then (if (Z8 ss k).1 = 2 then some (wk, true) else if 0 ≤ wk then none else some ((k : Int), wt)) else some (wk, wt) := by
      show (match Yc ss b k with
        | none => none
        | some (wk, wt) => _) = _
      rw [hs]
    rw [hu]
    by_cases hp : (Z8 ss k).2.1 = b ∧ ZR (Z8 ss k) = true
    · rw [if_pos hp]
      rcases h k (by omega) hp.1 hp.2 with ⟨h2, hne⟩ | ⟨h3, hkf⟩
      · rw [if_pos h2]
        refine ⟨wk, true, rfl, ?_, fun _ => ⟨k, by omega, hp.1, hp.2⟩⟩
        rcases hw with ⟨e, hn⟩ | ⟨e, i, hi, hb, hpi, hif⟩
        · refine .inl ⟨e, fun i hi hb hpi => ?_⟩
          by_cases hik : i = k
          · subst hik; exact hne
          · exact hn i (by omega) hb hpi
        · exact .inr ⟨e, i, by omega, hb, hpi, hif⟩
      · rw [if_neg (by omega)]
        have hw1 : wk = -1 := by
          rcases hw with ⟨e, _⟩ | ⟨e, i, hi, hb, hpi, hif⟩
          · exact e
          · omega
        rw [if_neg (by omega)]
        exact ⟨k, wt, rfl, .inr ⟨hkf, k, by omega, hp.1, hp.2, hkf⟩, fun e => by obtain ⟨i, hi, r⟩ := ht e; exact ⟨i, by omega, r⟩⟩
    · rw [if_neg hp]
      refine ⟨wk, wt, rfl, ?_, fun e => by obtain ⟨i, hi, r⟩ := ht e; exact ⟨i, by omega, r⟩⟩
      rcases hw with ⟨e, hn⟩ | ⟨e, i, hi, r⟩
      · refine .inl ⟨e, fun i hi hb hpi => ?_⟩
        by_cases hik : i = k
        · subst hik; exact absurd ⟨hb, hpi⟩ hp
        · exact hn i (by omega) hb hpi
      · exact .inr ⟨e, i, by omega, r⟩
theorem Y4 (h:Loose m):ZP (ZX m)=true:=by
  unfold ZP
  rw [Bool.and_eq_true]
  refine ⟨(IJ h).mk',?_⟩
  obtain ⟨e1,e2,e3,e4,e5,e6⟩:=ZQ m m.desks.length
  refine List.all_eq_true.2 fun b hb=> ?_
  have hb:=List.mem_range.1 hb
  have hb':b<m.desks.length:=by unfold ZX at hb;omega
  have hn:(ZX m).smiths.length=m.smiths.length:=e5
  have ha:=Xs m m.desks.length
  have hstate:∀ i,i<m.smiths.length->(Z8 (ZX m).smiths i).2.1=(b:Int)->ZR (Z8 (ZX m).smiths i)=true->((Z8 (ZX m).smiths i).1=2/\(i:Int) ≠ WR m.smiths b)\/((Z8 (ZX m).smiths i).1=3/\(i:Int)=WR m.smiths b):=by
    intro i hi hib hip
    have hib':(Z8 m.smiths i).2.1=(b:Int):=(ha i hi).1.symm.trans hib
    have hip':ZR (Z8 m.smiths i)=true:=(ha i hi).2.1.symm.trans hip
    unfold ZX
    rw [Xt m hi,if_pos ⟨by omega,hip'⟩,hib']
    by_cases hf:WR m.smiths (b:Int)=(i:Int)
    · right;rw [if_pos hf];exact ⟨rfl,hf.symm⟩
    · left;rw [if_neg hf];exact ⟨rfl,fun e=>hf e.symm⟩
  obtain ⟨wk,wt,hs,hw,ht⟩:=Gh (b:=(b:Int)) (f:=WR m.smiths b) (ss:=(ZX m).smiths) m.smiths.length hstate
  unfold YC
  rw [hn,hs]
  simp only
  have hdesk:=Vr m b m.desks.length (Nat.le_refl _)
  rw [if_pos hb'] at hdesk
  cases hq:atV m.smiths (b:Int) m.smiths.length with
  | nil=>
    have hempty:∀ i,i<m.smiths.length-> ¬ ((Z8 (ZX m).smiths i).2.1=(b:Int)/\ZR (Z8 (ZX m).smiths i)=true):=by
      rintro i hi ⟨hib,hip⟩
      have:=(Yt m.smiths (b:Int) (XG (Z8 m.smiths i),(i:Int)) m.smiths.length).2 ⟨i,hi,(ha i hi).1.symm.trans hib,(ha i hi).2.1.symm.trans hip,rfl⟩
      rw [hq] at this
      exact List.not_mem_nil this
    have hwt:wt=false:=by
      cases wt
      · rfl
      · obtain ⟨i,hi,r⟩:=ht rfl
        exact absurd r (hempty i hi)
    have hwk:wk= -1:=by
      rcases hw with ⟨e,_⟩ | ⟨_,i,hi,hb,hp,_⟩
      · exact e
      · exact absurd ⟨hb,hp⟩ (hempty i hi)
    have hwho:(Z8 (ZX m).desks b).2.1= -1:=by
      unfold ZX;rw [hdesk];unfold Xh;rw [hq]
    rw [hwho,hwk,hwt]
    rfl
  | cons e t=>
    obtain ⟨hfe,i,hi,hib,hip,rfl⟩:=TG hq
    have hwho:(Z8 (ZX m).desks b).2.1=(i:Int):=by
      unfold ZX;rw [hdesk];unfold Xh;rw [hq]
    have hwk:wk=(i:Int):=by
      rcases hw with ⟨_,hn⟩ | ⟨e,_⟩
      · exact absurd hfe.symm (hn i hi ((ha i hi).1.trans hib) ((ha i hi).2.1.trans hip))
      · exact e.trans hfe
    rw [hwho,hwk]
    have:decide ((i:Int)<0)=false:=decide_eq_false (by omega)
    rw [this]
    simp
def Yw (rs:List Z2) (n:Int):Nat:=((List.range rs.length).find? fun r=>decide (n<Z1 (rs.take (r+1)))).getD 0
def YN (rs:List Z2) (n:Int):Bool:=Zh rs && inB n 0 (Z1 rs-1)
def MD (rs:List Z2) (n:Int):Int:=if YN rs n=true then (Yw rs n:Int) else -1
def Vu (ps:List Z6):Int:=(Z7 ps (ps.length-1)).1
def YU (rs:List Z2) (n:Int):Int:=if YN rs n=true then Vu (Z0 rs (Yw rs n)).2 else -1
theorem Ru {rs:List Z2} {n:Int} {r:Nat} (hr:r<rs.length) (h:n<Z1 (rs.take (r+1))) (hl:∀ j,j<r->Z1 (rs.take (j+1))<=n):Yw rs n=r:=by
 unfold Yw
 have:(List.range rs.length).find? (fun r=>decide (n<Z1 (rs.take (r+1))))=some r:=by
  rw [List.find?_range_eq_some]
  refine ⟨by simpa using h,by simpa using hr,fun j hj=> ?_⟩
  have:=hl j hj
  simp;omega
 rw [this];rfl
theorem WM {rs:List Z2} {n:Int} (h:YN rs n=true):Zh rs=true/\0<=n/\n<Z1 rs:=by
 unfold YN at h;simp only [Bool.and_eq_true] at h
 have:=ZU h.2
 exact ⟨h.1,by omega,by omega⟩
theorem EF {rs:List Z2} {n:Int} (h:Zh rs=true) (h0:0<=n) (h1:n<Z1 rs):YN rs n=true:=by
 unfold YN;rw [h,Zv (by omega) (by omega)];rfl
theorem GN {rs:List Z2} {n:Int} (h:Zh rs=false):YN rs n=false:=by unfold YN;rw [h];rfl
theorem Gf {rs:List Z2} {n:Int} (h:YN rs n=true):MD rs n=Yw rs n:=by unfold MD;rw [if_pos h]
theorem CC {rs:List Z2} {n:Int} (h:YN rs n=false):MD rs n= -1:=by unfold MD;rw [h];rfl
theorem SK {rs:List Z2} {n:Int} (h:YN rs n=true):YU rs n=Vu (Z0 rs (Yw rs n)).2:=by unfold YU;rw [if_pos h]
theorem Uv {rs:List Z2} {n:Int} (h:YN rs n=true) {r:Nat} (hr:r<=rs.length) (hl:∀ j,j<r->Z1 (rs.take (j+1))<=n):r<rs.length:=by
 rcases Nat.lt_or_ge r rs.length with h1 | h1
 ·exact h1
 ·obtain rfl:r=rs.length:=by omega
  have hb:=WM h
  have h3:=Zy hb.1
  have:=hl (rs.length-1) (by omega)
  rw [show rs.length-1+1=rs.length by omega,Vz] at this
  omega
theorem XH {rs:List Z2} (h:Zh rs=true) (k:Nat) (hk:k<=rs.length):0<=Z1 (rs.take k)/\Z1 (rs.take k)<=12:=by
 have h3:=Zy h
 have:=SE h3.2.2.1 k hk
 omega
theorem OK {rs:List Z2} {n:Int} (h:YN rs n=true):Yw rs n<rs.length:=by
 have key:∀ d r:Nat,r+d=rs.length->(∀ j,j<r->Z1 (rs.take (j+1))<=n)->Yw rs n<rs.length:=by
  intro d
  induction d with
  | zero=>intro r hr hl;have:=Uv h (by omega) hl;omega
  | succ d ih=>
   intro r hr hl
   have hlt:=Uv h (r:=r) (by omega) hl
   by_cases hc:n<Z1 (rs.take (r+1))
   ·rw [Ru hlt hc hl];exact hlt
   ·exact ih (r+1) (by omega) (YF hl (by omega))
 exact key rs.length 0 (by omega) (fun j hj=>by omega)
open Go.ChangeShapes Go.WideShapes Go.ChangeAt Go.RowKit
def Xf (a b c:Int):Int:=if inB a 0 1000000000 && inB b 0 1000000000 && inB c 1 1000000000 then a*b / c else -1
def Re (x:Int):Nat->Int->Int
 | 0,u=>u
 | n+1,u=>Re x n ((31*u+x) / 32)
def ZN (u x n:Int):Int:=if inB u 0 1024 && inB x 0 1024 && inB n 0 1000 then Re x n.toNat u else -1
theorem FJ {u x:Int} (h1:0<=u) (h2:u<=1024) (h3:0<=x) (h4:x<=1024):0<=(31*u+x) / 32/\(31*u+x) / 32<=1024:=by omega
theorem Jp (x:Int) (h3:0<=x) (h4:x<=1024):∀ (n:Nat) (u:Int),0<=u->u<=1024->0<=Re x n u/\Re x n u<=1024
 | 0,u,h1,h2=>⟨h1,h2⟩
 | n+1,u,h1,h2=>Jp x h3 h4 n _ (FJ h1 h2 h3 h4).1 (FJ h1 h2 h3 h4).2
theorem NW (x:Int):∀ (n:Nat) (u:Int),Re x (n+1) u=(31*Re x n u+x) / 32
 | 0,u=>rfl
 | n+1,u=>NW x n _
theorem BJ {a b:Int} (a0:0<=a) (a1:a<=1000000000) (b0:0<=b) (b1:b<=1000000000):0<=a*b/\a*b<=1000000000000000000:=by
 refine ⟨Int.mul_nonneg a0 b0,?_⟩
 have h:=Int.mul_le_mul a1 b1 b0 (by omega)
 omega
theorem Ck {P:Prop} (a b c lo hi l1 h1 l2 h2:Int)
  (k1:inB a lo hi=false->P) (k2:inB a lo hi=true->inB b l1 h1=false->P) (k3:inB a lo hi=true->inB b l1 h1=true->inB c l2 h2=false->P)
  (k4:inB a lo hi=true->inB b l1 h1=true->inB c l2 h2=true->P):P:=by
 cases ha:inB a lo hi
 ·exact k1 ha
 ·cases hb:inB b l1 h1
  ·exact k2 ha hb
  ·cases hc:inB c l2 h2
   ·exact k3 ha hb hc
   ·exact k4 ha hb hc
theorem US (x:Int) (w:World):Calls Tryz.prog 49 #[.int .i64 x] w fun e w'=>e= .returned (.bool (inB x 0 1024))/\w'=w:=by
 go_enter Tryz.func49,Tryz.ntmps49
 go_wp2_with (go_at_call 40;refine (ZZ _ _ _ _).mono ?_;rintro e w' ⟨rfl,rfl⟩)
 go_ret
 exact ⟨rfl,rfl⟩
theorem OV (a b c:Int) (w:World):Calls Tryz.prog 323 #[.int .i64 a,.int .i64 b,.int .i64 c] w fun e w'=>e= .returned (.int .i64 (Xf a b c))/\w'=w:=by
 refine Ck a b c 0 1000000000 0 1000000000 1 1000000000 ?_ ?_ ?_ ?_
 ·intro ha
  have hv:Xf a b c= -1:=by simp [Xf,ha]
  rw [hv];clear hv
  go_enter Tryz.func323,Tryz.ntmps323
  go_wp2_with (first | (go_at_call 162;refine (Um _ _).mono ?_;rintro e w' ⟨rfl,rfl⟩) | (go_at_call 40;refine (ZZ _ _ _ _).mono ?_;rintro e w' ⟨rfl,rfl⟩))
  go_ret
  exact ⟨rfl,rfl⟩
 ·intro ha hb
  have hv:Xf a b c= -1:=by simp [Xf,hb]
  rw [hv];clear hv
  go_enter Tryz.func323,Tryz.ntmps323
  go_wp2_with (first | (go_at_call 162;refine (Um _ _).mono ?_;rintro e w' ⟨rfl,rfl⟩) | (go_at_call 40;refine (ZZ _ _ _ _).mono ?_;rintro e w' ⟨rfl,rfl⟩))
  go_ret
  exact ⟨rfl,rfl⟩
 ·intro ha hb hc
  have hv:Xf a b c= -1:=by simp [Xf,hc]
  rw [hv];clear hv
  go_enter Tryz.func323,Tryz.ntmps323
  go_wp2_with (first | (go_at_call 162;refine (Um _ _).mono ?_;rintro e w' ⟨rfl,rfl⟩) | (go_at_call 40;refine (ZZ _ _ _ _).mono ?_;rintro e w' ⟨rfl,rfl⟩))
  go_ret
  exact ⟨rfl,rfl⟩
 ·intro ha hb hc
  have hv:Xf a b c=a*b / c:=by simp [Xf,ha,hb,hc]
  rw [hv];clear hv
  obtain ⟨a0,a1⟩:=ZU ha
  obtain ⟨b0,b1⟩:=ZU hb
  obtain ⟨c0,c1⟩:=ZU hc
  obtain ⟨m0,m1⟩:=BJ a0 a1 b0 b1
  go_enter Tryz.func323,Tryz.ntmps323
  go_wp2_with (first | (go_at_call 162;refine (Um _ _).mono ?_;rintro e w' ⟨rfl,rfl⟩) | (go_at_call 40;refine (ZZ _ _ _ _).mono ?_;rintro e w' ⟨rfl,rfl⟩))
  go_ret
  exact ⟨rfl,rfl⟩
def XI (need:Int) (p:Z6):Bool:=decide (5*need<=4*p.1)
def W7 (need:Int):List Z6->Nat
 | []=>0
 | [_]=>0
 | p::q::ps=>if XI need p then 0 else W7 need (q::ps)+1
def Yi (r:Z2) (need:Int):Int:=if Zt r && inB need 0 1000000 then W7 need r.2 else -1
def XF (r:Z2) (pace work:Int):Int:=if Zt r && (inB work 0 1000000 && inB pace 0 (r.2.length-1)) then Xf (Z7 r.2 pace.toNat).2 work (Z7 r.2 pace.toNat).1 else -1
def LJ (r:Z2) (need work:Int):Int:=XF r (Yi r need) work
theorem J8 (p:Z6) (ps:List Z6):Z7 (p::ps) 0=p:=rfl
theorem Rp (p:Z6) (ps:List Z6) (k:Nat):Z7 (p::ps) (k+1)=Z7 ps k:=by unfold Z7;simp [List.getD]
theorem C7 {need:Int} {p:Z6} (h:5*need<=4*p.1):XI need p=true:=decide_eq_true h
theorem C6 {need:Int} {p:Z6} (h:4*p.1<5*need):XI need p=false:=decide_eq_false (by omega)
theorem Te (need:Int):∀ (ps:List Z6) (k:Nat),k+1<=ps.length->(∀ j,j<k->XI need (Z7 ps j)=false)->(k+1=ps.length\/XI need (Z7 ps k)=true)->W7 need ps=k
 | [],k,hk,_,_=>by simp at hk
 | [p],k,hk,_,_=>by simp at hk;subst hk;rfl
 | p::q::ps,0,_,_,he=>by
  rcases he with he | he
  ·simp at he
  ·rw [J8] at he;simp [W7,he]
 | p::q::ps,k+1,hk,hlo,he=>by
  have h0:=hlo 0 (by omega)
  rw [J8] at h0
  have ih:=Te need (q::ps) k (by simp at hk ⊢;omega) (fun j hj=>by have:=hlo (j+1) (by omega);rwa [Rp] at this) (by
   rcases he with he | he
   ·left;simp at he ⊢;omega
   ·right;rwa [Rp] at he)
  simp [W7,h0,ih]
theorem Ke (need:Int):∀ ps:List Z6,1<=ps.length->W7 need ps+1<=ps.length
 | [],h=>by simp at h
 | [p],_=>by simp [W7]
 | p::q::ps,_=>by
  have ih:=Ke need (q::ps) (by simp)
  unfold W7;split<;>simp at ih ⊢;omega
theorem Kd (need:Int):∀ (ps:List Z6) (j:Nat),j<W7 need ps->XI need (Z7 ps j)=false
 | [],j,h=>by simp [W7] at h
 | [p],j,h=>by simp [W7] at h
 | p::q::ps,j,h=>by
  unfold W7 at h
  cases hp:XI need p
  ·rw [hp] at h;simp at h
   cases j with
   | zero=>exact hp
   | succ j=>rw [Rp];exact Kd need (q::ps) j (by omega)
  ·rw [hp] at h;simp at h
theorem Kc (need:Int):∀ ps:List Z6,1<=ps.length->W7 need ps+1=ps.length\/XI need (Z7 ps (W7 need ps))=true
 | [],h=>by simp at h
 | [p],_=>by simp [W7]
 | p::q::ps,_=>by
  have ih:=Kc need (q::ps) (by simp)
  unfold W7
  cases hp:XI need p
  ·simp only [Bool.false_eq_true,if_false,Rp]
   rcases ih with ih | ih
   ·left;simp at ih ⊢;omega
   ·right;exact ih
  ·right;simp only [if_true];exact hp
theorem QN {r:Z2} (h:Zt r=true) {k:Nat} (hk:k<r.2.length):1<=(Z7 r.2 k).1/\(Z7 r.2 k).1<=1024/\1<=(Z7 r.2 k).2/\(Z7 r.2 k).2<=1024:=by
 unfold Zt at h;simp only [Bool.and_eq_true] at h
 have h1:=QE h.2.2 hk
 unfold Xy Vi at h1;simp only [Bool.and_eq_true] at h1
 have a:=ZU h1.1.1;have b:=ZU h1.1.2
 omega
theorem P4 {r:Z2} {need:Int} (h:Zt r=false):Yi r need= -1:=by unfold Yi;simp [h]
theorem P5 {r:Z2} {need:Int} (h:inB need 0 1000000=false):Yi r need= -1:=by unfold Yi;simp [h]
theorem OA {r:Z2} {need:Int} (h:Zt r=true) (h2:inB need 0 1000000=true):Yi r need=W7 need r.2:=by unfold Yi;simp [h,h2]
theorem PL {r:Z2} {pace work:Int} (h:Zt r=false):XF r pace work= -1:=by unfold XF;simp [h]
theorem PM {r:Z2} {pace work:Int} (h:inB work 0 1000000=false):XF r pace work= -1:=by unfold XF;simp [h]
theorem PN {r:Z2} {pace work:Int} (h:inB pace 0 (r.2.length-1)=false):XF r pace work= -1:=by unfold XF;simp [h]
theorem NM {r:Z2} {pace work:Int} (h:Zt r=true) (h2:inB work 0 1000000=true) (h3:inB pace 0 (r.2.length-1)=true):XF r pace work=Xf (Z7 r.2 pace.toNat).2 work (Z7 r.2 pace.toNat).1:=by unfold XF;simp [h,h2,h3]
theorem EU {a b c:Int} (a0:0<=a) (a1:a<=1000000000) (b0:0<=b) (b1:b<=1000000000) (c0:1<=c) (c1:c<=1000000000):Xf a b c=a*b / c:=by
 unfold Xf;rw [Zv a0 a1,Zv b0 b1,Zv c0 c1];rfl
theorem Jf (r:Z2) (pace work:Int) : -1<=XF r pace work/\XF r pace work<=1024000000:=by
 cases h:Zt r
 ·rw [PL h];omega
 cases h2:inB work 0 1000000
 ·rw [PM h2];omega
 cases h3:inB pace 0 (r.2.length-1)
 ·rw [PN h3];omega
 rw [NM h h2 h3]
 have hb:=ZU h2;have hp:=ZU h3
 have hr:=QN h (k:=pace.toNat) (by omega)
 generalize Z7 r.2 pace.toNat=p at *
 rw [EU (by omega) (by omega) (by omega) (by omega) (by omega) (by omega)]
 have m0:0<=p.2*work:=Int.mul_nonneg (by omega) (by omega)
 have m1:p.2*work<=1024*1000000:=Int.mul_le_mul (by omega) (by omega) (by omega) (by omega)
 have d0:=Int.ediv_nonneg m0 (show 0<=p.1 by omega)
 have d1:=Int.ediv_le_self p.1 m0
 omega
theorem LF (f need:Int) (w:World) (f0:0<=f) (f1:f<=1000000) (n0:0<=need) (n1:need<=2000000) :
  Calls Tryz.prog 184 #[.int .i64 f,.int .i64 need] w fun e w'=>e= .returned (.bool (decide (5*need<=4*f)))/\w'=w:=by
 go_enter Tryz.func184,Tryz.ntmps184
 go_wp2_with fail
 go_ret
 exact ⟨Z5 rfl,rfl⟩
theorem Yr (x:Int) (w:World):Calls Tryz.prog 185 #[.int .i64 x] w fun e w'=>e= .returned (.bool (inB x 0 1000000))/\w'=w:=by
 go_enter Tryz.func185,Tryz.ntmps185
 go_wp2_with (go_at_call 40;refine (ZZ _ _ _ _).mono ?_;rintro e w' ⟨rfl,rfl⟩)
 go_ret
 exact ⟨rfl,rfl⟩
def amt (x:Int):Bool:=inB x 0 1000000
def VM (w u f:Int):Bool:=(amt w && (amt u && amt f)) && decide (5*(w+u)<=4*f)
def Ot (u f:Int):Bool:=(amt u && amt f) && !decide (5*u<=4*f)
def UN (u f:Int):Int:=if amt u && amt f then f-u else -1000001
theorem Dx (u f:Int):decide (4*f<5*u)= !decide (5*u<=4*f):=by
 by_cases h:5*u<=4*f
 ·rw [decide_eq_true h,decide_eq_false (by omega)];rfl
 ·rw [decide_eq_false h,decide_eq_true (by omega)];rfl
theorem Vm (x u f:Int) (w:World):Calls Tryz.prog 305 #[.int .i64 x,.int .i64 u,.int .i64 f] w fun e w'=>e= .returned (.bool (VM x u f))/\w'=w:=by
 cases hx:inB x 0 1000000
 ·go_enter Tryz.func305,Tryz.ntmps305
  go_wp2_with (go_at_call 185;refine (Yr _ _).mono ?_;rintro e w' ⟨rfl,rfl⟩)
  go_ret
  exact ⟨Z5 (by simp [VM,amt,hx]),rfl⟩
 ·cases hu:inB u 0 1000000
  ·go_enter Tryz.func305,Tryz.ntmps305
   go_wp2_with (go_at_call 185;refine (Yr _ _).mono ?_;rintro e w' ⟨rfl,rfl⟩)
   go_ret
   exact ⟨Z5 (by simp [VM,amt,hx,hu]),rfl⟩
  ·cases hf:inB f 0 1000000
   ·go_enter Tryz.func305,Tryz.ntmps305
    go_wp2_with (go_at_call 185;refine (Yr _ _).mono ?_;rintro e w' ⟨rfl,rfl⟩)
    go_ret
    exact ⟨Z5 (by simp [VM,amt,hx,hu,hf]),rfl⟩
   ·obtain ⟨x0,x1⟩:=ZU hx
    obtain ⟨u0,u1⟩:=ZU hu
    obtain ⟨f0,f1⟩:=ZU hf
    go_enter Tryz.func305,Tryz.ntmps305
    go_wp2_with (go_at_call 185;refine (Yr _ _).mono ?_;rintro e w' ⟨rfl,rfl⟩)
    go_ret
    exact ⟨Z5 (by simp [VM,amt,hx,hu,hf]),rfl⟩
theorem PE (u f:Int) (w:World):Calls Tryz.prog 316 #[.int .i64 u,.int .i64 f] w fun e w'=>e= .returned (.bool (Ot u f))/\w'=w:=by
 cases hu:inB u 0 1000000
 ·go_enter Tryz.func316,Tryz.ntmps316
  go_wp2_with (go_at_call 185;refine (Yr _ _).mono ?_;rintro e w' ⟨rfl,rfl⟩)
  go_ret
  exact ⟨Z5 (by simp [Ot,amt,hu]),rfl⟩
 ·cases hf:inB f 0 1000000
  ·go_enter Tryz.func316,Tryz.ntmps316
   go_wp2_with (go_at_call 185;refine (Yr _ _).mono ?_;rintro e w' ⟨rfl,rfl⟩)
   go_ret
   exact ⟨Z5 (by simp [Ot,amt,hu,hf]),rfl⟩
  ·obtain ⟨u0,u1⟩:=ZU hu
   obtain ⟨f0,f1⟩:=ZU hf
   go_enter Tryz.func316,Tryz.ntmps316
   go_wp2_with (go_at_call 185;refine (Yr _ _).mono ?_;rintro e w' ⟨rfl,rfl⟩)
   go_ret
   exact ⟨Z5 (by simp [Ot,amt,hu,hf,Dx]),rfl⟩
theorem PD (u f:Int) (w:World):Calls Tryz.prog 302 #[.int .i64 u,.int .i64 f] w fun e w'=>e= .returned (.int .i64 (UN u f))/\w'=w:=by
 cases hu:inB u 0 1000000
 ·go_enter Tryz.func302,Tryz.ntmps302
  go_wp2_with (go_at_call 185;refine (Yr _ _).mono ?_;rintro e w' ⟨rfl,rfl⟩)
  go_ret
  exact ⟨ZI (by simp [UN,amt,hu]),rfl⟩
 ·cases hf:inB f 0 1000000
  ·go_enter Tryz.func302,Tryz.ntmps302
   go_wp2_with (go_at_call 185;refine (Yr _ _).mono ?_;rintro e w' ⟨rfl,rfl⟩)
   go_ret
   exact ⟨ZI (by simp [UN,amt,hu,hf]),rfl⟩
  ·obtain ⟨u0,u1⟩:=ZU hu
   obtain ⟨f0,f1⟩:=ZU hf
   go_enter Tryz.func302,Tryz.ntmps302
   go_wp2_with (go_at_call 185;refine (Yr _ _).mono ?_;rintro e w' ⟨rfl,rfl⟩)
   go_ret
   exact ⟨ZI (by simp [UN,amt,hu,hf]),rfl⟩
end Go.Proofs.YtffcgajndmhpkaaGreatDoor
