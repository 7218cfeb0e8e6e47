/- Part 8 of what the proof rests on. No condition but those that a theorem names. -/
import Derived.Test.YtnponpamjddpjaaGreatXt07
import Derived.Laws.StructEq
namespace Go.Proofs.YtnponpamjddpjaaGreat
open Go.ChangeShapes Go.WideShapes Go.ChangeAt Go.RowKit Go.Sort
set_option linter.unusedVariables false
variable {m : Z3}
def stS (s:Z4) (st:Int):Z4:=(st,s.2)
def ZL (ss:List Z4) (q:List Z6):List Z4:=q.foldl (fun ss e=>ss.set e.2.toNat (stS (Z8 ss e.2.toNat) 2)) ss
theorem SE (ss:List Z4) (q:List Z6) (e:Z6):ZL ss (q++[e])=(ZL ss q).set e.2.toNat (stS (Z8 (ZL ss q) e.2.toNat) 2):=by
  unfold ZL;rw [List.foldl_append];rfl
theorem Yk (q:List Z6):∀ ss:List Z4,(ZL ss q).length=ss.length:=by
  induction q with
  | nil=>intro ss;rfl
  | cons e q ih=>intro ss;show (ZL (ss.set e.2.toNat (stS (Z8 ss e.2.toNat) 2)) q).length=_;rw [ih,List.length_set]
theorem SW (q:List Z6):∀ (ss:List Z4) (i:Nat),(∀ e ∈ q,0<=e.2/\e.2<ss.length)->((∃ e ∈ q,e.2=(i:Int))->Z8 (ZL ss q) i=stS (Z8 ss i) 2)/\((∀ e ∈ q,e.2 ≠ (i:Int))->Z8 (ZL ss q) i=Z8 ss i):=by
  induction q with
  | nil=>
    intro ss i h
    exact ⟨fun ⟨e,he,_⟩=>(List.not_mem_nil he).elim,fun _=>rfl⟩
  | cons e q ih=>
    intro ss i h
    obtain ⟨e0,e1⟩:=h e (by simp)
    have hs:=ZH (x:=stS (Z8 ss e.2.toNat) 2) (show e.2.toNat<ss.length by omega) i
    obtain ⟨i1,i2⟩:=ih (ss.set e.2.toNat (stS (Z8 ss e.2.toNat) 2)) i (fun x hx=>by rw [List.length_set];exact h x (List.mem_cons_of_mem _ hx))
    show ((∃ x ∈ e::q,x.2=(i:Int))->Z8 (ZL (ss.set e.2.toNat (stS (Z8 ss e.2.toNat) 2)) q) i=_)/\((∀ x ∈ e::q,x.2 ≠ (i:Int))->Z8 (ZL (ss.set e.2.toNat (stS (Z8 ss e.2.toNat) 2)) q) i=_)
    constructor
    · rintro ⟨x,hx,hxi⟩
      by_cases hq:∃ y ∈ q,y.2=(i:Int)
      · rw [i1 hq,hs]
        split
        · rename_i he;rw [he];rfl
        · rfl
      · rw [i2 (fun y hy e=>hq ⟨y,hy,e⟩),hs]
        rcases List.mem_cons.1 hx with rfl | hx
        · rw [if_pos (by omega)]
          rw [show x.2.toNat=i by omega]
        · exact absurd ⟨x,hx,hxi⟩ hq
    · intro hn
      rw [i2 (fun y hy=>hn y (List.mem_cons_of_mem _ hy)),hs,if_neg]
      have:=hn e (by simp)
      omega
def XC (ss:List Z4) (b:Int) (d:Ys):Ys:=match atV ss b ss.length with
  | []=>(d.1,-1,d.2.2)
  | e::_=>(d.1,e.2,ZJ d.2.2 e.1)
def XT (m:Z3) (b:Nat):Z3:=match atV m.smiths b m.smiths.length with
  | []=>{ m with desks:=m.desks.set b ((Z8 m.desks b).1,-1,(Z8 m.desks b).2.2) }
  | e::t=>{ m with smiths:=(ZL m.smiths (e::t)).set e.2.toNat (stS (Z8 (ZL m.smiths (e::t)) e.2.toNat) 3),desks:=m.desks.set b ((Z8 m.desks b).1,e.2,ZJ (Z8 m.desks b).2.2 e.1) }
def Zs (m:Z3):Nat->Z3
  | 0=>m
  | k+1=>XT (Zs m k) k
def Z1 (m:Z3):Z3:=Zs m m.desks.length
theorem KJ (m:Z3) (b:Nat):(XT m b).rooms=m.rooms/\(XT m b).guilds=m.guilds/\(XT m b).paces=m.paces/\(XT m b).now=m.now/\(XT m b).smiths.length=m.smiths.length/\(XT m b).desks.length=m.desks.length:=by
  unfold XT
  split
  · simp
  · simp [Yk]
theorem ZQ (m:Z3):∀ k,(Zs m k).rooms=m.rooms/\(Zs m k).guilds=m.guilds/\(Zs m k).paces=m.paces/\(Zs m k).now=m.now/\(Zs m k).smiths.length=m.smiths.length/\(Zs m k).desks.length=m.desks.length
  | 0=>⟨rfl,rfl,rfl,rfl,rfl,rfl⟩
  | k+1=>by
    obtain ⟨h1,h2,h3,h4,h5,h6⟩:=ZQ m k
    obtain ⟨g1,g2,g3,g4,g5,g6⟩:=KJ (Zs m k) k
    exact ⟨g1.trans h1,g2.trans h2,g3.trans h3,g4.trans h4,g5.trans h5,g6.trans h6⟩
theorem Rm (m : Z3) (b : Nat) {i : Nat} (hi : i < m.smiths.length) : Z8 (XT m b).smiths i = if (Z8 m.smiths i).2.1 = (b : Int) ∧ ZT (Z8 m.smiths i) = true then stS (Z8 m.smiths i) (if XB m.smiths b = (i : Int) then 3 else 2) else Z8 m.smiths i := by
  have hq := Yd m.smiths (b : Int)
  have hf : XB m.smiths (b : Int) = match atV m.smiths (b : Int) m.smiths.length with
    | [] => -1
    | h :: _ => h.2 := rfl
  unfold XT
  split
  · rename_i h0
    rw [if_neg]
    intro hp
    have := (hq (XL (Z8 m.smiths i), (i : Int)) m.smiths.length).2 ⟨i, hi, hp.1, hp.2, rfl⟩
    rw [h0] at this
    exact List.not_mem_nil this
  · rename_i e t h0
    rw [h0] at hf
    simp only at hf
    have hin : ∀ x ∈ e :: t, 0 ≤ x.2 ∧ x.2 < m.smiths.length := by
      intro x hx
      rw [← h0] at hx
      obtain ⟨j, hj, _, _, rfl⟩ := (hq x _).1 hx
      exact ⟨by show (0 : Int) ≤ (j : Int); omega, by show (j : Int) < _; omega⟩
    obtain ⟨w1, w2⟩ := SW (e :: t) m.smiths i hin
    obtain ⟨e0, e1⟩ := hin e (by simp)
    show Z8 ((ZL m.smiths (e :: t)).set e.2.toNat _) i = _
    rw [ZH (by rw [Yk]; omega)]
    by_cases hp : (Z8 m.smiths i).2.1 = (b : Int) ∧ ZT (Z8 m.smiths i) = true
    · have hmem : (XL (Z8 m.smiths i), (i : Int)) ∈ e :: t := by rw [← h0]; exact (hq _ _).2 ⟨i, hi, hp.1, hp.2, rfl⟩
      rw [if_pos hp, hf]
      by_cases hie : i = e.2.toNat
      · rw [if_pos hie, if_pos (by omega), ← hie, w1 ⟨_, hmem, rfl⟩]
        rfl
      · rw [if_neg hie, if_neg (by omega), w1 ⟨_, hmem, rfl⟩]
    · have hnm : ∀ x ∈ e :: t, x.2 ≠ (i : Int) := by
        intro x hx hxi
        rw [← h0] at hx
        obtain ⟨j, hj, j1, j2, rfl⟩ := (hq x _).1 hx
        have : j = i := by have : (j : Int) = (i : Int) := hxi
                           omega
        subst this
        exact hp ⟨j1, j2⟩
      rw [if_neg hp, if_neg (by have := hnm e (by simp); omega), w2 hnm]
theorem KH (m:Z3) {b:Nat} (hb:b<m.desks.length) (j:Nat):Z8 (XT m b).desks j=if j=b then XC m.smiths b (Z8 m.desks b) else Z8 m.desks j:=by
  have hf:XC m.smiths (b:Int) (Z8 m.desks b)=match atV m.smiths (b:Int) m.smiths.length with
    | []=>((Z8 m.desks b).1,-1,(Z8 m.desks b).2.2)
    | e::_=>((Z8 m.desks b).1,e.2,ZJ (Z8 m.desks b).2.2 e.1):=rfl
  unfold XT
  split
  · rename_i h0
    rw [h0] at hf
    rw [hf,<-ZH hb]
  · rename_i e t h0
    rw [h0] at hf
    rw [hf,<-ZH hb]
theorem MH (m:Z3) (b:Nat):Alike m.smiths (XT m b).smiths m.smiths.length:=by
  intro i hi
  rw [Rm m b hi]
  split
  · rename_i hp
    refine ⟨rfl,?_,rfl⟩
    rw [hp.2]
    split<;>rfl
  · exact ⟨rfl,rfl,rfl⟩
theorem Alike.trans {a b c:List Z4} {k:Nat} (h:Alike a b k) (g:Alike b c k):Alike a c k:=fun i hi=>⟨(g i hi).1.trans (h i hi).1,(g i hi).2.1.trans (h i hi).2.1,(g i hi).2.2.trans (h i hi).2.2⟩
theorem Yj (m:Z3):∀ k,Alike m.smiths (Zs m k).smiths m.smiths.length
  | 0=>fun _ _=>⟨rfl,rfl,rfl⟩
  | k+1=>by
    have h:=MH (Zs m k) k
    rw [(ZQ m k).2.2.2.2.1] at h
    exact (Yj m k).trans h
theorem Tt (m:Z3) (k:Nat) (b:Int):atV (Zs m k).smiths b (Zs m k).smiths.length=atV m.smiths b m.smiths.length:=by
  rw [(ZQ m k).2.2.2.2.1]
  exact NQ b _ (Yj m k)
theorem Rn (m:Z3) (k:Nat) (b:Int):XB (Zs m k).smiths b=XB m.smiths b:=by unfold XB;rw [Tt]
theorem OW (m:Z3) (k:Nat) (b:Int) (d:Ys):XC (Zs m k).smiths b d=XC m.smiths b d:=by unfold XC;rw [Tt]
theorem Yu (m:Z3) {i:Nat} (hi:i<m.smiths.length):∀ k:Nat,Z8 (Zs m k).smiths i=if (0<=(Z8 m.smiths i).2.1/\(Z8 m.smiths i).2.1<(k:Int))/\ZT (Z8 m.smiths i)=true then stS (Z8 m.smiths i) (if XB m.smiths (Z8 m.smiths i).2.1=(i:Int) then 3 else 2) else Z8 m.smiths i
  | 0=>by rw [if_neg (by omega)];rfl
  | k+1=>by
    have ih:=Yu m hi k
    have ha:=Yj m k i hi
    show Z8 (XT (Zs m k) k).smiths i=_
    rw [Rm _ _ (by rw [(ZQ m k).2.2.2.2.1];exact hi),ha.1,ha.2.1,Rn]
    by_cases hp:ZT (Z8 m.smiths i)=true
    · by_cases hb:(Z8 m.smiths i).2.1=(k:Int)
      · have hc:(0<=(Z8 m.smiths i).2.1/\(Z8 m.smiths i).2.1<((k+1:Nat):Int))/\ZT (Z8 m.smiths i)=true:=⟨by omega,hp⟩
        rw [if_pos ⟨hb,hp⟩,if_pos hc,ih,if_neg (by omega),hb]
      · rw [if_neg (fun h=>hb h.1),ih]
        by_cases hk:0<=(Z8 m.smiths i).2.1/\(Z8 m.smiths i).2.1<(k:Int)
        · have hc:(0<=(Z8 m.smiths i).2.1/\(Z8 m.smiths i).2.1<((k+1:Nat):Int))/\ZT (Z8 m.smiths i)=true:=⟨by omega,hp⟩
          rw [if_pos ⟨hk,hp⟩,if_pos hc]
        · rw [if_neg (fun h=>hk h.1),if_neg (fun h=>hk (by omega))]
    · rw [if_neg (fun h=>hp h.2),ih,if_neg (fun h=>hp h.2),if_neg (fun h=>hp h.2)]
theorem Xd (m:Z3) (j:Nat):∀ k:Nat,k<=m.desks.length->Z8 (Zs m k).desks j=if j<k then XC m.smiths j (Z8 m.desks j) else Z8 m.desks j
  | 0,_=>by rw [if_neg (by omega)];rfl
  | k+1,hk=>by
    have ih:=Xd m j k (by omega)
    show Z8 (XT (Zs m k) k).desks j=_
    rw [KH _ (by rw [(ZQ m k).2.2.2.2.2];omega)]
    by_cases hjk:j=k
    · subst hjk
      rw [if_pos rfl,if_pos (by omega),OW,ih,if_neg (by omega)]
    · rw [if_neg hjk,ih]
      by_cases h:j<k
      · rw [if_pos h,if_pos (by omega)]
      · rw [if_neg h,if_neg (by omega)]
structure Loose (m:Z3):Prop where
  head:YS m=true
  desk:∀ j,j<m.desks.length->WH (Z8 m.desks j)=true
  pace:∀ j,j<m.paces.length->Xg m j=true
  here:∀ i,i<m.smiths.length->Yv m (Z8 m.smiths i)=true
  seat:∀ i,i<m.smiths.length->Yo m (Z8 m.smiths i)=true
  openD:∃ j,j<m.desks.length/\(Z8 m.desks j).1=true
theorem Wh (h:YZ m=true):Loose m:=by
  unfold YZ Wt WV WW Va at h
  simp only [Bool.and_eq_true] at h
  obtain ⟨h1,h2,h3,h4,h5⟩:=h
  have h4':=fun i hi=>M5 h4 (k:=i) hi
  simp only [Bool.and_eq_true] at h4'
  obtain ⟨j,hj,ho⟩:=List.any_eq_true.1 h5
  exact ⟨h1,fun j hj=>M5 h2 hj,fun j hj=>M5 h3 hj,fun i hi=>(h4' i hi).1,fun i hi=>(h4' i hi).2,j,List.mem_range.1 hj,ho⟩
theorem Loose.mk' (h:Loose m):YZ m=true:=by
  unfold YZ Wt WV WW Va
  simp only [Bool.and_eq_true]
  refine ⟨h.head,?_,?_,?_,?_⟩
  · exact List.all_eq_true.2 fun j hj=>h.desk j (List.mem_range.1 hj)
  · exact List.all_eq_true.2 fun j hj=>h.pace j (List.mem_range.1 hj)
  · exact List.all_eq_true.2 fun j hj=>by rw [h.here j (List.mem_range.1 hj),h.seat j (List.mem_range.1 hj)];rfl
  · obtain ⟨j,hj,ho⟩:=h.openD
    exact List.any_eq_true.2 ⟨j,List.mem_range.2 hj,ho⟩
theorem Loose.at (h:Loose m) {i:Nat} (hi:i<m.smiths.length) (hp:ZT (Z8 m.smiths i)=true):0<=(Z8 m.smiths i).2.1/\(Z8 m.smiths i).2.1<m.desks.length/\(Z8 m.desks (Z8 m.smiths i).2.1.toNat).1=true/\Wu (Z8 m.smiths i).2.2.2.1 (Z8 m.smiths i).2.1=true/\Xz (XL (Z8 m.smiths i)) (Z8 m.desks (Z8 m.smiths i).2.1.toNat).2.2=true:=by
  obtain ⟨b0,b1,_⟩:=LH (h.here i hi) hp
  have hs:=h.seat i hi
  unfold Yo at hs
  rw [hp] at hs
  simp only [Bool.not_true,Bool.false_or,Bool.and_eq_true] at hs
  exact ⟨b0,b1,hs.1,hs.2.1,hs.2.2⟩
theorem V9 {had XO:Int} (h:Xz had XO=true) : -1000000000000<=had/\had<=1000000000000/\ -1000000000000<=XO/\XO<=1000000000000/\ -20000<=had-XO/\had-XO<=63000:=by
  unfold Xz at h
  simp only [Bool.and_eq_true] at h
  have h1:=ZS h.1
  have h2:=ZS h.2.1
  have h3:=ZS h.2.2
  omega
theorem Qo {had XO:Int} (h0 : -1000000000000<=had) (h1:had<=1000000000000) (h2 : -1000000000000<=XO) (h3:XO<=1000000000000) (h4 : -20000<=had-XO) (h5:had-XO<=63000):Xz had XO=true:=by
  unfold Xz;rw [Zj h0 h1,Zj h2 h3,Zj h4 h5];rfl
theorem UH {d:Ys} (h:WH d=true) : -900000000000<=d.2.2/\d.2.2<=900000000000:=ZS h
theorem IJ {s:Z4} {st:Int} (h:ZE s=true) (hp:ZT s=true) (h0:1<=st) (h1:st<=3):ZE (stS s st)=true:=by
  obtain ⟨x0,be,rk,my,gu,lo,hi,hd,ca,ut,wk⟩:=s
  have hx:x0 ≠ 0:=by intro e;subst e;cases hp
  unfold ZE at h ⊢
  rw [TD (x:=(x0,be,rk,my,gu,lo,hi,hd,ca,ut,wk)) hx,Bool.false_or] at h
  unfold Zf at h
  simp only [Bool.and_eq_true] at h
  obtain ⟨g0,g⟩:=h
  have:Zf (stS (x0,be,rk,my,gu,lo,hi,hd,ca,ut,wk) st)=true:=by
    unfold Zf stS
    simp only [Bool.and_eq_true]
    exact ⟨Zj h0 h1,g⟩
  rw [this,Bool.or_true]
theorem Pr {s:Z4} {st:Int} (h:Yv m s=true) (hp:ZT s=true) (h0:1<=st) (h1:st<=3):Yv m (stS s st)=true:=by
  unfold Yv at h ⊢
  simp only [Bool.and_eq_true,Bool.or_eq_true] at h ⊢
  refine ⟨IJ h.1 hp h0 h1,.inr ?_⟩
  rcases h.2 with e | e
  · have:s.1=0:=by simpa using e
    unfold ZT at hp
    rw [this] at hp
    cases hp
  · exact e
theorem Xu {m m':Z3} (hg:m'.guilds.length=m.guilds.length) (hd:m'.desks.length=m.desks.length) (s:Z4):Yv m' s=Yv m s:=by unfold Yv;rw [hg,hd]
theorem Qg (h:Loose m):Loose (Z1 m):=by
  obtain ⟨e1,e2,e3,e4,e5,e6⟩:=ZQ m m.desks.length
  have hd:=fun j=>Xd m j m.desks.length (Nat.le_refl _)
  have hopen:∀ j,(Z8 (Z1 m).desks j).1=(Z8 m.desks j).1:=by
    intro j
    unfold Z1
    rw [hd j]
    split
    · unfold XC;split<;>rfl
    · rfl
  have hmark:∀ j,j<m.desks.length->(-900000000000<=(Z8 (Z1 m).desks j).2.2/\(Z8 (Z1 m).desks j).2.2<=900000000000)/\(Z8 m.desks j).2.2<=(Z8 (Z1 m).desks j).2.2/\((Z8 (Z1 m).desks j).2.2<=(Z8 m.desks j).2.2\/ ∀ i,i<m.smiths.length->(Z8 m.smiths i).2.1=(j:Int)->ZT (Z8 m.smiths i)=true->(Z8 (Z1 m).desks j).2.2<=XL (Z8 m.smiths i)):=by
    intro j hj
    obtain ⟨k0,k1⟩:=UH (h.desk j hj)
    unfold Z1
    rw [hd j,if_pos hj]
    unfold XC
    split
    · exact ⟨⟨k0,k1⟩,Int.le_refl _,.inl (Int.le_refl _)⟩
    · rename_i e t hq
      obtain ⟨_,i,hi,hib,hip,rfl⟩:=VP hq
      obtain ⟨_,_,_,_,hband⟩:=h.at hi hip
      obtain ⟨a0,a1,_⟩:=V9 hband
      have hm:=Tm (m:=(Z8 m.desks j).2.2) (f:=XL (Z8 m.smiths i)) (by omega) (by omega) a0 a1
      show (-900000000000<=ZJ _ _/\ZJ _ _<=900000000000)/\_<=ZJ _ _/\(ZJ _ _<=_\/_)
      rw [hm]
      refine ⟨by omega,by omega,?_⟩
      by_cases hc:XL (Z8 m.smiths i)<=(Z8 m.desks j).2.2
      · left;omega
      · right
        intro i' hi' hb' hp'
        have:=Q4 hq hi' hb' hp'
        simp only at this
        show min (max (Z8 m.desks j).2.2 (XL (Z8 m.smiths i))) 900000000000<=_
        omega
  refine ⟨?_,?_,?_,?_,?_,?_⟩
  · have:=h.head
    unfold YS at this ⊢
    unfold Z1
    rw [e1,e2,e3,e4,e5,e6]
    exact this
  · intro j hj
    have hj':j<m.desks.length:=by unfold Z1 at hj;omega
    exact Zj (hmark j hj').1.1 (hmark j hj').1.2
  · intro j hj
    have hj':j<m.paces.length:=by unfold Z1 at hj;rw [e3] at hj;exact hj
    have:=h.pace j hj'
    unfold Xg at this ⊢
    unfold Z1
    rw [e1,e3]
    exact this
  · intro i hi
    have hi':i<m.smiths.length:=by unfold Z1 at hi;omega
    rw [Xu (m:=m) (by unfold Z1;rw [e2]) (by unfold Z1;rw [e6])]
    unfold Z1
    rw [Yu m hi']
    split
    · rename_i hp
      exact Pr (h.here i hi') hp.2 (by split<;>omega) (by split<;>omega)
    · exact h.here i hi'
  · intro i hi
    have hi':i<m.smiths.length:=by unfold Z1 at hi;omega
    have ha:=Yj m m.desks.length i hi'
    unfold Yo
    show (!ZT (Z8 (Zs m m.desks.length).smiths i) || _)=true
    rw [ha.2.1]
    cases hp:ZT (Z8 m.smiths i)
    · rfl
    · obtain ⟨b0,b1,ho,hm,hband⟩:=h.at hi' hp
      obtain ⟨a0,a1,a2,a3,a4,a5⟩:=V9 hband
      obtain ⟨⟨q0,q1⟩,q2,q3⟩:=hmark (Z8 m.smiths i).2.1.toNat (by omega)
      have hmay:(Z8 (Zs m m.desks.length).smiths i).2.2.2.1=(Z8 m.smiths i).2.2.2.1:=by
        rw [Yu m hi'];split<;>rfl
      show (!true || ((Z8 (Z1 m).desks (Z8 (Zs m m.desks.length).smiths i).2.1.toNat).1 && (Wu (Z8 (Zs m m.desks.length).smiths i).2.2.2.1 (Z8 (Zs m m.desks.length).smiths i).2.1 && Xz (XL (Z8 (Zs m m.desks.length).smiths i)) (Z8 (Z1 m).desks (Z8 (Zs m m.desks.length).smiths i).2.1.toNat).2.2)))=true
      rw [ha.1,ha.2.2,hmay,hopen,ho,hm]
      rw [Qo a0 a1 (by omega) (by omega) ?_ (by omega)]
      · rfl
      · rcases q3 with q3 | q3
        · omega
        · have:=q3 i hi' (by omega) hp
          omega
  · obtain ⟨j,hj,ho⟩:=h.openD
    exact ⟨j,by unfold Z1;omega,by rw [hopen];exact ho⟩
theorem Jr {ss : List Z4} {b f : Int} : ∀ k : Nat, (∀ i, i < k → (Z8 ss i).2.1 = b → ZT (Z8 ss i) = true → ((Z8 ss i).1 = 2 ∧ (i : Int) ≠ f) ∨ ((Z8 ss i).1 = 3 ∧ (i : Int) = f)) →
    ∃ wk wt, Yh ss b k = some (wk, wt) ∧ ((wk = -1 ∧ ∀ i, i < k → (Z8 ss i).2.1 = b → ZT (Z8 ss i) = true → (i : Int) ≠ f) ∨ (wk = f ∧ ∃ i : Nat, i < k ∧ (Z8 ss i).2.1 = b ∧ ZT (Z8 ss i) = true ∧ (i : Int) = f)) ∧ (wt = true → ∃ i, i < k ∧ (Z8 ss i).2.1 = b ∧ ZT (Z8 ss i) = true)
  | 0, _ => ⟨-1, false, rfl, .inl ⟨rfl, fun i hi => by omega⟩, fun h => by cases h⟩
  | k + 1, h => by
    obtain ⟨wk, wt, hs, hw, ht⟩ := Jr k (fun i hi => h i (by omega))
    have hu : Yh ss b (k + 1) = if (Z8 ss k).2.1 = b ∧ ZT (Z8 ss k) = true then (if (Z8 ss k).1 = 2 then some (wk, true) else if 0 ≤ wk then none else some ((k : Int), wt)) else some (wk, wt) := by
      show (match Yh ss b k with
        | none => none
        | some (wk, wt) => _) = _
      rw [hs]
    rw [hu]
    by_cases hp : (Z8 ss k).2.1 = b ∧ ZT (Z8 ss k) = true
    · rw [if_pos hp]
      rcases h k (by omega) hp.1 hp.2 with ⟨h2, hne⟩ | ⟨h3, hkf⟩
      · rw [if_pos h2]
        refine ⟨wk, true, rfl, ?_, fun _ => ⟨k, by omega, hp.1, hp.2⟩⟩
        rcases hw with ⟨e, hn⟩ | ⟨e, i, hi, hb, hpi, hif⟩
        · refine .inl ⟨e, fun i hi hb hpi => ?_⟩
          by_cases hik : i = k
          · subst hik; exact hne
          · exact hn i (by omega) hb hpi
        · exact .inr ⟨e, i, by omega, hb, hpi, hif⟩
      · rw [if_neg (by omega)]
        have hw1 : wk = -1 := by
          rcases hw with ⟨e, _⟩ | ⟨e, i, hi, hb, hpi, hif⟩
          · exact e
          · omega
        rw [if_neg (by omega)]
        exact ⟨k, wt, rfl, .inr ⟨hkf, k, by omega, hp.1, hp.2, hkf⟩, fun e => by obtain ⟨i, hi, r⟩ := ht e; exact ⟨i, by omega, r⟩⟩
    · rw [if_neg hp]
      refine ⟨wk, wt, rfl, ?_, fun e => by obtain ⟨i, hi, r⟩ := ht e; exact ⟨i, by omega, r⟩⟩
      rcases hw with ⟨e, hn⟩ | ⟨e, i, hi, r⟩
      · refine .inl ⟨e, fun i hi hb hpi => ?_⟩
        by_cases hik : i = k
        · subst hik; exact absurd ⟨hb, hpi⟩ hp
        · exact hn i (by omega) hb hpi
      · exact .inr ⟨e, i, by omega, r⟩
theorem Zd (h:Loose m):ZK (Z1 m)=true:=by
  unfold ZK
  rw [Bool.and_eq_true]
  refine ⟨(Qg h).mk',?_⟩
  obtain ⟨e1,e2,e3,e4,e5,e6⟩:=ZQ m m.desks.length
  refine List.all_eq_true.2 fun b hb=> ?_
  have hb:=List.mem_range.1 hb
  have hb':b<m.desks.length:=by unfold Z1 at hb;omega
  have hn:(Z1 m).smiths.length=m.smiths.length:=e5
  have ha:=Yj m m.desks.length
  have hstate:∀ i,i<m.smiths.length->(Z8 (Z1 m).smiths i).2.1=(b:Int)->ZT (Z8 (Z1 m).smiths i)=true->((Z8 (Z1 m).smiths i).1=2/\(i:Int) ≠ XB m.smiths b)\/((Z8 (Z1 m).smiths i).1=3/\(i:Int)=XB m.smiths b):=by
    intro i hi hib hip
    have hib':(Z8 m.smiths i).2.1=(b:Int):=(ha i hi).1.symm.trans hib
    have hip':ZT (Z8 m.smiths i)=true:=(ha i hi).2.1.symm.trans hip
    unfold Z1
    rw [Yu m hi,if_pos ⟨by omega,hip'⟩,hib']
    by_cases hf:XB m.smiths (b:Int)=(i:Int)
    · right;rw [if_pos hf];exact ⟨rfl,hf.symm⟩
    · left;rw [if_neg hf];exact ⟨rfl,fun e=>hf e.symm⟩
  obtain ⟨wk,wt,hs,hw,ht⟩:=Jr (b:=(b:Int)) (f:=XB m.smiths b) (ss:=(Z1 m).smiths) m.smiths.length hstate
  unfold YD
  rw [hn,hs]
  simp only
  have hdesk:=Xd m b m.desks.length (Nat.le_refl _)
  rw [if_pos hb'] at hdesk
  cases hq:atV m.smiths (b:Int) m.smiths.length with
  | nil=>
    have hempty:∀ i,i<m.smiths.length-> ¬ ((Z8 (Z1 m).smiths i).2.1=(b:Int)/\ZT (Z8 (Z1 m).smiths i)=true):=by
      rintro i hi ⟨hib,hip⟩
      have:=(Yd m.smiths (b:Int) (XL (Z8 m.smiths i),(i:Int)) m.smiths.length).2 ⟨i,hi,(ha i hi).1.symm.trans hib,(ha i hi).2.1.symm.trans hip,rfl⟩
      rw [hq] at this
      exact List.not_mem_nil this
    have hwt:wt=false:=by
      cases wt
      · rfl
      · obtain ⟨i,hi,r⟩:=ht rfl
        exact absurd r (hempty i hi)
    have hwk:wk= -1:=by
      rcases hw with ⟨e,_⟩ | ⟨_,i,hi,hb,hp,_⟩
      · exact e
      · exact absurd ⟨hb,hp⟩ (hempty i hi)
    have hwho:(Z8 (Z1 m).desks b).2.1= -1:=by
      unfold Z1;rw [hdesk];unfold XC;rw [hq]
    rw [hwho,hwk,hwt]
    rfl
  | cons e t=>
    obtain ⟨hfe,i,hi,hib,hip,rfl⟩:=VP hq
    have hwho:(Z8 (Z1 m).desks b).2.1=(i:Int):=by
      unfold Z1;rw [hdesk];unfold XC;rw [hq]
    have hwk:wk=(i:Int):=by
      rcases hw with ⟨_,hn⟩ | ⟨e,_⟩
      · exact absurd hfe.symm (hn i hi ((ha i hi).1.trans hib) ((ha i hi).2.1.trans hip))
      · exact e.trans hfe
    rw [hwho,hwk]
    have:decide ((i:Int)<0)=false:=decide_eq_false (by omega)
    rw [this]
    simp
def ZU {α:Type} [Inhabited α] (p:α->Bool) (xs:List α):Nat->List Int
 | 0=>[]
 | k+1=>if p (Z8 xs k) then ZU p xs k++[(k:Int)] else ZU p xs k
theorem YH {α:Type} [Inhabited α] {p:α->Bool} {xs:List α} {k:Nat} (h:p (Z8 xs k)=true):ZU p xs (k+1)=ZU p xs k++[(k:Int)]:=by rw [ZU,if_pos h]
theorem Yc {α:Type} [Inhabited α] {p:α->Bool} {xs:List α} {k:Nat} (h:p (Z8 xs k)=false):ZU p xs (k+1)=ZU p xs k:=by rw [ZU,if_neg (by simp [h])]
theorem Wm {α:Type} [Inhabited α] (p:α->Bool) (xs:List α):∀ k,(ZU p xs k).length<=k
 | 0=>Nat.le_refl _
 | k+1=>by
  have:=Wm p xs k
  unfold ZU
  split
  ·simp;omega
  ·omega
theorem Xc {α:Type} [Inhabited α] (p:α->Bool) (xs:List α) (x:Int):∀ k,x ∈ ZU p xs k ↔ ∃ i:Nat,i<k/\x=(i:Int)/\p (Z8 xs i)=true
 | 0=>by simp [ZU]
 | k+1=>by
  have ih:=Xc p xs x k
  cases h:p (Z8 xs k)
  ·rw [Yc h,ih]
   constructor
   ·rintro ⟨i,hi,h1,h2⟩
    exact ⟨i,by omega,h1,h2⟩
   ·rintro ⟨i,hi,h1,h2⟩
    by_cases hik:i=k
    ·subst hik;rw [h] at h2;cases h2
    ·exact ⟨i,by omega,h1,h2⟩
  ·rw [YH h,List.mem_append,ih]
   constructor
   ·rintro (⟨i,hi,h1,h2⟩ | h1)
    ·exact ⟨i,by omega,h1,h2⟩
    ·exact ⟨k,by omega,by simpa using h1,h⟩
   ·rintro ⟨i,hi,h1,h2⟩
    by_cases hik:i=k
    ·subst hik;right;simp [h1]
    ·exact .inl ⟨i,by omega,h1,h2⟩
theorem Rp {α:Type} [Inhabited α] (p:α->Bool) (xs:List α):∀ k,decide (0<(ZU p xs k).length)=(List.range k).any fun j=>p (Z8 xs j)
 | 0=>rfl
 | k+1=>by
  have ih:=Rp p xs k
  rw [Fz,<-ih]
  cases h:p (Z8 xs k)
  ·rw [Yc h];simp
  ·rw [YH h];simp
def Yy {α:Type} [Inhabited α] (p:α->Bool) (xs:List α) (k:Nat):Bool:=(List.range k).all fun j=>p (Z8 xs j)
theorem R6 {α:Type} [Inhabited α] {p:α->Bool} {xs:List α} {k n:Nat} (hk:k<n) (h:p (Z8 xs k)=false):Yy p xs n=false:=SH (p:=fun j=>p (Z8 xs j)) hk h
theorem R7 {α:Type} [Inhabited α] {p:α->Bool} {xs:List α} {k:Nat} (h:Yy p xs k=true) (h2:p (Z8 xs k)=true):Yy p xs (k+1)=true:=by unfold Yy at h ⊢;rw [UY,h,h2];rfl
theorem Ru {α:Type} [Inhabited α] (p q:α->Bool) (xs:List α):∀ k,(Yy p xs k && Yy q xs k)=Yy (fun x=>p x && q x) xs k
 | 0=>rfl
 | k+1=>by
  have ih:=Ru p q xs k
  unfold Yy at ih ⊢
  rw [UY,UY,UY,<-ih]
  generalize ((List.range k).all fun j=>p (Z8 xs j))=a
  generalize ((List.range k).all fun j=>q (Z8 xs j))=b
  cases a<;>cases b<;>cases hp:p (Z8 xs k)<;>cases hq:q (Z8 xs k)<;>simp [hp,hq]
theorem KZ {α:Type} [Inhabited α] {p q:α->Bool} (xs:List α) (h:∀ x,p x=q x) (k:Nat):Yy p xs k=Yy q xs k:=by unfold Yy;congr 1;funext j;exact h _
def WJ (n:Nat) (i:Int):Bool:=decide (0<=i) && decide (i<n)
def atB (b:Int) (s:Z4):Bool:=(s.1 ==2 || s.1 ==3) && s.2.1 ==b
def Zo (b:Int) (s:Z4):Bool:=s.1 ==3 && s.2.1 ==b
def XG (n:Nat) (s:Z4):Bool:=s.1 ==0 || (s.2.2.2.2.1 == -1 || WJ n s.2.2.2.2.1)
def Xv (ds:List Ys) (s:Z4):Bool:=s.1 ==0 || (WJ ds.length s.2.1 && (s.1 ==1 || ((Z8 ds s.2.1.toNat).1 && (SQ s.2.2.2.1 s.2.1 && Wo s.2.2.2.2.2.2.2.1 (Z8 ds s.2.1.toNat).2.2))))
def UV (ss:List Z4) (n:Nat):Bool:=decide (ss.length<=12) && (Yy ZE ss ss.length && Yy (XG n) ss ss.length)
def Te (ds:List Ys) (n:Int):Bool:=decide ((ds.length:Int)=n) && (Yy WH ds ds.length && decide (0<(ZU (fun d:Ys=>d.1) ds ds.length).length))
def Wr (ps:List Int) (rs:List Z0):Bool:=decide (ps.length=rs.length) && (List.range ps.length).all fun j=>WJ (ZV rs j).2.length (Z8 ps j)
def Sq (m:Z3):Bool:=Y4 m.rooms && (Zh m.guilds && (UV m.smiths m.guilds.length && (Te m.desks (ZY m.rooms) && (Wr m.paces m.rooms && inB m.now 0 1000000))))
def W6 (m:Z3):Bool:=Sq m && Yy (Xv m.desks) m.smiths m.smiths.length
def V7 (m:Z3) (b:Nat):Bool:=if (Z8 m.desks b).2.1= -1 then decide ((ZU (atB b) m.smiths m.smiths.length).length=0) else decide ((ZU (Zo b) m.smiths m.smiths.length).length=1) && decide (Z8 (ZU (Zo b) m.smiths m.smiths.length) 0=(Z8 m.desks b).2.1)
def SC (m:Z3):Bool:=(List.range m.desks.length).all (V7 m)
def Gz (m:Z3):Bool:=W6 m && SC m
theorem GR (h m:Int):Wo h m=Xz h m:=by
 unfold Wo Xz We
 rw [Bool.and_assoc]
theorem Gc (m:Z3) (s:Z4):(ZE s && (XG m.guilds.length s && Xv m.desks s))=(Yv m s && Yo m s):=by
 cases hs:ZE s
 ·unfold Yv;rw [hs];rfl
 ·have hh:Yv m s=(s.1 ==0 || (decide (s.2.2.2.2.1<m.guilds.length) && decide (s.2.1<m.desks.length))):=by unfold Yv;rw [hs];rfl
  rw [hh,Bool.true_and]
  unfold ZE at hs
  simp only [Bool.or_eq_true] at hs
  rcases hs with hg | hp
  ·have e:=Wc hg
   subst e
   rfl
  ·obtain ⟨st,be,rk,my,gu,lo,hi,hd,ca,ut,wk⟩:=s
   obtain ⟨⟨s1,s2⟩,⟨b1,b2⟩,_,⟨m1,m2⟩,⟨g1,g2⟩,_⟩:=Zg hp
   have hmem:SQ my be=Wu my be:=F8 (Zj (by omega) (by omega)) (Zj (by omega) (by omega))
   have hst0:(st ==0)=false:=by simp;omega
   have hgu:(gu == -1 || WJ m.guilds.length gu)=decide (gu<m.guilds.length):=by
    unfold WJ
    by_cases e:gu= -1
    ·subst e;simp;omega
    ·have:(gu == -1)=false:=by simpa using e
     rw [this,Bool.false_or,show decide (0<=gu)=true from decide_eq_true (by omega),Bool.true_and]
   have hbe:WJ m.desks.length be=decide (be<m.desks.length):=by
    unfold WJ
    rw [show decide (0<=be)=true from decide_eq_true (by omega),Bool.true_and]
   have hpr:ZT (st,be,rk,my,gu,lo,hi,hd,ca,ut,wk)= !(st ==1):=by
    unfold ZT
    rcases (by omega:st=1\/st=2\/st=3) with e | e | e<;>subst e<;>rfl
   unfold XG Xv Yo
   simp only
   rw [hst0,hgu,hbe,hpr,hmem,GR,Bool.not_not]
   simp only [Bool.false_or,Bool.and_assoc]
theorem Om (ss:List Z4) (b:Int):∀ k:Nat,
  (match Yh ss b k with
   | none=>2<=(ZU (Zo b) ss k).length
   | some (wk,wt)=>((wk= -1/\ZU (Zo b) ss k=[])\/(0<=wk/\ZU (Zo b) ss k=[wk]))/\((ZU (atB b) ss k=[]) ↔ (ZU (Zo b) ss k=[]/\wt=false)))
 | 0=>by simp [Yh,ZU]
 | k+1=>by
  have ih:=Om ss b k
  unfold Yh
  cases hsc:Yh ss b k with
  | none=>
   rw [hsc] at ih
   simp only at ih ⊢
   unfold ZU
   split
   ·simp;omega
   ·exact ih
  | some r=>
   obtain ⟨wk,wt⟩:=r
   rw [hsc] at ih
   simp only at ih ⊢
   by_cases hat:(Z8 ss k).2.1=b/\ZT (Z8 ss k)=true
   ·rw [if_pos hat]
    have hA:atB b (Z8 ss k)=true:=by
     have h2:=hat.2
     unfold ZT at h2
     unfold atB
     rw [h2,hat.1];simp
    by_cases h2:(Z8 ss k).1=2
    ·rw [if_pos h2]
     have hW:Zo b (Z8 ss k)=false:=by unfold Zo;rw [h2];rfl
     rw [Yc hW,YH hA]
     exact ⟨ih.1,by simp⟩
    ·rw [if_neg h2]
     have h3:(Z8 ss k).1=3:=by
      have:=hat.2
      unfold ZT at this
      simp only [Bool.or_eq_true,beq_iff_eq] at this
      omega
     have hW:Zo b (Z8 ss k)=true:=by unfold Zo;rw [h3,hat.1];simp
     rw [YH hW,YH hA]
     by_cases hwk:0<=wk
     ·rw [if_pos hwk]
      rcases ih.1 with ⟨e,_⟩ | ⟨_,e⟩
      ·omega
      ·simp only
       rw [e];simp
     ·rw [if_neg hwk]
      rcases ih.1 with ⟨_,e⟩ | ⟨e,_⟩
      ·simp only
       rw [e];simp
      ·omega
   ·rw [if_neg hat]
    have hA:atB b (Z8 ss k)=false:=by
     cases hc:atB b (Z8 ss k)
     ·rfl
     ·exfalso
      apply hat
      unfold atB at hc
      simp only [Bool.and_eq_true,beq_iff_eq] at hc
      exact ⟨hc.2,by unfold ZT;exact hc.1⟩
    have hW:Zo b (Z8 ss k)=false:=by
     cases hc:Zo b (Z8 ss k)
     ·rfl
     ·exfalso
      apply hat
      unfold Zo at hc
      simp only [Bool.and_eq_true,beq_iff_eq] at hc
      exact ⟨hc.2,by unfold ZT;rw [hc.1];rfl⟩
    rw [Yc hW,Yc hA]
    exact ih
theorem Ow (m:Z3) (b:Nat):V7 m b=YD m b:=by
 have h:=Om m.smiths b m.smiths.length
 unfold V7 YD
 cases hsc:Yh m.smiths b m.smiths.length with
 | none=>
  rw [hsc] at h
  simp only at h ⊢
  split
  ·have:ZU (atB b) m.smiths m.smiths.length ≠ []:=by
    intro e
    have hx:Z8 (ZU (Zo b) m.smiths m.smiths.length) 0 ∈ ZU (Zo b) m.smiths m.smiths.length:=Tr (by omega)
    obtain ⟨i,hi,_,hw⟩:=(Xc _ _ _ _).1 hx
    have:(i:Int) ∈ ZU (atB b) m.smiths m.smiths.length:=(Xc _ _ _ _).2 ⟨i,hi,rfl,by
     unfold Zo at hw
     simp only [Bool.and_eq_true,beq_iff_eq] at hw
     unfold atB
     rw [hw.1,hw.2];simp⟩
    rw [e] at this
    cases this
   simp only [List.length_eq_zero_iff,this,decide_false]
  ·rw [show decide ((ZU (Zo b) m.smiths m.smiths.length).length=1)=false from decide_eq_false (by omega),Bool.false_and]
 | some r=>
  obtain ⟨wk,wt⟩:=r
  rw [hsc] at h
  simp only at h ⊢
  obtain ⟨h1,h2⟩:=h
  generalize ZU (Zo b) m.smiths m.smiths.length=ws at *
  generalize ZU (atB b) m.smiths m.smiths.length=az at *
  generalize (Z8 m.desks b).2.1=who at *
  by_cases hw:who= -1
  ·subst hw
   simp only [if_true,List.length_eq_zero_iff]
   rcases h1 with ⟨rfl,rfl⟩ | ⟨hk,rfl⟩
   ·cases wt
    ·simp at h2;simp [h2]
    ·simp at h2;simp [h2]
   ·have hne:az ≠ []:=by
     intro e
     have:=(h2.1 e).1
     cases this
    have:((-1:Int) ==wk)=false:=by simp;omega
    rw [this]
    simp [hne]
  ·rw [if_neg hw]
   rcases h1 with ⟨rfl,rfl⟩ | ⟨hk,rfl⟩
   ·have:(who == -1)=false:=by simpa using hw
    rw [this];simp
   ·have h0:decide (wk<0)=false:=decide_eq_false (by omega)
    rw [h0,Bool.and_false,Bool.not_false,Bool.and_true]
    simp only [List.length_cons,List.length_nil,decide_true,Bool.true_and]
    show decide (wk=who)=(who ==wk)
    by_cases e:wk=who
    ·subst e;simp
    ·rw [decide_eq_false e];symm;simp;omega
theorem EF (n:Nat) (i:Int):WJ n i=inB i 0 ((n:Int)-1):=by
 unfold WJ inB
 by_cases h0:0<=i<;>by_cases h1:i<n
 ·rw [decide_eq_true h0,decide_eq_true h1,decide_eq_true (show 0<=i/\i<=(n:Int)-1 by omega)];rfl
 ·rw [decide_eq_true h0,decide_eq_false h1,decide_eq_false (show ¬ (0<=i/\i<=(n:Int)-1) by omega)];rfl
 ·rw [decide_eq_false h0,decide_eq_false (show ¬ (0<=i/\i<=(n:Int)-1) by omega)];rfl
 ·rw [decide_eq_false h0,decide_eq_false (show ¬ (0<=i/\i<=(n:Int)-1) by omega)];rfl
theorem SP (m:Z3):W6 m=YZ m:=by
 have e1:WW m m.smiths.length=(Yy ZE m.smiths m.smiths.length && (Yy (XG m.guilds.length) m.smiths m.smiths.length && Yy (Xv m.desks) m.smiths m.smiths.length)):=by
  rw [Ru,Ru]
  exact (KZ m.smiths (Gc m) m.smiths.length).symm
 have e2:Wr m.paces m.rooms=(decide (m.paces.length=m.rooms.length) && WV m m.paces.length):=by
  unfold Wr WV
  congr 2
  funext j
  unfold Xg
  exact EF _ _
 have e3:decide (0<(ZU (fun d:Ys=>d.1) m.desks m.desks.length).length)=Va m m.desks.length:=Rp _ _ _
 unfold W6 Sq YZ YS UV Te
 rw [e1,e2,e3]
 have e4:Yy WH m.desks m.desks.length=Wt m m.desks.length:=rfl
 rw [e4]
 generalize Y4 m.rooms=x1
 generalize Zh m.guilds=x2
 generalize decide (m.smiths.length<=12)=x3
 generalize Yy ZE m.smiths m.smiths.length=x4
 generalize Yy (XG m.guilds.length) m.smiths m.smiths.length=x5
 generalize decide ((m.desks.length:Int)=ZY m.rooms)=x6
 generalize Wt m m.desks.length=x7
 generalize Va m m.desks.length=x8
 generalize decide (m.paces.length=m.rooms.length)=x9
 generalize WV m m.paces.length=x10
 generalize inB m.now 0 1000000=x11
 generalize Yy (Xv m.desks) m.smiths m.smiths.length=x12
 rw [Bool.eq_iff_iff]
 simp only [Bool.and_eq_true]
 constructor
 ·rintro ⟨⟨a1,a2,⟨a3,a4,a5⟩,⟨a6,a7,a8⟩,⟨a9,a10⟩,a11⟩,a12⟩
  exact ⟨⟨a1,a2,a3,a6,a9,a11⟩,a7,a10,⟨a4,a5,a12⟩,a8⟩
 ·rintro ⟨⟨a1,a2,a3,a6,a9,a11⟩,a7,a10,⟨a4,a5,a12⟩,a8⟩
  exact ⟨⟨a1,a2,⟨a3,a4,a5⟩,⟨a6,a7,a8⟩,⟨a9,a10⟩,a11⟩,a12⟩
theorem GA (m:Z3):Gz m=ZK m:=by
 unfold Gz ZK SC
 rw [SP,show V7 m=YD m from funext (Ow m)]
def Ws (ss:List Z4) (ps:List Int):List Z6:=ps.foldl (fun q i=>Vq q (XL (Z8 ss i.toNat),i)) []
theorem Su (ss:List Z4) (ps:List Int) (i:Int):Ws ss (ps++[i])=Vq (Ws ss ps) (XL (Z8 ss i.toNat),i):=by unfold Ws;rw [List.foldl_append];rfl
theorem SR (ss:List Z4) (b:Int):∀ k,Ws ss (ZU (atB b) ss k)=atV ss b k
 | 0=>rfl
 | k+1=>by
  have ih:=SR ss b k
  by_cases hat:(Z8 ss k).2.1=b/\ZT (Z8 ss k)=true
  ·have hA:atB b (Z8 ss k)=true:=by
    have h2:=hat.2
    unfold ZT at h2
    unfold atB
    rw [h2,hat.1];simp
   rw [YH hA,Su,ih,Sb hat.1 hat.2]
   rfl
  ·have hA:atB b (Z8 ss k)=false:=by
    cases hc:atB b (Z8 ss k)
    ·rfl
    ·exfalso
     apply hat
     unfold atB at hc
     simp only [Bool.and_eq_true,beq_iff_eq] at hc
     exact ⟨hc.2,by unfold ZT;exact hc.1⟩
   rw [Yc hA,O5 hat,ih]
theorem NI {ps:List Int} {k:Nat} (h:k<ps.length):ps.take (k+1)=ps.take k++[Z8 ps k]:=by
 unfold Z8
 rw [List.take_add_one,List.getD,List.getElem?_eq_getElem h];rfl
theorem K6 (h:Loose m) (b:Int) (k:Nat) (hk:k<=m.smiths.length):YF (atV m.smiths b k)=true:=by
 have hd:=h.head
 unfold YS at hd
 simp only [Bool.and_eq_true,decide_eq_true_eq] at hd
 have hl:=Uh m.smiths b k
 have h12:=hd.2.2.1
 refine Kp ⟨by omega,fun p hp=> ?_,?_,UG _ _ _⟩
 ·obtain ⟨i,hi,h1,h2,rfl⟩:=(Yd m.smiths b p k).1 hp
  have:=V9 (h.at (i:=i) (by omega) h2).2.2.2.2
  unfold Pj
  rw [Zj (by omega) (by omega),Zj (by omega) (by show (i:Int)<=99;omega)];rfl
 ·refine ((Qn m.smiths b k).and (UG m.smiths b k)).imp fun {x y} hxy=> ?_
  have h1:=hxy.1
  have h2:=hxy.2
  rw [Oa] at h1
  rw [F5]
  omega
theorem Rq {α:Type} [Inhabited α] (p:α->Bool) (xs:List α):∀ n k:Nat,∃ j,j<=n/\(ZU p xs n).take k=ZU p xs j
 | 0,k=>⟨0,Nat.le_refl _,by simp [ZU]⟩
 | n+1,k=>by
  obtain ⟨j,hj,e⟩:=Rq p xs n k
  cases h:p (Z8 xs n)
  ·rw [Yc h];exact ⟨j,by omega,e⟩
  ·rw [YH h]
   by_cases hk:k<=(ZU p xs n).length
   ·rw [List.take_append_of_le_length hk];exact ⟨j,by omega,e⟩
   ·refine ⟨n+1,Nat.le_refl _,?_⟩
    rw [YH h,List.take_of_length_le (by simp;omega)]
theorem Kl (h:Loose m) (b:Int) (k:Nat):YF (Ws m.smiths ((ZU (atB b) m.smiths m.smiths.length).take k))=true:=by
 obtain ⟨j,hj,e⟩:=Rq (atB b) m.smiths m.smiths.length k
 rw [e,SR]
 exact K6 h b j hj
set_option maxHeartbeats 1000000 in
theorem Rj (x0 x1 x2 x3 x4 x5 x6 x7 x8 x9 x10 y0 y1 y2 y3 y4 y5 y6 y7 y8 y9 y10:Int) (w:World):(Op.equalIn 10000 41 (.agg #[.int .i64 x0,.int .i64 x1,.int .i64 x2,.int .i64 x3,.int .i64 x4,.int .i64 x5,.int .i64 x6,.int .i64 x7,.int .i64 x8,.int .i64 x9,.int .i64 x10]) (.agg #[.int .i64 y0,.int .i64 y1,.int .i64 y2,.int .i64 y3,.int .i64 y4,.int .i64 y5,.int .i64 y6,.int .i64 y7,.int .i64 y8,.int .i64 y9,.int .i64 y10])).run Tryz.prog w= .ok (UU (x0,x1,x2,x3,x4,x5,x6,x7,x8,x9,x10) (y0,y1,y2,y3,y4,y5,y6,y7,y8,y9,y10)) w:=by
 have u:=Tryz.underlying2
 have a:=Tryz.isAgg2
 have z:=Tryz.sizeOf2
 have hS:Tryz.prog.underlying 41=some (.struct (Tryz.prog.fieldsOf 41)):=by kernel_rfl
 have hp:Tryz.prog.stoodInHeld 41=false:=by kernel_rfl
 rw [show (10000:Nat)=9999+1 from rfl,run_equalIn_agg w 9999 41 _ _ hS hp]
 simp only [Program.fieldsOf,Tryz.underlying41]
 go_simp
 unfold UU
 by_cases h0:x0=y0
 rotate_left
 ·simp [h0]
 subst h0
 by_cases h1:x1=y1
 rotate_left
 ·simp [h1]
 subst h1
 by_cases h2:x2=y2
 rotate_left
 ·simp [h2]
 subst h2
 by_cases h3:x3=y3
 rotate_left
 ·simp [h3]
 subst h3
 by_cases h4:x4=y4
 rotate_left
 ·simp [h4]
 subst h4
 by_cases h5:x5=y5
 rotate_left
 ·simp [h5]
 subst h5
 by_cases h6:x6=y6
 rotate_left
 ·simp [h6]
 subst h6
 by_cases h7:x7=y7
 rotate_left
 ·simp [h7]
 subst h7
 by_cases h8:x8=y8
 rotate_left
 ·simp [h8]
 subst h8
 by_cases h9:x9=y9
 rotate_left
 ·simp [h9]
 subst h9
 by_cases h10:x10=y10
 rotate_left
 ·simp [h10]
 subst h10
 simp
theorem RS (x0 x1 x2 x3 x4 x5 x6 x7 x8 x9 x10 y0 y1 y2 y3 y4 y5 y6 y7 y8 y9 y10:Int) (w:World):(binOp .eql 41 (.agg #[.int .i64 x0,.int .i64 x1,.int .i64 x2,.int .i64 x3,.int .i64 x4,.int .i64 x5,.int .i64 x6,.int .i64 x7,.int .i64 x8,.int .i64 x9,.int .i64 x10]) (.agg #[.int .i64 y0,.int .i64 y1,.int .i64 y2,.int .i64 y3,.int .i64 y4,.int .i64 y5,.int .i64 y6,.int .i64 y7,.int .i64 y8,.int .i64 y9,.int .i64 y10])).run Tryz.prog w= .ok (.bool (UU (x0,x1,x2,x3,x4,x5,x6,x7,x8,x9,x10) (y0,y1,y2,y3,y4,y5,y6,y7,y8,y9,y10))) w:=by
 rw [run_eql_struct,Rj];rfl
theorem Ts (x0 x1 x2 x3 x4 x5 x6 x7 x8 x9 x10 y0 y1 y2 y3 y4 y5 y6 y7 y8 y9 y10:Int) (w:World):(binOp .neq 41 (.agg #[.int .i64 x0,.int .i64 x1,.int .i64 x2,.int .i64 x3,.int .i64 x4,.int .i64 x5,.int .i64 x6,.int .i64 x7,.int .i64 x8,.int .i64 x9,.int .i64 x10]) (.agg #[.int .i64 y0,.int .i64 y1,.int .i64 y2,.int .i64 y3,.int .i64 y4,.int .i64 y5,.int .i64 y6,.int .i64 y7,.int .i64 y8,.int .i64 y9,.int .i64 y10])).run Tryz.prog w= .ok (.bool (!UU (x0,x1,x2,x3,x4,x5,x6,x7,x8,x9,x10) (y0,y1,y2,y3,y4,y5,y6,y7,y8,y9,y10))) w:=by
 rw [run_neq_struct,Rj];rfl
theorem TH {r x:Int} (h:Zu r=x) (w:World):Calls Tryz.prog 310 #[.int .i64 r] w fun e w'=>e= .returned (.int .i64 x)/\w'=w:=by
 have:=RI r w;rw [h] at this;exact this
theorem Y1 {r x:Int} (h:Zu r=x) (w:World):Calls Tryz.prog 207 #[.int .i64 r] w fun e w'=>e= .returned (.int .i64 x)/\w'=w:=by
 have:=RX r w;rw [h] at this;exact this
open Go.ChangeShapes Go.WideShapes Go.ChangeAt Go.RowKit
def UW (s:Int):Nat->List Int
 | 0=>[]
 | k+1=>if SQ s k=true then UW s k++[(k:Int)] else UW s k
def L5 (s:Int):List Int:=UW s 8
def WM (s:Int):Int:=(L5 s).headD (-1)
theorem SD {s:Int} {k:Nat} (h:SQ s k=true):UW s (k+1)=UW s k++[(k:Int)]:=by simp [UW,h]
theorem Tu {s:Int} {k:Nat} (h:SQ s k=false):UW s (k+1)=UW s k:=by simp [UW,h]
theorem ML (s:Int):∀ k,(UW s k).length<=k
 | 0=>by simp [UW]
 | k+1=>by
  have:=ML s k
  cases h:SQ s k
  ·rw [Tu h];omega
  ·rw [SD h];simp;omega
theorem Oy {s:Int} (h:inB s 0 255=false):∀ k,UW s k=[]
 | 0=>rfl
 | k+1=>by rw [Tu (Kd (.inl h))];exact Oy h k
theorem GL (s:Int):∀ k,k<=8->UW s k <+: L5 s:=by
 have step:∀ k,UW s k <+: UW s (k+1):=fun k=>by
  cases h:SQ s k
  ·rw [Tu h];exact List.prefix_refl _
  ·rw [SD h];exact List.prefix_append _ _
 have go:∀ d k,UW s k <+: UW s (k+d):=by
  intro d
  induction d with
  | zero=>intro k;exact List.prefix_refl _
  | succ d ih=>intro k;exact (ih k).trans (step (k+d))
 intro k hk
 have:=go (8-k) k
 rwa [show k+(8-k)=8 by omega] at this
end Go.Proofs.YtnponpamjddpjaaGreat
