/- Part 5 of what the proof rests on. No condition but those that a theorem names. -/
import Derived.Test.YthbbahagpmdooaaGreatXq04
import Derived.Laws.StructEq
namespace Go.Proofs.YthbbahagpmdooaaGreat
open Go.ChangeShapes Go.WideShapes Go.ChangeAt Go.RowKit Go.Sort
set_option linter.unusedVariables false
variable {m : Z4}
def stS (s:Z3) (st:Int):Z3:=(st,s.2)
def ZA (ss:List Z3) (q:List Z5):List Z3:=q.foldl (fun ss e=>ss.set e.2.toNat (stS (Z8 ss e.2.toNat) 2)) ss
theorem NO (ss:List Z3) (q:List Z5) (e:Z5):ZA ss (q++[e])=(ZA ss q).set e.2.toNat (stS (Z8 (ZA ss q) e.2.toNat) 2):=by
  unfold ZA;rw [List.foldl_append];rfl
theorem Vk (q:List Z5):∀ ss:List Z3,(ZA ss q).length=ss.length:=by
  induction q with
  | nil=>intro ss;rfl
  | cons e q ih=>intro ss;show (ZA (ss.set e.2.toNat (stS (Z8 ss e.2.toNat) 2)) q).length=_;rw [ih,List.length_set]
theorem KQ (q:List Z5):∀ (ss:List Z3) (i:Nat),(∀ e ∈ q,0<=e.2/\e.2<ss.length)->((∃ e ∈ q,e.2=(i:Int))->Z8 (ZA ss q) i=stS (Z8 ss i) 2)/\((∀ e ∈ q,e.2 ≠ (i:Int))->Z8 (ZA ss q) i=Z8 ss i):=by
  induction q with
  | nil=>
    intro ss i h
    exact ⟨fun ⟨e,he,_⟩=>(List.not_mem_nil he).elim,fun _=>rfl⟩
  | cons e q ih=>
    intro ss i h
    obtain ⟨e0,e1⟩:=h e (by simp)
    have hs:=ZC (x:=stS (Z8 ss e.2.toNat) 2) (show e.2.toNat<ss.length by omega) i
    obtain ⟨i1,i2⟩:=ih (ss.set e.2.toNat (stS (Z8 ss e.2.toNat) 2)) i (fun x hx=>by rw [List.length_set];exact h x (List.mem_cons_of_mem _ hx))
    show ((∃ x ∈ e::q,x.2=(i:Int))->Z8 (ZA (ss.set e.2.toNat (stS (Z8 ss e.2.toNat) 2)) q) i=_)/\((∀ x ∈ e::q,x.2 ≠ (i:Int))->Z8 (ZA (ss.set e.2.toNat (stS (Z8 ss e.2.toNat) 2)) q) i=_)
    constructor
    · rintro ⟨x,hx,hxi⟩
      by_cases hq:∃ y ∈ q,y.2=(i:Int)
      · rw [i1 hq,hs]
        split
        · rename_i he;rw [he];rfl
        · rfl
      · rw [i2 (fun y hy e=>hq ⟨y,hy,e⟩),hs]
        rcases List.mem_cons.1 hx with rfl | hx
        · rw [if_pos (by omega)]
          rw [show x.2.toNat=i by omega]
        · exact absurd ⟨x,hx,hxi⟩ hq
    · intro hn
      rw [i2 (fun y hy=>hn y (List.mem_cons_of_mem _ hy)),hs,if_neg]
      have:=hn e (by simp)
      omega
def WM (ss:List Z3) (b:Int) (d:Yl):Yl:=match atV ss b ss.length with
  | []=>(d.1,-1,d.2.2)
  | e::_=>(d.1,e.2,Y1 d.2.2 e.1)
def Xn (m:Z4) (b:Nat):Z4:=match atV m.smiths b m.smiths.length with
  | []=>{ m with desks:=m.desks.set b ((Z8 m.desks b).1,-1,(Z8 m.desks b).2.2) }
  | e::t=>{ m with smiths:=(ZA m.smiths (e::t)).set e.2.toNat (stS (Z8 (ZA m.smiths (e::t)) e.2.toNat) 3),desks:=m.desks.set b ((Z8 m.desks b).1,e.2,Y1 (Z8 m.desks b).2.2 e.1) }
def Yj (m:Z4):Nat->Z4
  | 0=>m
  | k+1=>Xn (Yj m k) k
def ZP (m:Z4):Z4:=Yj m m.desks.length
theorem KG (m:Z4) (b:Nat):(Xn m b).rooms=m.rooms/\(Xn m b).guilds=m.guilds/\(Xn m b).paces=m.paces/\(Xn m b).now=m.now/\(Xn m b).smiths.length=m.smiths.length/\(Xn m b).desks.length=m.desks.length:=by
  unfold Xn
  split
  · simp
  · simp [Vk]
theorem ZL (m:Z4):∀ k,(Yj m k).rooms=m.rooms/\(Yj m k).guilds=m.guilds/\(Yj m k).paces=m.paces/\(Yj m k).now=m.now/\(Yj m k).smiths.length=m.smiths.length/\(Yj m k).desks.length=m.desks.length
  | 0=>⟨rfl,rfl,rfl,rfl,rfl,rfl⟩
  | k+1=>by
    obtain ⟨h1,h2,h3,h4,h5,h6⟩:=ZL m k
    obtain ⟨g1,g2,g3,g4,g5,g6⟩:=KG (Yj m k) k
    exact ⟨g1.trans h1,g2.trans h2,g3.trans h3,g4.trans h4,g5.trans h5,g6.trans h6⟩
theorem Rg (m : Z4) (b : Nat) {i : Nat} (hi : i < m.smiths.length) : Z8 (Xn m b).smiths i = if (Z8 m.smiths i).2.1 = (b : Int) ∧ ZR (Z8 m.smiths i) = true then stS (Z8 m.smiths i) (if Xf m.smiths b = (i : Int) then 3 else 2) else Z8 m.smiths i := by
  have hq := Yk m.smiths (b : Int)
  have hf : Xf m.smiths (b : Int) = match atV m.smiths (b : Int) m.smiths.length with
    | [] => -1
    | h :: _ => h.2 := rfl
  unfold Xn
  split
  · rename_i h0
    rw [if_neg]
    intro hp
    have := (hq (Xo (Z8 m.smiths i), (i : Int)) m.smiths.length).2 ⟨i, hi, hp.1, hp.2, rfl⟩
    rw [h0] at this
    exact List.not_mem_nil this
  · rename_i e t h0
    rw [h0] at hf
    simp only at hf
    have hin : ∀ x ∈ e :: t, 0 ≤ x.2 ∧ x.2 < m.smiths.length := by
      intro x hx
      rw [← h0] at hx
      obtain ⟨j, hj, _, _, rfl⟩ := (hq x _).1 hx
      exact ⟨by show (0 : Int) ≤ (j : Int); omega, by show (j : Int) < _; omega⟩
    obtain ⟨w1, w2⟩ := KQ (e :: t) m.smiths i hin
    obtain ⟨e0, e1⟩ := hin e (by simp)
    show Z8 ((ZA m.smiths (e :: t)).set e.2.toNat _) i = _
    rw [ZC (by rw [Vk]; omega)]
    by_cases hp : (Z8 m.smiths i).2.1 = (b : Int) ∧ ZR (Z8 m.smiths i) = true
    · have hmem : (Xo (Z8 m.smiths i), (i : Int)) ∈ e :: t := by rw [← h0]; exact (hq _ _).2 ⟨i, hi, hp.1, hp.2, rfl⟩
      rw [if_pos hp, hf]
      by_cases hie : i = e.2.toNat
      · rw [if_pos hie, if_pos (by omega), ← hie, w1 ⟨_, hmem, rfl⟩]
        rfl
      · rw [if_neg hie, if_neg (by omega), w1 ⟨_, hmem, rfl⟩]
    · have hnm : ∀ x ∈ e :: t, x.2 ≠ (i : Int) := by
        intro x hx hxi
        rw [← h0] at hx
        obtain ⟨j, hj, j1, j2, rfl⟩ := (hq x _).1 hx
        have : j = i := by have : (j : Int) = (i : Int) := hxi
                           omega
        subst this
        exact hp ⟨j1, j2⟩
      rw [if_neg hp, if_neg (by have := hnm e (by simp); omega), w2 hnm]
theorem KF (m:Z4) {b:Nat} (hb:b<m.desks.length) (j:Nat):Z8 (Xn m b).desks j=if j=b then WM m.smiths b (Z8 m.desks b) else Z8 m.desks j:=by
  have hf:WM m.smiths (b:Int) (Z8 m.desks b)=match atV m.smiths (b:Int) m.smiths.length with
    | []=>((Z8 m.desks b).1,-1,(Z8 m.desks b).2.2)
    | e::_=>((Z8 m.desks b).1,e.2,Y1 (Z8 m.desks b).2.2 e.1):=rfl
  unfold Xn
  split
  · rename_i h0
    rw [h0] at hf
    rw [hf,<-ZC hb]
  · rename_i e t h0
    rw [h0] at hf
    rw [hf,<-ZC hb]
theorem ML (m:Z4) (b:Nat):Alike m.smiths (Xn m b).smiths m.smiths.length:=by
  intro i hi
  rw [Rg m b hi]
  split
  · rename_i hp
    refine ⟨rfl,?_,rfl⟩
    rw [hp.2]
    split<;>rfl
  · exact ⟨rfl,rfl,rfl⟩
theorem Alike.trans {a b c:List Z3} {k:Nat} (h:Alike a b k) (g:Alike b c k):Alike a c k:=fun i hi=>⟨(g i hi).1.trans (h i hi).1,(g i hi).2.1.trans (h i hi).2.1,(g i hi).2.2.trans (h i hi).2.2⟩
theorem W6 (m:Z4):∀ k,Alike m.smiths (Yj m k).smiths m.smiths.length
  | 0=>fun _ _=>⟨rfl,rfl,rfl⟩
  | k+1=>by
    have h:=ML (Yj m k) k
    rw [(ZL m k).2.2.2.2.1] at h
    exact (W6 m k).trans h
theorem RL (m:Z4) (k:Nat) (b:Int):atV (Yj m k).smiths b (Yj m k).smiths.length=atV m.smiths b m.smiths.length:=by
  rw [(ZL m k).2.2.2.2.1]
  exact NT b _ (W6 m k)
theorem MM (m:Z4) (k:Nat) (b:Int):Xf (Yj m k).smiths b=Xf m.smiths b:=by unfold Xf;rw [RL]
theorem OX (m:Z4) (k:Nat) (b:Int) (d:Yl):WM (Yj m k).smiths b d=WM m.smiths b d:=by unfold WM;rw [RL]
theorem Wf (m:Z4) {i:Nat} (hi:i<m.smiths.length):∀ k:Nat,Z8 (Yj m k).smiths i=if (0<=(Z8 m.smiths i).2.1/\(Z8 m.smiths i).2.1<(k:Int))/\ZR (Z8 m.smiths i)=true then stS (Z8 m.smiths i) (if Xf m.smiths (Z8 m.smiths i).2.1=(i:Int) then 3 else 2) else Z8 m.smiths i
  | 0=>by rw [if_neg (by omega)];rfl
  | k+1=>by
    have ih:=Wf m hi k
    have ha:=W6 m k i hi
    show Z8 (Xn (Yj m k) k).smiths i=_
    rw [Rg _ _ (by rw [(ZL m k).2.2.2.2.1];exact hi),ha.1,ha.2.1,MM]
    by_cases hp:ZR (Z8 m.smiths i)=true
    · by_cases hb:(Z8 m.smiths i).2.1=(k:Int)
      · have hc:(0<=(Z8 m.smiths i).2.1/\(Z8 m.smiths i).2.1<((k+1:Nat):Int))/\ZR (Z8 m.smiths i)=true:=⟨by omega,hp⟩
        rw [if_pos ⟨hb,hp⟩,if_pos hc,ih,if_neg (by omega),hb]
      · rw [if_neg (fun h=>hb h.1),ih]
        by_cases hk:0<=(Z8 m.smiths i).2.1/\(Z8 m.smiths i).2.1<(k:Int)
        · have hc:(0<=(Z8 m.smiths i).2.1/\(Z8 m.smiths i).2.1<((k+1:Nat):Int))/\ZR (Z8 m.smiths i)=true:=⟨by omega,hp⟩
          rw [if_pos ⟨hk,hp⟩,if_pos hc]
        · rw [if_neg (fun h=>hk h.1),if_neg (fun h=>hk (by omega))]
    · rw [if_neg (fun h=>hp h.2),ih,if_neg (fun h=>hp h.2),if_neg (fun h=>hp h.2)]
theorem UB (m:Z4) (j:Nat):∀ k:Nat,k<=m.desks.length->Z8 (Yj m k).desks j=if j<k then WM m.smiths j (Z8 m.desks j) else Z8 m.desks j
  | 0,_=>by rw [if_neg (by omega)];rfl
  | k+1,hk=>by
    have ih:=UB m j k (by omega)
    show Z8 (Xn (Yj m k) k).desks j=_
    rw [KF _ (by rw [(ZL m k).2.2.2.2.2];omega)]
    by_cases hjk:j=k
    · subst hjk
      rw [if_pos rfl,if_pos (by omega),OX,ih,if_neg (by omega)]
    · rw [if_neg hjk,ih]
      by_cases h:j<k
      · rw [if_pos h,if_pos (by omega)]
      · rw [if_neg h,if_neg (by omega)]
structure Loose (m:Z4):Prop where
  head:YY m=true
  desk:∀ j,j<m.desks.length->Wz (Z8 m.desks j)=true
  pace:∀ j,j<m.paces.length->WI m j=true
  here:∀ i,i<m.smiths.length->Yx m (Z8 m.smiths i)=true
  seat:∀ i,i<m.smiths.length->Yi m (Z8 m.smiths i)=true
  openD:∃ j,j<m.desks.length/\(Z8 m.desks j).1=true
theorem PD (h:YO m=true):Loose m:=by
  unfold YO Wl WN WO U7 at h
  simp only [Bool.and_eq_true] at h
  obtain ⟨h1,h2,h3,h4,h5⟩:=h
  have h4':=fun i hi=>Na h4 (k:=i) hi
  simp only [Bool.and_eq_true] at h4'
  obtain ⟨j,hj,ho⟩:=List.any_eq_true.1 h5
  exact ⟨h1,fun j hj=>Na h2 hj,fun j hj=>Na h3 hj,fun i hi=>(h4' i hi).1,fun i hi=>(h4' i hi).2,j,List.mem_range.1 hj,ho⟩
theorem Loose.mk' (h:Loose m):YO m=true:=by
  unfold YO Wl WN WO U7
  simp only [Bool.and_eq_true]
  refine ⟨h.head,?_,?_,?_,?_⟩
  · exact List.all_eq_true.2 fun j hj=>h.desk j (List.mem_range.1 hj)
  · exact List.all_eq_true.2 fun j hj=>h.pace j (List.mem_range.1 hj)
  · exact List.all_eq_true.2 fun j hj=>by rw [h.here j (List.mem_range.1 hj),h.seat j (List.mem_range.1 hj)];rfl
  · obtain ⟨j,hj,ho⟩:=h.openD
    exact List.any_eq_true.2 ⟨j,List.mem_range.2 hj,ho⟩
theorem Loose.at (h:Loose m) {i:Nat} (hi:i<m.smiths.length) (hp:ZR (Z8 m.smiths i)=true):0<=(Z8 m.smiths i).2.1/\(Z8 m.smiths i).2.1<m.desks.length/\(Z8 m.desks (Z8 m.smiths i).2.1.toNat).1=true/\V4 (Z8 m.smiths i).2.2.2.1 (Z8 m.smiths i).2.1=true/\Xw (Xo (Z8 m.smiths i)) (Z8 m.desks (Z8 m.smiths i).2.1.toNat).2.2=true:=by
  obtain ⟨b0,b1,_⟩:=LK (h.here i hi) hp
  have hs:=h.seat i hi
  unfold Yi at hs
  rw [hp] at hs
  simp only [Bool.not_true,Bool.false_or,Bool.and_eq_true] at hs
  exact ⟨b0,b1,hs.1,hs.2.1,hs.2.2⟩
theorem Tl {had XO:Int} (h:Xw had XO=true) : -1000000000000<=had/\had<=1000000000000/\ -1000000000000<=XO/\XO<=1000000000000/\ -20000<=had-XO/\had-XO<=63000:=by
  unfold Xw at h
  simp only [Bool.and_eq_true] at h
  have h1:=ZU h.1
  have h2:=ZU h.2.1
  have h3:=ZU h.2.2
  omega
theorem Nd {had XO:Int} (h0 : -1000000000000<=had) (h1:had<=1000000000000) (h2 : -1000000000000<=XO) (h3:XO<=1000000000000) (h4 : -20000<=had-XO) (h5:had-XO<=63000):Xw had XO=true:=by
  unfold Xw;rw [Zs h0 h1,Zs h2 h3,Zs h4 h5];rfl
theorem RY {d:Yl} (h:Wz d=true) : -900000000000<=d.2.2/\d.2.2<=900000000000:=ZU h
theorem Ix {s:Z3} {st:Int} (h:ZH s=true) (hp:ZR s=true) (h0:1<=st) (h1:st<=3):ZH (stS s st)=true:=by
  obtain ⟨x0,be,rk,my,gu,lo,hi,hd,ca,ut,wk⟩:=s
  have hx:x0 ≠ 0:=by intro e;subst e;cases hp
  unfold ZH at h ⊢
  rw [Ts (x:=(x0,be,rk,my,gu,lo,hi,hd,ca,ut,wk)) hx,Bool.false_or] at h
  unfold Zh at h
  simp only [Bool.and_eq_true] at h
  obtain ⟨g0,g⟩:=h
  have:Zh (stS (x0,be,rk,my,gu,lo,hi,hd,ca,ut,wk) st)=true:=by
    unfold Zh stS
    simp only [Bool.and_eq_true]
    exact ⟨Zs h0 h1,g⟩
  rw [this,Bool.or_true]
theorem LL {s:Z3} {st:Int} (h:Yx m s=true) (hp:ZR s=true) (h0:1<=st) (h1:st<=3):Yx m (stS s st)=true:=by
  unfold Yx at h ⊢
  simp only [Bool.and_eq_true,Bool.or_eq_true] at h ⊢
  refine ⟨Ix h.1 hp h0 h1,.inr ?_⟩
  rcases h.2 with e | e
  · have:s.1=0:=by simpa using e
    unfold ZR at hp
    rw [this] at hp
    cases hp
  · exact e
theorem Xc {m m':Z4} (hg:m'.guilds.length=m.guilds.length) (hd:m'.desks.length=m.desks.length) (s:Z3):Yx m' s=Yx m s:=by unfold Yx;rw [hg,hd]
theorem KJ (h:Loose m):Loose (ZP m):=by
  obtain ⟨e1,e2,e3,e4,e5,e6⟩:=ZL m m.desks.length
  have hd:=fun j=>UB m j m.desks.length (Nat.le_refl _)
  have hopen:∀ j,(Z8 (ZP m).desks j).1=(Z8 m.desks j).1:=by
    intro j
    unfold ZP
    rw [hd j]
    split
    · unfold WM;split<;>rfl
    · rfl
  have hmark:∀ j,j<m.desks.length->(-900000000000<=(Z8 (ZP m).desks j).2.2/\(Z8 (ZP m).desks j).2.2<=900000000000)/\(Z8 m.desks j).2.2<=(Z8 (ZP m).desks j).2.2/\((Z8 (ZP m).desks j).2.2<=(Z8 m.desks j).2.2\/ ∀ i,i<m.smiths.length->(Z8 m.smiths i).2.1=(j:Int)->ZR (Z8 m.smiths i)=true->(Z8 (ZP m).desks j).2.2<=Xo (Z8 m.smiths i)):=by
    intro j hj
    obtain ⟨k0,k1⟩:=RY (h.desk j hj)
    unfold ZP
    rw [hd j,if_pos hj]
    unfold WM
    split
    · exact ⟨⟨k0,k1⟩,Int.le_refl _,.inl (Int.le_refl _)⟩
    · rename_i e t hq
      obtain ⟨_,i,hi,hib,hip,rfl⟩:=R6 hq
      obtain ⟨_,_,_,_,hband⟩:=h.at hi hip
      obtain ⟨a0,a1,_⟩:=Tl hband
      have hm:=H7 (m:=(Z8 m.desks j).2.2) (f:=Xo (Z8 m.smiths i)) (by omega) (by omega) a0 a1
      show (-900000000000<=Y1 _ _/\Y1 _ _<=900000000000)/\_<=Y1 _ _/\(Y1 _ _<=_\/_)
      rw [hm]
      refine ⟨by omega,by omega,?_⟩
      by_cases hc:Xo (Z8 m.smiths i)<=(Z8 m.desks j).2.2
      · left;omega
      · right
        intro i' hi' hb' hp'
        have:=Lt hq hi' hb' hp'
        simp only at this
        show min (max (Z8 m.desks j).2.2 (Xo (Z8 m.smiths i))) 900000000000<=_
        omega
  refine ⟨?_,?_,?_,?_,?_,?_⟩
  · have:=h.head
    unfold YY at this ⊢
    unfold ZP
    rw [e1,e2,e3,e4,e5,e6]
    exact this
  · intro j hj
    have hj':j<m.desks.length:=by unfold ZP at hj;omega
    exact Zs (hmark j hj').1.1 (hmark j hj').1.2
  · intro j hj
    have hj':j<m.paces.length:=by unfold ZP at hj;rw [e3] at hj;exact hj
    have:=h.pace j hj'
    unfold WI at this ⊢
    unfold ZP
    rw [e1,e3]
    exact this
  · intro i hi
    have hi':i<m.smiths.length:=by unfold ZP at hi;omega
    rw [Xc (m:=m) (by unfold ZP;rw [e2]) (by unfold ZP;rw [e6])]
    unfold ZP
    rw [Wf m hi']
    split
    · rename_i hp
      exact LL (h.here i hi') hp.2 (by split<;>omega) (by split<;>omega)
    · exact h.here i hi'
  · intro i hi
    have hi':i<m.smiths.length:=by unfold ZP at hi;omega
    have ha:=W6 m m.desks.length i hi'
    unfold Yi
    show (!ZR (Z8 (Yj m m.desks.length).smiths i) || _)=true
    rw [ha.2.1]
    cases hp:ZR (Z8 m.smiths i)
    · rfl
    · obtain ⟨b0,b1,ho,hm,hband⟩:=h.at hi' hp
      obtain ⟨a0,a1,a2,a3,a4,a5⟩:=Tl hband
      obtain ⟨⟨q0,q1⟩,q2,q3⟩:=hmark (Z8 m.smiths i).2.1.toNat (by omega)
      have hmay:(Z8 (Yj m m.desks.length).smiths i).2.2.2.1=(Z8 m.smiths i).2.2.2.1:=by
        rw [Wf m hi'];split<;>rfl
      show (!true || ((Z8 (ZP m).desks (Z8 (Yj m m.desks.length).smiths i).2.1.toNat).1 && (V4 (Z8 (Yj m m.desks.length).smiths i).2.2.2.1 (Z8 (Yj m m.desks.length).smiths i).2.1 && Xw (Xo (Z8 (Yj m m.desks.length).smiths i)) (Z8 (ZP m).desks (Z8 (Yj m m.desks.length).smiths i).2.1.toNat).2.2)))=true
      rw [ha.1,ha.2.2,hmay,hopen,ho,hm]
      rw [Nd a0 a1 (by omega) (by omega) ?_ (by omega)]
      · rfl
      · rcases q3 with q3 | q3
        · omega
        · have:=q3 i hi' (by omega) hp
          omega
  · obtain ⟨j,hj,ho⟩:=h.openD
    exact ⟨j,by unfold ZP;omega,by rw [hopen];exact ho⟩
theorem Jh {ss : List Z3} {b f : Int} : ∀ k : Nat, (∀ i, i < k → (Z8 ss i).2.1 = b → ZR (Z8 ss i) = true → ((Z8 ss i).1 = 2 ∧ (i : Int) ≠ f) ∨ ((Z8 ss i).1 = 3 ∧ (i : Int) = f)) →
    ∃ wk wt, Yf ss b k = some (wk, wt) ∧ ((wk = -1 ∧ ∀ i, i < k → (Z8 ss i).2.1 = b → ZR (Z8 ss i) = true → (i : Int) ≠ f) ∨ (wk = f ∧ ∃ i : Nat, i < k ∧ (Z8 ss i).2.1 = b ∧ ZR (Z8 ss i) = true ∧ (i : Int) = f)) ∧ (wt = true → ∃ i, i < k ∧ (Z8 ss i).2.1 = b ∧ ZR (Z8 ss i) = true)
  | 0, _ => ⟨-1, false, rfl, .inl ⟨rfl, fun i hi => by omega⟩, fun h => by cases h⟩
  | k + 1, h => by
    obtain ⟨wk, wt, hs, hw, ht⟩ := Jh k (fun i hi => h i (by omega))
    have hu : Yf ss b (k + 1) = if (Z8 ss k).2.1 = b ∧ ZR (Z8 ss k) = true then (if (Z8 ss k).1 = 2 then some (wk, true) else if 0 ≤ wk then none else some ((k : Int), wt)) else some (wk, wt) := by
      show (match Yf ss b k with
        | none => none
        | some (wk, wt) => _) = _
      rw [hs]
    rw [hu]
    by_cases hp : (Z8 ss k).2.1 = b ∧ ZR (Z8 ss k) = true
    · rw [if_pos hp]
      rcases h k (by omega) hp.1 hp.2 with ⟨h2, hne⟩ | ⟨h3, hkf⟩
      · rw [if_pos h2]
        refine ⟨wk, true, rfl, ?_, fun _ => ⟨k, by omega, hp.1, hp.2⟩⟩
        rcases hw with ⟨e, hn⟩ | ⟨e, i, hi, hb, hpi, hif⟩
        · refine .inl ⟨e, fun i hi hb hpi => ?_⟩
          by_cases hik : i = k
          · subst hik; exact hne
          · exact hn i (by omega) hb hpi
        · exact .inr ⟨e, i, by omega, hb, hpi, hif⟩
      · rw [if_neg (by omega)]
        have hw1 : wk = -1 := by
          rcases hw with ⟨e, _⟩ | ⟨e, i, hi, hb, hpi, hif⟩
          · exact e
          · omega
        rw [if_neg (by omega)]
        exact ⟨k, wt, rfl, .inr ⟨hkf, k, by omega, hp.1, hp.2, hkf⟩, fun e => by obtain ⟨i, hi, r⟩ := ht e; exact ⟨i, by omega, r⟩⟩
    · rw [if_neg hp]
      refine ⟨wk, wt, rfl, ?_, fun e => by obtain ⟨i, hi, r⟩ := ht e; exact ⟨i, by omega, r⟩⟩
      rcases hw with ⟨e, hn⟩ | ⟨e, i, hi, r⟩
      · refine .inl ⟨e, fun i hi hb hpi => ?_⟩
        by_cases hik : i = k
        · subst hik; exact absurd ⟨hb, hpi⟩ hp
        · exact hn i (by omega) hb hpi
      · exact .inr ⟨e, i, by omega, r⟩
theorem Y0 (h:Loose m):ZO (ZP m)=true:=by
  unfold ZO
  rw [Bool.and_eq_true]
  refine ⟨(KJ h).mk',?_⟩
  obtain ⟨e1,e2,e3,e4,e5,e6⟩:=ZL m m.desks.length
  refine List.all_eq_true.2 fun b hb=> ?_
  have hb:=List.mem_range.1 hb
  have hb':b<m.desks.length:=by unfold ZP at hb;omega
  have hn:(ZP m).smiths.length=m.smiths.length:=e5
  have ha:=W6 m m.desks.length
  have hstate:∀ i,i<m.smiths.length->(Z8 (ZP m).smiths i).2.1=(b:Int)->ZR (Z8 (ZP m).smiths i)=true->((Z8 (ZP m).smiths i).1=2/\(i:Int) ≠ Xf m.smiths b)\/((Z8 (ZP m).smiths i).1=3/\(i:Int)=Xf m.smiths b):=by
    intro i hi hib hip
    have hib':(Z8 m.smiths i).2.1=(b:Int):=(ha i hi).1.symm.trans hib
    have hip':ZR (Z8 m.smiths i)=true:=(ha i hi).2.1.symm.trans hip
    unfold ZP
    rw [Wf m hi,if_pos ⟨by omega,hip'⟩,hib']
    by_cases hf:Xf m.smiths (b:Int)=(i:Int)
    · right;rw [if_pos hf];exact ⟨rfl,hf.symm⟩
    · left;rw [if_neg hf];exact ⟨rfl,fun e=>hf e.symm⟩
  obtain ⟨wk,wt,hs,hw,ht⟩:=Jh (b:=(b:Int)) (f:=Xf m.smiths b) (ss:=(ZP m).smiths) m.smiths.length hstate
  unfold YE
  rw [hn,hs]
  simp only
  have hdesk:=UB m b m.desks.length (Nat.le_refl _)
  rw [if_pos hb'] at hdesk
  cases hq:atV m.smiths (b:Int) m.smiths.length with
  | nil=>
    have hempty:∀ i,i<m.smiths.length-> ¬ ((Z8 (ZP m).smiths i).2.1=(b:Int)/\ZR (Z8 (ZP m).smiths i)=true):=by
      rintro i hi ⟨hib,hip⟩
      have:=(Yk m.smiths (b:Int) (Xo (Z8 m.smiths i),(i:Int)) m.smiths.length).2 ⟨i,hi,(ha i hi).1.symm.trans hib,(ha i hi).2.1.symm.trans hip,rfl⟩
      rw [hq] at this
      exact List.not_mem_nil this
    have hwt:wt=false:=by
      cases wt
      · rfl
      · obtain ⟨i,hi,r⟩:=ht rfl
        exact absurd r (hempty i hi)
    have hwk:wk= -1:=by
      rcases hw with ⟨e,_⟩ | ⟨_,i,hi,hb,hp,_⟩
      · exact e
      · exact absurd ⟨hb,hp⟩ (hempty i hi)
    have hwho:(Z8 (ZP m).desks b).2.1= -1:=by
      unfold ZP;rw [hdesk];unfold WM;rw [hq]
    rw [hwho,hwk,hwt]
    rfl
  | cons e t=>
    obtain ⟨hfe,i,hi,hib,hip,rfl⟩:=R6 hq
    have hwho:(Z8 (ZP m).desks b).2.1=(i:Int):=by
      unfold ZP;rw [hdesk];unfold WM;rw [hq]
    have hwk:wk=(i:Int):=by
      rcases hw with ⟨_,hn⟩ | ⟨e,_⟩
      · exact absurd hfe.symm (hn i hi ((ha i hi).1.trans hib) ((ha i hi).2.1.trans hip))
      · exact e.trans hfe
    rw [hwho,hwk]
    have:decide ((i:Int)<0)=false:=decide_eq_false (by omega)
    rw [this]
    simp
def ZX {α:Type} [Inhabited α] (p:α->Bool) (xs:List α):Nat->List Int
 | 0=>[]
 | k+1=>if p (Z8 xs k) then ZX p xs k++[(k:Int)] else ZX p xs k
theorem YQ {α:Type} [Inhabited α] {p:α->Bool} {xs:List α} {k:Nat} (h:p (Z8 xs k)=true):ZX p xs (k+1)=ZX p xs k++[(k:Int)]:=by rw [ZX,if_pos h]
theorem Yo {α:Type} [Inhabited α] {p:α->Bool} {xs:List α} {k:Nat} (h:p (Z8 xs k)=false):ZX p xs (k+1)=ZX p xs k:=by rw [ZX,if_neg (by simp [h])]
theorem Xa {α:Type} [Inhabited α] (p:α->Bool) (xs:List α):∀ k,(ZX p xs k).length<=k
 | 0=>Nat.le_refl _
 | k+1=>by
  have:=Xa p xs k
  unfold ZX
  split
  ·simp;omega
  ·omega
theorem XD {α:Type} [Inhabited α] (p:α->Bool) (xs:List α) (x:Int):∀ k,x ∈ ZX p xs k ↔ ∃ i:Nat,i<k/\x=(i:Int)/\p (Z8 xs i)=true
 | 0=>by simp [ZX]
 | k+1=>by
  have ih:=XD p xs x k
  cases h:p (Z8 xs k)
  ·rw [Yo h,ih]
   constructor
   ·rintro ⟨i,hi,h1,h2⟩
    exact ⟨i,by omega,h1,h2⟩
   ·rintro ⟨i,hi,h1,h2⟩
    by_cases hik:i=k
    ·subst hik;rw [h] at h2;cases h2
    ·exact ⟨i,by omega,h1,h2⟩
  ·rw [YQ h,List.mem_append,ih]
   constructor
   ·rintro (⟨i,hi,h1,h2⟩ | h1)
    ·exact ⟨i,by omega,h1,h2⟩
    ·exact ⟨k,by omega,by simpa using h1,h⟩
   ·rintro ⟨i,hi,h1,h2⟩
    by_cases hik:i=k
    ·subst hik;right;simp [h1]
    ·exact .inl ⟨i,by omega,h1,h2⟩
theorem Ri {α:Type} [Inhabited α] (p:α->Bool) (xs:List α):∀ k,decide (0<(ZX p xs k).length)=(List.range k).any fun j=>p (Z8 xs j)
 | 0=>rfl
 | k+1=>by
  have ih:=Ri p xs k
  rw [Fg,<-ih]
  cases h:p (Z8 xs k)
  ·rw [Yo h];simp
  ·rw [YQ h];simp
def YA {α:Type} [Inhabited α] (p:α->Bool) (xs:List α) (k:Nat):Bool:=(List.range k).all fun j=>p (Z8 xs j)
theorem RO {α:Type} [Inhabited α] {p:α->Bool} {xs:List α} {k n:Nat} (hk:k<n) (h:p (Z8 xs k)=false):YA p xs n=false:=Sx (p:=fun j=>p (Z8 xs j)) hk h
theorem RP {α:Type} [Inhabited α] {p:α->Bool} {xs:List α} {k:Nat} (h:YA p xs k=true) (h2:p (Z8 xs k)=true):YA p xs (k+1)=true:=by unfold YA at h ⊢;rw [UZ,h,h2];rfl
theorem Rl {α:Type} [Inhabited α] (p q:α->Bool) (xs:List α):∀ k,(YA p xs k && YA q xs k)=YA (fun x=>p x && q x) xs k
 | 0=>rfl
 | k+1=>by
  have ih:=Rl p q xs k
  unfold YA at ih ⊢
  rw [UZ,UZ,UZ,<-ih]
  generalize ((List.range k).all fun j=>p (Z8 xs j))=a
  generalize ((List.range k).all fun j=>q (Z8 xs j))=b
  cases a<;>cases b<;>cases hp:p (Z8 xs k)<;>cases hq:q (Z8 xs k)<;>simp [hp,hq]
theorem K6 {α:Type} [Inhabited α] {p q:α->Bool} (xs:List α) (h:∀ x,p x=q x) (k:Nat):YA p xs k=YA q xs k:=by unfold YA;congr 1;funext j;exact h _
def Xz (n:Nat) (i:Int):Bool:=decide (0<=i) && decide (i<n)
def atB (b:Int) (s:Z3):Bool:=(s.1 ==2 || s.1 ==3) && s.2.1 ==b
def Zn (b:Int) (s:Z3):Bool:=s.1 ==3 && s.2.1 ==b
def XH (n:Nat) (s:Z3):Bool:=s.1 ==0 || (s.2.2.2.2.1 == -1 || Xz n s.2.2.2.2.1)
def XA (ds:List Yl) (s:Z3):Bool:=s.1 ==0 || (Xz ds.length s.2.1 && (s.1 ==1 || ((Z8 ds s.2.1.toNat).1 && (SI s.2.2.2.1 s.2.1 && Wi s.2.2.2.2.2.2.2.1 (Z8 ds s.2.1.toNat).2.2))))
def UT (ss:List Z3) (n:Nat):Bool:=decide (ss.length<=12) && (YA ZH ss ss.length && YA (XH n) ss ss.length)
def S7 (ds:List Yl) (n:Int):Bool:=decide ((ds.length:Int)=n) && (YA Wz ds ds.length && decide (0<(ZX (fun d:Yl=>d.1) ds ds.length).length))
def Wj (ps:List Int) (rs:List Z0):Bool:=decide (ps.length=rs.length) && (List.range ps.length).all fun j=>Xz (ZS rs j).2.length (Z8 ps j)
def Sh (m:Z4):Bool:=Zb m.rooms && (Zw m.guilds && (UT m.smiths m.guilds.length && (S7 m.desks (ZZ m.rooms) && (Wj m.paces m.rooms && inB m.now 0 1000000))))
def Wr (m:Z4):Bool:=Sh m && YA (XA m.desks) m.smiths m.smiths.length
def V0 (m:Z4) (b:Nat):Bool:=if (Z8 m.desks b).2.1= -1 then decide ((ZX (atB b) m.smiths m.smiths.length).length=0) else decide ((ZX (Zn b) m.smiths m.smiths.length).length=1) && decide (Z8 (ZX (Zn b) m.smiths m.smiths.length) 0=(Z8 m.desks b).2.1)
def Ss (m:Z4):Bool:=(List.range m.desks.length).all (V0 m)
def Gh (m:Z4):Bool:=Wr m && Ss m
theorem GC (h m:Int):Wi h m=Xw h m:=by
 unfold Wi Xw VI
 rw [Bool.and_assoc]
theorem FT (m:Z4) (s:Z3):(ZH s && (XH m.guilds.length s && XA m.desks s))=(Yx m s && Yi m s):=by
 cases hs:ZH s
 ·unfold Yx;rw [hs];rfl
 ·have hh:Yx m s=(s.1 ==0 || (decide (s.2.2.2.2.1<m.guilds.length) && decide (s.2.1<m.desks.length))):=by unfold Yx;rw [hs];rfl
  rw [hh,Bool.true_and]
  unfold ZH at hs
  simp only [Bool.or_eq_true] at hs
  rcases hs with hg | hp
  ·have e:=V6 hg
   subst e
   rfl
  ·obtain ⟨st,be,rk,my,gu,lo,hi,hd,ca,ut,wk⟩:=s
   obtain ⟨⟨s1,s2⟩,⟨b1,b2⟩,_,⟨m1,m2⟩,⟨g1,g2⟩,_⟩:=Zk hp
   have hmem:SI my be=V4 my be:=FN (Zs (by omega) (by omega)) (Zs (by omega) (by omega))
   have hst0:(st ==0)=false:=by simp;omega
   have hgu:(gu == -1 || Xz m.guilds.length gu)=decide (gu<m.guilds.length):=by
    unfold Xz
    by_cases e:gu= -1
    ·subst e;simp;omega
    ·have:(gu == -1)=false:=by simpa using e
     rw [this,Bool.false_or,show decide (0<=gu)=true from decide_eq_true (by omega),Bool.true_and]
   have hbe:Xz m.desks.length be=decide (be<m.desks.length):=by
    unfold Xz
    rw [show decide (0<=be)=true from decide_eq_true (by omega),Bool.true_and]
   have hpr:ZR (st,be,rk,my,gu,lo,hi,hd,ca,ut,wk)= !(st ==1):=by
    unfold ZR
    rcases (by omega:st=1\/st=2\/st=3) with e | e | e<;>subst e<;>rfl
   unfold XH XA Yi
   simp only
   rw [hst0,hgu,hbe,hpr,hmem,GC,Bool.not_not]
   simp only [Bool.false_or,Bool.and_assoc]
theorem Ok (ss:List Z3) (b:Int):∀ k:Nat,
  (match Yf ss b k with
   | none=>2<=(ZX (Zn b) ss k).length
   | some (wk,wt)=>((wk= -1/\ZX (Zn b) ss k=[])\/(0<=wk/\ZX (Zn b) ss k=[wk]))/\((ZX (atB b) ss k=[]) ↔ (ZX (Zn b) ss k=[]/\wt=false)))
 | 0=>by simp [Yf,ZX]
 | k+1=>by
  have ih:=Ok ss b k
  unfold Yf
  cases hsc:Yf ss b k with
  | none=>
   rw [hsc] at ih
   simp only at ih ⊢
   unfold ZX
   split
   ·simp;omega
   ·exact ih
  | some r=>
   obtain ⟨wk,wt⟩:=r
   rw [hsc] at ih
   simp only at ih ⊢
   by_cases hat:(Z8 ss k).2.1=b/\ZR (Z8 ss k)=true
   ·rw [if_pos hat]
    have hA:atB b (Z8 ss k)=true:=by
     have h2:=hat.2
     unfold ZR at h2
     unfold atB
     rw [h2,hat.1];simp
    by_cases h2:(Z8 ss k).1=2
    ·rw [if_pos h2]
     have hW:Zn b (Z8 ss k)=false:=by unfold Zn;rw [h2];rfl
     rw [Yo hW,YQ hA]
     exact ⟨ih.1,by simp⟩
    ·rw [if_neg h2]
     have h3:(Z8 ss k).1=3:=by
      have:=hat.2
      unfold ZR at this
      simp only [Bool.or_eq_true,beq_iff_eq] at this
      omega
     have hW:Zn b (Z8 ss k)=true:=by unfold Zn;rw [h3,hat.1];simp
     rw [YQ hW,YQ hA]
     by_cases hwk:0<=wk
     ·rw [if_pos hwk]
      rcases ih.1 with ⟨e,_⟩ | ⟨_,e⟩
      ·omega
      ·simp only
       rw [e];simp
     ·rw [if_neg hwk]
      rcases ih.1 with ⟨_,e⟩ | ⟨e,_⟩
      ·simp only
       rw [e];simp
      ·omega
   ·rw [if_neg hat]
    have hA:atB b (Z8 ss k)=false:=by
     cases hc:atB b (Z8 ss k)
     ·rfl
     ·exfalso
      apply hat
      unfold atB at hc
      simp only [Bool.and_eq_true,beq_iff_eq] at hc
      exact ⟨hc.2,by unfold ZR;exact hc.1⟩
    have hW:Zn b (Z8 ss k)=false:=by
     cases hc:Zn b (Z8 ss k)
     ·rfl
     ·exfalso
      apply hat
      unfold Zn at hc
      simp only [Bool.and_eq_true,beq_iff_eq] at hc
      exact ⟨hc.2,by unfold ZR;rw [hc.1];rfl⟩
    rw [Yo hW,Yo hA]
    exact ih
theorem Ov (m:Z4) (b:Nat):V0 m b=YE m b:=by
 have h:=Ok m.smiths b m.smiths.length
 unfold V0 YE
 cases hsc:Yf m.smiths b m.smiths.length with
 | none=>
  rw [hsc] at h
  simp only at h ⊢
  split
  ·have:ZX (atB b) m.smiths m.smiths.length ≠ []:=by
    intro e
    have hx:Z8 (ZX (Zn b) m.smiths m.smiths.length) 0 ∈ ZX (Zn b) m.smiths m.smiths.length:=UR (by omega)
    obtain ⟨i,hi,_,hw⟩:=(XD _ _ _ _).1 hx
    have:(i:Int) ∈ ZX (atB b) m.smiths m.smiths.length:=(XD _ _ _ _).2 ⟨i,hi,rfl,by
     unfold Zn at hw
     simp only [Bool.and_eq_true,beq_iff_eq] at hw
     unfold atB
     rw [hw.1,hw.2];simp⟩
    rw [e] at this
    cases this
   simp only [List.length_eq_zero_iff,this,decide_false]
  ·rw [show decide ((ZX (Zn b) m.smiths m.smiths.length).length=1)=false from decide_eq_false (by omega),Bool.false_and]
 | some r=>
  obtain ⟨wk,wt⟩:=r
  rw [hsc] at h
  simp only at h ⊢
  obtain ⟨h1,h2⟩:=h
  generalize ZX (Zn b) m.smiths m.smiths.length=ws at *
  generalize ZX (atB b) m.smiths m.smiths.length=az at *
  generalize (Z8 m.desks b).2.1=who at *
  by_cases hw:who= -1
  ·subst hw
   simp only [if_true,List.length_eq_zero_iff]
   rcases h1 with ⟨rfl,rfl⟩ | ⟨hk,rfl⟩
   ·cases wt
    ·simp at h2;simp [h2]
    ·simp at h2;simp [h2]
   ·have hne:az ≠ []:=by
     intro e
     have:=(h2.1 e).1
     cases this
    have:((-1:Int) ==wk)=false:=by simp;omega
    rw [this]
    simp [hne]
  ·rw [if_neg hw]
   rcases h1 with ⟨rfl,rfl⟩ | ⟨hk,rfl⟩
   ·have:(who == -1)=false:=by simpa using hw
    rw [this];simp
   ·have h0:decide (wk<0)=false:=decide_eq_false (by omega)
    rw [h0,Bool.and_false,Bool.not_false,Bool.and_true]
    simp only [List.length_cons,List.length_nil,decide_true,Bool.true_and]
    show decide (wk=who)=(who ==wk)
    by_cases e:wk=who
    ·subst e;simp
    ·rw [decide_eq_false e];symm;simp;omega
theorem Ns (n:Nat) (i:Int):Xz n i=inB i 0 ((n:Int)-1):=by
 unfold Xz inB
 by_cases h0:0<=i<;>by_cases h1:i<n
 ·rw [decide_eq_true h0,decide_eq_true h1,decide_eq_true (show 0<=i/\i<=(n:Int)-1 by omega)];rfl
 ·rw [decide_eq_true h0,decide_eq_false h1,decide_eq_false (show ¬ (0<=i/\i<=(n:Int)-1) by omega)];rfl
 ·rw [decide_eq_false h0,decide_eq_false (show ¬ (0<=i/\i<=(n:Int)-1) by omega)];rfl
 ·rw [decide_eq_false h0,decide_eq_false (show ¬ (0<=i/\i<=(n:Int)-1) by omega)];rfl
theorem PE (m:Z4):Wr m=YO m:=by
 have e1:WO m m.smiths.length=(YA ZH m.smiths m.smiths.length && (YA (XH m.guilds.length) m.smiths m.smiths.length && YA (XA m.desks) m.smiths m.smiths.length)):=by
  rw [Rl,Rl]
  exact (K6 m.smiths (FT m) m.smiths.length).symm
 have e2:Wj m.paces m.rooms=(decide (m.paces.length=m.rooms.length) && WN m m.paces.length):=by
  unfold Wj WN
  congr 2
  funext j
  unfold WI
  exact Ns _ _
 have e3:decide (0<(ZX (fun d:Yl=>d.1) m.desks m.desks.length).length)=U7 m m.desks.length:=Ri _ _ _
 unfold Wr Sh YO YY UT S7
 rw [e1,e2,e3]
 have e4:YA Wz m.desks m.desks.length=Wl m m.desks.length:=rfl
 rw [e4]
 generalize Zb m.rooms=x1
 generalize Zw m.guilds=x2
 generalize decide (m.smiths.length<=12)=x3
 generalize YA ZH m.smiths m.smiths.length=x4
 generalize YA (XH m.guilds.length) m.smiths m.smiths.length=x5
 generalize decide ((m.desks.length:Int)=ZZ m.rooms)=x6
 generalize Wl m m.desks.length=x7
 generalize U7 m m.desks.length=x8
 generalize decide (m.paces.length=m.rooms.length)=x9
 generalize WN m m.paces.length=x10
 generalize inB m.now 0 1000000=x11
 generalize YA (XA m.desks) m.smiths m.smiths.length=x12
 rw [Bool.eq_iff_iff]
 simp only [Bool.and_eq_true]
 constructor
 ·rintro ⟨⟨a1,a2,⟨a3,a4,a5⟩,⟨a6,a7,a8⟩,⟨a9,a10⟩,a11⟩,a12⟩
  exact ⟨⟨a1,a2,a3,a6,a9,a11⟩,a7,a10,⟨a4,a5,a12⟩,a8⟩
 ·rintro ⟨⟨a1,a2,a3,a6,a9,a11⟩,a7,a10,⟨a4,a5,a12⟩,a8⟩
  exact ⟨⟨a1,a2,⟨a3,a4,a5⟩,⟨a6,a7,a8⟩,⟨a9,a10⟩,a11⟩,a12⟩
theorem Gi (m:Z4):Gh m=ZO m:=by
 unfold Gh ZO Ss
 rw [PE,show V0 m=YE m from funext (Ov m)]
def Wk (ss:List Z3) (ps:List Int):List Z5:=ps.foldl (fun q i=>VK q (Xo (Z8 ss i.toNat),i)) []
theorem Sk (ss:List Z3) (ps:List Int) (i:Int):Wk ss (ps++[i])=VK (Wk ss ps) (Xo (Z8 ss i.toNat),i):=by unfold Wk;rw [List.foldl_append];rfl
theorem SK (ss:List Z3) (b:Int):∀ k,Wk ss (ZX (atB b) ss k)=atV ss b k
 | 0=>rfl
 | k+1=>by
  have ih:=SK ss b k
  by_cases hat:(Z8 ss k).2.1=b/\ZR (Z8 ss k)=true
  ·have hA:atB b (Z8 ss k)=true:=by
    have h2:=hat.2
    unfold ZR at h2
    unfold atB
    rw [h2,hat.1];simp
   rw [YQ hA,Sk,ih,Ue hat.1 hat.2]
   rfl
  ·have hA:atB b (Z8 ss k)=false:=by
    cases hc:atB b (Z8 ss k)
    ·rfl
    ·exfalso
     apply hat
     unfold atB at hc
     simp only [Bool.and_eq_true,beq_iff_eq] at hc
     exact ⟨hc.2,by unfold ZR;exact hc.1⟩
   rw [Yo hA,Sz hat,ih]
theorem Sq {ps:List Int} {k:Nat} (h:k<ps.length):ps.take (k+1)=ps.take k++[Z8 ps k]:=by
 unfold Z8
 rw [List.take_add_one,List.getD,List.getElem?_eq_getElem h];rfl
theorem K8 (h:Loose m) (b:Int) (k:Nat) (hk:k<=m.smiths.length):Yv (atV m.smiths b k)=true:=by
 have hd:=h.head
 unfold YY at hd
 simp only [Bool.and_eq_true,decide_eq_true_eq] at hd
 have hl:=U9 m.smiths b k
 have h12:=hd.2.2.1
 refine Kj ⟨by omega,fun p hp=> ?_,?_,Tk _ _ _⟩
 ·obtain ⟨i,hi,h1,h2,rfl⟩:=(Yk m.smiths b p k).1 hp
  have:=Tl (h.at (i:=i) (by omega) h2).2.2.2.2
  unfold SC
  rw [Zs (by omega) (by omega),Zs (by omega) (by show (i:Int)<=99;omega)];rfl
 ·refine ((Qn m.smiths b k).and (Tk m.smiths b k)).imp fun {x y} hxy=> ?_
  have h1:=hxy.1
  have h2:=hxy.2
  rw [Oa] at h1
  rw [FK]
  omega
theorem Rj {α:Type} [Inhabited α] (p:α->Bool) (xs:List α):∀ n k:Nat,∃ j,j<=n/\(ZX p xs n).take k=ZX p xs j
 | 0,k=>⟨0,Nat.le_refl _,by simp [ZX]⟩
 | n+1,k=>by
  obtain ⟨j,hj,e⟩:=Rj p xs n k
  cases h:p (Z8 xs n)
  ·rw [Yo h];exact ⟨j,by omega,e⟩
  ·rw [YQ h]
   by_cases hk:k<=(ZX p xs n).length
   ·rw [List.take_append_of_le_length hk];exact ⟨j,by omega,e⟩
   ·refine ⟨n+1,Nat.le_refl _,?_⟩
    rw [YQ h,List.take_of_length_le (by simp;omega)]
theorem Kh (h:Loose m) (b:Int) (k:Nat):Yv (Wk m.smiths ((ZX (atB b) m.smiths m.smiths.length).take k))=true:=by
 obtain ⟨j,hj,e⟩:=Rj (atB b) m.smiths m.smiths.length k
 rw [e,SK]
 exact K8 h b j hj
set_option maxHeartbeats 1000000 in
theorem Rd (x0 x1 x2 x3 x4 x5 x6 x7 x8 x9 x10 y0 y1 y2 y3 y4 y5 y6 y7 y8 y9 y10:Int) (w:World):(Op.equalIn 10000 41 (.agg #[.int .i64 x0,.int .i64 x1,.int .i64 x2,.int .i64 x3,.int .i64 x4,.int .i64 x5,.int .i64 x6,.int .i64 x7,.int .i64 x8,.int .i64 x9,.int .i64 x10]) (.agg #[.int .i64 y0,.int .i64 y1,.int .i64 y2,.int .i64 y3,.int .i64 y4,.int .i64 y5,.int .i64 y6,.int .i64 y7,.int .i64 y8,.int .i64 y9,.int .i64 y10])).run Tryz.prog w= .ok (US (x0,x1,x2,x3,x4,x5,x6,x7,x8,x9,x10) (y0,y1,y2,y3,y4,y5,y6,y7,y8,y9,y10)) w:=by
 have u:=Tryz.underlying2
 have a:=Tryz.isAgg2
 have z:=Tryz.sizeOf2
 have hS:Tryz.prog.underlying 41=some (.struct (Tryz.prog.fieldsOf 41)):=by kernel_rfl
 have hp:Tryz.prog.stoodInHeld 41=false:=by kernel_rfl
 rw [show (10000:Nat)=9999+1 from rfl,run_equalIn_agg w 9999 41 _ _ hS hp]
 simp only [Program.fieldsOf,Tryz.underlying41]
 go_simp
 unfold US
 by_cases h0:x0=y0
 rotate_left
 ·simp [h0]
 subst h0
 by_cases h1:x1=y1
 rotate_left
 ·simp [h1]
 subst h1
 by_cases h2:x2=y2
 rotate_left
 ·simp [h2]
 subst h2
 by_cases h3:x3=y3
 rotate_left
 ·simp [h3]
 subst h3
 by_cases h4:x4=y4
 rotate_left
 ·simp [h4]
 subst h4
 by_cases h5:x5=y5
 rotate_left
 ·simp [h5]
 subst h5
 by_cases h6:x6=y6
 rotate_left
 ·simp [h6]
 subst h6
 by_cases h7:x7=y7
 rotate_left
 ·simp [h7]
 subst h7
 by_cases h8:x8=y8
 rotate_left
 ·simp [h8]
 subst h8
 by_cases h9:x9=y9
 rotate_left
 ·simp [h9]
 subst h9
 by_cases h10:x10=y10
 rotate_left
 ·simp [h10]
 subst h10
 simp
theorem On (x0 x1 x2 x3 x4 x5 x6 x7 x8 x9 x10 y0 y1 y2 y3 y4 y5 y6 y7 y8 y9 y10:Int) (w:World):(binOp .eql 41 (.agg #[.int .i64 x0,.int .i64 x1,.int .i64 x2,.int .i64 x3,.int .i64 x4,.int .i64 x5,.int .i64 x6,.int .i64 x7,.int .i64 x8,.int .i64 x9,.int .i64 x10]) (.agg #[.int .i64 y0,.int .i64 y1,.int .i64 y2,.int .i64 y3,.int .i64 y4,.int .i64 y5,.int .i64 y6,.int .i64 y7,.int .i64 y8,.int .i64 y9,.int .i64 y10])).run Tryz.prog w= .ok (.bool (US (x0,x1,x2,x3,x4,x5,x6,x7,x8,x9,x10) (y0,y1,y2,y3,y4,y5,y6,y7,y8,y9,y10))) w:=by
 rw [run_eql_struct,Rd];rfl
theorem Oo (x0 x1 x2 x3 x4 x5 x6 x7 x8 x9 x10 y0 y1 y2 y3 y4 y5 y6 y7 y8 y9 y10:Int) (w:World):(binOp .neq 41 (.agg #[.int .i64 x0,.int .i64 x1,.int .i64 x2,.int .i64 x3,.int .i64 x4,.int .i64 x5,.int .i64 x6,.int .i64 x7,.int .i64 x8,.int .i64 x9,.int .i64 x10]) (.agg #[.int .i64 y0,.int .i64 y1,.int .i64 y2,.int .i64 y3,.int .i64 y4,.int .i64 y5,.int .i64 y6,.int .i64 y7,.int .i64 y8,.int .i64 y9,.int .i64 y10])).run Tryz.prog w= .ok (.bool (!US (x0,x1,x2,x3,x4,x5,x6,x7,x8,x9,x10) (y0,y1,y2,y3,y4,y5,y6,y7,y8,y9,y10))) w:=by
 rw [run_neq_struct,Rd];rfl
theorem Ty {r x:Int} (h:Zt r=x) (w:World):Calls Tryz.prog 244 #[.int .i64 r] w fun e w'=>e= .returned (.int .i64 x)/\w'=w:=by
 have:=Rw r w;rw [h] at this;exact this
theorem Y4 {r x:Int} (h:Zt r=x) (w:World):Calls Tryz.prog 138 #[.int .i64 r] w fun e w'=>e= .returned (.int .i64 x)/\w'=w:=by
 have:=RJ r w;rw [h] at this;exact this
open Go.ChangeShapes Go.WideShapes Go.ChangeAt Go.RowKit
def UW (s:Int):Nat->List Int
 | 0=>[]
 | k+1=>if SI s k=true then UW s k++[(k:Int)] else UW s k
def L8 (s:Int):List Int:=UW s 8
def WA (s:Int):Int:=(L8 s).headD (-1)
theorem Su {s:Int} {k:Nat} (h:SI s k=true):UW s (k+1)=UW s k++[(k:Int)]:=by simp [UW,h]
theorem Th {s:Int} {k:Nat} (h:SI s k=false):UW s (k+1)=UW s k:=by simp [UW,h]
theorem MP (s:Int):∀ k,(UW s k).length<=k
 | 0=>by simp [UW]
 | k+1=>by
  have:=MP s k
  cases h:SI s k
  ·rw [Th h];omega
  ·rw [Su h];simp;omega
theorem Ox {s:Int} (h:inB s 0 255=false):∀ k,UW s k=[]
 | 0=>rfl
 | k+1=>by rw [Th (J7 (.inl h))];exact Ox h k
theorem Gv (s:Int):∀ k,k<=8->UW s k <+: L8 s:=by
 have step:∀ k,UW s k <+: UW s (k+1):=fun k=>by
  cases h:SI s k
  ·rw [Th h];exact List.prefix_refl _
  ·rw [Su h];exact List.prefix_append _ _
 have go:∀ d k,UW s k <+: UW s (k+d):=by
  intro d
  induction d with
  | zero=>intro k;exact List.prefix_refl _
  | succ d ih=>intro k;exact (ih k).trans (step (k+d))
 intro k hk
 have:=go (8-k) k
 rwa [show k+(8-k)=8 by omega] at this
end Go.Proofs.YthbbahagpmdooaaGreat
