/- Part 7 of what the proof rests on. No condition but those that a theorem names. -/
import Derived.Test.YtaegckehjlkaaaaGreatXc06
set_option maxHeartbeats 8000000
set_option maxRecDepth 100000
namespace Go.Proofs.YtaegckehjlkaaaaGreat
open Go.ChangeShapes Go.WideShapes Go.ChangeAt Go.RowKit Go.Sort
set_option linter.unusedVariables false
variable {w w' w0 w1 w2 w3 w₀ wr W W' X A B C : World} {v v0 v1 v2 v3 v4 u u0 u1 u2 u3 u4 : Value} {m : Z6}
def stS (s:Z5) (st:Int):Z5:=(st,s.2)
def Zv (ss:List Z5) (q:List Z1):List Z5:=q.foldl (fun ss e=>ss.set e.2.toNat (stS (Z8 ss e.2.toNat) 2)) ss
theorem MF (ss:List Z5) (q:List Z1) (e:Z1):Zv ss (q++[e])=(Zv ss q).set e.2.toNat (stS (Z8 (Zv ss q) e.2.toNat) 2):=by
  unfold Zv;rw [List.foldl_append];rfl
theorem UN (q:List Z1):∀ ss:List Z5,(Zv ss q).length=ss.length:=by
  induction q with
  | nil=>intro ss;rfl
  | cons e q ih=>intro ss;show (Zv (ss.set e.2.toNat (stS (Z8 ss e.2.toNat) 2)) q).length=_;rw [ih,List.length_set]
theorem Jz (q:List Z1):∀ (ss:List Z5) (i:Nat),(∀ e ∈ q,0<=e.2/\e.2<ss.length)->((∃ e ∈ q,e.2=(i:Int))->Z8 (Zv ss q) i=stS (Z8 ss i) 2)/\((∀ e ∈ q,e.2 ≠ (i:Int))->Z8 (Zv ss q) i=Z8 ss i):=by
  induction q with
  | nil=>
    intro ss i h
    exact ⟨fun ⟨e,he,_⟩=>(List.not_mem_nil he).elim,fun _=>rfl⟩
  | cons e q ih=>
    intro ss i h
    obtain ⟨e0,e1⟩:=h e (by simp)
    have hs:=ZF (x:=stS (Z8 ss e.2.toNat) 2) (show e.2.toNat<ss.length by omega) i
    obtain ⟨i1,i2⟩:=ih (ss.set e.2.toNat (stS (Z8 ss e.2.toNat) 2)) i (fun x hx=>by rw [List.length_set];exact h x (List.mem_cons_of_mem _ hx))
    show ((∃ x ∈ e::q,x.2=(i:Int))->Z8 (Zv (ss.set e.2.toNat (stS (Z8 ss e.2.toNat) 2)) q) i=_)/\((∀ x ∈ e::q,x.2 ≠ (i:Int))->Z8 (Zv (ss.set e.2.toNat (stS (Z8 ss e.2.toNat) 2)) q) i=_)
    constructor
    · rintro ⟨x,hx,hxi⟩
      by_cases hq:∃ y ∈ q,y.2=(i:Int)
      · rw [i1 hq,hs]
        split
        · rename_i he;rw [he];rfl
        · rfl
      · rw [i2 (fun y hy e=>hq ⟨y,hy,e⟩),hs]
        rcases List.mem_cons.1 hx with rfl | hx
        · rw [if_pos (by omega)]
          rw [show x.2.toNat=i by omega]
        · exact absurd ⟨x,hx,hxi⟩ hq
    · intro hn
      rw [i2 (fun y hy=>hn y (List.mem_cons_of_mem _ hy)),hs,if_neg]
      have:=hn e (by simp)
      omega
def Wm (ss:List Z5) (b:Int) (d:XZ):XZ:=match atV ss b ss.length with
  | []=>(d.1,-1,d.2.2)
  | e::_=>(d.1,e.2,YN d.2.2 e.1)
def WM (m:Z6) (b:Nat):Z6:=match atV m.smiths b m.smiths.length with
  | []=>{ m with desks:=m.desks.set b ((Z8 m.desks b).1,-1,(Z8 m.desks b).2.2) }
  | e::t=>{ m with smiths:=(Zv m.smiths (e::t)).set e.2.toNat (stS (Z8 (Zv m.smiths (e::t)) e.2.toNat) 3),desks:=m.desks.set b ((Z8 m.desks b).1,e.2,YN (Z8 m.desks b).2.2 e.1) }
def XY (m:Z6):Nat->Z6
  | 0=>m
  | k+1=>WM (XY m k) k
def ZO (m:Z6):Z6:=XY m m.desks.length
theorem Jq (m:Z6) (b:Nat):(WM m b).rooms=m.rooms/\(WM m b).guilds=m.guilds/\(WM m b).paces=m.paces/\(WM m b).now=m.now/\(WM m b).smiths.length=m.smiths.length/\(WM m b).desks.length=m.desks.length:=by
  unfold WM
  split
  · simp
  · simp [UN]
theorem ZK (m:Z6):∀ k,(XY m k).rooms=m.rooms/\(XY m k).guilds=m.guilds/\(XY m k).paces=m.paces/\(XY m k).now=m.now/\(XY m k).smiths.length=m.smiths.length/\(XY m k).desks.length=m.desks.length
  | 0=>⟨rfl,rfl,rfl,rfl,rfl,rfl⟩
  | k+1=>by
    obtain ⟨h1,h2,h3,h4,h5,h6⟩:=ZK m k
    obtain ⟨g1,g2,g3,g4,g5,g6⟩:=Jq (XY m k) k
    exact ⟨g1.trans h1,g2.trans h2,g3.trans h3,g4.trans h4,g5.trans h5,g6.trans h6⟩
theorem Qh (m : Z6) (b : Nat) {i : Nat} (hi : i < m.smiths.length) : Z8 (WM m b).smiths i = if (Z8 m.smiths i).2.1 = (b : Int) ∧ ZP (Z8 m.smiths i) = true then stS (Z8 m.smiths i) (if WE m.smiths b = (i : Int) then 3 else 2) else Z8 m.smiths i := by
  have hq := Xs m.smiths (b : Int)
  have hf : WE m.smiths (b : Int) = match atV m.smiths (b : Int) m.smiths.length with
    | [] => -1
    | h :: _ => h.2 := rfl
  unfold WM
  split
  · rename_i h0
    rw [if_neg]
    intro hp
    have := (hq (V7 (Z8 m.smiths i), (i : Int)) m.smiths.length).2 ⟨i, hi, hp.1, hp.2, rfl⟩
    rw [h0] at this
    exact List.not_mem_nil this
  · rename_i e t h0
    rw [h0] at hf
    simp only at hf
    have hin : ∀ x ∈ e :: t, 0 ≤ x.2 ∧ x.2 < m.smiths.length := by
      intro x hx
      rw [← h0] at hx
      obtain ⟨j, hj, _, _, rfl⟩ := (hq x _).1 hx
      exact ⟨by show (0 : Int) ≤ (j : Int); omega, by show (j : Int) < _; omega⟩
    obtain ⟨w1, w2⟩ := Jz (e :: t) m.smiths i hin
    obtain ⟨e0, e1⟩ := hin e (by simp)
    show Z8 ((Zv m.smiths (e :: t)).set e.2.toNat _) i = _
    rw [ZF (by rw [UN]; omega)]
    by_cases hp : (Z8 m.smiths i).2.1 = (b : Int) ∧ ZP (Z8 m.smiths i) = true
    · have hmem : (V7 (Z8 m.smiths i), (i : Int)) ∈ e :: t := by rw [← h0]; exact (hq _ _).2 ⟨i, hi, hp.1, hp.2, rfl⟩
      rw [if_pos hp, hf]
      by_cases hie : i = e.2.toNat
      · rw [if_pos hie, if_pos (by omega), ← hie, w1 ⟨_, hmem, rfl⟩]
        rfl
      · rw [if_neg hie, if_neg (by omega), w1 ⟨_, hmem, rfl⟩]
    · have hnm : ∀ x ∈ e :: t, x.2 ≠ (i : Int) := by
        intro x hx hxi
        rw [← h0] at hx
        obtain ⟨j, hj, j1, j2, rfl⟩ := (hq x _).1 hx
        have : j = i := by have : (j : Int) = (i : Int) := hxi
                           omega
        subst this
        exact hp ⟨j1, j2⟩
      rw [if_neg hp, if_neg (by have := hnm e (by simp); omega), w2 hnm]
theorem Jp (m:Z6) {b:Nat} (hb:b<m.desks.length) (j:Nat):Z8 (WM m b).desks j=if j=b then Wm m.smiths b (Z8 m.desks b) else Z8 m.desks j:=by
  have hf:Wm m.smiths (b:Int) (Z8 m.desks b)=match atV m.smiths (b:Int) m.smiths.length with
    | []=>((Z8 m.desks b).1,-1,(Z8 m.desks b).2.2)
    | e::_=>((Z8 m.desks b).1,e.2,YN (Z8 m.desks b).2.2 e.1):=rfl
  unfold WM
  split
  · rename_i h0
    rw [h0] at hf
    rw [hf,<-ZF hb]
  · rename_i e t h0
    rw [h0] at hf
    rw [hf,<-ZF hb]
theorem Lw (m:Z6) (b:Nat):Alike m.smiths (WM m b).smiths m.smiths.length:=by
  intro i hi
  rw [Qh m b hi]
  split
  · rename_i hp
    refine ⟨rfl,?_,rfl⟩
    rw [hp.2]
    split<;>rfl
  · exact ⟨rfl,rfl,rfl⟩
theorem Alike.trans {a b c:List Z5} {k:Nat} (h:Alike a b k) (g:Alike b c k):Alike a c k:=fun i hi=>⟨(g i hi).1.trans (h i hi).1,(g i hi).2.1.trans (h i hi).2.1,(g i hi).2.2.trans (h i hi).2.2⟩
theorem WB (m:Z6):∀ k,Alike m.smiths (XY m k).smiths m.smiths.length
  | 0=>fun _ _=>⟨rfl,rfl,rfl⟩
  | k+1=>by
    have h:=Lw (XY m k) k
    rw [(ZK m k).2.2.2.2.1] at h
    exact (WB m k).trans h
theorem Q2 (m:Z6) (k:Nat) (b:Int):atV (XY m k).smiths b (XY m k).smiths.length=atV m.smiths b m.smiths.length:=by
  rw [(ZK m k).2.2.2.2.1]
  exact MM b _ (WB m k)
theorem Lx (m:Z6) (k:Nat) (b:Int):WE (XY m k).smiths b=WE m.smiths b:=by unfold WE;rw [Q2]
theorem NY (m:Z6) (k:Nat) (b:Int) (d:XZ):Wm (XY m k).smiths b d=Wm m.smiths b d:=by unfold Wm;rw [Q2]
theorem VN (m:Z6) {i:Nat} (hi:i<m.smiths.length):∀ k:Nat,Z8 (XY m k).smiths i=if (0<=(Z8 m.smiths i).2.1/\(Z8 m.smiths i).2.1<(k:Int))/\ZP (Z8 m.smiths i)=true then stS (Z8 m.smiths i) (if WE m.smiths (Z8 m.smiths i).2.1=(i:Int) then 3 else 2) else Z8 m.smiths i
  | 0=>by rw [if_neg (by omega)];rfl
  | k+1=>by
    have ih:=VN m hi k
    have ha:=WB m k i hi
    show Z8 (WM (XY m k) k).smiths i=_
    rw [Qh _ _ (by rw [(ZK m k).2.2.2.2.1];exact hi),ha.1,ha.2.1,Lx]
    by_cases hp:ZP (Z8 m.smiths i)=true
    · by_cases hb:(Z8 m.smiths i).2.1=(k:Int)
      · have hc:(0<=(Z8 m.smiths i).2.1/\(Z8 m.smiths i).2.1<((k+1:Nat):Int))/\ZP (Z8 m.smiths i)=true:=⟨by omega,hp⟩
        rw [if_pos ⟨hb,hp⟩,if_pos hc,ih,if_neg (by omega),hb]
      · rw [if_neg (fun h=>hb h.1),ih]
        by_cases hk:0<=(Z8 m.smiths i).2.1/\(Z8 m.smiths i).2.1<(k:Int)
        · have hc:(0<=(Z8 m.smiths i).2.1/\(Z8 m.smiths i).2.1<((k+1:Nat):Int))/\ZP (Z8 m.smiths i)=true:=⟨by omega,hp⟩
          rw [if_pos ⟨hk,hp⟩,if_pos hc]
        · rw [if_neg (fun h=>hk h.1),if_neg (fun h=>hk (by omega))]
    · rw [if_neg (fun h=>hp h.2),ih,if_neg (fun h=>hp h.2),if_neg (fun h=>hp h.2)]
theorem TS (m:Z6) (j:Nat):∀ k:Nat,k<=m.desks.length->Z8 (XY m k).desks j=if j<k then Wm m.smiths j (Z8 m.desks j) else Z8 m.desks j
  | 0,_=>by rw [if_neg (by omega)];rfl
  | k+1,hk=>by
    have ih:=TS m j k (by omega)
    show Z8 (WM (XY m k) k).desks j=_
    rw [Jp _ (by rw [(ZK m k).2.2.2.2.2];omega)]
    by_cases hjk:j=k
    · subst hjk
      rw [if_pos rfl,if_pos (by omega),NY,ih,if_neg (by omega)]
    · rw [if_neg hjk,ih]
      by_cases h:j<k
      · rw [if_pos h,if_pos (by omega)]
      · rw [if_neg h,if_neg (by omega)]
structure Loose (m:Z6):Prop where
  head:YG m=true
  desk:∀ j,j<m.desks.length->V6 (Z8 m.desks j)=true
  pace:∀ j,j<m.paces.length->Wj m j=true
  here:∀ i,i<m.smiths.length->Yf m (Z8 m.smiths i)=true
  seat:∀ i,i<m.smiths.length->XX m (Z8 m.smiths i)=true
  openD:∃ j,j<m.desks.length/\(Z8 m.desks j).1=true
theorem OM (h:YB m=true):Loose m:=by
  unfold YB VV Wn Wo Uy at h
  simp only [Bool.and_eq_true] at h
  obtain ⟨h1,h2,h3,h4,h5⟩:=h
  have h4':=fun i hi=>LU h4 (k:=i) hi
  simp only [Bool.and_eq_true] at h4'
  obtain ⟨j,hj,ho⟩:=List.any_eq_true.1 h5
  exact ⟨h1,fun j hj=>LU h2 hj,fun j hj=>LU h3 hj,fun i hi=>(h4' i hi).1,fun i hi=>(h4' i hi).2,j,List.mem_range.1 hj,ho⟩
theorem Loose.mk' (h:Loose m):YB m=true:=by
  unfold YB VV Wn Wo Uy
  simp only [Bool.and_eq_true]
  refine ⟨h.head,?_,?_,?_,?_⟩
  · exact List.all_eq_true.2 fun j hj=>h.desk j (List.mem_range.1 hj)
  · exact List.all_eq_true.2 fun j hj=>h.pace j (List.mem_range.1 hj)
  · exact List.all_eq_true.2 fun j hj=>by rw [h.here j (List.mem_range.1 hj),h.seat j (List.mem_range.1 hj)];rfl
  · obtain ⟨j,hj,ho⟩:=h.openD
    exact List.any_eq_true.2 ⟨j,List.mem_range.2 hj,ho⟩
theorem Loose.at (h:Loose m) {i:Nat} (hi:i<m.smiths.length) (hp:ZP (Z8 m.smiths i)=true):0<=(Z8 m.smiths i).2.1/\(Z8 m.smiths i).2.1<m.desks.length/\(Z8 m.desks (Z8 m.smiths i).2.1.toNat).1=true/\Wu (Z8 m.smiths i).2.2.2.1 (Z8 m.smiths i).2.1=true/\WV (V7 (Z8 m.smiths i)) (Z8 m.desks (Z8 m.smiths i).2.1.toNat).2.2=true:=by
  obtain ⟨b0,b1,_⟩:=Ks (h.here i hi) hp
  have hs:=h.seat i hi
  unfold XX at hs
  rw [hp] at hs
  simp only [Bool.not_true,Bool.false_or,Bool.and_eq_true] at hs
  exact ⟨b0,b1,hs.1,hs.2.1,hs.2.2⟩
theorem Rc {had Xw:Int} (h:WV had Xw=true) : -1000000000000<=had/\had<=1000000000000/\ -1000000000000<=Xw/\Xw<=1000000000000/\ -20000<=had-Xw/\had-Xw<=63000:=by
  unfold WV at h
  simp only [Bool.and_eq_true] at h
  have h1:=ZV h.1
  have h2:=ZV h.2.1
  have h3:=ZV h.2.2
  omega
theorem L1 {had Xw:Int} (h0 : -1000000000000<=had) (h1:had<=1000000000000) (h2 : -1000000000000<=Xw) (h3:Xw<=1000000000000) (h4 : -20000<=had-Xw) (h5:had-Xw<=63000):WV had Xw=true:=by
  unfold WV;rw [Zq h0 h1,Zq h2 h3,Zq h4 h5];rfl
theorem Rj {d:XZ} (h:V6 d=true) : -900000000000<=d.2.2/\d.2.2<=900000000000:=ZV h
theorem F5 {s:Z5} {st:Int} (h:ZD s=true) (hp:ZP s=true) (h0:1<=st) (h1:st<=3):ZD (stS s st)=true:=by
  obtain ⟨x0,be,rk,my,gu,lo,hi,hd,ca,ut,wk⟩:=s
  have hx:x0 ≠ 0:=by intro e;subst e;cases hp
  unfold ZD at h ⊢
  rw [SG (x:=(x0,be,rk,my,gu,lo,hi,hd,ca,ut,wk)) hx,Bool.false_or] at h
  unfold YY at h
  simp only [Bool.and_eq_true] at h
  obtain ⟨g0,g⟩:=h
  have:YY (stS (x0,be,rk,my,gu,lo,hi,hd,ca,ut,wk) st)=true:=by
    unfold YY stS
    simp only [Bool.and_eq_true]
    exact ⟨Zq h0 h1,g⟩
  rw [this,Bool.or_true]
theorem Kt {s:Z5} {st:Int} (h:Yf m s=true) (hp:ZP s=true) (h0:1<=st) (h1:st<=3):Yf m (stS s st)=true:=by
  unfold Yf at h ⊢
  simp only [Bool.and_eq_true,Bool.or_eq_true] at h ⊢
  refine ⟨F5 h.1 hp h0 h1,.inr ?_⟩
  rcases h.2 with e | e
  · have:s.1=0:=by simpa using e
    unfold ZP at hp
    rw [this] at hp
    cases hp
  · exact e
theorem WC {m m':Z6} (hg:m'.guilds.length=m.guilds.length) (hd:m'.desks.length=m.desks.length) (s:Z5):Yf m' s=Yf m s:=by unfold Yf;rw [hg,hd]
theorem Jt (h:Loose m):Loose (ZO m):=by
  obtain ⟨e1,e2,e3,e4,e5,e6⟩:=ZK m m.desks.length
  have hd:=fun j=>TS m j m.desks.length (Nat.le_refl _)
  have hopen:∀ j,(Z8 (ZO m).desks j).1=(Z8 m.desks j).1:=by
    intro j
    unfold ZO
    rw [hd j]
    split
    · unfold Wm;split<;>rfl
    · rfl
  have hmark:∀ j,j<m.desks.length->(-900000000000<=(Z8 (ZO m).desks j).2.2/\(Z8 (ZO m).desks j).2.2<=900000000000)/\(Z8 m.desks j).2.2<=(Z8 (ZO m).desks j).2.2/\((Z8 (ZO m).desks j).2.2<=(Z8 m.desks j).2.2\/ ∀ i,i<m.smiths.length->(Z8 m.smiths i).2.1=(j:Int)->ZP (Z8 m.smiths i)=true->(Z8 (ZO m).desks j).2.2<=V7 (Z8 m.smiths i)):=by
    intro j hj
    obtain ⟨k0,k1⟩:=Rj (h.desk j hj)
    unfold ZO
    rw [hd j,if_pos hj]
    unfold Wm
    split
    · exact ⟨⟨k0,k1⟩,Int.le_refl _,.inl (Int.le_refl _)⟩
    · rename_i e t hq
      obtain ⟨_,i,hi,hib,hip,rfl⟩:=Rm hq
      obtain ⟨_,_,_,_,hband⟩:=h.at hi hip
      obtain ⟨a0,a1,_⟩:=Rc hband
      have hm:=FH (m:=(Z8 m.desks j).2.2) (f:=V7 (Z8 m.smiths i)) (by omega) (by omega) a0 a1
      show (-900000000000<=YN _ _/\YN _ _<=900000000000)/\_<=YN _ _/\(YN _ _<=_\/_)
      rw [hm]
      refine ⟨by omega,by omega,?_⟩
      by_cases hc:V7 (Z8 m.smiths i)<=(Z8 m.desks j).2.2
      · left;omega
      · right
        intro i' hi' hb' hp'
        have:=J7 hq hi' hb' hp'
        simp only at this
        show min (max (Z8 m.desks j).2.2 (V7 (Z8 m.smiths i))) 900000000000<=_
        omega
  refine ⟨?_,?_,?_,?_,?_,?_⟩
  · have:=h.head
    unfold YG at this ⊢
    unfold ZO
    rw [e1,e2,e3,e4,e5,e6]
    exact this
  · intro j hj
    have hj':j<m.desks.length:=by unfold ZO at hj;omega
    exact Zq (hmark j hj').1.1 (hmark j hj').1.2
  · intro j hj
    have hj':j<m.paces.length:=by unfold ZO at hj;rw [e3] at hj;exact hj
    have:=h.pace j hj'
    unfold Wj at this ⊢
    unfold ZO
    rw [e1,e3]
    exact this
  · intro i hi
    have hi':i<m.smiths.length:=by unfold ZO at hi;omega
    rw [WC (m:=m) (by unfold ZO;rw [e2]) (by unfold ZO;rw [e6])]
    unfold ZO
    rw [VN m hi']
    split
    · rename_i hp
      exact Kt (h.here i hi') hp.2 (by split<;>omega) (by split<;>omega)
    · exact h.here i hi'
  · intro i hi
    have hi':i<m.smiths.length:=by unfold ZO at hi;omega
    have ha:=WB m m.desks.length i hi'
    unfold XX
    show (!ZP (Z8 (XY m m.desks.length).smiths i) || _)=true
    rw [ha.2.1]
    cases hp:ZP (Z8 m.smiths i)
    · rfl
    · obtain ⟨b0,b1,ho,hm,hband⟩:=h.at hi' hp
      obtain ⟨a0,a1,a2,a3,a4,a5⟩:=Rc hband
      obtain ⟨⟨q0,q1⟩,q2,q3⟩:=hmark (Z8 m.smiths i).2.1.toNat (by omega)
      have hmay:(Z8 (XY m m.desks.length).smiths i).2.2.2.1=(Z8 m.smiths i).2.2.2.1:=by
        rw [VN m hi'];split<;>rfl
      show (!true || ((Z8 (ZO m).desks (Z8 (XY m m.desks.length).smiths i).2.1.toNat).1 && (Wu (Z8 (XY m m.desks.length).smiths i).2.2.2.1 (Z8 (XY m m.desks.length).smiths i).2.1 && WV (V7 (Z8 (XY m m.desks.length).smiths i)) (Z8 (ZO m).desks (Z8 (XY m m.desks.length).smiths i).2.1.toNat).2.2)))=true
      rw [ha.1,ha.2.2,hmay,hopen,ho,hm]
      rw [L1 a0 a1 (by omega) (by omega) ?_ (by omega)]
      · rfl
      · rcases q3 with q3 | q3
        · omega
        · have:=q3 i hi' (by omega) hp
          omega
  · obtain ⟨j,hj,ho⟩:=h.openD
    exact ⟨j,by unfold ZO;omega,by rw [hopen];exact ho⟩
theorem Hj {ss : List Z5} {b f : Int} : ∀ k : Nat, (∀ i, i < k → (Z8 ss i).2.1 = b → ZP (Z8 ss i) = true → ((Z8 ss i).1 = 2 ∧ (i : Int) ≠ f) ∨ ((Z8 ss i).1 = 3 ∧ (i : Int) = f)) →
    ∃ wk wt, XS ss b k = some (wk, wt) ∧ ((wk = -1 ∧ ∀ i, i < k → (Z8 ss i).2.1 = b → ZP (Z8 ss i) = true → (i : Int) ≠ f) ∨ (wk = f ∧ ∃ i : Nat, i < k ∧ (Z8 ss i).2.1 = b ∧ ZP (Z8 ss i) = true ∧ (i : Int) = f)) ∧ (wt = true → ∃ i, i < k ∧ (Z8 ss i).2.1 = b ∧ ZP (Z8 ss i) = true)
  | 0, _ => ⟨-1, false, rfl, .inl ⟨rfl, fun i hi => by omega⟩, fun h => by cases h⟩
  | k + 1, h => by
    obtain ⟨wk, wt, hs, hw, ht⟩ := Hj k (fun i hi => h i (by omega))
    have hu : XS ss b (k + 1) = if (Z8 ss k).2.1 = b ∧ ZP (Z8 ss k) = true then (if (Z8 ss k).1 = 2 then some (wk, true) else if 0 ≤ wk then none else some ((k : Int), wt)) else some (wk, wt) := by
      show (match XS ss b k with
        | none => none
        | some (wk, wt) => _) = _
      rw [hs]
    rw [hu]
    by_cases hp : (Z8 ss k).2.1 = b ∧ ZP (Z8 ss k) = true
    · rw [if_pos hp]
      rcases h k (by omega) hp.1 hp.2 with ⟨h2, hne⟩ | ⟨h3, hkf⟩
      · rw [if_pos h2]
        refine ⟨wk, true, rfl, ?_, fun _ => ⟨k, by omega, hp.1, hp.2⟩⟩
        rcases hw with ⟨e, hn⟩ | ⟨e, i, hi, hb, hpi, hif⟩
        · refine .inl ⟨e, fun i hi hb hpi => ?_⟩
          by_cases hik : i = k
          · subst hik; exact hne
          · exact hn i (by omega) hb hpi
        · exact .inr ⟨e, i, by omega, hb, hpi, hif⟩
      · rw [if_neg (by omega)]
        have hw1 : wk = -1 := by
          rcases hw with ⟨e, _⟩ | ⟨e, i, hi, hb, hpi, hif⟩
          · exact e
          · omega
        rw [if_neg (by omega)]
        exact ⟨k, wt, rfl, .inr ⟨hkf, k, by omega, hp.1, hp.2, hkf⟩, fun e => by obtain ⟨i, hi, r⟩ := ht e; exact ⟨i, by omega, r⟩⟩
    · rw [if_neg hp]
      refine ⟨wk, wt, rfl, ?_, fun e => by obtain ⟨i, hi, r⟩ := ht e; exact ⟨i, by omega, r⟩⟩
      rcases hw with ⟨e, hn⟩ | ⟨e, i, hi, r⟩
      · refine .inl ⟨e, fun i hi hb hpi => ?_⟩
        by_cases hik : i = k
        · subst hik; exact absurd ⟨hb, hpi⟩ hp
        · exact hn i (by omega) hb hpi
      · exact .inr ⟨e, i, by omega, r⟩
theorem YM (h:Loose m):ZS (ZO m)=true:=by
  unfold ZS
  rw [Bool.and_eq_true]
  refine ⟨(Jt h).mk',?_⟩
  obtain ⟨e1,e2,e3,e4,e5,e6⟩:=ZK m m.desks.length
  refine List.all_eq_true.2 fun b hb=> ?_
  have hb:=List.mem_range.1 hb
  have hb':b<m.desks.length:=by unfold ZO at hb;omega
  have hn:(ZO m).smiths.length=m.smiths.length:=e5
  have ha:=WB m m.desks.length
  have hstate:∀ i,i<m.smiths.length->(Z8 (ZO m).smiths i).2.1=(b:Int)->ZP (Z8 (ZO m).smiths i)=true->((Z8 (ZO m).smiths i).1=2/\(i:Int) ≠ WE m.smiths b)\/((Z8 (ZO m).smiths i).1=3/\(i:Int)=WE m.smiths b):=by
    intro i hi hib hip
    have hib':(Z8 m.smiths i).2.1=(b:Int):=(ha i hi).1.symm.trans hib
    have hip':ZP (Z8 m.smiths i)=true:=(ha i hi).2.1.symm.trans hip
    unfold ZO
    rw [VN m hi,if_pos ⟨by omega,hip'⟩,hib']
    by_cases hf:WE m.smiths (b:Int)=(i:Int)
    · right;rw [if_pos hf];exact ⟨rfl,hf.symm⟩
    · left;rw [if_neg hf];exact ⟨rfl,fun e=>hf e.symm⟩
  obtain ⟨wk,wt,hs,hw,ht⟩:=Hj (b:=(b:Int)) (f:=WE m.smiths b) (ss:=(ZO m).smiths) m.smiths.length hstate
  unfold Yn
  rw [hn,hs]
  simp only
  have hdesk:=TS m b m.desks.length (Nat.le_refl _)
  rw [if_pos hb'] at hdesk
  cases hq:atV m.smiths (b:Int) m.smiths.length with
  | nil=>
    have hempty:∀ i,i<m.smiths.length-> ¬ ((Z8 (ZO m).smiths i).2.1=(b:Int)/\ZP (Z8 (ZO m).smiths i)=true):=by
      rintro i hi ⟨hib,hip⟩
      have:=(Xs m.smiths (b:Int) (V7 (Z8 m.smiths i),(i:Int)) m.smiths.length).2 ⟨i,hi,(ha i hi).1.symm.trans hib,(ha i hi).2.1.symm.trans hip,rfl⟩
      rw [hq] at this
      exact List.not_mem_nil this
    have hwt:wt=false:=by
      cases wt
      · rfl
      · obtain ⟨i,hi,r⟩:=ht rfl
        exact absurd r (hempty i hi)
    have hwk:wk= -1:=by
      rcases hw with ⟨e,_⟩ | ⟨_,i,hi,hb,hp,_⟩
      · exact e
      · exact absurd ⟨hb,hp⟩ (hempty i hi)
    have hwho:(Z8 (ZO m).desks b).2.1= -1:=by
      unfold ZO;rw [hdesk];unfold Wm;rw [hq]
    rw [hwho,hwk,hwt]
    rfl
  | cons e t=>
    obtain ⟨hfe,i,hi,hib,hip,rfl⟩:=Rm hq
    have hwho:(Z8 (ZO m).desks b).2.1=(i:Int):=by
      unfold ZO;rw [hdesk];unfold Wm;rw [hq]
    have hwk:wk=(i:Int):=by
      rcases hw with ⟨_,hn⟩ | ⟨e,_⟩
      · exact absurd hfe.symm (hn i hi ((ha i hi).1.trans hib) ((ha i hi).2.1.trans hip))
      · exact e.trans hfe
    rw [hwho,hwk]
    have:decide ((i:Int)<0)=false:=decide_eq_false (by omega)
    rw [this]
    simp
def XJ (rs:List Z3) (n:Int):Nat:=((List.range rs.length).find? fun r=>decide (n<Z4 (rs.take (r+1)))).getD 0
def YX (rs:List Z3) (n:Int):Bool:=Ze rs && inB n 0 (Z4 rs-1)
def Ng (rs:List Z3) (n:Int):Int:=if YX rs n=true then (XJ rs n:Int) else -1
def V1 (ps:List Z1):Int:=(ZY ps (ps.length-1)).1
def Zx (rs:List Z3) (n:Int):Int:=if YX rs n=true then V1 (ZU rs (XJ rs n)).2 else -1
theorem SY {rs:List Z3} {n:Int} {r:Nat} (hr:r<rs.length) (h:n<Z4 (rs.take (r+1))) (hl:∀ j,j<r->Z4 (rs.take (j+1))<=n):XJ rs n=r:=by
 unfold XJ
 have:(List.range rs.length).find? (fun r=>decide (n<Z4 (rs.take (r+1))))=some r:=by
  rw [List.find?_range_eq_some]
  refine ⟨by simpa using h,by simpa using hr,fun j hj=> ?_⟩
  have:=hl j hj
  simp;omega
 rw [this];rfl
theorem Xv {rs:List Z3} {n:Int} (h:YX rs n=true):Ze rs=true/\0<=n/\n<Z4 rs:=by
 unfold YX at h;simp only [Bool.and_eq_true] at h
 have:=ZV h.2
 exact ⟨h.1,by omega,by omega⟩
theorem MW {rs:List Z3} {n:Int} (h:Ze rs=true) (h0:0<=n) (h1:n<Z4 rs):YX rs n=true:=by
 unfold YX;rw [h,Zq (by omega) (by omega)];rfl
theorem OC {rs:List Z3} {n:Int} (h:Ze rs=false):YX rs n=false:=by unfold YX;rw [h];rfl
theorem OD {rs:List Z3} {n:Int} (h:n<0\/Z4 rs<=n):YX rs n=false:=by unfold YX;rw [W7 (by omega)];simp
theorem G6 {rs:List Z3} {n:Int} (h:YX rs n=true):Ng rs n=XJ rs n:=by unfold Ng;rw [if_pos h]
theorem Ms {rs:List Z3} {n:Int} (h:YX rs n=false):Ng rs n= -1:=by unfold Ng;rw [h];rfl
theorem UQ {rs:List Z3} {n:Int} (h:YX rs n=true):Zx rs n=V1 (ZU rs (XJ rs n)).2:=by unfold Zx;rw [if_pos h]
theorem Kc {rs:List Z3} {n:Int} (h:YX rs n=false):Zx rs n= -1:=by unfold Zx;rw [h];rfl
theorem Ve {rs:List Z3} {n:Int} (h:YX rs n=true) {r:Nat} (hr:r<=rs.length) (hl:∀ j,j<r->Z4 (rs.take (j+1))<=n):r<rs.length:=by
 rcases Nat.lt_or_ge r rs.length with h1 | h1
 ·exact h1
 ·obtain rfl:r=rs.length:=by omega
  have hb:=Xv h
  have h3:=Zs hb.1
  have:=hl (rs.length-1) (by omega)
  rw [show rs.length-1+1=rs.length by omega,Vi] at this
  omega
theorem XQ {rs:List Z3} (h:Ze rs=true) (k:Nat) (hk:k<=rs.length):0<=Z4 (rs.take k)/\Z4 (rs.take k)<=12:=by
 have h3:=Zs h
 have:=Sy h3.2.2.1 k hk
 omega
theorem RZ {rs:List Z3} {n:Int} (h:YX rs n=true):XJ rs n<rs.length:=by
 have key:∀ d r:Nat,r+d=rs.length->(∀ j,j<r->Z4 (rs.take (j+1))<=n)->XJ rs n<rs.length:=by
  intro d
  induction d with
  | zero=>intro r hr hl;have:=Ve h (by omega) hl;omega
  | succ d ih=>
   intro r hr hl
   have hlt:=Ve h (r:=r) (by omega) hl
   by_cases hc:n<Z4 (rs.take (r+1))
   ·rw [SY hlt hc hl];exact hlt
   ·exact ih (r+1) (by omega) (X8 hl (by omega))
 exact key rs.length 0 (by omega) (fun j hj=>by omega)
theorem SK  {rs:List Z3} (n:Int) (h:IsRooms w v rs) :
  Calls Tryz.prog 237 #[.agg #[v],.int .i64 n] w fun e w'=>e= .returned (.int .i64 (Ng rs n))/\Below w.heap.size w w':=by
 have Hv:=Z9 h
 obtain ⟨a,cap,rfl,hc,hm,hr⟩:=h
 clear hr
 by_cases h0:n<0
 ·have H1:=Z9 (Ms (OD (rs:=rs) (.inl h0)))
  go_enter Tryz.func237,Tryz.ntmps237
  go_wp2_with fail
  go_ret
  exact ⟨ZJ (uh H1).symm,(Below.refl _ _).alloc (Nat.le_refl _) _⟩
 by_cases h1:WX rs<=n
 ·have H1:Hid (Ng rs n= -1):=Z9 (Ms (by
   cases hh:Ze rs
   ·exact OC hh
   ·rw [UP hh] at h1;exact OD (.inr h1)))
  go_enter Tryz.func237,Tryz.ntmps237
  go_wp2_with fail
  refine (Wg ((uh Hv).alloc _)).mono ?_
  rintro e w1 ⟨rfl,hb⟩
  have Hb:=Z9 hb
  clear hb
  generalize WX rs=m at *
  go_wp2_with fail
  go_ret
  exact ⟨ZJ (uh H1).symm,((Below.refl _ _).alloc (Nat.le_refl _) _).trans ((uh Hb).mono (by simp))⟩
 have hh:Ze rs=true:=by
  cases hh:Ze rs
  ·rw [RP hh] at h1;omega
  ·rfl
 have H:Hid (YX rs n=true):=Z9 (MW hh (by omega) (by rw [UP hh] at h1;omega))
 have Hh:=Z9 hh
 clear hh
 go_enter Tryz.func237,Tryz.ntmps237
 go_wp2_with fail
 refine (Wg ((uh Hv).alloc _)).mono ?_
 rintro e w1 ⟨rfl,hb⟩
 have hsz:w.heap.size+1<=w1.heap.size:=by have:=hb.size;simpa using this
 have hbox:w1.cell? ⟨w.heap.size,0,none⟩=some (.slice a rs.length cap):=by rw [hb.cell (p:=⟨w.heap.size,0,none⟩) (by simp)];simp
 have B1:Hid (Below w.heap.size w w1):=Z9 (((Below.refl _ _).alloc (Nat.le_refl _) _).trans (hb.mono (by simp)))
 clear hb
 generalize WX rs=m at *
 go_wp2_with fail
 go_loopw [5] (fun i wr=> ∃ r:Nat,r<=rs.length/\i= .int .i64 r/\(∀ j,j<r->Z4 (rs.take (j+1))<=n)/\Below w1.heap.size w1 wr) (fun i _=>rs.length-(intOf i).toNat)
 case atStart=>exact ⟨0,Nat.zero_le _,rfl,fun j hj=>by omega,Below.refl _ _⟩
 case round=>
  obtain ⟨r,hr,rfl,hl,hb⟩:=hrel
  have hlt:=Ve (uh H) hr hl
  have hbox2:wr.cell? ⟨w.heap.size,0,none⟩=some (.slice a rs.length cap):=by rw [hb.cell (p:=⟨w.heap.size,0,none⟩) (by show w.heap.size<w1.heap.size;omega)];exact hbox
  have hz:=hb.size
  have hl3:rs.length<=3:=(Zs (uh Hh)).2.1
  have Hl:=Z9 hl
  have Hb:=Z9 hb
  have Hw:Hid (IsRooms wr (.slice a (r+1) cap) (rs.take (r+1))):=Z9 ((((uh Hv).below (uh B1)).below hb).taken (by omega))
  clear hl hb hbox
  go_wp2_with fail
  refine (WI (uh Hw) ((Vc (uh Hh)).taken _)).mono ?_
  rintro e w2 ⟨rfl,hb2⟩
  have hbd:=XQ (uh Hh) (r+1) (by omega)
  have Hb2:=Z9 hb2
  clear hb2
  by_cases hc2:n<Z4 (rs.take (r+1))
  ·have HN:=Z9 (SY hlt hc2 (uh Hl))
   generalize Z4 (rs.take (r+1))=s at *
   go_wp2_with fail
   go_ret
   exact ⟨ZJ (by rw [G6 (uh H),uh HN]),(uh B1).trans (((uh Hb).trans ((uh Hb2).mono hz)).mono (by omega))⟩
  ·have hle:Z4 (rs.take (r+1))<=n:=by omega
   have Hle:=Z9 (X8 (uh Hl) hle)
   generalize Z4 (rs.take (r+1))=s at *
   go_wp2_with fail
   go_roundw
   case rel=>exact ⟨r+1,by omega,by go_num,uh Hle,(uh Hb).trans ((uh Hb2).mono hz)⟩
   case measure=>simp [intOf];omega
open Go.ChangeShapes Go.WideShapes Go.ChangeAt Go.RowKit
def Yy (a b c:Int):Int:=if inB a 0 1000000000 && inB b 0 1000000000 && inB c 1 1000000000 then a*b / c else -1
def Rl (x:Int):Nat->Int->Int
 | 0,u=>u
 | n+1,u=>Rl x n ((31*u+x) / 32)
def ZN (u x n:Int):Int:=if inB u 0 1024 && inB x 0 1024 && inB n 0 1000 then Rl x n.toNat u else -1
theorem Gy {u x:Int} (h1:0<=u) (h2:u<=1024) (h3:0<=x) (h4:x<=1024):0<=(31*u+x) / 32/\(31*u+x) / 32<=1024:=by omega
theorem J6 (x:Int) (h3:0<=x) (h4:x<=1024):∀ (n:Nat) (u:Int),0<=u->u<=1024->0<=Rl x n u/\Rl x n u<=1024
 | 0,u,h1,h2=>⟨h1,h2⟩
 | n+1,u,h1,h2=>J6 x h3 h4 n _ (Gy h1 h2 h3 h4).1 (Gy h1 h2 h3 h4).2
theorem Ol (x:Int):∀ (n:Nat) (u:Int),Rl x (n+1) u=(31*Rl x n u+x) / 32
 | 0,u=>rfl
 | n+1,u=>Ol x n _
theorem Ea {a b:Int} (a0:0<=a) (a1:a<=1000000000) (b0:0<=b) (b1:b<=1000000000):0<=a*b/\a*b<=1000000000000000000:=by
 refine ⟨Int.mul_nonneg a0 b0,?_⟩
 have h:=Int.mul_le_mul a1 b1 b0 (by omega)
 omega
theorem ER {P:Prop} (a b c lo hi l1 h1 l2 h2:Int)
  (k1:inB a lo hi=false->P) (k2:inB a lo hi=true->inB b l1 h1=false->P) (k3:inB a lo hi=true->inB b l1 h1=true->inB c l2 h2=false->P)
  (k4:inB a lo hi=true->inB b l1 h1=true->inB c l2 h2=true->P):P:=by
 cases ha:inB a lo hi
 ·exact k1 ha
 ·cases hb:inB b l1 h1
  ·exact k2 ha hb
  ·cases hc:inB c l2 h2
   ·exact k3 ha hb hc
   ·exact k4 ha hb hc
theorem UD (x:Int) (w:World):Calls Tryz.prog 137 #[.int .i64 x] w fun e w'=>e= .returned (.bool (inB x 0 1024))/\w'=w:=by
 go_enter Tryz.func137,Tryz.ntmps137
 go_wp2_with (go_at_call 123;refine (Z0 _ _ _ _).mono ?_;rintro e w' ⟨rfl,rfl⟩)
 go_ret
 exact ⟨rfl,rfl⟩
theorem Pc (a b c:Int) (w:World):Calls Tryz.prog 296 #[.int .i64 a,.int .i64 b,.int .i64 c] w fun e w'=>e= .returned (.int .i64 (Yy a b c))/\w'=w:=by
 refine ER a b c 0 1000000000 0 1000000000 1 1000000000 ?_ ?_ ?_ ?_
 ·intro ha
  have hv:Yy a b c= -1:=by simp [Yy,ha]
  rw [hv];clear hv
  go_enter Tryz.func296,Tryz.ntmps296
  go_wp2_with (first | (go_at_call 309;refine (T6 _ _).mono ?_;rintro e w' ⟨rfl,rfl⟩) | (go_at_call 123;refine (Z0 _ _ _ _).mono ?_;rintro e w' ⟨rfl,rfl⟩))
  go_ret
  exact ⟨rfl,rfl⟩
 ·intro ha hb
  have hv:Yy a b c= -1:=by simp [Yy,hb]
  rw [hv];clear hv
  go_enter Tryz.func296,Tryz.ntmps296
  go_wp2_with (first | (go_at_call 309;refine (T6 _ _).mono ?_;rintro e w' ⟨rfl,rfl⟩) | (go_at_call 123;refine (Z0 _ _ _ _).mono ?_;rintro e w' ⟨rfl,rfl⟩))
  go_ret
  exact ⟨rfl,rfl⟩
 ·intro ha hb hc
  have hv:Yy a b c= -1:=by simp [Yy,hc]
  rw [hv];clear hv
  go_enter Tryz.func296,Tryz.ntmps296
  go_wp2_with (first | (go_at_call 309;refine (T6 _ _).mono ?_;rintro e w' ⟨rfl,rfl⟩) | (go_at_call 123;refine (Z0 _ _ _ _).mono ?_;rintro e w' ⟨rfl,rfl⟩))
  go_ret
  exact ⟨rfl,rfl⟩
 ·intro ha hb hc
  have hv:Yy a b c=a*b / c:=by simp [Yy,ha,hb,hc]
  rw [hv];clear hv
  obtain ⟨a0,a1⟩:=ZV ha
  obtain ⟨b0,b1⟩:=ZV hb
  obtain ⟨c0,c1⟩:=ZV hc
  obtain ⟨m0,m1⟩:=Ea a0 a1 b0 b1
  go_enter Tryz.func296,Tryz.ntmps296
  go_wp2_with (first | (go_at_call 309;refine (T6 _ _).mono ?_;rintro e w' ⟨rfl,rfl⟩) | (go_at_call 123;refine (Z0 _ _ _ _).mono ?_;rintro e w' ⟨rfl,rfl⟩))
  go_ret
  exact ⟨rfl,rfl⟩
theorem Cz {p:Int->Bool} (a b:Int) : [a,b].all p=(p a && p b):=by simp
theorem Cy {p:Int->Bool} (a:Int) : [a].all p=p a:=by simp
theorem CF (W:World) (a b:Int) (bk:Nat) (hb:bk=W.heap.size):∀ k,k < [a,b].length->(W.alloc (.cells #[.int .i64 a,.int .i64 b] 2)).cell? ⟨bk,k,none⟩=some (.int .i64 ([a,b].getD k 0)):=by
 intro k hk
 rw [World.cell?_alloc_at _ _ _ _ hb]
 match k,hk with
 | 0,_=>rfl
 | 1,_=>rfl
theorem CE (W:World) (a:Int) (bk:Nat) (hb:bk=W.heap.size):∀ k,k < [a].length->(W.alloc (.cells #[.int .i64 a] 2)).cell? ⟨bk,k,none⟩=some (.int .i64 ([a].getD k 0)):=by
 intro k hk
 rw [World.cell?_alloc_at _ _ _ _ hb]
 match k,hk with
 | 0,_=>rfl
theorem Vs (a b:Int) (W:World) (bk:Nat) (hb:bk=W.heap.size):Calls Tryz.prog 305 #[.func (Fn.func 306) #[] #[],.slice (some ⟨bk,0,none⟩) 2 2] (W.alloc (.cells #[.int .i64 a,.int .i64 b] 2))
  fun e w'=>e= .returned (.bool (inB a 0 1000000000 && inB b 0 1000000000))/\w'=W.alloc (.cells #[.int .i64 a,.int .i64 b] 2):=by
 have h:=Pz bk 2 [a,b] (W.alloc (.cells #[.int .i64 a,.int .i64 b] 2)) (by simp) (CF W a b bk hb)
 rw [Cz] at h
 exact h
theorem Se (a:Int) (W:World) (bk:Nat) (hb:bk=W.heap.size):Calls Tryz.prog 305 #[.func (Fn.func 307) #[] #[],.slice (some ⟨bk,0,none⟩) 1 1] (W.alloc (.cells #[.int .i64 a] 2))
  fun e w'=>e= .returned (.bool (inB a 1 1000000000))/\w'=W.alloc (.cells #[.int .i64 a] 2):=by
 have h:=Ql bk 1 [a] (W.alloc (.cells #[.int .i64 a] 2)) (by simp) (CE W a bk hb)
 rw [Cy] at h
 exact h
theorem OA (a b c:Int) (w:World):Calls Tryz.prog 293 #[.int .i64 a,.int .i64 b,.int .i64 c] w fun e w'=>e= .returned (.int .i64 (Yy a b c))/\Below w.heap.size w w':=by
 refine ER a b c 0 1000000000 0 1000000000 1 1000000000 ?_ ?_ ?_ ?_
 ·intro ha
  have hv:Yy a b c= -1:=by simp [Yy,ha]
  rw [hv];clear hv
  go_enter Tryz.func293,Tryz.ntmps293
  go_wp2_with fail
  refine (Vs a b _ _ rfl).mono ?_
  rintro e w' ⟨rfl,rfl⟩
  go_wp2_with fail
  go_ret
  exact ⟨rfl,(Below.refl _ _).alloc (Nat.le_refl _) _⟩
 ·intro ha hb
  have hv:Yy a b c= -1:=by simp [Yy,hb]
  rw [hv];clear hv
  go_enter Tryz.func293,Tryz.ntmps293
  go_wp2_with fail
  refine (Vs a b _ _ rfl).mono ?_
  rintro e w' ⟨rfl,rfl⟩
  go_wp2_with fail
  go_ret
  exact ⟨rfl,(Below.refl _ _).alloc (Nat.le_refl _) _⟩
 ·intro ha hb hc
  have hv:Yy a b c= -1:=by simp [Yy,hc]
  rw [hv];clear hv
  go_enter Tryz.func293,Tryz.ntmps293
  go_wp2_with fail
  refine (Vs a b _ _ rfl).mono ?_
  rintro e w' ⟨rfl,rfl⟩
  go_wp2_with fail
  refine (Se c _ _ (by simp)).mono ?_
  rintro e w' ⟨rfl,rfl⟩
  go_wp2_with fail
  go_ret
  exact ⟨rfl,((Below.refl _ _).alloc (Nat.le_refl _) _).alloc (by simp) _⟩
 ·intro ha hb hc
  have hv:Yy a b c=a*b / c:=by simp [Yy,ha,hb,hc]
  rw [hv];clear hv
  obtain ⟨a0,a1⟩:=ZV ha
  obtain ⟨b0,b1⟩:=ZV hb
  obtain ⟨c0,c1⟩:=ZV hc
  obtain ⟨m0,m1⟩:=Ea a0 a1 b0 b1
  go_enter Tryz.func293,Tryz.ntmps293
  go_wp2_with fail
  refine (Vs a b _ _ rfl).mono ?_
  rintro e w' ⟨rfl,rfl⟩
  go_wp2_with fail
  refine (Se c _ _ (by simp)).mono ?_
  rintro e w' ⟨rfl,rfl⟩
  go_wp2_with fail
  go_ret
  exact ⟨rfl,((Below.refl _ _).alloc (Nat.le_refl _) _).alloc (by simp) _⟩
def Vk (need:Int) (p:Z1):Bool:=decide (5*need<=4*p.1)
def Sf (need:Int):List Z1->Nat
 | []=>0
 | [_]=>0
 | p::q::ps=>if Vk need p then 0 else Sf need (q::ps)+1
def XI (r:Z3) (need:Int):Int:=if Zj r && inB need 0 1000000 then Sf need r.2 else -1
def XD (r:Z3) (pace work:Int):Int:=if Zj r && (inB work 0 1000000 && inB pace 0 (r.2.length-1)) then Yy (ZY r.2 pace.toNat).2 work (ZY r.2 pace.toNat).1 else -1
def QC (r:Z3) (need work:Int):Int:=XD r (XI r need) work
theorem KW (p:Z1) (ps:List Z1):ZY (p::ps) 0=p:=rfl
theorem KZ (p:Z1) (ps:List Z1) (k:Nat):ZY (p::ps) (k+1)=ZY ps k:=by unfold ZY;simp [List.getD]
theorem Dz {need:Int} {p:Z1} (h:5*need<=4*p.1):Vk need p=true:=decide_eq_true h
theorem Dy {need:Int} {p:Z1} (h:4*p.1<5*need):Vk need p=false:=decide_eq_false (by omega)
theorem SW (need:Int):∀ (ps:List Z1) (k:Nat),k+1<=ps.length->(∀ j,j<k->Vk need (ZY ps j)=false)->(k+1=ps.length\/Vk need (ZY ps k)=true)->Sf need ps=k
 | [],k,hk,_,_=>by simp at hk
 | [p],k,hk,_,_=>by simp at hk;subst hk;rfl
 | p::q::ps,0,_,_,he=>by
  rcases he with he | he
  ·simp at he
  ·rw [KW] at he;simp [Sf,he]
 | p::q::ps,k+1,hk,hlo,he=>by
  have h0:=hlo 0 (by omega)
  rw [KW] at h0
  have ih:=SW need (q::ps) k (by simp at hk ⊢;omega) (fun j hj=>by have:=hlo (j+1) (by omega);rwa [KZ] at this) (by
   rcases he with he | he
   ·left;simp at he ⊢;omega
   ·right;rwa [KZ] at he)
  simp [Sf,h0,ih]
theorem K6 (need:Int):∀ ps:List Z1,1<=ps.length->Sf need ps+1<=ps.length
 | [],h=>by simp at h
 | [p],_=>by simp [Sf]
 | p::q::ps,_=>by
  have ih:=K6 need (q::ps) (by simp)
  unfold Sf;split<;>simp at ih ⊢;omega
theorem QR {r:Z3} (h:Zj r=true) {k:Nat} (hk:k<r.2.length):1<=(ZY r.2 k).1/\(ZY r.2 k).1<=1024/\1<=(ZY r.2 k).2/\(ZY r.2 k).2<=1024:=by
 unfold Zj at h;simp only [Bool.and_eq_true] at h
 have h1:=Na h.2.2 hk
 unfold Xf UG at h1;simp only [Bool.and_eq_true] at h1
 have a:=ZV h1.1.1;have b:=ZV h1.1.2
 omega
theorem Qb {r:Z3} {need:Int} (h:Zj r=false):XI r need= -1:=by unfold XI;simp [h]
theorem Qc {r:Z3} {need:Int} (h:inB need 0 1000000=false):XI r need= -1:=by unfold XI;simp [h]
theorem OR {r:Z3} {need:Int} (h:Zj r=true) (h2:inB need 0 1000000=true):XI r need=Sf need r.2:=by unfold XI;simp [h,h2]
theorem SD {r:Z3} {pace work:Int} (h:Zj r=false):XD r pace work= -1:=by unfold XD;simp [h]
theorem SE {r:Z3} {pace work:Int} (h:inB work 0 1000000=false):XD r pace work= -1:=by unfold XD;simp [h]
theorem UA {r:Z3} {pace work:Int} (h:inB pace 0 (r.2.length-1)=false):XD r pace work= -1:=by unfold XD;simp [h]
theorem RQ {r:Z3} {pace work:Int} (h:Zj r=true) (h2:inB work 0 1000000=true) (h3:inB pace 0 (r.2.length-1)=true):XD r pace work=Yy (ZY r.2 pace.toNat).2 work (ZY r.2 pace.toNat).1:=by unfold XD;simp [h,h2,h3]
theorem FL {a b c:Int} (a0:0<=a) (a1:a<=1000000000) (b0:0<=b) (b1:b<=1000000000) (c0:1<=c) (c1:c<=1000000000):Yy a b c=a*b / c:=by
 unfold Yy;rw [Zq a0 a1,Zq b0 b1,Zq c0 c1];rfl
theorem JZ (r:Z3) (pace work:Int) : -1<=XD r pace work/\XD r pace work<=1024000000:=by
 cases h:Zj r
 ·rw [SD h];omega
 cases h2:inB work 0 1000000
 ·rw [SE h2];omega
 cases h3:inB pace 0 (r.2.length-1)
 ·rw [UA h3];omega
 rw [RQ h h2 h3]
 have hb:=ZV h2;have hp:=ZV h3
 have hr:=QR h (k:=pace.toNat) (by omega)
 generalize ZY r.2 pace.toNat=p at *
 rw [FL (by omega) (by omega) (by omega) (by omega) (by omega) (by omega)]
 have m0:0<=p.2*work:=Int.mul_nonneg (by omega) (by omega)
 have m1:p.2*work<=1024*1000000:=Int.mul_le_mul (by omega) (by omega) (by omega) (by omega)
 have d0:=Int.ediv_nonneg m0 (show 0<=p.1 by omega)
 have d1:=Int.ediv_le_self p.1 m0
 omega
end Go.Proofs.YtaegckehjlkaaaaGreat
