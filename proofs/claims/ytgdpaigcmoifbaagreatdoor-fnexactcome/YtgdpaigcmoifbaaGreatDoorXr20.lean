/- Part 20 of what the proof rests on. No condition but those that a theorem names. -/
import Derived.Test.YtgdpaigcmoifbaaGreatDoorXr17
import Derived.Test.YtgdpaigcmoifbaaGreatDoorXr18
set_option maxHeartbeats 8000000
set_option maxRecDepth 100000
namespace Go.Proofs.YtgdpaigcmoifbaaGreatDoor
open Go.ChangeShapes Go.WideShapes Go.ChangeAt Go.RowKit Go.Sort
set_option linter.unusedVariables false
variable {w w' w0 w1 w2 w3 w₀ wr W W' X A B C : World} {v v0 v1 v2 v3 v4 u u0 u1 u2 u3 u4 : Value} {m : Z3}
def stS (s:ZZ) (st:Int):ZZ:=(st,s.2)
def ZP (ss:List ZZ) (q:List Z6):List ZZ:=q.foldl (fun ss e=>ss.set e.2.toNat (stS (Z8 ss e.2.toNat) 2)) ss
theorem RI (ss:List ZZ) (q:List Z6) (e:Z6):ZP ss (q++[e])=(ZP ss q).set e.2.toNat (stS (Z8 (ZP ss q) e.2.toNat) 2):=by
  unfold ZP;rw [List.foldl_append];rfl
theorem Yj (q:List Z6):∀ ss:List ZZ,(ZP ss q).length=ss.length:=by
  induction q with
  | nil=>intro ss;rfl
  | cons e q ih=>intro ss;show (ZP (ss.set e.2.toNat (stS (Z8 ss e.2.toNat) 2)) q).length=_;rw [ih,UX]
theorem Sa (q:List Z6):∀ (ss:List ZZ) (i:Nat),(∀ e ∈ q,0<=e.2/\e.2<ss.length)->((∃ e ∈ q,e.2=(i:Int))->Z8 (ZP ss q) i=stS (Z8 ss i) 2)/\((∀ e ∈ q,e.2 ≠ (i:Int))->Z8 (ZP ss q) i=Z8 ss i):=by
  induction q with
  | nil=>
    intro ss i h;exact ⟨fun ⟨e,he,_⟩=>(List.not_mem_nil he).elim,fun _=>rfl⟩
  | cons e q ih=>
    intro ss i h;obtain ⟨e0,e1⟩:=h e (by simp);have hs:=ZC (x:=stS (Z8 ss e.2.toNat) 2) (show e.2.toNat<ss.length by omega) i;obtain ⟨i1,i2⟩:=ih (ss.set e.2.toNat (stS (Z8 ss e.2.toNat) 2)) i (fun x hx=>by rw [UX];exact h x (List.mem_cons_of_mem _ hx));show ((∃ x ∈ e::q,x.2=(i:Int))->Z8 (ZP (ss.set e.2.toNat (stS (Z8 ss e.2.toNat) 2)) q) i=_)/\((∀ x ∈ e::q,x.2 ≠ (i:Int))->Z8 (ZP (ss.set e.2.toNat (stS (Z8 ss e.2.toNat) 2)) q) i=_)
    constructor
    · rintro ⟨x,hx,hxi⟩
      by_cases hq:∃ y ∈ q,y.2=(i:Int)
      · rw [i1 hq,hs]
        split
        · rename_i he;rw [he];rfl
        · rfl
      · rw [i2 (fun y hy e=>hq ⟨y,hy,e⟩),hs]
        rcases List.mem_cons.1 hx with rfl | hx
        · rw [if_pos (by omega)]
          rw [show x.2.toNat=i by omega]
        · exact absurd ⟨x,hx,hxi⟩ hq
    · intro hn
      rw [i2 (fun y hy=>hn y (List.mem_cons_of_mem _ hy)),hs,if_neg];have:=hn e (by simp);omega
def WW (ss:List ZZ) (b:Int) (d:Yt):Yt:=match atV ss b ss.length with
  | []=>(d.1,-1,d.2.2)
  | e::_=>(d.1,e.2,ZK d.2.2 e.1)
def XV (m:Z3) (b:Nat):Z3:=match atV m.sm b m.sm.length with
  | []=>{ m with dk:=m.dk.set b ((Z8 m.dk b).1,-1,(Z8 m.dk b).2.2) }
  | e::t=>{ m with sm:=(ZP m.sm (e::t)).set e.2.toNat (stS (Z8 (ZP m.sm (e::t)) e.2.toNat) 3),dk:=m.dk.set b ((Z8 m.dk b).1,e.2,ZK (Z8 m.dk b).2.2 e.1) }
def Zo (m:Z3):Nat->Z3
  | 0=>m
  | k+1=>XV (Zo m k) k
def Zs (m:Z3):Z3:=Zo m m.dk.length
theorem I7 (m:Z3) (b:Nat):(XV m b).rm=m.rm/\(XV m b).gd=m.gd/\(XV m b).pc=m.pc/\(XV m b).now=m.now/\(XV m b).sm.length=m.sm.length/\(XV m b).dk.length=m.dk.length:=by
  unfold XV
  split
  · simp
  · simp [Yj]
theorem YB (m:Z3):∀ k,(Zo m k).rm=m.rm/\(Zo m k).gd=m.gd/\(Zo m k).pc=m.pc/\(Zo m k).now=m.now/\(Zo m k).sm.length=m.sm.length/\(Zo m k).dk.length=m.dk.length
  | 0=>⟨rfl,rfl,rfl,rfl,rfl,rfl⟩
  | k+1=>by
    obtain ⟨h1,h2,h3,h4,h5,h6⟩:=YB m k;obtain ⟨g1,g2,g3,g4,g5,g6⟩:=I7 (Zo m k) k;exact ⟨g1.trans h1,g2.trans h2,g3.trans h3,g4.trans h4,g5.trans h5,g6.trans h6⟩
theorem Qt (m : Z3) (b : Nat) {i : Nat} (hi : i < m.sm.length) : Z8 (XV m b).sm i = if (Z8 m.sm i).2.1 = (b : Int) ∧ ZM (Z8 m.sm i) = true then stS (Z8 m.sm i) (if WT m.sm b = (i : Int) then 3 else 2) else Z8 m.sm i := by
  have hq := WS m.sm (b : Int)
  have hf : WT m.sm (b : Int) = match atV m.sm (b : Int) m.sm.length with
    | [] => -1
    | h :: _ => h.2 := rfl
  unfold XV
  split
  · rename_i h0
    rw [if_neg];intro hp;have := (hq (Wy (Z8 m.sm i), (i : Int)) m.sm.length).2 ⟨i, hi, hp.1, hp.2, rfl⟩;rw [h0] at this;exact List.not_mem_nil this
  · rename_i e t h0
    rw [h0] at hf;simp only at hf
    have hin : ∀ x ∈ e :: t, 0 ≤ x.2 ∧ x.2 < m.sm.length := by
      intro x hx;rw [← h0] at hx;obtain ⟨j, hj, _, _, rfl⟩ := (hq x _).1 hx;exact ⟨by show (0 : Int) ≤ (j : Int); omega, by show (j : Int) < _; omega⟩
    obtain ⟨w1, w2⟩ := Sa (e :: t) m.sm i hin;obtain ⟨e0, e1⟩ := hin e (by simp);show Z8 ((ZP m.sm (e :: t)).set e.2.toNat _) i = _;rw [ZC (by rw [Yj]; omega)];by_cases hp : (Z8 m.sm i).2.1 = (b : Int) ∧ ZM (Z8 m.sm i) = true
    · have hmem : (Wy (Z8 m.sm i), (i : Int)) ∈ e :: t := by rw [← h0]; exact (hq _ _).2 ⟨i, hi, hp.1, hp.2, rfl⟩
      rw [if_pos hp, hf];by_cases hie : i = e.2.toNat
      · rw [if_pos hie, if_pos (by omega), ← hie, w1 ⟨_, hmem, rfl⟩]
        rfl
      · rw [if_neg hie, if_neg (by omega), w1 ⟨_, hmem, rfl⟩]
    · have hnm : ∀ x ∈ e :: t, x.2 ≠ (i : Int) := by
        intro x hx hxi;rw [← h0] at hx;obtain ⟨j, hj, j1, j2, rfl⟩ := (hq x _).1 hx
        have : j = i := by have : (j : Int) = (i : Int) := hxi
                           omega
        subst this;exact hp ⟨j1, j2⟩
      rw [if_neg hp, if_neg (by have := hnm e (by simp); omega), w2 hnm]
theorem I5 (m:Z3) {b:Nat} (hb:b<m.dk.length) (j:Nat):Z8 (XV m b).dk j=if j=b then WW m.sm b (Z8 m.dk b) else Z8 m.dk j:=by
  have hf:WW m.sm (b:Int) (Z8 m.dk b)=match atV m.sm (b:Int) m.sm.length with
    | []=>((Z8 m.dk b).1,-1,(Z8 m.dk b).2.2)
    | e::_=>((Z8 m.dk b).1,e.2,ZK (Z8 m.dk b).2.2 e.1):=rfl
  unfold XV
  split
  · rename_i h0
    rw [h0] at hf;rw [hf,<-ZC hb]
  · rename_i e t h0
    rw [h0] at hf;rw [hf,<-ZC hb]
theorem Ld (m:Z3) (b:Nat):Alike m.sm (XV m b).sm m.sm.length:=by
  intro i hi;rw [Qt m b hi]
  split
  · rename_i hp
    refine ⟨rfl,?_,rfl⟩;rw [hp.2]
    split<;>rfl
  · exact ⟨rfl,rfl,rfl⟩
theorem Alike.trans {a b c:List ZZ} {k:Nat} (h:Alike a b k) (g:Alike b c k):Alike a c k:=fun i hi=>⟨(g i hi).1.trans (h i hi).1,(g i hi).2.1.trans (h i hi).2.1,(g i hi).2.2.trans (h i hi).2.2⟩
theorem WN (m:Z3):∀ k,Alike m.sm (Zo m k).sm m.sm.length
  | 0=>fun _ _=>⟨rfl,rfl,rfl⟩
  | k+1=>by
    have h:=Ld (Zo m k) k;rw [(YB m k).2.2.2.2.1] at h;exact (WN m k).trans h
theorem Nm (m:Z3) (k:Nat) (b:Int):atV (Zo m k).sm b (Zo m k).sm.length=atV m.sm b m.sm.length:=by
  rw [(YB m k).2.2.2.2.1];exact MG b _ (WN m k)
theorem Le (m:Z3) (k:Nat) (b:Int):WT (Zo m k).sm b=WT m.sm b:=by unfold WT;rw [Nm]
theorem NX (m:Z3) (k:Nat) (b:Int) (d:Yt):WW (Zo m k).sm b d=WW m.sm b d:=by unfold WW;rw [Nm]
theorem WO (m:Z3) {i:Nat} (hi:i<m.sm.length):∀ k:Nat,Z8 (Zo m k).sm i=if (0<=(Z8 m.sm i).2.1/\(Z8 m.sm i).2.1<(k:Int))/\ZM (Z8 m.sm i)=true then stS (Z8 m.sm i) (if WT m.sm (Z8 m.sm i).2.1=(i:Int) then 3 else 2) else Z8 m.sm i
  | 0=>by rw [if_neg (by omega)];rfl
  | k+1=>by
    have ih:=WO m hi k;have ha:=WN m k i hi;show Z8 (XV (Zo m k) k).sm i=_;rw [Qt _ _ (by rw [(YB m k).2.2.2.2.1];exact hi),ha.1,ha.2.1,Le];by_cases hp:ZM (Z8 m.sm i)=true
    · by_cases hb:(Z8 m.sm i).2.1=(k:Int)
      · have hc:(0<=(Z8 m.sm i).2.1/\(Z8 m.sm i).2.1<((k+1:Nat):Int))/\ZM (Z8 m.sm i)=true:=⟨by omega,hp⟩
        rw [if_pos ⟨hb,hp⟩,if_pos hc,ih,if_neg (by omega),hb]
      · rw [if_neg (fun h=>hb h.1),ih]
        by_cases hk:0<=(Z8 m.sm i).2.1/\(Z8 m.sm i).2.1<(k:Int)
        · have hc:(0<=(Z8 m.sm i).2.1/\(Z8 m.sm i).2.1<((k+1:Nat):Int))/\ZM (Z8 m.sm i)=true:=⟨by omega,hp⟩
          rw [if_pos ⟨hk,hp⟩,if_pos hc]
        · rw [if_neg (fun h=>hk h.1),if_neg (fun h=>hk (by omega))]
    · rw [if_neg (fun h=>hp h.2),ih,if_neg (fun h=>hp h.2),if_neg (fun h=>hp h.2)]
theorem Uo (m:Z3) (j:Nat):∀ k:Nat,k<=m.dk.length->Z8 (Zo m k).dk j=if j<k then WW m.sm j (Z8 m.dk j) else Z8 m.dk j
  | 0,_=>by rw [if_neg (by omega)];rfl
  | k+1,hk=>by
    have ih:=Uo m j k (by omega);show Z8 (XV (Zo m k) k).dk j=_;rw [I5 _ (by rw [(YB m k).2.2.2.2.2];omega)];by_cases hjk:j=k
    · subst hjk
      rw [if_pos rfl,if_pos (by omega),NX,ih,if_neg (by omega)]
    · rw [if_neg hjk,ih]
      by_cases h:j<k
      · rw [if_pos h,if_pos (by omega)]
      · rw [if_neg h,if_neg (by omega)]
structure Loose (m:Z3):Prop where
  head:XT m=true
  desk:∀ j,j<m.dk.length->U0 (Z8 m.dk j)=true
  pace:∀ j,j<m.pc.length->VF m j=true
  here:∀ i,i<m.sm.length->Ym m (Z8 m.sm i)=true
  seat:∀ i,i<m.sm.length->Xh m (Z8 m.sm i)=true
  openD:∃ j,j<m.dk.length/\(Z8 m.dk j).1=true
theorem Tj (h:Y2 m=true):Loose m:=by
  unfold Y2 Wi WD WE UW at h;simp only [ZJ] at h;obtain ⟨h1,h2,h3,h4,h5⟩:=h;have h4':=fun i hi=>GQ h4 (k:=i) hi;simp only [ZJ] at h4';obtain ⟨j,hj,ho⟩:=List.any_eq_true.1 h5;exact ⟨h1,fun j hj=>GQ h2 hj,fun j hj=>GQ h3 hj,fun i hi=>(h4' i hi).1,fun i hi=>(h4' i hi).2,j,List.mem_range.1 hj,ho⟩
theorem Loose.mk' (h:Loose m):Y2 m=true:=by
  unfold Y2 Wi WD WE UW;simp only [ZJ];refine ⟨h.head,?_,?_,?_,?_⟩
  · exact List.all_eq_true.2 fun j hj=>h.desk j (List.mem_range.1 hj)
  · exact List.all_eq_true.2 fun j hj=>h.pace j (List.mem_range.1 hj)
  · exact List.all_eq_true.2 fun j hj=>by rw [h.here j (List.mem_range.1 hj),h.seat j (List.mem_range.1 hj)];rfl
  · obtain ⟨j,hj,ho⟩:=h.openD
    exact List.any_eq_true.2 ⟨j,List.mem_range.2 hj,ho⟩
theorem Loose.at (h:Loose m) {i:Nat} (hi:i<m.sm.length) (hp:ZM (Z8 m.sm i)=true):0<=(Z8 m.sm i).2.1/\(Z8 m.sm i).2.1<m.dk.length/\(Z8 m.dk (Z8 m.sm i).2.1.toNat).1=true/\UQ (Z8 m.sm i).2.2.2.1 (Z8 m.sm i).2.1=true/\Yl (Wy (Z8 m.sm i)) (Z8 m.dk (Z8 m.sm i).2.1.toNat).2.2=true:=by
  obtain ⟨b0,b1,_⟩:=JU (h.here i hi) hp;have hs:=h.seat i hi;unfold Xh at hs;rw [hp] at hs;simp only [Bool.not_true,Bool.false_or,ZJ] at hs;exact ⟨b0,b1,hs.1,hs.2.1,hs.2.2⟩
theorem Us {had XX:Int} (h:Yl had XX=true) : -1000000000000<=had/\had<=1000000000000/\ -1000000000000<=XX/\XX<=1000000000000/\ -20000<=had-XX/\had-XX<=63000:=by
  unfold Yl at h;simp only [ZJ] at h;have h1:=ZO h.1;have h2:=ZO h.2.1;have h3:=ZO h.2.2;omega
theorem Lx {had XX:Int} (h0 : -1000000000000<=had) (h1:had<=1000000000000) (h2 : -1000000000000<=XX) (h3:XX<=1000000000000) (h4 : -20000<=had-XX) (h5:had-XX<=63000):Yl had XX=true:=by
  unfold Yl;rw [Zf h0 h1,Zf h2 h3,Zf h4 h5];rfl
theorem Oj {d:Yt} (h:U0 d=true) : -900000000000<=d.2.2/\d.2.2<=900000000000:=ZO h
theorem F4 {s:ZZ} {st:Int} (h:Zi s=true) (hp:ZM s=true) (h0:1<=st) (h1:st<=3):Zi (stS s st)=true:=by
  obtain ⟨x0,be,rk,my,gu,lo,hi,hd,ca,ut,wk⟩:=s;have hx:x0 ≠ 0:=by intro e;subst e;cases hp
  unfold Zi at h ⊢;rw [Rj (x:=(x0,be,rk,my,gu,lo,hi,hd,ca,ut,wk)) hx,Bool.false_or] at h;unfold Xe at h;simp only [ZJ] at h;obtain ⟨g0,g⟩:=h
  have:Xe (stS (x0,be,rk,my,gu,lo,hi,hd,ca,ut,wk) st)=true:=by
    unfold Xe stS;simp only [ZJ];exact ⟨Zf h0 h1,g⟩
  rw [this,Bool.or_true]
theorem Ow {s:ZZ} {st:Int} (h:Ym m s=true) (hp:ZM s=true) (h0:1<=st) (h1:st<=3):Ym m (stS s st)=true:=by
  unfold Ym at h ⊢;simp only [ZJ,Bool.or_eq_true] at h ⊢;refine ⟨F4 h.1 hp h0 h1,.inr ?_⟩
  rcases h.2 with e | e
  · have:s.1=0:=by simpa using e
    unfold ZM at hp;rw [this] at hp;cases hp
  · exact e
theorem T9 {m m':Z3} (hg:m'.gd.length=m.gd.length) (hd:m'.dk.length=m.dk.length) (s:ZZ):Ym m' s=Ym m s:=by unfold Ym;rw [hg,hd]
theorem I9 (h:Loose m):Loose (Zs m):=by
  obtain ⟨e1,e2,e3,e4,e5,e6⟩:=YB m m.dk.length;have hd:=fun j=>Uo m j m.dk.length (ZY _)
  have hopen:∀ j,(Z8 (Zs m).dk j).1=(Z8 m.dk j).1:=by
    intro j;unfold Zs;rw [hd j]
    split
    · unfold WW;split<;>rfl
    · rfl
  have hmark:∀ j,j<m.dk.length->(-900000000000<=(Z8 (Zs m).dk j).2.2/\(Z8 (Zs m).dk j).2.2<=900000000000)/\(Z8 m.dk j).2.2<=(Z8 (Zs m).dk j).2.2/\((Z8 (Zs m).dk j).2.2<=(Z8 m.dk j).2.2\/ ∀ i,i<m.sm.length->(Z8 m.sm i).2.1=(j:Int)->ZM (Z8 m.sm i)=true->(Z8 (Zs m).dk j).2.2<=Wy (Z8 m.sm i)):=by
    intro j hj;obtain ⟨k0,k1⟩:=Oj (h.desk j hj);unfold Zs;rw [hd j,if_pos hj];unfold WW
    split
    · exact ⟨⟨k0,k1⟩,Int.le_refl _,.inl (Int.le_refl _)⟩
    · rename_i e t hq
      obtain ⟨_,i,hi,hib,hip,rfl⟩:=T2 hq;obtain ⟨_,_,_,_,hband⟩:=h.at hi hip;obtain ⟨a0,a1,_⟩:=Us hband;have hm:=MY (m:=(Z8 m.dk j).2.2) (f:=Wy (Z8 m.sm i)) (by omega) (by omega) a0 a1;show (-900000000000<=ZK _ _/\ZK _ _<=900000000000)/\_<=ZK _ _/\(ZK _ _<=_\/_)
      rw [hm];refine ⟨by omega,by omega,?_⟩;by_cases hc:Wy (Z8 m.sm i)<=(Z8 m.dk j).2.2
      · left;omega
      · right
        intro i' hi' hb' hp';have:=Qc hq hi' hb' hp';simp only at this;show min (max (Z8 m.dk j).2.2 (Wy (Z8 m.sm i))) 900000000000<=_;omega
  refine ⟨?_,?_,?_,?_,?_,?_⟩
  · have:=h.head
    unfold XT at this ⊢;unfold Zs;rw [e1,e2,e3,e4,e5,e6];exact this
  · intro j hj
    have hj':j<m.dk.length:=by unfold Zs at hj;omega
    exact Zf (hmark j hj').1.1 (hmark j hj').1.2
  · intro j hj
    have hj':j<m.pc.length:=by unfold Zs at hj;rw [e3] at hj;exact hj
    have:=h.pace j hj';unfold VF at this ⊢;unfold Zs;rw [e1,e3];exact this
  · intro i hi
    have hi':i<m.sm.length:=by unfold Zs at hi;omega
    rw [T9 (m:=m) (by unfold Zs;rw [e2]) (by unfold Zs;rw [e6])];unfold Zs;rw [WO m hi']
    split
    · rename_i hp
      exact Ow (h.here i hi') hp.2 (by split<;>omega) (by split<;>omega)
    · exact h.here i hi'
  · intro i hi
    have hi':i<m.sm.length:=by unfold Zs at hi;omega
    have ha:=WN m m.dk.length i hi';unfold Xh;show (!ZM (Z8 (Zo m m.dk.length).sm i) || _)=true;rw [ha.2.1];cases hp:ZM (Z8 m.sm i)
    · rfl
    · obtain ⟨b0,b1,ho,hm,hband⟩:=h.at hi' hp
      obtain ⟨a0,a1,a2,a3,a4,a5⟩:=Us hband;obtain ⟨⟨q0,q1⟩,q2,q3⟩:=hmark (Z8 m.sm i).2.1.toNat (by omega)
      have hmay:(Z8 (Zo m m.dk.length).sm i).2.2.2.1=(Z8 m.sm i).2.2.2.1:=by
        rw [WO m hi'];split<;>rfl
      show (!true || ((Z8 (Zs m).dk (Z8 (Zo m m.dk.length).sm i).2.1.toNat).1 && (UQ (Z8 (Zo m m.dk.length).sm i).2.2.2.1 (Z8 (Zo m m.dk.length).sm i).2.1 && Yl (Wy (Z8 (Zo m m.dk.length).sm i)) (Z8 (Zs m).dk (Z8 (Zo m m.dk.length).sm i).2.1.toNat).2.2)))=true;rw [ha.1,ha.2.2,hmay,hopen,ho,hm];rw [Lx a0 a1 (by omega) (by omega) ?_ (by omega)]
      · rfl
      · rcases q3 with q3 | q3
        · omega
        · have:=q3 i hi' (by omega) hp
          omega
  · obtain ⟨j,hj,ho⟩:=h.openD
    exact ⟨j,by unfold Zs;omega,by rw [hopen];exact ho⟩
theorem GK {ss : List ZZ} {b f : Int} : ∀ k : Nat, (∀ i, i < k → (Z8 ss i).2.1 = b → ZM (Z8 ss i) = true → ((Z8 ss i).1 = 2 ∧ (i : Int) ≠ f) ∨ ((Z8 ss i).1 = 3 ∧ (i : Int) = f)) →
    ∃ wk wt, YN ss b k = some (wk, wt) ∧ ((wk = -1 ∧ ∀ i, i < k → (Z8 ss i).2.1 = b → ZM (Z8 ss i) = true → (i : Int) ≠ f) ∨ (wk = f ∧ ∃ i : Nat, i < k ∧ (Z8 ss i).2.1 = b ∧ ZM (Z8 ss i) = true ∧ (i : Int) = f)) ∧ (wt = true → ∃ i, i < k ∧ (Z8 ss i).2.1 = b ∧ ZM (Z8 ss i) = true)
  | 0, _ => ⟨-1, false, rfl, .inl ⟨rfl, fun i hi => by omega⟩, fun h => by cases h⟩
  | k + 1, h => by
    obtain ⟨wk, wt, hs, hw, ht⟩ := GK k (fun i hi => h i (by omega))
    have hu : YN ss b (k + 1) = if (Z8 ss k).2.1 = b ∧ ZM (Z8 ss k) = true then (if (Z8 ss k).1 = 2 then some (wk, true) else if 0 ≤ wk then none else some ((k : Int), wt)) else some (wk, wt) := by
      show (match YN ss b k with
        | none => none
        | some (wk, wt) => _) = _
      rw [hs]
    rw [hu];by_cases hp : (Z8 ss k).2.1 = b ∧ ZM (Z8 ss k) = true
    · rw [if_pos hp]
      rcases h k (by omega) hp.1 hp.2 with ⟨h2, hne⟩ | ⟨h3, hkf⟩
      · rw [if_pos h2]
        refine ⟨wk, true, rfl, ?_, fun _ => ⟨k, by omega, hp.1, hp.2⟩⟩
        rcases hw with ⟨e, hn⟩ | ⟨e, i, hi, hb, hpi, hif⟩
        · refine .inl ⟨e, fun i hi hb hpi => ?_⟩
          by_cases hik : i = k
          · subst hik; exact hne
          · exact hn i (by omega) hb hpi
        · exact .inr ⟨e, i, by omega, hb, hpi, hif⟩
      · rw [if_neg (by omega)]
        have hw1 : wk = -1 := by
          rcases hw with ⟨e, _⟩ | ⟨e, i, hi, hb, hpi, hif⟩
          · exact e
          · omega
        rw [if_neg (by omega)];exact ⟨k, wt, rfl, .inr ⟨hkf, k, by omega, hp.1, hp.2, hkf⟩, fun e => by obtain ⟨i, hi, r⟩ := ht e; exact ⟨i, by omega, r⟩⟩
    · rw [if_neg hp]
      refine ⟨wk, wt, rfl, ?_, fun e => by obtain ⟨i, hi, r⟩ := ht e; exact ⟨i, by omega, r⟩⟩
      rcases hw with ⟨e, hn⟩ | ⟨e, i, hi, r⟩
      · refine .inl ⟨e, fun i hi hb hpi => ?_⟩
        by_cases hik : i = k
        · subst hik; exact absurd ⟨hb, hpi⟩ hp
        · exact hn i (by omega) hb hpi
      · exact .inr ⟨e, i, by omega, r⟩
theorem Up (h:Loose m):Zl (Zs m)=true:=by
  unfold Zl;rw [ZJ];refine ⟨(I9 h).mk',?_⟩;obtain ⟨e1,e2,e3,e4,e5,e6⟩:=YB m m.dk.length;refine List.all_eq_true.2 fun b hb=> ?_;have hb:=List.mem_range.1 hb;have hb':b<m.dk.length:=by unfold Zs at hb;omega
  have hn:(Zs m).sm.length=m.sm.length:=e5;have ha:=WN m m.dk.length
  have hstate:∀ i,i<m.sm.length->(Z8 (Zs m).sm i).2.1=(b:Int)->ZM (Z8 (Zs m).sm i)=true->((Z8 (Zs m).sm i).1=2/\(i:Int) ≠ WT m.sm b)\/((Z8 (Zs m).sm i).1=3/\(i:Int)=WT m.sm b):=by
    intro i hi hib hip;have hib':(Z8 m.sm i).2.1=(b:Int):=(ha i hi).1.symm.trans hib;have hip':ZM (Z8 m.sm i)=true:=(ha i hi).2.1.symm.trans hip;unfold Zs;rw [WO m hi,if_pos ⟨by omega,hip'⟩,hib'];by_cases hf:WT m.sm (b:Int)=(i:Int)
    · right;rw [if_pos hf];exact ⟨rfl,hf.symm⟩
    · left;rw [if_neg hf];exact ⟨rfl,fun e=>hf e.symm⟩
  obtain ⟨wk,wt,hs,hw,ht⟩:=GK (b:=(b:Int)) (f:=WT m.sm b) (ss:=(Zs m).sm) m.sm.length hstate;unfold Yz;rw [hn,hs];simp only;have hdesk:=Uo m b m.dk.length (ZY _);rw [if_pos hb'] at hdesk;cases hq:atV m.sm (b:Int) m.sm.length with
  | nil=>
    have hempty:∀ i,i<m.sm.length-> ¬ ((Z8 (Zs m).sm i).2.1=(b:Int)/\ZM (Z8 (Zs m).sm i)=true):=by
      rintro i hi ⟨hib,hip⟩;have:=(WS m.sm (b:Int) (Wy (Z8 m.sm i),(i:Int)) m.sm.length).2 ⟨i,hi,(ha i hi).1.symm.trans hib,(ha i hi).2.1.symm.trans hip,rfl⟩;rw [hq] at this;exact List.not_mem_nil this
    have hwt:wt=false:=by
      cases wt
      · rfl
      · obtain ⟨i,hi,r⟩:=ht rfl
        exact absurd r (hempty i hi)
    have hwk:wk= -1:=by
      rcases hw with ⟨e,_⟩ | ⟨_,i,hi,hb,hp,_⟩
      · exact e
      · exact absurd ⟨hb,hp⟩ (hempty i hi)
    have hwho:(Z8 (Zs m).dk b).2.1= -1:=by
      unfold Zs;rw [hdesk];unfold WW;rw [hq]
    rw [hwho,hwk,hwt];rfl
  | cons e t=>
    obtain ⟨hfe,i,hi,hib,hip,rfl⟩:=T2 hq
    have hwho:(Z8 (Zs m).dk b).2.1=(i:Int):=by
      unfold Zs;rw [hdesk];unfold WW;rw [hq]
    have hwk:wk=(i:Int):=by
      rcases hw with ⟨_,hn⟩ | ⟨e,_⟩
      · exact absurd hfe.symm (hn i hi ((ha i hi).1.trans hib) ((ha i hi).2.1.trans hip))
      · exact e.trans hfe
    rw [hwho,hwk];have:decide ((i:Int)<0)=false:=TG (by omega);rw [this];simp
def ZS {α:Type} [Inhabited α] (p:α->Bool) (xs:List α):Nat->List Int
 | 0=>[]
 | k+1=>if p (Z8 xs k) then ZS p xs k++[(k:Int)] else ZS p xs k
theorem YK {α:Type} [Inhabited α] {p:α->Bool} {xs:List α} {k:Nat} (h:p (Z8 xs k)=true):ZS p xs (k+1)=ZS p xs k++[(k:Int)]:=by rw [ZS,if_pos h]
theorem Yf {α:Type} [Inhabited α] {p:α->Bool} {xs:List α} {k:Nat} (h:p (Z8 xs k)=false):ZS p xs (k+1)=ZS p xs k:=by rw [ZS,if_neg (by simp [h])]
theorem Wc {α:Type} [Inhabited α] (p:α->Bool) (xs:List α):∀ k,(ZS p xs k).length<=k
 | 0=>ZY _
 | k+1=>by
  have:=Wc p xs k;unfold ZS
  split
  ·simp;omega
  ·omega
theorem Wd {α:Type} [Inhabited α] (p:α->Bool) (xs:List α) (x:Int):∀ k,x ∈ ZS p xs k ↔ ∃ i:Nat,i<k/\x=(i:Int)/\p (Z8 xs i)=true
 | 0=>by simp [ZS]
 | k+1=>by
  have ih:=Wd p xs x k;cases h:p (Z8 xs k)
  ·rw [Yf h,ih]
   constructor
   ·rintro ⟨i,hi,h1,h2⟩
    exact ⟨i,by omega,h1,h2⟩
   ·rintro ⟨i,hi,h1,h2⟩
    by_cases hik:i=k
    ·subst hik;rw [h] at h2;cases h2
    ·exact ⟨i,by omega,h1,h2⟩
  ·rw [YK h,List.mem_append,ih]
   constructor
   ·rintro (⟨i,hi,h1,h2⟩ | h1)
    ·exact ⟨i,by omega,h1,h2⟩
    ·exact ⟨k,by omega,by simpa using h1,h⟩
   ·rintro ⟨i,hi,h1,h2⟩
    by_cases hik:i=k
    ·subst hik;right;simp [h1]
    ·exact .inl ⟨i,by omega,h1,h2⟩
theorem Qu {α:Type} [Inhabited α] (p:α->Bool) (xs:List α):∀ k,decide (0<(ZS p xs k).length)=(List.range k).any fun j=>p (Z8 xs j)
 | 0=>rfl
 | k+1=>by
  have ih:=Qu p xs k;rw [DM,<-ih];cases h:p (Z8 xs k)
  ·rw [Yf h];simp
  ·rw [YK h];simp
def YC {α:Type} [Inhabited α] (p:α->Bool) (xs:List α) (k:Nat):Bool:=(List.range k).all fun j=>p (Z8 xs j)
theorem Jl {α:Type} [Inhabited α] {p:α->Bool} {xs:List α} {k n:Nat} (hk:k<n) (h:p (Z8 xs k)=false):YC p xs n=false:=RK (p:=fun j=>p (Z8 xs j)) hk h
theorem Jm {α:Type} [Inhabited α] {p:α->Bool} {xs:List α} {k:Nat} (h:YC p xs k=true) (h2:p (Z8 xs k)=true):YC p xs (k+1)=true:=by unfold YC at h ⊢;rw [UN,h,h2];rfl
theorem Qx {α:Type} [Inhabited α] (p q:α->Bool) (xs:List α):∀ k,(YC p xs k && YC q xs k)=YC (fun x=>p x && q x) xs k
 | 0=>rfl
 | k+1=>by
  have ih:=Qx p q xs k;unfold YC at ih ⊢;rw [UN,UN,UN,<-ih];generalize ((List.range k).all fun j=>p (Z8 xs j))=a;generalize ((List.range k).all fun j=>q (Z8 xs j))=b;cases a<;>cases b<;>cases hp:p (Z8 xs k)<;>cases hq:q (Z8 xs k)<;>simp [hp,hq]
theorem Jk {α:Type} [Inhabited α] {p q:α->Bool} (xs:List α) (h:∀ x,p x=q x) (k:Nat):YC p xs k=YC q xs k:=by unfold YC;congr 1;funext j;exact h _
def XW (n:Nat) (i:Int):Bool:=decide (0<=i) && decide (i<n)
def atB (b:Int) (s:ZZ):Bool:=(s.1 ==2 || s.1 ==3) && s.2.1 ==b
def YR (b:Int) (s:ZZ):Bool:=s.1 ==3 && s.2.1 ==b
def Xc (n:Nat) (s:ZZ):Bool:=s.1 ==0 || (s.2.2.2.2.1 == -1 || XW n s.2.2.2.2.1)
def Wp (ds:List Yt) (s:ZZ):Bool:=s.1 ==0 || (XW ds.length s.2.1 && (s.1 ==1 || ((Z8 ds s.2.1.toNat).1 && (VW s.2.2.2.1 s.2.1 && WU s.2.2.2.2.2.2.2.1 (Z8 ds s.2.1.toNat).2.2))))
def UH (ss:List ZZ) (n:Nat):Bool:=decide (ss.length<=12) && (YC Zi ss ss.length && YC (Xc n) ss ss.length)
def Su (ds:List Yt) (n:Int):Bool:=decide ((ds.length:Int)=n) && (YC U0 ds ds.length && decide (0<(ZS (fun d:Yt=>d.1) ds ds.length).length))
def Wg (ps:List Int) (rs:List Z4):Bool:=decide (ps.length=rs.length) && (List.range ps.length).all fun j=>XW (ZU rs j).2.length (Z8 ps j)
def Ru (m:Z3):Bool:=YF m.rm && (Zk m.gd && (UH m.sm m.gd.length && (Su m.dk (ZW m.rm) && (Wg m.pc m.rm && inB m.now 0 1000000))))
def WJ (m:Z3):Bool:=Ru m && YC (Wp m.dk) m.sm m.sm.length
def Vr (m:Z3) (b:Nat):Bool:=if (Z8 m.dk b).2.1= -1 then decide ((ZS (atB b) m.sm m.sm.length).length=0) else decide ((ZS (YR b) m.sm m.sm.length).length=1) && decide (Z8 (ZS (YR b) m.sm m.sm.length) 0=(Z8 m.dk b).2.1)
def RG (m:Z3):Bool:=(List.range m.dk.length).all (Vr m)
def EM (m:Z3):Bool:=WJ m && RG m
theorem Fh (h m:Int):WU h m=Yl h m:=by
 unfold WU Yl XB;rw [Bool.and_assoc]
theorem Ev (m:Z3) (s:ZZ):(Zi s && (Xc m.gd.length s && Wp m.dk s))=(Ym m s && Xh m s):=by
 cases hs:Zi s
 ·unfold Ym;rw [hs];rfl
 ·have hh:Ym m s=(s.1 ==0 || (decide (s.2.2.2.2.1<m.gd.length) && decide (s.2.1<m.dk.length))):=by unfold Ym;rw [hs];rfl
  rw [hh,Bool.true_and];unfold Zi at hs;simp only [Bool.or_eq_true] at hs
  rcases hs with hg | hp
  ·have e:=Ri hg
   subst e;rfl
  ·obtain ⟨st,be,rk,my,gu,lo,hi,hd,ca,ut,wk⟩:=s
   obtain ⟨⟨s1,s2⟩,⟨b1,b2⟩,_,⟨m1,m2⟩,⟨g1,g2⟩,_⟩:=Xu hp;have hmem:VW my be=UQ my be:=Eo (Zf (by omega) (by omega)) (Zf (by omega) (by omega));have hst0:(st ==0)=false:=by simp;omega
   have hgu:(gu == -1 || XW m.gd.length gu)=decide (gu<m.gd.length):=by
    unfold XW;by_cases e:gu= -1
    ·subst e;simp;omega
    ·have:(gu == -1)=false:=by simpa using e
     rw [this,Bool.false_or,show decide (0<=gu)=true from decide_eq_true (by omega),Bool.true_and]
   have hbe:XW m.dk.length be=decide (be<m.dk.length):=by
    unfold XW;rw [show decide (0<=be)=true from decide_eq_true (by omega),Bool.true_and]
   have hpr:ZM (st,be,rk,my,gu,lo,hi,hd,ca,ut,wk)= !(st ==1):=by
    unfold ZM
    rcases (by omega:st=1\/st=2\/st=3) with e | e | e<;>subst e<;>rfl
   unfold Xc Wp Xh;simp only;rw [hst0,hgu,hbe,hpr,hmem,Fh,Bool.not_not];simp only [Bool.false_or,Bool.and_assoc]
theorem Nd (ss:List ZZ) (b:Int):∀ k:Nat,
  (match YN ss b k with
   | none=>2<=(ZS (YR b) ss k).length
   | some (wk,wt)=>((wk= -1/\ZS (YR b) ss k=[])\/(0<=wk/\ZS (YR b) ss k=[wk]))/\((ZS (atB b) ss k=[]) ↔ (ZS (YR b) ss k=[]/\wt=false)))
 | 0=>by simp [YN,ZS]
 | k+1=>by
  have ih:=Nd ss b k;unfold YN;cases hsc:YN ss b k with
  | none=>
   rw [hsc] at ih;simp only at ih ⊢;unfold ZS
   split
   ·simp;omega
   ·exact ih
  | some r=>
   obtain ⟨wk,wt⟩:=r;rw [hsc] at ih;simp only at ih ⊢;by_cases hat:(Z8 ss k).2.1=b/\ZM (Z8 ss k)=true
   ·rw [if_pos hat]
    have hA:atB b (Z8 ss k)=true:=by
     have h2:=hat.2;unfold ZM at h2;unfold atB;rw [h2,hat.1];simp
    by_cases h2:(Z8 ss k).1=2
    ·rw [if_pos h2]
     have hW:YR b (Z8 ss k)=false:=by unfold YR;rw [h2];rfl
     rw [Yf hW,YK hA];exact ⟨ih.1,by simp⟩
    ·rw [if_neg h2]
     have h3:(Z8 ss k).1=3:=by
      have:=hat.2;unfold ZM at this;simp only [Bool.or_eq_true,beq_iff_eq] at this;omega
     have hW:YR b (Z8 ss k)=true:=by unfold YR;rw [h3,hat.1];simp
     rw [YK hW,YK hA];by_cases hwk:0<=wk
     ·rw [if_pos hwk]
      rcases ih.1 with ⟨e,_⟩ | ⟨_,e⟩
      ·omega
      ·simp only
       rw [e];simp
     ·rw [if_neg hwk]
      rcases ih.1 with ⟨_,e⟩ | ⟨e,_⟩
      ·simp only
       rw [e];simp
      ·omega
   ·rw [if_neg hat]
    have hA:atB b (Z8 ss k)=false:=by
     cases hc:atB b (Z8 ss k)
     ·rfl
     ·exfalso
      apply hat;unfold atB at hc;simp only [ZJ,beq_iff_eq] at hc;exact ⟨hc.2,by unfold ZM;exact hc.1⟩
    have hW:YR b (Z8 ss k)=false:=by
     cases hc:YR b (Z8 ss k)
     ·rfl
     ·exfalso
      apply hat;unfold YR at hc;simp only [ZJ,beq_iff_eq] at hc;exact ⟨hc.2,by unfold ZM;rw [hc.1];rfl⟩
    rw [Yf hW,Yf hA];exact ih
theorem Ga (m:Z3) (b:Nat):Vr m b=Yz m b:=by
 have h:=Nd m.sm b m.sm.length;unfold Vr Yz;cases hsc:YN m.sm b m.sm.length with
 | none=>
  rw [hsc] at h;simp only at h ⊢
  split
  ·have:ZS (atB b) m.sm m.sm.length ≠ []:=by
    intro e;have hx:Z8 (ZS (YR b) m.sm m.sm.length) 0 ∈ ZS (YR b) m.sm m.sm.length:=Vv (by omega);obtain ⟨i,hi,_,hw⟩:=(Wd _ _ _ _).1 hx
    have:(i:Int) ∈ ZS (atB b) m.sm m.sm.length:=(Wd _ _ _ _).2 ⟨i,hi,rfl,by
     unfold YR at hw;simp only [ZJ,beq_iff_eq] at hw;unfold atB
     rw [hw.1,hw.2];simp⟩
    rw [e] at this;cases this
   simp only [List.length_eq_zero_iff,this,decide_false]
  ·rw [show decide ((ZS (YR b) m.sm m.sm.length).length=1)=false from decide_eq_false (by omega),Bool.false_and]
 | some r=>
  obtain ⟨wk,wt⟩:=r;rw [hsc] at h;simp only at h ⊢;obtain ⟨h1,h2⟩:=h;generalize ZS (YR b) m.sm m.sm.length=ws at *;generalize ZS (atB b) m.sm m.sm.length=az at *;generalize (Z8 m.dk b).2.1=who at *;by_cases hw:who= -1
  ·subst hw
   simp only [if_true,List.length_eq_zero_iff]
   rcases h1 with ⟨rfl,rfl⟩ | ⟨hk,rfl⟩
   ·cases wt
    ·simp at h2;simp [h2]
    ·simp at h2;simp [h2]
   ·have hne:az ≠ []:=by
     intro e;have:=(h2.1 e).1;cases this
    have:((-1:Int) ==wk)=false:=by simp;omega
    rw [this];simp [hne]
  ·rw [if_neg hw]
   rcases h1 with ⟨rfl,rfl⟩ | ⟨hk,rfl⟩
   ·have:(who == -1)=false:=by simpa using hw
    rw [this];simp
   ·have h0:decide (wk<0)=false:=TG (by omega)
    rw [h0,Bool.and_false,Bool.not_false,Bool.and_true];simp only [XY,Xo,decide_true,Bool.true_and];show decide (wk=who)=(who ==wk)
    by_cases e:wk=who
    ·subst e;simp
    ·rw [decide_eq_false e];symm;simp;omega
theorem D9 (n:Nat) (i:Int):XW n i=inB i 0 ((n:Int)-1):=by
 unfold XW inB;by_cases h0:0<=i<;>by_cases h1:i<n
 ·rw [decide_eq_true h0,decide_eq_true h1,decide_eq_true (show 0<=i/\i<=(n:Int)-1 by omega)];rfl
 ·rw [decide_eq_true h0,decide_eq_false h1,decide_eq_false (show ¬ (0<=i/\i<=(n:Int)-1) by omega)];rfl
 ·rw [decide_eq_false h0,decide_eq_false (show ¬ (0<=i/\i<=(n:Int)-1) by omega)];rfl
 ·rw [decide_eq_false h0,decide_eq_false (show ¬ (0<=i/\i<=(n:Int)-1) by omega)];rfl
theorem RU (m:Z3):WJ m=Y2 m:=by
 have e1:WE m m.sm.length=(YC Zi m.sm m.sm.length && (YC (Xc m.gd.length) m.sm m.sm.length && YC (Wp m.dk) m.sm m.sm.length)):=by
  rw [Qx,Qx];exact (Jk m.sm (Ev m) m.sm.length).symm
 have e2:Wg m.pc m.rm=(decide (m.pc.length=m.rm.length) && WD m m.pc.length):=by
  unfold Wg WD
  congr 2
  funext j
  unfold VF;exact D9 _ _
 have e3:decide (0<(ZS (fun d:Yt=>d.1) m.dk m.dk.length).length)=UW m m.dk.length:=Qu _ _ _;unfold WJ Ru Y2 XT UH Su;rw [e1,e2,e3];have e4:YC U0 m.dk m.dk.length=Wi m m.dk.length:=rfl;rw [e4];generalize YF m.rm=x1;generalize Zk m.gd=x2;generalize decide (m.sm.length<=12)=x3;generalize YC Zi m.sm m.sm.length=x4;generalize YC (Xc m.gd.length) m.sm m.sm.length=x5;generalize decide ((m.dk.length:Int)=ZW m.rm)=x6;generalize Wi m m.dk.length=x7;generalize UW m m.dk.length=x8;generalize decide (m.pc.length=m.rm.length)=x9;generalize WD m m.pc.length=x10;generalize inB m.now 0 1000000=x11;generalize YC (Wp m.dk) m.sm m.sm.length=x12;rw [Bool.eq_iff_iff];simp only [ZJ];constructor
 ·rintro ⟨⟨a1,a2,⟨a3,a4,a5⟩,⟨a6,a7,a8⟩,⟨a9,a10⟩,a11⟩,a12⟩
  exact ⟨⟨a1,a2,a3,a6,a9,a11⟩,a7,a10,⟨a4,a5,a12⟩,a8⟩
 ·rintro ⟨⟨a1,a2,a3,a6,a9,a11⟩,a7,a10,⟨a4,a5,a12⟩,a8⟩
  exact ⟨⟨a1,a2,⟨a3,a4,a5⟩,⟨a6,a7,a8⟩,⟨a9,a10⟩,a11⟩,a12⟩
theorem EN (m:Z3):EM m=Zl m:=by
 unfold EM Zl RG;rw [RU,show Vr m=Yz m from funext (Ga m)]
def WC (ss:List ZZ) (ps:List Int):List Z6:=ps.foldl (fun q i=>V9 q (Wy (Z8 ss i.toNat),i)) []
theorem Rw (ss:List ZZ) (ps:List Int) (i:Int):WC ss (ps++[i])=V9 (WC ss ps) (Wy (Z8 ss i.toNat),i):=by unfold WC;rw [List.foldl_append];rfl
theorem RY (ss:List ZZ) (b:Int):∀ k,WC ss (ZS (atB b) ss k)=atV ss b k
 | 0=>rfl
 | k+1=>by
  have ih:=RY ss b k;by_cases hat:(Z8 ss k).2.1=b/\ZM (Z8 ss k)=true
  ·have hA:atB b (Z8 ss k)=true:=by
    have h2:=hat.2;unfold ZM at h2;unfold atB;rw [h2,hat.1];simp
   rw [YK hA,Rw,ih,Vz hat.1 hat.2];rfl
  ·have hA:atB b (Z8 ss k)=false:=by
    cases hc:atB b (Z8 ss k)
    ·rfl
    ·exfalso
     apply hat;unfold atB at hc;simp only [ZJ,beq_iff_eq] at hc;exact ⟨hc.2,by unfold ZM;exact hc.1⟩
   rw [Yf hA,UP hat,ih]
theorem RC {ps:List Int} {k:Nat} (h:k<ps.length):ps.take (k+1)=ps.take k++[Z8 ps k]:=by
 unfold Z8;rw [List.take_add_one,List.getD,List.getElem?_eq_getElem h];rfl
theorem Jp (h:Loose m) (b:Int) (k:Nat) (hk:k<=m.sm.length):YP (atV m.sm b k)=true:=by
 have hd:=h.head;unfold XT at hd;simp only [ZJ,Yg] at hd;have hl:=TU m.sm b k;have h12:=hd.2.2.1;refine IL ⟨by omega,fun p hp=> ?_,?_,SR _ _ _⟩
 ·obtain ⟨i,hi,h1,h2,rfl⟩:=(WS m.sm b p k).1 hp
  have:=Us (h.at (i:=i) (by omega) h2).2.2.2.2;unfold Ok;rw [Zf (by omega) (by omega),Zf (by omega) (by show (i:Int)<=99;omega)];rfl
 ·refine ((PD m.sm b k).and (SR m.sm b k)).imp fun {x y} hxy=> ?_
  have h1:=hxy.1;have h2:=hxy.2;rw [MW] at h1;rw [El];omega
theorem Qv {α:Type} [Inhabited α] (p:α->Bool) (xs:List α):∀ n k:Nat,∃ j,j<=n/\(ZS p xs n).take k=ZS p xs j
 | 0,k=>⟨0,ZY _,by simp [ZS]⟩
 | n+1,k=>by
  obtain ⟨j,hj,e⟩:=Qv p xs n k;cases h:p (Z8 xs n)
  ·rw [Yf h];exact ⟨j,by omega,e⟩
  ·rw [YK h]
   by_cases hk:k<=(ZS p xs n).length
   ·rw [List.take_append_of_le_length hk];exact ⟨j,by omega,e⟩
   ·refine ⟨n+1,ZY _,?_⟩
    rw [YK h,List.take_of_length_le (by simp;omega)]
theorem IE (h:Loose m) (b:Int) (k:Nat):YP (WC m.sm ((ZS (atB b) m.sm m.sm.length).take k))=true:=by
 obtain ⟨j,hj,e⟩:=Qv (atB b) m.sm m.sm.length k;rw [e,RY];exact Jp h b j hj
open Go.ChangeShapes Go.WideShapes Go.ChangeAt Go.RowKit Go.Sort Go.Proofs.Tryz
set_option maxRecDepth 100000
def Ug (d:Yt):Bool:=d.1
theorem S5 (a:Option Addr) (n cap:Nat) (i:Int) (w:World):cE 193 #[.slice a n cap,.int .i64 i] w (.bool (XW n i)):=by
 by_cases h0:0<=i
 ·by_cases h1:i<(n:Int)
  all_goals
   go_enter func193,ntmps193;go_wp2_with fail;go_ret;exact ⟨Z5 (by unfold XW;simp [h0,h1]),rfl⟩
 ·go_enter func193,ntmps193
  go_wp2_with fail;go_ret;exact ⟨Z5 (by unfold XW;simp;omega),rfl⟩
theorem LP (a:Option Addr) (n cap:Nat) (i:Int) (w:World):cE 133 #[.slice a n cap,.int .i64 i] w (.bool (XW n i)):=by
 by_cases h0:0<=i
 ·by_cases h1:i<(n:Int)
  all_goals
   go_enter func133,ntmps133;go_wp2_with fail;go_ret;exact ⟨Z5 (by unfold XW;simp [h0,h1]),rfl⟩
 ·go_enter func133,ntmps133
  go_wp2_with fail;go_ret;exact ⟨Z5 (by unfold XW;simp;omega),rfl⟩
theorem LN (a:Option Addr) (n cap:Nat) (i:Int) (w:World):cE 152 #[.slice a n cap,.int .i64 i] w (.bool (XW n i)):=by
 by_cases h0:0<=i
 ·by_cases h1:i<(n:Int)
  all_goals
   go_enter func152,ntmps152;go_wp2_with fail;go_ret;exact ⟨Z5 (by unfold XW;simp [h0,h1]),rfl⟩
 ·go_enter func152,ntmps152
  go_wp2_with fail;go_ret;exact ⟨Z5 (by unfold XW;simp;omega),rfl⟩
theorem JQ (a:Option Addr) (n cap:Nat) (i:Int) (w:World):cE 222 #[.slice a n cap,.int .i64 i] w (.bool (XW n i)):=by
 by_cases h0:0<=i
 ·by_cases h1:i<(n:Int)
  all_goals
   go_enter func222,ntmps222;go_wp2_with fail;go_ret;exact ⟨Z5 (by unfold XW;simp [h0,h1]),rfl⟩
 ·go_enter func222,ntmps222
  go_wp2_with fail;go_ret;exact ⟨Z5 (by unfold XW;simp;omega),rfl⟩
theorem WQ (st be rk my gu lo hi hd ca ut wk:Int) (w:World):cB 134 #[.agg (I11 st be rk my gu lo hi hd ca ut wk)] w (.bool (st ==0)):=by
 go_enter func134,ntmps134;go_wp2_with fail;go_ret;exact ⟨rfl,(ba _ _)⟩
theorem RR (st be rk my gu lo hi hd ca ut wk:Int) (w:World):cB 82 #[.agg (I11 st be rk my gu lo hi hd ca ut wk)] w (.bool (st ==1)):=by
 go_enter func82,ntmps82;go_wp2_with fail;go_ret;exact ⟨rfl,(ba _ _)⟩
theorem RS (op:Bool) (who mk:Int) (w:World):cB 194 #[.agg #[.bool op,.int .i64 who,.int .i64 mk]] w (.bool op):=by
 go_enter func194,ntmps194;go_wp2_with fail;go_ret;exact ⟨rfl,(ba _ _)⟩
theorem JP (op:Bool) (who mk:Int) (w:World):cB 220 #[.agg #[.bool op,.int .i64 who,.int .i64 mk]] w (.bool (U0 (op,who,mk))):=by
 go_enter func220,ntmps220;go_wp2_with fail;refine (ZL _ _ _ _).mono ?_;rintro e w' ⟨rfl,h9⟩;subst w';go_wp2_with fail;go_ret;exact ⟨rfl,(ba _ _)⟩
theorem Ee (st be rk my gu lo hi hd ca ut wk b:Int) (w:World):cB 226 #[.agg (I11 st be rk my gu lo hi hd ca ut wk),.int .i64 b] w (.bool (atB b (st,be,rk,my,gu,lo,hi,hd,ca,ut,wk))):=by
 by_cases h2:st=2
 ·subst h2
  go_enter func226,ntmps226;go_wp2_with fail;go_ret;exact ⟨Z5 (by unfold atB;simp),(ba _ _)⟩
 have n2:(st ==2)=false:=by simpa using h2
 by_cases h3:st=3
 ·subst h3
  go_enter func226,ntmps226;go_wp2_with fail;go_ret;exact ⟨Z5 (by unfold atB;simp),(ba _ _)⟩
 have n3:(st ==3)=false:=by simpa using h3
 go_enter func226,ntmps226;go_wp2_with fail;go_ret;exact ⟨Z5 (by unfold atB;simp [n2,n3]),(ba _ _)⟩
theorem Lp (st be rk my gu lo hi hd ca ut wk b:Int) (w:World):cB 228 #[.agg (I11 st be rk my gu lo hi hd ca ut wk),.int .i64 b] w (.bool (YR b (st,be,rk,my,gu,lo,hi,hd,ca,ut,wk))):=by
 by_cases h3:st=3
 ·subst h3
  go_enter func228,ntmps228;go_wp2_with fail;go_ret;exact ⟨Z5 (by unfold YR;simp),(ba _ _)⟩
 have n3:(st ==3)=false:=by simpa using h3
 go_enter func228,ntmps228;go_wp2_with fail;go_ret;exact ⟨Z5 (by unfold YR;simp [n3]),(ba _ _)⟩
theorem ME (st be rk my gu lo hi hd ca ut wk b:Int) (R:Nat) (w:World) (hc:w.cell? ⟨R,0,none⟩=some (.int .i64 b)) (hR:R<w.heap.size):cB 225 #[.agg (I11 st be rk my gu lo hi hd ca ut wk),.pointer (some ⟨R,0,none⟩)] w (.bool (atB b (st,be,rk,my,gu,lo,hi,hd,ca,ut,wk))):=by
 have hne:R ≠ w.heap.size:=Vd hR;go_enter func225,ntmps225;go_wp2_with fail;refine ck (Ee st be rk my gu lo hi hd ca ut wk b _) fun w1 hb=> ?_;have Hb:=Z9 (((Z0 w.heap.size w).alloc (ZY _) _).trans (hb.mono (by simp)));clear hb;go_wp2_with fail;go_ret;exact ⟨rfl,uh Hb⟩
theorem P7 (st be rk my gu lo hi hd ca ut wk b:Int) (R:Nat) (w:World) (hc:w.cell? ⟨R,0,none⟩=some (.int .i64 b)) (hR:R<w.heap.size):cB 227 #[.agg (I11 st be rk my gu lo hi hd ca ut wk),.pointer (some ⟨R,0,none⟩)] w (.bool (YR b (st,be,rk,my,gu,lo,hi,hd,ca,ut,wk))):=by
 have hne:R ≠ w.heap.size:=Vd hR;go_enter func227,ntmps227;go_wp2_with fail;refine ck (Lp st be rk my gu lo hi hd ca ut wk b _) fun w1 hb=> ?_;have Hb:=Z9 (((Z0 w.heap.size w).alloc (ZY _) _).trans (hb.mono (by simp)));clear hb;go_wp2_with fail;go_ret;exact ⟨rfl,uh Hb⟩
theorem Uy (st be rk my gu lo hi hd ca ut wk:Int) (a:Option Addr) (n cap:Nat) (w:World):cB 113 #[.agg (I11 st be rk my gu lo hi hd ca ut wk),.slice a n cap] w (.bool (Xc n (st,be,rk,my,gu,lo,hi,hd,ca,ut,wk))):=by
 have hx:∀ q:Bool,Calls prog 113 #[.agg (I11 st be rk my gu lo hi hd ca ut wk),.slice a n cap] w (fun e w'=>e= .returned (.bool q)/\Below w.heap.size w w')->q=Xc n (st,be,rk,my,gu,lo,hi,hd,ca,ut,wk)->cB 113 #[.agg (I11 st be rk my gu lo hi hd ca ut wk),.slice a n cap] w (.bool (Xc n (st,be,rk,my,gu,lo,hi,hd,ca,ut,wk))):=fun q h e=>by rw [<-e];exact h
 by_cases h0:st=0
 ·subst h0
  refine hx true ?_ (by unfold Xc;simp);go_enter func113,ntmps113;go_wp2_with fail;refine ck (WQ 0 be rk my gu lo hi hd ca ut wk _) fun w1 hb=> ?_;have Hb:=Z9 (((Z0 w.heap.size w).alloc (ZY _) _).trans (hb.mono (by simp)));clear hb;go_wp2_with fail;go_ret;exact ⟨rfl,uh Hb⟩
 have n0:(st ==0)=false:=by simpa using h0
 by_cases h1:gu= -1
 ·subst h1
  refine hx true ?_ (by unfold Xc;simp);go_enter func113,ntmps113;go_wp2_with fail;refine (WQ st be rk my (-1) lo hi hd ca ut wk _).mono ?_;rw [n0];rintro e w1 ⟨rfl,hb⟩;have c4:w1.cell? ⟨w.heap.size,4,none⟩=some (.int .i64 (-1)):=(hb.cell (p:=⟨w.heap.size,4,none⟩) (by simp)).trans (Zv _ rfl);have Hb:=Z9 (((Z0 w.heap.size w).alloc (ZY _) _).trans (hb.mono (by simp)));clear hb;go_wp2_with fail;go_ret;exact ⟨rfl,uh Hb⟩
 have n1:(gu == -1)=false:=by simpa using h1
 refine hx (XW n gu) ?_ (by unfold Xc;simp [n0,n1]);go_enter func113,ntmps113;go_wp2_with fail;refine (WQ st be rk my gu lo hi hd ca ut wk _).mono ?_;rw [n0];rintro e w1 ⟨rfl,hb⟩;have c4:w1.cell? ⟨w.heap.size,4,none⟩=some (.int .i64 gu):=(hb.cell (p:=⟨w.heap.size,4,none⟩) (by simp)).trans (Zv _ rfl);have Hb:=Z9 (((Z0 w.heap.size w).alloc (ZY _) _).trans (hb.mono (by simp)));clear hb;go_wp2_with fail;refine ck (LN a n cap gu _) fun w2 h9=> ?_;subst w2;go_wp2_with fail;go_ret;exact ⟨rfl,uh Hb⟩
theorem NT (st be rk my gu lo hi hd ca ut wk:Int) (R:Nat) (a:Option Addr) (n cap:Nat) (w:World) (hc:w.cell? ⟨R,0,none⟩=some (.slice a n cap)) (hR:R<w.heap.size):cB 218 #[.agg (I11 st be rk my gu lo hi hd ca ut wk),.pointer (some ⟨R,0,none⟩)] w (.bool (Xc n (st,be,rk,my,gu,lo,hi,hd,ca,ut,wk))):=by
 have hne:R ≠ w.heap.size:=Vd hR;go_enter func218,ntmps218;go_wp2_with fail;refine ck (Uy st be rk my gu lo hi hd ca ut wk a n cap _) fun w1 hb=> ?_;have Hb:=Z9 (((Z0 w.heap.size w).alloc (ZY _) _).trans (hb.mono (by simp)));clear hb;go_wp2_with fail;go_ret;exact ⟨rfl,uh Hb⟩
theorem Calls.bool_of {P:Program} {f:FuncId} {args:Array Value} {q q':Bool} (h:Calls P f args w fun e w'=>e= .returned (.bool q)/\Below w.heap.size w w') (e:q=q'):Calls P f args w fun e w'=>e= .returned (.bool q')/\Below w.heap.size w w':=by rw [<-e];exact h
theorem NL (st be rk my gu lo hi hd ca ut wk:Int) {ds:List Yt} (h:XE w v ds):cB 164 #[.agg (I11 st be rk my gu lo hi hd ca ut wk),v] w (.bool (Wp ds (st,be,rk,my,gu,lo,hi,hd,ca,ut,wk))):=by
 obtain ⟨a,cap,rfl,hc,hm,hr⟩:=h;have Hr:=Z9 hr;clear hr;by_cases h0:st=0
 ·subst h0
  refine Calls.bool_of (q:=true) ?_ (by unfold Wp;simp);go_enter func164,ntmps164;go_wp2_with fail;refine ck (WQ 0 be rk my gu lo hi hd ca ut wk _) fun w1 hb=> ?_;have Hb:=Z9 (((Z0 w.heap.size w).alloc (ZY _) _).trans (hb.mono (by simp)));clear hb;go_wp2_with fail;go_ret;exact ⟨rfl,uh Hb⟩
 have n0:(st ==0)=false:=by simpa using h0
 cases hh:XW ds.length be
 ·refine Calls.bool_of (q:=false) ?_ (by unfold Wp;simp only [n0,hh];rfl)
  have Hh:=Z9 hh;clear hh;go_enter func164,ntmps164;go_wp2_with fail;refine (WQ st be rk my gu lo hi hd ca ut wk _).mono ?_;rw [n0];rintro e w1 ⟨rfl,hb⟩;have c1:w1.cell? ⟨w.heap.size,1,none⟩=some (.int .i64 be):=(hb.cell (p:=⟨w.heap.size,1,none⟩) (by simp)).trans (Zv _ rfl);have Hb:=Z9 (((Z0 w.heap.size w).alloc (ZY _) _).trans (hb.mono (by simp)));clear hb;go_wp2_with fail;refine (S5 a ds.length cap be _).mono ?_;rw [uh Hh];rintro e w2 ⟨rfl,h9⟩;subst w2;go_wp2_with fail;go_ret;exact ⟨rfl,uh Hb⟩
 have hbe:0<=be/\be<(ds.length:Int):=by unfold XW at hh;simpa using hh
 obtain ⟨j,rfl⟩:∃ j:Nat,be=j:=⟨be.toNat,by omega⟩
 have hj:j<ds.length:=by omega
 have hj1:(j:Int)<(ds.length:Int):=by omega
 rcases uh Hr with e0 | ⟨b,off,rfl,hbw,hcl⟩
 ·rw [e0] at hj;simp at hj
 obtain ⟨t0,t1,t2⟩:=Zg hcl hj
 have hD:Wp ds (st,(j:Int),rk,my,gu,lo,hi,hd,ca,ut,wk)=(st ==1 || ((Z8 ds j).1 && (VW my j && WU hd (Z8 ds j).2.2))):=by
  unfold Wp;simp only [n0,hh,Zm,Bool.false_or,Bool.true_and]
 have HD:=Z9 hD;have Hh:=Z9 hh;clear hD hh hcl Hr;generalize Z8 ds j=d at *;obtain ⟨op,who,mk⟩:=d;simp only at t0 t1 t2;obtain ⟨qm,hqm⟩:=ZI (VW my j);have Hm:=Z9 hqm;obtain ⟨qb,Hbd⟩:=WH (WU hd mk);clear hqm;refine Calls.bool_of (q:=(st ==1 || (op && (qm && qb)))) ?_ (by rw [uh HD,uh Hm,uh Hbd]);clear HD;go_enter func164,ntmps164;go_wp2_with fail;refine (WQ st (j:Int) rk my gu lo hi hd ca ut wk _).mono ?_;rw [n0];rintro e w1 ⟨rfl,hb⟩;have SB:Hid (Blk w1 w.heap.size 59 (I11 st j rk my gu lo hi hd ca ut wk)):=Z9 ((Blk.new w _ _).below hb (by simp));have Hb:=Z9 (((Z0 w.heap.size w).alloc (ZY _) _).trans (hb.mono (by simp)));rw [<-(uh Hb).cell (p:=⟨b,off+j*3,none⟩) hbw] at t0;rw [<-(uh Hb).cell (p:=⟨b,off+j*3+1,none⟩) hbw] at t1;rw [<-(uh Hb).cell (p:=⟨b,off+j*3+2,none⟩) hbw] at t2;clear hb;have s1:=(uh SB).cell (i:=1) (v:= .int .i64 j) rfl;go_wp2_with fail;refine (S5 _ ds.length cap (j:Int) _).mono ?_;rw [uh Hh];rintro e w2 ⟨rfl,h9⟩;subst w2;clear s1;have s1:=(uh SB).cell (i:=1) (v:= .int .i64 j) rfl;have hbw1:b<w1.heap.size:=ZD hbw (uh Hb).size;have hl0:=(uh SB).lt;go_upto_region 6 with fail;clear t0 t1 t2 s1;replace SB:Hid (Blk (w1.alloc (.cells #[.bool op,.int .i64 who,.int .i64 mk] 87)) w.heap.size 59 (I11 st j rk my gu lo hi hd ca ut wk)):=Z9 ((uh SB).alloc _);have DB:Hid (Blk (w1.alloc (.cells #[.bool op,.int .i64 who,.int .i64 mk] 87)) w1.heap.size 87 #[.bool op,.int .i64 who,.int .i64 mk]):=Z9 (Blk.new w1 _ _);replace Hb:Hid (Below w.heap.size w (w1.alloc (.cells #[.bool op,.int .i64 who,.int .i64 mk] 87))):=Z9 ((uh Hb).alloc (uh Hb).size _);generalize w1.alloc (.cells #[.bool op,.int .i64 who,.int .i64 mk] 87)=W at *;generalize w1.heap.size=db at *;obtain ⟨s0,s1,s2,s3,s4,s5,s6,s7,s8,s9,s10⟩:=(uh SB).c11;go_wp2_with fail;refine ck (RR st (j:Int) rk my gu lo hi hd ca ut wk _) fun w3 hb=> ?_;replace SB:=bl SB hb;replace DB:=bl DB hb;replace Hb:=Z9 ((uh Hb).trans (hb.mono (uh Hb).size));clear hb s0 s1 s2 s3 s4 s5 s6 s7 s8 s9 s10;by_cases h1:st=1
 ·subst h1
  go_wp2_with fail;go_ret;exact ⟨Z5 (by simp),uh Hb⟩
 have n1:(st ==1)=false:=by simpa using h1
 rw [n1];have g0:=(uh DB).cell (i:=0) (v:= .bool op) rfl;have g1:=(uh DB).cell (i:=1) (v:= .int .i64 who) rfl;have g2:=(uh DB).cell (i:=2) (v:= .int .i64 mk) rfl;go_wp2_with fail;refine ck (RS op who mk _) fun w4 hb=> ?_;replace SB:=bl SB hb;replace DB:=bl DB hb;replace Hb:=Z9 ((uh Hb).trans (hb.mono (uh Hb).size));clear hb g0 g1 g2;cases op
 ·go_wp2_with fail
  go_ret;exact ⟨Z5 (by simp [h1]),uh Hb⟩
 have s1:=(uh SB).cell (i:=1) (v:= .int .i64 j) rfl;have s3:=(uh SB).cell (i:=3) (v:= .int .i64 my) rfl;have s7:=(uh SB).cell (i:=7) (v:= .int .i64 hd) rfl;have g2:=(uh DB).cell (i:=2) (v:= .int .i64 mk) rfl;go_wp2_with fail;refine (Wf my (j:Int) _).mono ?_;rw [uh Hm];rintro e w5 ⟨rfl,h9⟩;subst w5;cases qm
 ·go_wp2_with fail
  go_ret;exact ⟨Z5 (by simp [h1]),uh Hb⟩
 go_wp2_with fail;refine (S8 hd mk _).mono ?_;rw [uh Hbd];rintro e w6 ⟨rfl,hb⟩;replace Hb:=Z9 ((uh Hb).trans (hb.mono (uh Hb).size));clear hb;go_wp2_with fail;go_ret;exact ⟨Z5 (by simp [h1]),uh Hb⟩
theorem DL  {ss:List ZZ} (h:YZ w v ss) {f:FuncId} {cap:Array Value} {av:Int->Int->Int->Int->Int->Int->Int->Int->Int->Int->Int->Array Value} {p:ZZ->Bool} (hp:∀ (st be rk my gu lo hi hd ca ut wk:Int) {W:World},Below w.heap.size w W->Calls prog f (av st be rk my gu lo hi hd ca ut wk) W fun e w'=>e= .returned (.bool (p (st,be,rk,my,gu,lo,hi,hd,ca,ut,wk)))/\Below W.heap.size W w')
  (s:∀ (p:ZZ->Bool),YZ w v ss->Hid (∀ (st be rk my gu lo hi hd ca ut wk:Int) {W:World},Below w.heap.size w W->Calls prog f (av st be rk my gu lo hi hd ca ut wk) W fun e w'=>e= .returned (.bool (p (st,be,rk,my,gu,lo,hi,hd,ca,ut,wk)))/\Below W.heap.size W w')->cB 162 #[v,.func (Fn.func f) #[] cap] w (.bool (YC p ss ss.length)):=by
  intro p h Hp;obtain ⟨a,cap,rfl,hc,hm,hr⟩:=h;have Hr:=Z9 hr;clear hr;go_enter func162,ntmps162;go_wp2_with fail
  go_loopw [9] (fun i wr=> ∃ k:Nat,k<=ss.length/\i= .int .i64 k/\YC p ss k=true/\Below w.heap.size w wr) (fun i _=>ss.length-(intOf i).toNat)
  case atStart=>exact ⟨0,ZR _,rfl,rfl,Z0 _ _⟩
  case round=>
   obtain ⟨k,hk,rfl,hst,hb0⟩:=hrel;have Hst:=Z9 hst;have BB:=Z9 hb0;by_cases hlt:k<ss.length
   ·have hlt1:(k:Int)<(ss.length:Int):=by omega
    rcases uh Hr with e0 | ⟨b,off,rfl,hbw,hcl⟩
    ·rw [e0] at hlt;simp at hlt
    obtain ⟨d0,d1,d2,d3,d4,d5,d6,d7,d8,d9,d10⟩:=ZB hcl hlt;rw [<-hb0.cell (p:=⟨b,off+k*11,none⟩) hbw] at d0;rw [<-hb0.cell (p:=⟨b,off+k*11+1,none⟩) hbw] at d1;rw [<-hb0.cell (p:=⟨b,off+k*11+2,none⟩) hbw] at d2;rw [<-hb0.cell (p:=⟨b,off+k*11+3,none⟩) hbw] at d3;rw [<-hb0.cell (p:=⟨b,off+k*11+4,none⟩) hbw] at d4;rw [<-hb0.cell (p:=⟨b,off+k*11+5,none⟩) hbw] at d5;rw [<-hb0.cell (p:=⟨b,off+k*11+6,none⟩) hbw] at d6;rw [<-hb0.cell (p:=⟨b,off+k*11+7,none⟩) hbw] at d7;rw [<-hb0.cell (p:=⟨b,off+k*11+8,none⟩) hbw] at d8;rw [<-hb0.cell (p:=⟨b,off+k*11+9,none⟩) hbw] at d9;rw [<-hb0.cell (p:=⟨b,off+k*11+10,none⟩) hbw] at d10;have HU:=Z9 (fun hh=>Jm (p:=p) (xs:=ss) (k:=k) hst hh);have HN:=Z9 (fun hh=>Jl (p:=p) (xs:=ss) hlt hh);clear hcl hst hb0;generalize Z8 ss k=s at *;obtain ⟨st,be,rk,my,gu,lo,hi,hd,ca,ut,wk⟩:=s;simp only at d0 d1 d2 d3 d4 d5 d6 d7 d8 d9 d10;have hbr:b<wr.heap.size:=ZD hbw (uh BB).size;go_wp2_with fail;clear d0 d1 d2 d3 d4 d5 d6 d7 d8 d9 d10;obtain ⟨q,Hq⟩:=WH (p (st,be,rk,my,gu,lo,hi,hd,ca,ut,wk));have hba:Below wr.heap.size wr (wr.alloc (.cells (I11 st be rk my gu lo hi hd ca ut wk) 59)):=ba _ _;replace BB:=bt BB hba;clear hba;refine (uh Hp st be rk my gu lo hi hd ca ut wk (uh BB)).mono ?_;rw [uh Hq];rintro e w1 ⟨rfl,hb⟩;replace BB:=bt BB hb;clear hb;cases q
    ·go_wp2_with fail
     go_ret;exact ⟨Z5 (uh HN (uh Hq)).symm,uh BB⟩
    ·go_wp2_with fail
     go_roundw
     case rel=>exact ⟨k+1,by omega,by go_num,uh HU (uh Hq),uh BB⟩
     case measure=>exact ms
   ·obtain rfl:k=ss.length:=by omega
    go_wp2_with fail;go_ret
    exact ⟨Z5 (uh Hst).symm,uh BB⟩):cB 162 #[v,.func (Fn.func f) #[] cap] w (.bool (YC p ss ss.length)):=s p h (Z9 hp)
theorem Fe  {ss:List ZZ} (h:YZ w v ss):cB 162 #[v,.func (Fn.func 112) #[] #[]] w (.bool (YC Zi ss ss.length)):=DL h (fun st be rk my gu lo hi hd ca ut wk _ hb=>TI st be rk my gu lo hi hd ca ut wk _)
theorem Lw  {ss:List ZZ} {R n gc:Nat} {ga:Option Addr} (h:YZ w v ss) (hc0:w.cell? ⟨R,0,none⟩=some (.slice ga n gc)) (hR:R<w.heap.size):cB 162 #[v,.func (Fn.func 218) #[] #[.pointer (some ⟨R,0,none⟩)]] w (.bool (YC (Xc n) ss ss.length)):=DL h (fun st be rk my gu lo hi hd ca ut wk _ hb=>NT st be rk my gu lo hi hd ca ut wk R ga n gc _ (((hb.cell (p:=⟨R,0,none⟩) hR).trans hc0)) (ZD hR hb.size))
theorem Jj  {ss:List Yt} (h:XE w v ss):cB 219 #[v,.func (Fn.func 220) #[] #[]] w (.bool (YC U0 ss ss.length)):=by
 obtain ⟨a,cap,rfl,hc,hm,hr⟩:=h;have Hr:=Z9 hr;clear hr;go_enter func219,ntmps219;go_wp2_with fail
 go_loopw [9] (fun i wr=> ∃ k:Nat,k<=ss.length/\i= .int .i64 k/\YC U0 ss k=true/\Below w.heap.size w wr) (fun i _=>ss.length-(intOf i).toNat)
 case atStart=>exact ⟨0,ZR _,rfl,rfl,Z0 _ _⟩
 case round=>
  obtain ⟨k,hk,rfl,hst,hb0⟩:=hrel;have Hst:=Z9 hst;have BB:=Z9 hb0;by_cases hlt:k<ss.length
  ·have hlt1:(k:Int)<(ss.length:Int):=by omega
   rcases uh Hr with e0 | ⟨b,off,rfl,hbw,hcl⟩
   ·rw [e0] at hlt;simp at hlt
   obtain ⟨d0,d1,d2⟩:=Zg hcl hlt;rw [<-hb0.cell (p:=⟨b,off+k*3,none⟩) hbw] at d0;rw [<-hb0.cell (p:=⟨b,off+k*3+1,none⟩) hbw] at d1;rw [<-hb0.cell (p:=⟨b,off+k*3+2,none⟩) hbw] at d2;have HU:=Z9 (fun hh=>Jm (p:=U0) (xs:=ss) (k:=k) hst hh);have HN:=Z9 (fun hh=>Jl (p:=U0) (xs:=ss) hlt hh);clear hcl hst hb0;generalize Z8 ss k=s at *;obtain ⟨op,who,mk⟩:=s;simp only at d0 d1 d2;have hbr:b<wr.heap.size:=ZD hbw (uh BB).size;go_wp2_with fail;clear d0 d1 d2;obtain ⟨q,Hq⟩:=WH (U0 (op,who,mk));have hba:Below wr.heap.size wr (wr.alloc (.cells #[.bool op,.int .i64 who,.int .i64 mk] 87)):=ba _ _;replace BB:=bt BB hba;clear hba;refine (JP op who mk _).mono ?_;rw [uh Hq];rintro e w1 ⟨rfl,hb⟩;replace BB:=bt BB hb;clear hb;cases q
   ·go_wp2_with fail
    go_ret;exact ⟨Z5 (uh HN (uh Hq)).symm,uh BB⟩
   ·go_wp2_with fail
    go_roundw
    case rel=>exact ⟨k+1,by omega,by go_num,uh HU (uh Hq),uh BB⟩
    case measure=>exact ms
  ·obtain rfl:k=ss.length:=by omega
   go_wp2_with fail;go_ret;exact ⟨Z5 (uh Hst).symm,uh BB⟩
theorem GP  {ss:List ZZ} (h:YZ w v ss) (hl:ss.length<=1000) {f:FuncId} {cap:Array Value} {av:Int->Int->Int->Int->Int->Int->Int->Int->Int->Int->Int->Array Value} {p:ZZ->Bool} (hp:∀ (st be rk my gu lo hi hd ca ut wk:Int) {W:World},Below w.heap.size w W->Calls prog f (av st be rk my gu lo hi hd ca ut wk) W fun e w'=>e= .returned (.bool (p (st,be,rk,my,gu,lo,hi,hd,ca,ut,wk)))/\Below W.heap.size W w')
  (s:∀ (p:ZZ->Bool),YZ w v ss->ss.length<=1000->Hid (∀ (st be rk my gu lo hi hd ca ut wk:Int) {W:World},Below w.heap.size w W->Calls prog f (av st be rk my gu lo hi hd ca ut wk) W fun e w'=>e= .returned (.bool (p (st,be,rk,my,gu,lo,hi,hd,ca,ut,wk)))/\Below W.heap.size W w')->Calls prog 224 #[v,.func (Fn.func f) #[] cap] w fun e w'=> ∃ v',e= .returned v'/\NumsAt w.heap.size w' v' (ZS p ss ss.length)/\Below w.heap.size w w':=by
  intro p h hl Hp;obtain ⟨a,cap,rfl,hc,hm,hr⟩:=h;have Hr:=Z9 hr;clear hr;go_enter func224,ntmps224;go_wp2_with fail
  go_loopw [5,11] (fun l i wr=> ∃ k:Nat,k<=ss.length/\i= .int .i64 k/\NumsAt w.heap.size wr l (ZS p ss k)/\Below w.heap.size w wr) (fun _ i _=>ss.length-(intOf i).toNat)
  case atStart=>exact ⟨0,ZR _,rfl,Zh rfl (ZY _),(ba _ _)⟩
  case round=>
   obtain ⟨k,hk,rfl,hln,hb0⟩:=hrel;obtain ⟨la,lc,rfl⟩:=RecAt.shape hln;have HL:=Z9 hln;have BB:=Z9 hb0;have hfl:=Wc p ss k;clear hln;by_cases hlt:k<ss.length
   ·have hlt1:(k:Int)<(ss.length:Int):=by omega
    rcases uh Hr with e0 | ⟨b,off,rfl,hbw,hcl⟩
    ·rw [e0] at hlt;simp at hlt
    obtain ⟨d0,d1,d2,d3,d4,d5,d6,d7,d8,d9,d10⟩:=ZB hcl hlt;rw [<-hb0.cell (p:=⟨b,off+k*11,none⟩) hbw] at d0;rw [<-hb0.cell (p:=⟨b,off+k*11+1,none⟩) hbw] at d1;rw [<-hb0.cell (p:=⟨b,off+k*11+2,none⟩) hbw] at d2;rw [<-hb0.cell (p:=⟨b,off+k*11+3,none⟩) hbw] at d3;rw [<-hb0.cell (p:=⟨b,off+k*11+4,none⟩) hbw] at d4;rw [<-hb0.cell (p:=⟨b,off+k*11+5,none⟩) hbw] at d5;rw [<-hb0.cell (p:=⟨b,off+k*11+6,none⟩) hbw] at d6;rw [<-hb0.cell (p:=⟨b,off+k*11+7,none⟩) hbw] at d7;rw [<-hb0.cell (p:=⟨b,off+k*11+8,none⟩) hbw] at d8;rw [<-hb0.cell (p:=⟨b,off+k*11+9,none⟩) hbw] at d9;rw [<-hb0.cell (p:=⟨b,off+k*11+10,none⟩) hbw] at d10;have HY:=Z9 (fun hh=>YK (p:=p) (xs:=ss) (k:=k) hh);have HN:=Z9 (fun hh=>Yf (p:=p) (xs:=ss) (k:=k) hh);clear hcl hb0;generalize Z8 ss k=s at *;obtain ⟨st,be,rk,my,gu,lo,hi,hd,ca,ut,wk⟩:=s;simp only at d0 d1 d2 d3 d4 d5 d6 d7 d8 d9 d10;have hbr:b<wr.heap.size:=ZD hbw (uh BB).size;go_wp2_with fail;clear d0 d1 d2 d3 d4 d5 d6 d7 d8 d9 d10;obtain ⟨q,Hq⟩:=WH (p (st,be,rk,my,gu,lo,hi,hd,ca,ut,wk));have hba:Below wr.heap.size wr (wr.alloc (.cells (I11 st be rk my gu lo hi hd ca ut wk) 59)):=ba _ _;replace BB:=bt BB hba;replace HL:=Z9 (RecAt.later (uh HL) hba);clear hba;refine (uh Hp st be rk my gu lo hi hd ca ut wk (uh BB)).mono ?_;rw [uh Hq];rintro e w1 ⟨rfl,hb⟩;replace BB:=bt BB hb;replace HL:=Z9 (RecAt.later (uh HL) hb);clear hb;cases q
    ·go_wp2_with fail
     go_roundw
     case rel=>exact ⟨k+1,by omega,by go_num,by rw [uh HN (uh Hq)];exact uh HL,uh BB⟩
     case measure=>exact ms
    ·have hsx:=(uh BB).size
     go_wp2_with (at_builtin;refine ZN tyN rfl (.tmp 19) (.tmp 21) 161 underlying161 rfl w.heap.size _ _ (ZS p ss k) [(k:Int)] rfl rfl (RecAt.later (uh HL) ((ba _ _))) (Wa (k:Int) rfl (ZY _) (by omega)) (by simp;omega) (by simp;omega) ?_;intro u9 w9 hp9 hg9 hat9;have HP9:=Z9 hp9;have HG9:=Z9 hg9;clear hp9 hg9 hat9)
     have hgo:∀ i,(Value.slice la (ZS p ss k).length lc).ownBlock=some i->w.heap.size<=i:=fun i e=>(RecAt.lt (uh HL) e).1;have hb9:Below w.heap.size w1 w9:=((Z0 _ _).alloc hsx _).trans ((Z0 _ _).grown (uh HG9) (by simp;omega) hgo);have hb8:=(uh BB).trans hb9;go_wp2_with fail;go_roundw
     case rel=>exact ⟨k+1,by omega,by go_num,by rw [uh HY (uh Hq)];exact uh HP9,hb8⟩
     case measure=>exact ms
   ·obtain rfl:k=ss.length:=by omega
    go_wp2_with fail;go_ret
    exact ⟨_,rfl,uh HL,uh BB⟩):Calls prog 224 #[v,.func (Fn.func f) #[] cap] w fun e w'=> ∃ v',e= .returned v'/\NumsAt w.heap.size w' v' (ZS p ss ss.length)/\Below w.heap.size w w':=s p h hl (Z9 hp)
theorem Ll  {ss:List ZZ} {R:Nat} {bn:Int} (h:YZ w v ss) (hl:ss.length<=1000) (hc0:w.cell? ⟨R,0,none⟩=some (.int .i64 bn)) (hR:R<w.heap.size):Calls prog 224 #[v,.func (Fn.func 225) #[] #[.pointer (some ⟨R,0,none⟩)]] w fun e w'=> ∃ v',e= .returned v'/\NumsAt w.heap.size w' v' (ZS (atB bn) ss ss.length)/\Below w.heap.size w w':=GP h hl (fun st be rk my gu lo hi hd ca ut wk _ hb=>ME st be rk my gu lo hi hd ca ut wk bn R _ (((hb.cell (p:=⟨R,0,none⟩) hR).trans hc0)) (ZD hR hb.size))
theorem Px  {ss:List ZZ} {R:Nat} {bn:Int} (h:YZ w v ss) (hl:ss.length<=1000) (hc0:w.cell? ⟨R,0,none⟩=some (.int .i64 bn)) (hR:R<w.heap.size):Calls prog 224 #[v,.func (Fn.func 227) #[] #[.pointer (some ⟨R,0,none⟩)]] w fun e w'=> ∃ v',e= .returned v'/\NumsAt w.heap.size w' v' (ZS (YR bn) ss ss.length)/\Below w.heap.size w w':=GP h hl (fun st be rk my gu lo hi hd ca ut wk _ hb=>P7 st be rk my gu lo hi hd ca ut wk bn R _ (((hb.cell (p:=⟨R,0,none⟩) hR).trans hc0)) (ZD hR hb.size))
theorem NZ  {ss:List Yt} (h:XE w v ss) (hl:ss.length<=1000):Calls prog 221 #[v,.func (Fn.func 194) #[] #[]] w fun e w'=> ∃ v',e= .returned v'/\NumsAt w.heap.size w' v' (ZS Ug ss ss.length)/\Below w.heap.size w w':=by
 obtain ⟨a,cap,rfl,hc,hm,hr⟩:=h;have Hr:=Z9 hr;clear hr;go_enter func221,ntmps221;go_wp2_with fail
 go_loopw [5,11] (fun l i wr=> ∃ k:Nat,k<=ss.length/\i= .int .i64 k/\NumsAt w.heap.size wr l (ZS Ug ss k)/\Below w.heap.size w wr) (fun _ i _=>ss.length-(intOf i).toNat)
 case atStart=>exact ⟨0,ZR _,rfl,Zh rfl (ZY _),(ba _ _)⟩
 case round=>
  obtain ⟨k,hk,rfl,hln,hb0⟩:=hrel;obtain ⟨la,lc,rfl⟩:=RecAt.shape hln;have HL:=Z9 hln;have BB:=Z9 hb0;have hfl:=Wc Ug ss k;clear hln;by_cases hlt:k<ss.length
  ·have hlt1:(k:Int)<(ss.length:Int):=by omega
   rcases uh Hr with e0 | ⟨b,off,rfl,hbw,hcl⟩
   ·rw [e0] at hlt;simp at hlt
   obtain ⟨d0,d1,d2⟩:=Zg hcl hlt;rw [<-hb0.cell (p:=⟨b,off+k*3,none⟩) hbw] at d0;rw [<-hb0.cell (p:=⟨b,off+k*3+1,none⟩) hbw] at d1;rw [<-hb0.cell (p:=⟨b,off+k*3+2,none⟩) hbw] at d2;have HY:=Z9 (fun hh=>YK (p:=Ug) (xs:=ss) (k:=k) hh);have HN:=Z9 (fun hh=>Yf (p:=Ug) (xs:=ss) (k:=k) hh);clear hcl hb0;generalize Z8 ss k=s at *;obtain ⟨op,who,mk⟩:=s;simp only at d0 d1 d2;have hbr:b<wr.heap.size:=ZD hbw (uh BB).size;go_wp2_with fail;clear d0 d1 d2;obtain ⟨q,Hq⟩:=WH (Ug (op,who,mk));have hba:Below wr.heap.size wr (wr.alloc (.cells #[.bool op,.int .i64 who,.int .i64 mk] 87)):=ba _ _;replace BB:=bt BB hba;replace HL:=Z9 (RecAt.later (uh HL) hba);clear hba;refine ck (Calls.bool_of (RS op who mk _) (uh Hq)) fun w1 hb=> ?_;replace BB:=bt BB hb;replace HL:=Z9 (RecAt.later (uh HL) hb);clear hb;cases q
   ·go_wp2_with fail
    go_roundw
    case rel=>exact ⟨k+1,by omega,by go_num,by rw [uh HN (uh Hq)];exact uh HL,uh BB⟩
    case measure=>exact ms
   ·have hsx:=(uh BB).size
    go_wp2_with (at_builtin;refine ZN tyN rfl (.tmp 19) (.tmp 21) 161 underlying161 rfl w.heap.size _ _ (ZS Ug ss k) [(k:Int)] rfl rfl (RecAt.later (uh HL) ((ba _ _))) (Wa (k:Int) rfl (ZY _) (by omega)) (by simp;omega) (by simp;omega) ?_;intro u9 w9 hp9 hg9 hat9;have HP9:=Z9 hp9;have HG9:=Z9 hg9;clear hp9 hg9 hat9)
    have hgo:∀ i,(Value.slice la (ZS Ug ss k).length lc).ownBlock=some i->w.heap.size<=i:=fun i e=>(RecAt.lt (uh HL) e).1;have hb9:Below w.heap.size w1 w9:=((Z0 _ _).alloc hsx _).trans ((Z0 _ _).grown (uh HG9) (by simp;omega) hgo);have hb8:=(uh BB).trans hb9;go_wp2_with fail;go_roundw
    case rel=>exact ⟨k+1,by omega,by go_num,by rw [uh HY (uh Hq)];exact uh HP9,hb8⟩
    case measure=>exact ms
  ·obtain rfl:k=ss.length:=by omega
   go_wp2_with fail;go_ret;exact ⟨_,rfl,uh HL,uh BB⟩
def Pw (gs:List ZG) (s:ZZ):Int:=min (max s.2.2.2.2.2.2.2.2.2.1 (VE (bnd gs s.2.2.2.2.1) s.2.2.2.2.2.1 s.2.2.2.2.2.2.1).1) (VE (bnd gs s.2.2.2.2.1) s.2.2.2.2.2.1 s.2.2.2.2.2.2.1).2
def Zy (m:Z3) (who:Int):Int:=Pw m.gd (Z8 m.sm who.toNat)
theorem Fa (gs:List ZG) (s:ZZ):0<=Pw gs s/\Pw gs s<=1024:=by
 obtain ⟨b0,b1,b2⟩:=Cs gs s.2.2.2.2.1;obtain ⟨n0,n1,n2⟩:=GB (lo:=s.2.2.2.2.2.1) (hi:=s.2.2.2.2.2.2.1) b0 b1 b2;unfold Pw;omega
theorem TD (m:Z3) (who:Int):0<=Zy m who/\Zy m who<=1024:=Fa _ _
def VN (m:Z3) (but:Int) (q:List Z6):Int:=q.foldl (fun n e=>if e.2=but then n else n+Zy m e.2) 0
theorem Jb (m:Z3) (but:Int) (q:List Z6) (e:Z6):VN m but (q++[e])=if e.2=but then VN m but q else VN m but q+Zy m e.2:=by
 unfold VN;rw [List.foldl_append];rfl
theorem Li (m:Z3) (but:Int):∀ (q:List Z6) (n:Int),0<=n->0<=q.foldl (fun n e=>if e.2=but then n else n+Zy m e.2) n/\q.foldl (fun n e=>if e.2=but then n else n+Zy m e.2) n<=n+1024*q.length
 | [],n,h=>⟨h,by simp⟩
 | e::q,n,h=>by
  have hw:=TD m e.2;have ih:=Li m but q (if e.2=but then n else n+Zy m e.2) (by split<;>omega);refine ⟨ih.1,Int.le_trans ih.2 ?_⟩;simp only [XY,Int.natCast_add,Int.natCast_one]
  split<;>omega
theorem Lj (m:Z3) (but:Int) (q:List Z6):0<=VN m but q/\VN m but q<=1024*q.length:=by
 have:=Li m but q 0 (by omega);unfold VN;omega
def Zu (m:Z3) (b but:Int):Int:=VN m but (atV m.sm b m.sm.length)
theorem UL (m:Z3) (b but:Int):0<=Zu m b but/\Zu m b but<=1024*m.sm.length:=by
 have h:=Lj m but (atV m.sm b m.sm.length);have hl:=TU m.sm b m.sm.length;unfold Zu;refine ⟨h.1,Int.le_trans h.2 ?_⟩;omega
def Zj (m:Z3) (room:Int):Nat->Int × Int
 | 0=>(0,0)
 | k+1=>if (Xg m.rm k:Int)=room then ((if (Z8 m.dk k).1 then max (Zj m room k).1 (Zu m k (-1)) else (Zj m room k).1),(Zj m room k).2+Zu m k (-1)) else Zj m room k
theorem Nq (m:Z3) (room:Int) (hl:m.sm.length<=12):∀ k:Nat,(0<=(Zj m room k).1/\(Zj m room k).1<=12288)/\0<=(Zj m room k).2/\(Zj m room k).2<=12288*k
 | 0=>by simp [Zj]
 | k+1=>by
  have ih:=Nq m room hl k;have hu:=UL m k (-1);unfold Zj
  split
  ·simp only
   constructor
   ·split<;>omega
   ·push_cast;omega
  ·push_cast;omega
def UR (m:Z3) (room:Nat):Int:=QN (ZU m.rm room) (Zj m room m.dk.length).1 (Zj m room m.dk.length).2
def Ws (m:Z3):Nat->Int
 | 0=>0
 | k+1=>Ws m k+UR m k
def Re (m:Z3):Int:=Ws m m.rm.length
theorem QC (m:Z3):∀ k:Nat,-(k:Int)<=Ws m k/\Ws m k<=1024000000*k
 | 0=>by simp [Ws]
 | k+1=>by
  have ih:=QC m k;have hc:=JA (ZU m.rm k) (WZ (ZU m.rm k) (Zj m k m.dk.length).1) (Zj m k m.dk.length).2;unfold Ws UR QN
  push_cast
  omega
def St (s:ZZ) (b:Int):ZZ:=(2,b,s.2.2)
def Xw (m:Z3) (who b:Int):Z3:={ m with sm:=m.sm.set who.toNat (St (Z8 m.sm who.toNat) b) }
def Zt (m:Z3) (who b:Int):Int:=Re (Xw m who b)
def Yi (m:Z3) (who:Int) (b:Nat):Bool:=(Z8 m.dk b).1 && UQ (Z8 m.sm who.toNat).2.2.2.1 b
def Qd (m:Z3) (who:Int) (b:Nat):Bool:=Yi m who b && Vg (Zy m who) (Zu m b who) (YO m.rm b)
def VM (m:Z3) (who:Int):Nat->List Int
 | 0=>[]
 | k+1=>if Qd m who k then VM m who k++[(k:Int)] else VM m who k
def Zc (m:Z3) (who:Int):List Int:=VM m who m.dk.length
theorem QE (m:Z3) (who:Int):∀ k,(VM m who k).length<=k
 | 0=>ZY _
 | k+1=>by
  have:=QE m who k;unfold VM
  split
  ·simp;omega
  ·omega
theorem QF (m:Z3) (who:Int) (x:Int):∀ k,x ∈ VM m who k ↔ ∃ b:Nat,b<k/\x=(b:Int)/\Qd m who b=true
 | 0=>by simp [VM]
 | k+1=>by
  have ih:=QF m who x k;unfold VM
  split
  ·rename_i hf
   rw [List.mem_append,ih];constructor
   ·rintro (⟨b,hb,e,h⟩ | h)
    ·exact ⟨b,by omega,e,h⟩
    ·exact ⟨k,by omega,by simpa using h,hf⟩
   ·rintro ⟨b,hb,e,h⟩
    by_cases hbk:b=k
    ·subst hbk;right;simp [e]
    ·left;exact ⟨b,by omega,e,h⟩
  ·rename_i hf
   rw [ih];constructor
   ·rintro ⟨b,hb,e,h⟩
    exact ⟨b,by omega,e,h⟩
   ·rintro ⟨b,hb,e,h⟩
    by_cases hbk:b=k
    ·subst hbk;exact absurd h hf
    ·exact ⟨b,by omega,e,h⟩
def TY (m:Z3) (b:Nat):Bool:=(Z8 m.dk b).1 && WB (Zu m b (-1)) (YO m.rm b)
def XA (m:Z3):Bool:=(List.range m.dk.length).any (TY m)
def XD (m:Z3) (who:Int) (a:Int × Int) (b:Int):Int × Int:=if Zt m who b<a.2\/(Zt m who b=a.2/\b=(Z8 m.sm who.toNat).2.1) then (b,Zt m who b) else a
def X8 (m:Z3) (who:Int) (f:List Int) (k:Nat):Int × Int:=((f.take k).drop 1).foldl (XD m who) (Z8 f 0,Zt m who (Z8 f 0))
def Y8 (m:Z3) (who:Int):Nat->Int × Int
 | 0=>(-1,0)
 | k+1=>if Yi m who k && (decide ((Y8 m who k).1<0) || decide ((Y8 m who k).2<Yr (Zu m k who) (YO m.rm k))) then ((k:Int),Yr (Zu m k who) (YO m.rm k)) else Y8 m who k
def YL (m:Z3) (who:Int):Int:=if !XA m && decide (0<(Zc m who).length) then (X8 m who (Zc m who) (Zc m who).length).1 else (Y8 m who m.dk.length).1
theorem Jt (m:Z3) (who:Int) (P:Int->Prop):∀ (f:List Int) (a:Int × Int),P a.1->(∀ x ∈ f,P x)->P (f.foldl (XD m who) a).1
 | [],a,h,_=>h
 | b::f,a,h,hf=>by
  refine Jt m who P f (XD m who a b) ?_ (fun x hx=>hf x (List.mem_cons_of_mem _ hx));unfold XD
  split
  ·exact hf b (by simp)
  ·exact h
theorem Ml (m:Z3) (who:Int):∀ k:Nat,((Y8 m who k).1= -1/\ ∀ b,b<k->Yi m who b=false)\/ ∃ b:Nat,b<k/\(Y8 m who k).1=(b:Int)/\Yi m who b=true
 | 0=> .inl ⟨rfl,fun b hb=>by omega⟩
 | k+1=>by
  have ih:=Ml m who k;unfold Y8
  split
  ·rename_i h
   simp only [ZJ] at h;exact .inr ⟨k,by omega,rfl,h.1⟩
  ·rename_i h
   rcases ih with ⟨e,hn⟩ | ⟨b,hb,e,hm⟩
   ·refine .inl ⟨e,fun b hb=> ?_⟩
    by_cases hbk:b=k
    ·subst hbk
     cases hm:Yi m who b
     ·rfl
     ·exfalso
      apply h;rw [hm,e];rfl
    ·exact hn b (by omega)
   ·exact .inr ⟨b,by omega,e,hm⟩
theorem Wj (m:Z3) (who:Int):(YL m who= -1/\ ∀ b,b<m.dk.length->Yi m who b=false)\/ ∃ b:Nat,b<m.dk.length/\YL m who=(b:Int)/\Yi m who b=true:=by
 unfold YL
 split
 ·rename_i h
  simp only [ZJ,Yg] at h;right
  have hin:∀ x ∈ Zc m who,∃ b:Nat,b<m.dk.length/\x=(b:Int)/\Yi m who b=true:=by
   intro x hx;obtain ⟨b,hb,e,hf⟩:=(QF m who x m.dk.length).1 hx;unfold Qd at hf;simp only [ZJ] at hf;exact ⟨b,hb,e,hf.1⟩
  unfold X8;exact Jt m who (fun x=> ∃ b:Nat,b<m.dk.length/\x=(b:Int)/\Yi m who b=true) _ _ (hin _ (Vv h.2)) (fun x hx=>hin x (List.mem_of_mem_take (List.mem_of_mem_drop hx)))
 ·exact Ml m who m.dk.length
theorem O7 {st be rk my gu lo hi hd ca ut wk:Int} (h0:1<=st/\st<=3) (h1:0<=be/\be<=7) (h2:inB rk (-5) 5=true) (h3:1<=my/\my<=255) (h4 : -1<=gu/\gu<=5) (h5:Yq lo hi=true) (h6 : -1000000000000<=hd/\hd<=1000000000000) (h7:0<=ca/\ca<=YM rk-1) (h8:0<=ut/\ut<=1024) (h9:0<=wk/\wk<=100000000000) :
  Xe (st,be,rk,my,gu,lo,hi,hd,ca,ut,wk)=true:=by
 unfold Xe;simp only [ZJ];exact ⟨Zf h0.1 h0.2,Zf h1.1 h1.2,h2,Zf h3.1 h3.2,Zf h4.1 h4.2,h5,Zf h6.1 h6.2,Zf h7.1 h7.2,Zf h8.1 h8.2,Zf h9.1 h9.2⟩
theorem Vj {s:ZZ} : Ym m s=true ↔ s=TF\/(Xe s=true/\s.2.2.2.2.1<m.gd.length/\s.2.1<m.dk.length):=by
 unfold Ym Zi;simp only [ZJ,Bool.or_eq_true,Yg];constructor
 ·rintro ⟨hg | hp,hr⟩
  ·exact .inl (Ri hg)
  ·right
   refine ⟨hp,?_⟩
   rcases hr with e | e
   ·have:s.1=0:=by simpa using e
    rw [Kw this] at hp;cases hp
   ·exact e
 ·rintro (rfl | ⟨hp,hr⟩)
  ·exact ⟨.inl Ia,.inl rfl⟩
  ·exact ⟨.inr hp,.inr hr⟩
theorem SL {s:ZZ} (h:ZM s=false):Xh m s=true:=by unfold Xh;rw [h];rfl
theorem Mp {s:ZZ} (h1:(Z8 m.dk s.2.1.toNat).1=true) (h2:UQ s.2.2.2.1 s.2.1=true) (h3:Yl (Wy s) (Z8 m.dk s.2.1.toNat).2.2=true):Xh m s=true:=by
 unfold Xh;rw [h1,h2,show s.2.2.2.2.2.2.2.1=Wy s from rfl,h3];simp
theorem Za (h:Zl m=true):Loose m:=by
 unfold Zl at h;simp only [ZJ] at h;exact Tj h.1
def setS (m:Z3) (k:Nat) (s:ZZ):Z3:={ m with sm:=m.sm.set k s }
theorem Loose.setS (h:Loose m) {k:Nat} (hk:k<m.sm.length) {s:ZZ} (h1:Ym m s=true) (h2:Xh m s=true):Loose (setS m k s):=by
 refine ⟨?_,h.desk,h.pace,?_,?_,h.openD⟩
 ·have:=h.head
  unfold XT at this ⊢;unfold Go.Proofs.YtgdpaigcmoifbaaGreatDoor.setS;simpa using this
 ·intro i hi
  have hi':i<m.sm.length:=by unfold Go.Proofs.YtgdpaigcmoifbaaGreatDoor.setS at hi;simpa using hi
  show Ym (Go.Proofs.YtgdpaigcmoifbaaGreatDoor.setS m k s) (Z8 (m.sm.set k s) i)=true;rw [T9 (m:=m) (m':=Go.Proofs.YtgdpaigcmoifbaaGreatDoor.setS m k s) rfl rfl,ZC hk]
  split
  ·exact h1
  ·exact h.here i hi'
 ·intro i hi
  have hi':i<m.sm.length:=by unfold Go.Proofs.YtgdpaigcmoifbaaGreatDoor.setS at hi;simpa using hi
  show Xh m (Z8 (m.sm.set k s) i)=true;rw [ZC hk]
  split
  ·exact h2
  ·exact h.seat i hi'
theorem XL {α:Type} [Inhabited α] (xs:List α) (x:α) (i:Nat):Z8 (xs++[x]) i=if i=xs.length then x else Z8 xs i:=by
 unfold Z8
 split
 ·rename_i h;subst h;simp [List.getD]
 ·rename_i h
  rcases Nat.lt_or_ge i xs.length with hi | hi
  ·simp [List.getD,List.getElem?_append_left hi]
  ·simp [List.getD,List.getElem?_append_right hi,List.getElem?_eq_none hi]
   rw [List.getElem?_eq_none (by simp;omega)];rfl
def pushS (m:Z3) (s:ZZ):Z3:={ m with sm:=m.sm++[s] }
theorem Loose.pushS (h:Loose m) (hl:m.sm.length<12) {s:ZZ} (h1:Ym m s=true) (h2:Xh m s=true):Loose (pushS m s):=by
 refine ⟨?_,h.desk,h.pace,?_,?_,h.openD⟩
 ·have:=h.head
  unfold XT at this ⊢;unfold Go.Proofs.YtgdpaigcmoifbaaGreatDoor.pushS;simp only [ZJ,Yg] at this ⊢;refine ⟨this.1,this.2.1,?_,this.2.2.2⟩;simp;omega
 ·intro i hi
  have hi':i<m.sm.length+1:=by unfold Go.Proofs.YtgdpaigcmoifbaaGreatDoor.pushS at hi;simpa using hi
  show Ym (Go.Proofs.YtgdpaigcmoifbaaGreatDoor.pushS m s) (Z8 (m.sm++[s]) i)=true;rw [T9 (m:=m) (m':=Go.Proofs.YtgdpaigcmoifbaaGreatDoor.pushS m s) rfl rfl,XL]
  split
  ·exact h1
  ·exact h.here i (by omega)
 ·intro i hi
  have hi':i<m.sm.length+1:=by unfold Go.Proofs.YtgdpaigcmoifbaaGreatDoor.pushS at hi;simpa using hi
  show Xh m (Z8 (m.sm++[s]) i)=true;rw [XL]
  split
  ·exact h2
  ·exact h.seat i (by omega)
def XX (m:Z3) (b:Int):Int:=(Z8 m.dk b.toNat).2.2
def R1 (s:ZZ) (b had:Int):ZZ:=(2,b,s.2.2.1,s.2.2.2.1,s.2.2.2.2.1,s.2.2.2.2.2.1,s.2.2.2.2.2.2.1,had,s.2.2.2.2.2.2.2.2)
def ZE (rank may guild:Int):ZZ:=(1,0,rank,may,guild,0,1024,0,0,0,0)
theorem Qz (h:Loose m):m.dk.length<=8:=by
 have:=h.head;unfold XT at this;simp only [ZJ,Yg] at this;have h8:=(Zd this.1).2.2.2;omega
theorem Loose.limits (h:Loose m) {k:Nat} (hk:k<m.sm.length) (hs:(Z8 m.sm k).1 ≠ 0):Xe (Z8 m.sm k)=true/\(Z8 m.sm k).2.2.2.2.1<m.gd.length/\(Z8 m.sm k).2.1<m.dk.length:=by
 rcases Vj.1 (h.here k hk) with e | e
 ·rw [e] at hs;exact absurd rfl hs
 ·exact e
theorem MS (h:Loose m) {k:Nat} (hk:k<m.sm.length) (hp:ZM (Z8 m.sm k)=true):Loose (setS m k (stS (Z8 m.sm k) 1)):=
 h.setS hk (Ow (h.here k hk) hp (by omega) (by omega)) (SL rfl)
theorem OJ (h:Loose m) {k:Nat} (hk:k<m.sm.length):Loose (setS m k TF):=
 h.setS hk (Vj.2 (.inl rfl)) (SL rfl)
theorem Eg {s:ZZ} {b:Nat} {had:Int} (h:Loose m) (hp:Xe s=true) (hg:s.2.2.2.2.1<m.gd.length) (hb:b<m.dk.length) (ho:(Z8 m.dk b).1=true) (hm:UQ s.2.2.2.1 b=true) (hd:Yl had (Z8 m.dk b).2.2=true) :
  Ym m (R1 s b had)=true/\Xh m (R1 s b had)=true:=by
 have h8:=Qz h;obtain ⟨st,be,rk,my,gu,lo',hi',hd',ca,ut,wk⟩:=s;obtain ⟨x0,x1,x2,x3,x4,x5,x6,x7,x8,x9⟩:=Xu hp;obtain ⟨d0,d1,_⟩:=Us hd;refine ⟨Vj.2 (.inr ⟨O7 (by omega) ⟨by omega,by omega⟩ x2 x3 x4 x5 ⟨d0,d1⟩ x7 x8 x9,hg,?_⟩),?_⟩
 ·show (b:Int)<_;omega
 ·exact Mp (m:=m) (s:=R1 (st,be,rk,my,gu,lo',hi',hd',ca,ut,wk) b had) (by show (Z8 m.dk ((b:Int)).toNat).1=true;simpa using ho) hm (by show Yl had (Z8 m.dk ((b:Int)).toNat).2.2=true;simpa using hd)
def Xa:Z3:=⟨[],[],[],[],[],0⟩
def Xd (m:Z3) (who:Int):Bool:=inB who 0 ((m.sm.length:Int)-1) && !((Z8 m.sm who.toNat).1 ==0)
theorem Xn {who:Int} (h:Xd m who=true):∃ k:Nat,who=(k:Int)/\k<m.sm.length/\(Z8 m.sm k).1 ≠ 0:=by
 unfold Xd at h;simp only [ZJ,Bool.not_eq_true',beq_eq_false_iff_ne] at h;have h1:=ZO h.1;exact ⟨who.toNat,by omega,by omega,h.2⟩
theorem Ol (h:Loose m):Few m:=by
 have hd:=h.head;unfold XT at hd;simp only [ZJ,Yg] at hd;obtain ⟨h1,h2,h3,h4,h5,_⟩:=hd;obtain ⟨r1,r2,r3,r4⟩:=Zd h1;have hg:=(RQ h2).2;refine ⟨by omega,fun r hr=> ?_,by omega,by omega,by omega,by omega⟩;have hrb:=List.all_eq_true.1 r3 r hr;unfold Zn at hrb;simp only [ZJ] at hrb;have:=ZO hrb.2.1;omega
def Xf (m:Z3) (who:Int):Z3 × Int:=
 if Zl m then (if Xd m who then (if ZM (Z8 m.sm who.toNat) then (Zs (setS m who.toNat (stS (Z8 m.sm who.toNat) 1)),0) else (m,2)) else (m,1)) else (Xa,3)
def Ye (m:Z3) (who:Int):Z3 × Int:=
 if Zl m then (if Xd m who then (Zs (setS m who.toNat TF),0) else (m,1)) else (Xa,3)
theorem IP (h:Zl m=true) (who:Int):Zl (Xf m who).1=true:=by
 unfold Xf;rw [h];simp only [if_true]
 split
 ·rename_i hw
  obtain ⟨k,rfl,hk,hs⟩:=Xn hw;rw [show ((k:Int)).toNat=k by simp]
  split
  ·rename_i hp
   exact Up (MS (Za h) hk hp)
  ·exact h
 ·exact h
theorem J5 (h:Zl m=true) (who:Int):Zl (Ye m who).1=true:=by
 unfold Ye;rw [h];simp only [if_true]
 split
 ·rename_i hw
  obtain ⟨k,rfl,hk,hs⟩:=Xn hw;rw [show ((k:Int)).toNat=k by simp];exact Up (OJ (Za h) hk)
 ·exact h
def SN (m:Z3) (who:Int):Int:=if Zl m && Xd m who then Zy m who else -1
theorem FullSmy.set_off {n₀:Nat}  {qs:List (Z4 × Value)} (h:FullSmy n₀ w v0 v1 v2 v3 v4 m qs) {g:Nat} (ho:∀ k,(v0.ownBlock=some k\/(∃ q ∈ qs,q.2.ownBlock=some k)\/v1.ownBlock=some k\/v2.ownBlock=some k\/v3.ownBlock=some k\/v4.ownBlock=some k)->k ≠ g) (o:Nat) (u:Value):FullSmy n₀ (w.setCell ⟨g,o,none⟩ u) v0 v1 v2 v3 v4 m qs:=by
 have hne:∀ k,k ≠ g->(w.setCell ⟨g,o,none⟩ u).heap[k]?=w.heap[k]?:=fun k hk=>heap_setCell_other w _ k u hk;exact ⟨h.hall.same2 fun k e=>hne k (ho k (by rcases e with e | e;exact .inl e;exact .inr (.inl e))),h.rm,RecAt.same h.gd fun k e=>hne k (ho k (.inr (.inr (.inl e)))),RecAt.same h.sm fun k e=>hne k (ho k (.inr (.inr (.inr (.inl e))))),RecAt.same h.dk fun k e=>hne k (ho k (.inr (.inr (.inr (.inr (.inl e)))))),RecAt.same h.pc fun k e=>hne k (ho k (.inr (.inr (.inr (.inr (.inr e)))))),h.h1,h.h2,h.h3,h.h4,h.a12,h.a13,h.a14,h.a23,h.a24,h.a34⟩
theorem QG (n₀:Nat) (w:World):FullSmy n₀ w (.slice none 0 0) (.slice none 0 0) (.slice none 0 0) (.slice none 0 0) (.slice none 0 0) Xa []:=by
 have hz:Off2 (.slice none 0 0) (.slice none 0 0):=fun b e=>by cases e
 exact ⟨OwnHall.nil _ _,rfl,World.ownsRow_nil _ _ _ _,World.ownsRow_nil _ _ _ _,World.ownsRow_nil _ _ _ _,World.ownsRow_nil _ _ _ _,⟨hz,fun q hq=>by cases hq⟩,⟨hz,fun q hq=>by cases hq⟩,⟨hz,fun q hq=>by cases hq⟩,⟨hz,fun q hq=>by cases hq⟩,hz,hz,hz,hz,hz,hz⟩
end Go.Proofs.YtgdpaigcmoifbaaGreatDoor
