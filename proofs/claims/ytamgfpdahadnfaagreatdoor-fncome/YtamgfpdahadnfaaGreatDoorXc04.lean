/- Part 4 of what the proof rests on. No condition but those that a theorem names. -/
import Derived.Test.YtamgfpdahadnfaaGreatDoorXc03
import Derived.WalkMore
set_option maxHeartbeats 8000000
set_option maxRecDepth 100000
namespace Go.Proofs.YtamgfpdahadnfaaGreatDoor
open Go.ChangeShapes Go.WideShapes Go.ChangeAt Go.RowKit Go.Sort
set_option linter.unusedVariables false
variable {w w' w0 w1 w2 w3 w₀ wr W W' X A B C : World} {v v0 v1 v2 v3 v4 u u0 u1 u2 u3 u4 : Value} {m : Z6}
def stS (s:Z3) (st:Int):Z3:=(st,s.2)
def ZB (ss:List Z3) (q:List Z4):List Z3:=q.foldl (fun ss e=>ss.set e.2.toNat (stS (Z8 ss e.2.toNat) 2)) ss
theorem Qd (ss:List Z3) (q:List Z4) (e:Z4):ZB ss (q++[e])=(ZB ss q).set e.2.toNat (stS (Z8 (ZB ss q) e.2.toNat) 2):=by
  unfold ZB;rw [List.foldl_append];rfl
theorem XA (q:List Z4):∀ ss:List Z3,(ZB ss q).length=ss.length:=by
  induction q with
  | nil=>intro ss;rfl
  | cons e q ih=>intro ss;show (ZB (ss.set e.2.toNat (stS (Z8 ss e.2.toNat) 2)) q).length=_;rw [ih,V4]
theorem QB (q:List Z4):∀ (ss:List Z3) (i:Nat),(∀ e ∈ q,0<=e.2/\e.2<ss.length)->((∃ e ∈ q,e.2=(i:Int))->Z8 (ZB ss q) i=stS (Z8 ss i) 2)/\((∀ e ∈ q,e.2 ≠ (i:Int))->Z8 (ZB ss q) i=Z8 ss i):=by
  induction q with
  | nil=>
    intro ss i h;exact ⟨fun ⟨e,he,_⟩=>(List.not_mem_nil he).elim,fun _=>rfl⟩
  | cons e q ih=>
    intro ss i h;obtain ⟨e0,e1⟩:=h e (by simp);have hs:=ZF (x:=stS (Z8 ss e.2.toNat) 2) (show e.2.toNat<ss.length by omega) i;obtain ⟨i1,i2⟩:=ih (ss.set e.2.toNat (stS (Z8 ss e.2.toNat) 2)) i (fun x hx=>by rw [V4];exact h x (List.mem_cons_of_mem _ hx));show ((∃ x ∈ e::q,x.2=(i:Int))->Z8 (ZB (ss.set e.2.toNat (stS (Z8 ss e.2.toNat) 2)) q) i=_)/\((∀ x ∈ e::q,x.2 ≠ (i:Int))->Z8 (ZB (ss.set e.2.toNat (stS (Z8 ss e.2.toNat) 2)) q) i=_)
    constructor
    · rintro ⟨x,hx,hxi⟩
      by_cases hq:∃ y ∈ q,y.2=(i:Int)
      · rw [i1 hq,hs]
        split
        · rename_i he;rw [he];rfl
        · rfl
      · rw [i2 (fun y hy e=>hq ⟨y,hy,e⟩),hs]
        rcases List.mem_cons.1 hx with rfl | hx
        · rw [if_pos (by omega)]
          rw [show x.2.toNat=i by omega]
        · exact absurd ⟨x,hx,hxi⟩ hq
    · intro hn
      rw [i2 (fun y hy=>hn y (List.mem_cons_of_mem _ hy)),hs,if_neg];have:=hn e (by simp);omega
def Wf (ss:List Z3) (b:Int) (d:XN):XN:=match atV ss b ss.length with
  | []=>(d.1,-1,d.2.2)
  | e::_=>(d.1,e.2,Zu d.2.2 e.1)
def Xb (m:Z6) (b:Nat):Z6:=match atV m.sm b m.sm.length with
  | []=>{ m with dk:=m.dk.set b ((Z8 m.dk b).1,-1,(Z8 m.dk b).2.2) }
  | e::t=>{ m with sm:=(ZB m.sm (e::t)).set e.2.toNat (stS (Z8 (ZB m.sm (e::t)) e.2.toNat) 3),dk:=m.dk.set b ((Z8 m.dk b).1,e.2,Zu (Z8 m.dk b).2.2 e.1) }
def YV (m:Z6):Nat->Z6
  | 0=>m
  | k+1=>Xb (YV m k) k
def ZM (m:Z6):Z6:=YV m m.dk.length
theorem Fv (m:Z6) (b:Nat):(Xb m b).rm=m.rm/\(Xb m b).gd=m.gd/\(Xb m b).pc=m.pc/\(Xb m b).now=m.now/\(Xb m b).sm.length=m.sm.length/\(Xb m b).dk.length=m.dk.length:=by
  unfold Xb
  split
  · simp
  · simp [XA]
theorem ZH (m:Z6):∀ k,(YV m k).rm=m.rm/\(YV m k).gd=m.gd/\(YV m k).pc=m.pc/\(YV m k).now=m.now/\(YV m k).sm.length=m.sm.length/\(YV m k).dk.length=m.dk.length
  | 0=>⟨rfl,rfl,rfl,rfl,rfl,rfl⟩
  | k+1=>by
    obtain ⟨h1,h2,h3,h4,h5,h6⟩:=ZH m k;obtain ⟨g1,g2,g3,g4,g5,g6⟩:=Fv (YV m k) k;exact ⟨g1.trans h1,g2.trans h2,g3.trans h3,g4.trans h4,g5.trans h5,g6.trans h6⟩
theorem OF (m : Z6) (b : Nat) {i : Nat} (hi : i < m.sm.length) : Z8 (Xb m b).sm i = if (Z8 m.sm i).2.1 = (b : Int) ∧ ZK (Z8 m.sm i) = true then stS (Z8 m.sm i) (if V1 m.sm b = (i : Int) then 3 else 2) else Z8 m.sm i := by
  have hq := XC m.sm (b : Int)
  have hf : V1 m.sm (b : Int) = match atV m.sm (b : Int) m.sm.length with
    | [] => -1
    | h :: _ => h.2 := rfl
  unfold Xb
  split
  · rename_i h0
    rw [if_neg];intro hp;have := (hq (WN (Z8 m.sm i), (i : Int)) m.sm.length).2 ⟨i, hi, hp.1, hp.2, rfl⟩;rw [h0] at this;exact List.not_mem_nil this
  · rename_i e t h0
    rw [h0] at hf;simp only at hf
    have hin : ∀ x ∈ e :: t, 0 ≤ x.2 ∧ x.2 < m.sm.length := by
      intro x hx;rw [← h0] at hx;obtain ⟨j, hj, _, _, rfl⟩ := (hq x _).1 hx;exact ⟨by show (0 : Int) ≤ (j : Int); omega, by show (j : Int) < _; omega⟩
    obtain ⟨w1, w2⟩ := QB (e :: t) m.sm i hin;obtain ⟨e0, e1⟩ := hin e (by simp);show Z8 ((ZB m.sm (e :: t)).set e.2.toNat _) i = _;rw [ZF (by rw [XA]; omega)];by_cases hp : (Z8 m.sm i).2.1 = (b : Int) ∧ ZK (Z8 m.sm i) = true
    · have hmem : (WN (Z8 m.sm i), (i : Int)) ∈ e :: t := by rw [← h0]; exact (hq _ _).2 ⟨i, hi, hp.1, hp.2, rfl⟩
      rw [if_pos hp, hf];by_cases hie : i = e.2.toNat
      · rw [if_pos hie, if_pos (by omega), ← hie, w1 ⟨_, hmem, rfl⟩]
        rfl
      · rw [if_neg hie, if_neg (by omega), w1 ⟨_, hmem, rfl⟩]
    · have hnm : ∀ x ∈ e :: t, x.2 ≠ (i : Int) := by
        intro x hx hxi;rw [← h0] at hx;obtain ⟨j, hj, j1, j2, rfl⟩ := (hq x _).1 hx
        have : j = i := by have : (j : Int) = (i : Int) := hxi
                           omega
        subst this;exact hp ⟨j1, j2⟩
      rw [if_neg hp, if_neg (by have := hnm e (by simp); omega), w2 hnm]
theorem Ft (m:Z6) {b:Nat} (hb:b<m.dk.length) (j:Nat):Z8 (Xb m b).dk j=if j=b then Wf m.sm b (Z8 m.dk b) else Z8 m.dk j:=by
  have hf:Wf m.sm (b:Int) (Z8 m.dk b)=match atV m.sm (b:Int) m.sm.length with
    | []=>((Z8 m.dk b).1,-1,(Z8 m.dk b).2.2)
    | e::_=>((Z8 m.dk b).1,e.2,Zu (Z8 m.dk b).2.2 e.1):=rfl
  unfold Xb
  split
  · rename_i h0
    rw [h0] at hf;rw [hf,<-ZF hb]
  · rename_i e t h0
    rw [h0] at hf;rw [hf,<-ZF hb]
theorem IF (m:Z6) (b:Nat):Alike m.sm (Xb m b).sm m.sm.length:=by
  intro i hi;rw [OF m b hi]
  split
  · rename_i hp
    refine ⟨rfl,?_,rfl⟩;rw [hp.2]
    split<;>rfl
  · exact ⟨rfl,rfl,rfl⟩
theorem Alike.trans {a b c:List Z3} {k:Nat} (h:Alike a b k) (g:Alike b c k):Alike a c k:=fun i hi=>⟨(g i hi).1.trans (h i hi).1,(g i hi).2.1.trans (h i hi).2.1,(g i hi).2.2.trans (h i hi).2.2⟩
theorem Xc (m:Z6):∀ k,Alike m.sm (YV m k).sm m.sm.length
  | 0=>fun _ _=>⟨rfl,rfl,rfl⟩
  | k+1=>by
    have h:=IF (YV m k) k;rw [(ZH m k).2.2.2.2.1] at h;exact (Xc m k).trans h
theorem Po (m:Z6) (k:Nat) (b:Int):atV (YV m k).sm b (YV m k).sm.length=atV m.sm b m.sm.length:=by
  rw [(ZH m k).2.2.2.2.1];exact JX b _ (Xc m k)
theorem IG (m:Z6) (k:Nat) (b:Int):V1 (YV m k).sm b=V1 m.sm b:=by unfold V1;rw [Po]
theorem Lz (m:Z6) (k:Nat) (b:Int) (d:XN):Wf (YV m k).sm b d=Wf m.sm b d:=by unfold Wf;rw [Po]
theorem Xd (m:Z6) {i:Nat} (hi:i<m.sm.length):∀ k:Nat,Z8 (YV m k).sm i=if (0<=(Z8 m.sm i).2.1/\(Z8 m.sm i).2.1<(k:Int))/\ZK (Z8 m.sm i)=true then stS (Z8 m.sm i) (if V1 m.sm (Z8 m.sm i).2.1=(i:Int) then 3 else 2) else Z8 m.sm i
  | 0=>by rw [if_neg (by omega)];rfl
  | k+1=>by
    have ih:=Xd m hi k;have ha:=Xc m k i hi;show Z8 (Xb (YV m k) k).sm i=_;rw [OF _ _ (by rw [(ZH m k).2.2.2.2.1];exact hi),ha.1,ha.2.1,IG];by_cases hp:ZK (Z8 m.sm i)=true
    · by_cases hb:(Z8 m.sm i).2.1=(k:Int)
      · have hc:(0<=(Z8 m.sm i).2.1/\(Z8 m.sm i).2.1<((k+1:Nat):Int))/\ZK (Z8 m.sm i)=true:=⟨by omega,hp⟩
        rw [if_pos ⟨hb,hp⟩,if_pos hc,ih,if_neg (by omega),hb]
      · rw [if_neg (fun h=>hb h.1),ih]
        by_cases hk:0<=(Z8 m.sm i).2.1/\(Z8 m.sm i).2.1<(k:Int)
        · have hc:(0<=(Z8 m.sm i).2.1/\(Z8 m.sm i).2.1<((k+1:Nat):Int))/\ZK (Z8 m.sm i)=true:=⟨by omega,hp⟩
          rw [if_pos ⟨hk,hp⟩,if_pos hc]
        · rw [if_neg (fun h=>hk h.1),if_neg (fun h=>hk (by omega))]
    · rw [if_neg (fun h=>hp h.2),ih,if_neg (fun h=>hp h.2),if_neg (fun h=>hp h.2)]
theorem Uw (m:Z6) (j:Nat):∀ k:Nat,k<=m.dk.length->Z8 (YV m k).dk j=if j<k then Wf m.sm j (Z8 m.dk j) else Z8 m.dk j
  | 0,_=>by rw [if_neg (by omega)];rfl
  | k+1,hk=>by
    have ih:=Uw m j k (by omega);show Z8 (Xb (YV m k) k).dk j=_;rw [Ft _ (by rw [(ZH m k).2.2.2.2.2];omega)];by_cases hjk:j=k
    · subst hjk
      rw [if_pos rfl,if_pos (by omega),Lz,ih,if_neg (by omega)]
    · rw [if_neg hjk,ih]
      by_cases h:j<k
      · rw [if_pos h,if_pos (by omega)]
      · rw [if_neg h,if_neg (by omega)]
structure Loose (m:Z6):Prop where
  head:YA m=true
  desk:∀ j,j<m.dk.length->Vv (Z8 m.dk j)=true
  pace:∀ j,j<m.pc.length->V3 m j=true
  here:∀ i,i<m.sm.length->XY m (Z8 m.sm i)=true
  seat:∀ i,i<m.sm.length->XI m (Z8 m.sm i)=true
  openD:∃ j,j<m.dk.length/\(Z8 m.dk j).1=true
theorem Tk (h:YK m=true):Loose m:=by
  unfold YK Vk VL VM TL at h;simp only [ZP] at h;obtain ⟨h1,h2,h3,h4,h5⟩:=h;have h4':=fun i hi=>I4 h4 (k:=i) hi;simp only [ZP] at h4';obtain ⟨j,hj,ho⟩:=List.any_eq_true.1 h5;exact ⟨h1,fun j hj=>I4 h2 hj,fun j hj=>I4 h3 hj,fun i hi=>(h4' i hi).1,fun i hi=>(h4' i hi).2,j,List.mem_range.1 hj,ho⟩
theorem Loose.mk' (h:Loose m):YK m=true:=by
  unfold YK Vk VL VM TL;simp only [ZP];refine ⟨h.head,?_,?_,?_,?_⟩
  · exact List.all_eq_true.2 fun j hj=>h.desk j (List.mem_range.1 hj)
  · exact List.all_eq_true.2 fun j hj=>h.pace j (List.mem_range.1 hj)
  · exact List.all_eq_true.2 fun j hj=>by rw [h.here j (List.mem_range.1 hj),h.seat j (List.mem_range.1 hj)];rfl
  · obtain ⟨j,hj,ho⟩:=h.openD
    exact List.any_eq_true.2 ⟨j,List.mem_range.2 hj,ho⟩
theorem Loose.at (h:Loose m) {i:Nat} (hi:i<m.sm.length) (hp:ZK (Z8 m.sm i)=true):0<=(Z8 m.sm i).2.1/\(Z8 m.sm i).2.1<m.dk.length/\(Z8 m.dk (Z8 m.sm i).2.1.toNat).1=true/\VX (Z8 m.sm i).2.2.2.1 (Z8 m.sm i).2.1=true/\Yd (WN (Z8 m.sm i)) (Z8 m.dk (Z8 m.sm i).2.1.toNat).2.2=true:=by
  obtain ⟨b0,b1,_⟩:=GB (h.here i hi) hp;have hs:=h.seat i hi;unfold XI at hs;rw [hp] at hs;simp only [Bool.not_true,Bool.false_or,ZP] at hs;exact ⟨b0,b1,hs.1,hs.2.1,hs.2.2⟩
theorem TY {had Yo:Int} (h:Yd had Yo=true) : -1000000000000<=had/\had<=1000000000000/\ -1000000000000<=Yo/\Yo<=1000000000000/\ -20000<=had-Yo/\had-Yo<=63000:=by
  unfold Yd at h;simp only [ZP] at h;have h1:=ZN h.1;have h2:=ZN h.2.1;have h3:=ZN h.2.2;omega
theorem ND {had Yo:Int} (h0 : -1000000000000<=had) (h1:had<=1000000000000) (h2 : -1000000000000<=Yo) (h3:Yo<=1000000000000) (h4 : -20000<=had-Yo) (h5:had-Yo<=63000):Yd had Yo=true:=by
  unfold Yd;rw [Zp h0 h1,Zp h2 h3,Zp h4 h5];rfl
theorem VC {d:XN} (h:Vv d=true) : -900000000000<=d.2.2/\d.2.2<=900000000000:=ZN h
theorem CR {s:Z3} {st:Int} (h:Zw s=true) (hp:ZK s=true) (h0:1<=st) (h1:st<=3):Zw (stS s st)=true:=by
  obtain ⟨x0,be,rk,my,gu,lo,hi,hd,ca,ut,wk⟩:=s;have hx:x0 ≠ 0:=by intro e;subst e;cases hp
  unfold Zw at h ⊢;rw [Rp (x:=(x0,be,rk,my,gu,lo,hi,hd,ca,ut,wk)) hx,Bool.false_or] at h;unfold YR at h;simp only [ZP] at h;obtain ⟨g0,g⟩:=h
  have:YR (stS (x0,be,rk,my,gu,lo,hi,hd,ca,ut,wk) st)=true:=by
    unfold YR stS;simp only [ZP];exact ⟨Zp h0 h1,g⟩
  rw [this,Bool.or_true]
theorem Mg {s:Z3} {st:Int} (h:XY m s=true) (hp:ZK s=true) (h0:1<=st) (h1:st<=3):XY m (stS s st)=true:=by
  unfold XY at h ⊢;simp only [ZP,Bool.or_eq_true] at h ⊢;refine ⟨CR h.1 hp h0 h1,.inr ?_⟩
  rcases h.2 with e | e
  · have:s.1=0:=by simpa using e
    unfold ZK at hp;rw [this] at hp;cases hp
  · exact e
theorem Wl {m m':Z6} (hg:m'.gd.length=m.gd.length) (hd:m'.dk.length=m.dk.length) (s:Z3):XY m' s=XY m s:=by unfold XY;rw [hg,hd]
theorem Fy (h:Loose m):Loose (ZM m):=by
  obtain ⟨e1,e2,e3,e4,e5,e6⟩:=ZH m m.dk.length;have hd:=fun j=>Uw m j m.dk.length (Z1 _)
  have hopen:∀ j,(Z8 (ZM m).dk j).1=(Z8 m.dk j).1:=by
    intro j;unfold ZM;rw [hd j]
    split
    · unfold Wf;split<;>rfl
    · rfl
  have hmark:∀ j,j<m.dk.length->(-900000000000<=(Z8 (ZM m).dk j).2.2/\(Z8 (ZM m).dk j).2.2<=900000000000)/\(Z8 m.dk j).2.2<=(Z8 (ZM m).dk j).2.2/\((Z8 (ZM m).dk j).2.2<=(Z8 m.dk j).2.2\/ ∀ i,i<m.sm.length->(Z8 m.sm i).2.1=(j:Int)->ZK (Z8 m.sm i)=true->(Z8 (ZM m).dk j).2.2<=WN (Z8 m.sm i)):=by
    intro j hj;obtain ⟨k0,k1⟩:=VC (h.desk j hj);unfold ZM;rw [hd j,if_pos hj];unfold Wf
    split
    · exact ⟨⟨k0,k1⟩,Int.le_refl _,.inl (Int.le_refl _)⟩
    · rename_i e t hq
      obtain ⟨_,i,hi,hib,hip,rfl⟩:=Sr hq;obtain ⟨_,_,_,_,hband⟩:=h.at hi hip;obtain ⟨a0,a1,_⟩:=TY hband;have hm:=Kk (m:=(Z8 m.dk j).2.2) (f:=WN (Z8 m.sm i)) (by omega) (by omega) a0 a1;show (-900000000000<=Zu _ _/\Zu _ _<=900000000000)/\_<=Zu _ _/\(Zu _ _<=_\/_)
      rw [hm];refine ⟨by omega,by omega,?_⟩;by_cases hc:WN (Z8 m.sm i)<=(Z8 m.dk j).2.2
      · left;omega
      · right
        intro i' hi' hb' hp';have:=Og hq hi' hb' hp';simp only at this;show min (max (Z8 m.dk j).2.2 (WN (Z8 m.sm i))) 900000000000<=_;omega
  refine ⟨?_,?_,?_,?_,?_,?_⟩
  · have:=h.head
    unfold YA at this ⊢;unfold ZM;rw [e1,e2,e3,e4,e5,e6];exact this
  · intro j hj
    have hj':j<m.dk.length:=by unfold ZM at hj;omega
    exact Zp (hmark j hj').1.1 (hmark j hj').1.2
  · intro j hj
    have hj':j<m.pc.length:=by unfold ZM at hj;rw [e3] at hj;exact hj
    have:=h.pace j hj';unfold V3 at this ⊢;unfold ZM;rw [e1,e3];exact this
  · intro i hi
    have hi':i<m.sm.length:=by unfold ZM at hi;omega
    rw [Wl (m:=m) (by unfold ZM;rw [e2]) (by unfold ZM;rw [e6])];unfold ZM;rw [Xd m hi']
    split
    · rename_i hp
      exact Mg (h.here i hi') hp.2 (by split<;>omega) (by split<;>omega)
    · exact h.here i hi'
  · intro i hi
    have hi':i<m.sm.length:=by unfold ZM at hi;omega
    have ha:=Xc m m.dk.length i hi';unfold XI;show (!ZK (Z8 (YV m m.dk.length).sm i) || _)=true;rw [ha.2.1];cases hp:ZK (Z8 m.sm i)
    · rfl
    · obtain ⟨b0,b1,ho,hm,hband⟩:=h.at hi' hp
      obtain ⟨a0,a1,a2,a3,a4,a5⟩:=TY hband;obtain ⟨⟨q0,q1⟩,q2,q3⟩:=hmark (Z8 m.sm i).2.1.toNat (by omega)
      have hmay:(Z8 (YV m m.dk.length).sm i).2.2.2.1=(Z8 m.sm i).2.2.2.1:=by
        rw [Xd m hi'];split<;>rfl
      show (!true || ((Z8 (ZM m).dk (Z8 (YV m m.dk.length).sm i).2.1.toNat).1 && (VX (Z8 (YV m m.dk.length).sm i).2.2.2.1 (Z8 (YV m m.dk.length).sm i).2.1 && Yd (WN (Z8 (YV m m.dk.length).sm i)) (Z8 (ZM m).dk (Z8 (YV m m.dk.length).sm i).2.1.toNat).2.2)))=true;rw [ha.1,ha.2.2,hmay,hopen,ho,hm];rw [ND a0 a1 (by omega) (by omega) ?_ (by omega)]
      · rfl
      · rcases q3 with q3 | q3
        · omega
        · have:=q3 i hi' (by omega) hp
          omega
  · obtain ⟨j,hj,ho⟩:=h.openD
    exact ⟨j,by unfold ZM;omega,by rw [hopen];exact ho⟩
theorem DS {ss : List Z3} {b f : Int} : ∀ k : Nat, (∀ i, i < k → (Z8 ss i).2.1 = b → ZK (Z8 ss i) = true → ((Z8 ss i).1 = 2 ∧ (i : Int) ≠ f) ∨ ((Z8 ss i).1 = 3 ∧ (i : Int) = f)) →
    ∃ wk wt, Yk ss b k = some (wk, wt) ∧ ((wk = -1 ∧ ∀ i, i < k → (Z8 ss i).2.1 = b → ZK (Z8 ss i) = true → (i : Int) ≠ f) ∨ (wk = f ∧ ∃ i : Nat, i < k ∧ (Z8 ss i).2.1 = b ∧ ZK (Z8 ss i) = true ∧ (i : Int) = f)) ∧ (wt = true → ∃ i, i < k ∧ (Z8 ss i).2.1 = b ∧ ZK (Z8 ss i) = true)
  | 0, _ => ⟨-1, false, rfl, .inl ⟨rfl, fun i hi => by omega⟩, fun h => by cases h⟩
  | k + 1, h => by
    obtain ⟨wk, wt, hs, hw, ht⟩ := DS k (fun i hi => h i (by omega))
    have hu : Yk ss b (k + 1) = if (Z8 ss k).2.1 = b ∧ ZK (Z8 ss k) = true then (if (Z8 ss k).1 = 2 then some (wk, true) else if 0 ≤ wk then none else some ((k : Int), wt)) else some (wk, wt) := by
      show (match Yk ss b k with
        | none => none
        | some (wk, wt) => _) = _
      rw [hs]
    rw [hu];by_cases hp : (Z8 ss k).2.1 = b ∧ ZK (Z8 ss k) = true
    · rw [if_pos hp]
      rcases h k (by omega) hp.1 hp.2 with ⟨h2, hne⟩ | ⟨h3, hkf⟩
      · rw [if_pos h2]
        refine ⟨wk, true, rfl, ?_, fun _ => ⟨k, by omega, hp.1, hp.2⟩⟩
        rcases hw with ⟨e, hn⟩ | ⟨e, i, hi, hb, hpi, hif⟩
        · refine .inl ⟨e, fun i hi hb hpi => ?_⟩
          by_cases hik : i = k
          · subst hik; exact hne
          · exact hn i (by omega) hb hpi
        · exact .inr ⟨e, i, by omega, hb, hpi, hif⟩
      · rw [if_neg (by omega)]
        have hw1 : wk = -1 := by
          rcases hw with ⟨e, _⟩ | ⟨e, i, hi, hb, hpi, hif⟩
          · exact e
          · omega
        rw [if_neg (by omega)];exact ⟨k, wt, rfl, .inr ⟨hkf, k, by omega, hp.1, hp.2, hkf⟩, fun e => by obtain ⟨i, hi, r⟩ := ht e; exact ⟨i, by omega, r⟩⟩
    · rw [if_neg hp]
      refine ⟨wk, wt, rfl, ?_, fun e => by obtain ⟨i, hi, r⟩ := ht e; exact ⟨i, by omega, r⟩⟩
      rcases hw with ⟨e, hn⟩ | ⟨e, i, hi, r⟩
      · refine .inl ⟨e, fun i hi hb hpi => ?_⟩
        by_cases hik : i = k
        · subst hik; exact absurd ⟨hb, hpi⟩ hp
        · exact hn i (by omega) hb hpi
      · exact .inr ⟨e, i, by omega, r⟩
theorem YG (h:Loose m):ZJ (ZM m)=true:=by
  unfold ZJ;rw [ZP];refine ⟨(Fy h).mk',?_⟩;obtain ⟨e1,e2,e3,e4,e5,e6⟩:=ZH m m.dk.length;refine List.all_eq_true.2 fun b hb=> ?_;have hb:=List.mem_range.1 hb;have hb':b<m.dk.length:=by unfold ZM at hb;omega
  have hn:(ZM m).sm.length=m.sm.length:=e5;have ha:=Xc m m.dk.length
  have hstate:∀ i,i<m.sm.length->(Z8 (ZM m).sm i).2.1=(b:Int)->ZK (Z8 (ZM m).sm i)=true->((Z8 (ZM m).sm i).1=2/\(i:Int) ≠ V1 m.sm b)\/((Z8 (ZM m).sm i).1=3/\(i:Int)=V1 m.sm b):=by
    intro i hi hib hip;have hib':(Z8 m.sm i).2.1=(b:Int):=(ha i hi).1.symm.trans hib;have hip':ZK (Z8 m.sm i)=true:=(ha i hi).2.1.symm.trans hip;unfold ZM;rw [Xd m hi,if_pos ⟨by omega,hip'⟩,hib'];by_cases hf:V1 m.sm (b:Int)=(i:Int)
    · right;rw [if_pos hf];exact ⟨rfl,hf.symm⟩
    · left;rw [if_neg hf];exact ⟨rfl,fun e=>hf e.symm⟩
  obtain ⟨wk,wt,hs,hw,ht⟩:=DS (b:=(b:Int)) (f:=V1 m.sm b) (ss:=(ZM m).sm) m.sm.length hstate;unfold Yh;rw [hn,hs];simp only;have hdesk:=Uw m b m.dk.length (Z1 _);rw [if_pos hb'] at hdesk;cases hq:atV m.sm (b:Int) m.sm.length with
  | nil=>
    have hempty:∀ i,i<m.sm.length-> ¬ ((Z8 (ZM m).sm i).2.1=(b:Int)/\ZK (Z8 (ZM m).sm i)=true):=by
      rintro i hi ⟨hib,hip⟩;have:=(XC m.sm (b:Int) (WN (Z8 m.sm i),(i:Int)) m.sm.length).2 ⟨i,hi,(ha i hi).1.symm.trans hib,(ha i hi).2.1.symm.trans hip,rfl⟩;rw [hq] at this;exact List.not_mem_nil this
    have hwt:wt=false:=by
      cases wt
      · rfl
      · obtain ⟨i,hi,r⟩:=ht rfl
        exact absurd r (hempty i hi)
    have hwk:wk= -1:=by
      rcases hw with ⟨e,_⟩ | ⟨_,i,hi,hb,hp,_⟩
      · exact e
      · exact absurd ⟨hb,hp⟩ (hempty i hi)
    have hwho:(Z8 (ZM m).dk b).2.1= -1:=by
      unfold ZM;rw [hdesk];unfold Wf;rw [hq]
    rw [hwho,hwk,hwt];rfl
  | cons e t=>
    obtain ⟨hfe,i,hi,hib,hip,rfl⟩:=Sr hq
    have hwho:(Z8 (ZM m).dk b).2.1=(i:Int):=by
      unfold ZM;rw [hdesk];unfold Wf;rw [hq]
    have hwk:wk=(i:Int):=by
      rcases hw with ⟨_,hn⟩ | ⟨e,_⟩
      · exact absurd hfe.symm (hn i hi ((ha i hi).1.trans hib) ((ha i hi).2.1.trans hip))
      · exact e.trans hfe
    rw [hwho,hwk];have:decide ((i:Int)<0)=false:=XE (by omega);rw [this];simp
def Xr (rs:List ZX) (n:Int):Nat:=((List.range rs.length).find? fun r=>decide (n<ZW (rs.take (r+1)))).getD 0
def Yu (rs:List ZX) (n:Int):Bool:=Y2 rs && inB n 0 (ZW rs-1)
def Kv (rs:List ZX) (n:Int):Int:=if Yu rs n=true then (Xr rs n:Int) else -1
def Vq (ps:List Z4):Int:=(Z7 ps (ps.length-1)).1
def Zd (rs:List ZX) (n:Int):Int:=if Yu rs n=true then Vq (ZQ rs (Xr rs n)).2 else -1
theorem RT {rs:List ZX} {n:Int} {r:Nat} (hr:r<rs.length) (h:n<ZW (rs.take (r+1))) (hl:∀ j,j<r->ZW (rs.take (j+1))<=n):Xr rs n=r:=by
 unfold Xr
 have:(List.range rs.length).find? (fun r=>decide (n<ZW (rs.take (r+1))))=some r:=by
  rw [List.find?_range_eq_some];refine ⟨by simpa using h,by simpa using hr,fun j hj=> ?_⟩;have:=hl j hj;simp;omega
 rw [this];rfl
theorem WO {rs:List ZX} {n:Int} (h:Yu rs n=true):Y2 rs=true/\0<=n/\n<ZW rs:=by
 unfold Yu at h;simp only [ZP] at h;have:=ZN h.2;exact ⟨h.1,by omega,by omega⟩
theorem J6 {rs:List ZX} {n:Int} (h:Y2 rs=true) (h0:0<=n) (h1:n<ZW rs):Yu rs n=true:=by
 unfold Yu;rw [h,Zp (by omega) (by omega)];rfl
theorem Es {rs:List ZX} {n:Int} (h:Y2 rs=false):Yu rs n=false:=by unfold Yu;rw [h];rfl
theorem Mq {rs:List ZX} {n:Int} (h:n<0\/ZW rs<=n):Yu rs n=false:=by unfold Yu;rw [Wn (by omega)];simp
theorem DO {rs:List ZX} {n:Int} (h:Yu rs n=true):Kv rs n=Xr rs n:=by unfold Kv;rw [if_pos h]
theorem JJ {rs:List ZX} {n:Int} (h:Yu rs n=false):Kv rs n= -1:=by unfold Kv;rw [h];rfl
theorem Tc {rs:List ZX} {n:Int} (h:Yu rs n=true):Zd rs n=Vq (ZQ rs (Xr rs n)).2:=by unfold Zd;rw [if_pos h]
theorem Aq {rs:List ZX} {n:Int} (h:Yu rs n=false):Zd rs n= -1:=by unfold Zd;rw [h];rfl
theorem UA {rs:List ZX} {n:Int} (h:Yu rs n=true) {r:Nat} (hr:r<=rs.length) (hl:∀ j,j<r->ZW (rs.take (j+1))<=n):r<rs.length:=by
 rcases Nat.lt_or_ge r rs.length with h1 | h1
 ·exact h1
 ·obtain rfl:r=rs.length:=by omega
  have hb:=WO h;have h3:=Zl hb.1;have:=hl (rs.length-1) (by omega);rw [show rs.length-1+1=rs.length by omega,Sl] at this;omega
theorem WM {rs:List ZX} (h:Y2 rs=true) (k:Nat) (hk:k<=rs.length):0<=ZW (rs.take k)/\ZW (rs.take k)<=12:=by
 have h3:=Zl h;have:=Rh h3.2.2.1 k hk;omega
theorem Qv {rs:List ZX} {n:Int} (h:Yu rs n=true):Xr rs n<rs.length:=by
 have key:∀ d r:Nat,r+d=rs.length->(∀ j,j<r->ZW (rs.take (j+1))<=n)->Xr rs n<rs.length:=by
  intro d
  induction d with
  | zero=>intro r hr hl;have:=UA h (by omega) hl;omega
  | succ d ih=>
   intro r hr hl;have hlt:=UA h (r:=r) (by omega) hl;by_cases hc:n<ZW (rs.take (r+1))
   ·rw [RT hlt hc hl];exact hlt
   ·exact ih (r+1) (by omega) (Yi hl (by omega))
 exact key rs.length 0 (by omega) (fun j hj=>by omega)
theorem Rv  {rs:List ZX} (n:Int) (h:IsRooms w v rs) :
  Calls Tryz.prog 306 #[.agg #[v],.int .i64 n] w fun e w'=>e= .returned (.int .i64 (Kv rs n))/\Below w.heap.size w w':=by
 have Hv:=Z9 h;obtain ⟨a,cap,rfl,hc,hm,hr⟩:=h;clear hr;by_cases h0:n<0
 ·have H1:=Z9 (JJ (Mq (rs:=rs) (.inl h0)))
  go_enter Tryz.func306,Tryz.ntmps306;go_wp2_with fail;go_ret;exact ⟨ZC (uh H1).symm,(ba _ _)⟩
 by_cases h1:Wi rs<=n
 ·have H1:Hid (Kv rs n= -1):=Z9 (JJ (by
   cases hh:Y2 rs
   ·exact Es hh
   ·rw [TZ hh] at h1;exact Mq (.inr h1)))
  go_enter Tryz.func306,Tryz.ntmps306;go_wp2_with fail;refine ck (VH ((uh Hv).alloc _)) fun w1 hb=> ?_;have Hb:=Z9 hb;clear hb;generalize Wi rs=m at *;go_wp2_with fail;go_ret;exact ⟨ZC (uh H1).symm,((ba _ _)).trans ((uh Hb).mono (by simp))⟩
 have hh:Y2 rs=true:=by
  cases hh:Y2 rs
  ·rw [Qj hh] at h1;omega
  ·rfl
 have H:Hid (Yu rs n=true):=Z9 (J6 hh (by omega) (by rw [TZ hh] at h1;omega));have Hh:=Z9 hh;clear hh;go_enter Tryz.func306,Tryz.ntmps306;go_wp2_with fail;refine ck (VH ((uh Hv).alloc _)) fun w1 hb=> ?_;have hsz:w.heap.size+1<=w1.heap.size:=by have:=hb.size;simpa using this
 have hbox:w1.cell? ⟨w.heap.size,0,none⟩=some (.slice a rs.length cap):=by rw [hb.cell (p:=⟨w.heap.size,0,none⟩) (by simp)];simp
 have B1:Hid (Below w.heap.size w w1):=Z9 (((ba _ _)).trans (hb.mono (by simp)));clear hb;generalize Wi rs=m at *;go_wp2_with fail
 go_loopw [5] (fun i wr=> ∃ r:Nat,r<=rs.length/\i= .int .i64 r/\(∀ j,j<r->ZW (rs.take (j+1))<=n)/\Below w1.heap.size w1 wr) (fun i _=>rs.length-(intOf i).toNat)
 case atStart=>exact ⟨0,Zz _,rfl,fun j hj=>by omega,ZZ _ _⟩
 case round=>
  obtain ⟨r,hr,rfl,hl,hb⟩:=hrel;have hlt:=UA (uh H) hr hl;have hbox2:wr.cell? ⟨w.heap.size,0,none⟩=some (.slice a rs.length cap):=by rw [hb.cell (p:=⟨w.heap.size,0,none⟩) (by show w.heap.size<w1.heap.size;omega)];exact hbox
  have hz:=hb.size;have hl3:rs.length<=3:=(Zl (uh Hh)).2.1;have Hl:=Z9 hl;have Hb:=Z9 hb;have Hw:Hid (IsRooms wr (.slice a (r+1) cap) (rs.take (r+1))):=Z9 ((((uh Hv).below (uh B1)).below hb).taken (by omega));clear hl hb hbox;go_wp2_with fail;refine ck (V5 (uh Hw) ((S7 (uh Hh)).taken _)) fun w2 hb2=> ?_;have hbd:=WM (uh Hh) (r+1) (by omega);have Hb2:=Z9 hb2;clear hb2;by_cases hc2:n<ZW (rs.take (r+1))
  ·have HN:=Z9 (RT hlt hc2 (uh Hl))
   generalize ZW (rs.take (r+1))=s at *;go_wp2_with fail;go_ret;exact ⟨ZC (by rw [DO (uh H),uh HN]),(uh B1).trans (((uh Hb).trans ((uh Hb2).mono hz)).mono (by omega))⟩
  ·have hle:ZW (rs.take (r+1))<=n:=by omega
   have Hle:=Z9 (Yi (uh Hl) hle);generalize ZW (rs.take (r+1))=s at *;go_wp2_with fail;go_roundw
   case rel=>exact ⟨r+1,by omega,by go_num,uh Hle,(uh Hb).trans ((uh Hb2).mono hz)⟩
   case measure=>exact ms
open Go.ChangeShapes Go.WideShapes Go.ChangeAt Go.RowKit
def Ym (a b c:Int):Int:=if inB a 0 1000000000 && inB b 0 1000000000 && inB c 1 1000000000 then a*b / c else -1
def PE (x:Int):Nat->Int->Int
 | 0,u=>u
 | n+1,u=>PE x n ((31*u+x) / 32)
def ZE (u x n:Int):Int:=if inB u 0 1024 && inB x 0 1024 && inB n 0 1000 then PE x n.toNat u else -1
theorem Dk {u x:Int} (h1:0<=u) (h2:u<=1024) (h3:0<=x) (h4:x<=1024):0<=(31*u+x) / 32/\(31*u+x) / 32<=1024:=by omega
theorem Gk (x:Int) (h3:0<=x) (h4:x<=1024):∀ (n:Nat) (u:Int),0<=u->u<=1024->0<=PE x n u/\PE x n u<=1024
 | 0,u,h1,h2=>⟨h1,h2⟩
 | n+1,u,h1,h2=>Gk x h3 h4 n _ (Dk h1 h2 h3 h4).1 (Dk h1 h2 h3 h4).2
theorem L7 (x:Int):∀ (n:Nat) (u:Int),PE x (n+1) u=(31*PE x n u+x) / 32
 | 0,u=>rfl
 | n+1,u=>L7 x n _
theorem AR {a b:Int} (a0:0<=a) (a1:a<=1000000000) (b0:0<=b) (b1:b<=1000000000):0<=a*b/\a*b<=1000000000000000000:=by
 refine ⟨Int.mul_nonneg a0 b0,?_⟩;have h:=Int.mul_le_mul a1 b1 b0 (by omega);omega
theorem BH {P:Prop} (a b c lo hi l1 h1 l2 h2:Int)
  (k1:inB a lo hi=false->P) (k2:inB a lo hi=true->inB b l1 h1=false->P) (k3:inB a lo hi=true->inB b l1 h1=true->inB c l2 h2=false->P)
  (k4:inB a lo hi=true->inB b l1 h1=true->inB c l2 h2=true->P):P:=by
 cases ha:inB a lo hi
 ·exact k1 ha
 ·cases hb:inB b l1 h1
  ·exact k2 ha hb
  ·cases hc:inB c l2 h2
   ·exact k3 ha hb hc
   ·exact k4 ha hb hc
theorem TP (x:Int) (w:World):Calls Tryz.prog 105 #[.int .i64 x] w fun e w'=>e= .returned (.bool (inB x 0 1024))/\w'=w:=by
 go_enter Tryz.func105,Tryz.ntmps105;go_wp2_with (go_at_call 59;refine (ZV _ _ _ _).mono ?_;rintro e w' ⟨rfl,rfl⟩)
 go_ret;exact ⟨rfl,rfl⟩
theorem Nd (a b c:Int) (w:World):Calls Tryz.prog 302 #[.int .i64 a,.int .i64 b,.int .i64 c] w fun e w'=>e= .returned (.int .i64 (Ym a b c))/\w'=w:=by
 refine BH a b c 0 1000000000 0 1000000000 1 1000000000 ?_ ?_ ?_ ?_
 ·intro ha
  have hv:Ym a b c= -1:=by simp [Ym,ha]
  rw [hv];clear hv;go_enter Tryz.func302,Tryz.ntmps302;go_wp2_with (first | (go_at_call 309;refine (Ti _ _).mono ?_;rintro e w' ⟨rfl,rfl⟩) | (go_at_call 59;refine (ZV _ _ _ _).mono ?_;rintro e w' ⟨rfl,rfl⟩))
  go_ret;exact ⟨rfl,rfl⟩
 ·intro ha hb
  have hv:Ym a b c= -1:=by simp [Ym,hb]
  rw [hv];clear hv;go_enter Tryz.func302,Tryz.ntmps302;go_wp2_with (first | (go_at_call 309;refine (Ti _ _).mono ?_;rintro e w' ⟨rfl,rfl⟩) | (go_at_call 59;refine (ZV _ _ _ _).mono ?_;rintro e w' ⟨rfl,rfl⟩))
  go_ret;exact ⟨rfl,rfl⟩
 ·intro ha hb hc
  have hv:Ym a b c= -1:=by simp [Ym,hc]
  rw [hv];clear hv;go_enter Tryz.func302,Tryz.ntmps302;go_wp2_with (first | (go_at_call 309;refine (Ti _ _).mono ?_;rintro e w' ⟨rfl,rfl⟩) | (go_at_call 59;refine (ZV _ _ _ _).mono ?_;rintro e w' ⟨rfl,rfl⟩))
  go_ret;exact ⟨rfl,rfl⟩
 ·intro ha hb hc
  have hv:Ym a b c=a*b / c:=by simp [Ym,ha,hb,hc]
  rw [hv];clear hv;obtain ⟨a0,a1⟩:=ZN ha;obtain ⟨b0,b1⟩:=ZN hb;obtain ⟨c0,c1⟩:=ZN hc;obtain ⟨m0,m1⟩:=AR a0 a1 b0 b1;go_enter Tryz.func302,Tryz.ntmps302;go_wp2_with (first | (go_at_call 309;refine (Ti _ _).mono ?_;rintro e w' ⟨rfl,rfl⟩) | (go_at_call 59;refine (ZV _ _ _ _).mono ?_;rintro e w' ⟨rfl,rfl⟩))
  go_ret;exact ⟨rfl,rfl⟩
theorem xX {p:Int->Bool} (a b:Int) : [a,b].all p=(p a && p b):=by simp
theorem xW {p:Int->Bool} (a:Int) : [a].all p=p a:=by simp
theorem yw (W:World) (a b:Int) (bk:Nat) (hb:bk=W.heap.size):∀ k,k < [a,b].length->(W.alloc (.cells #[.int .i64 a,.int .i64 b] 2)).cell? ⟨bk,k,none⟩=some (.int .i64 ([a,b].getD k 0)):=by
 intro k hk;rw [World.cell?_alloc_at _ _ _ _ hb]
 match k,hk with
 | 0,_=>rfl
 | 1,_=>rfl
theorem yv (W:World) (a:Int) (bk:Nat) (hb:bk=W.heap.size):∀ k,k < [a].length->(W.alloc (.cells #[.int .i64 a] 2)).cell? ⟨bk,k,none⟩=some (.int .i64 ([a].getD k 0)):=by
 intro k hk;rw [World.cell?_alloc_at _ _ _ _ hb]
 match k,hk with
 | 0,_=>rfl
theorem UO (a b:Int) (W:World) (bk:Nat) (hb:bk=W.heap.size):Calls Tryz.prog 312 #[.func (Fn.func 313) #[] #[],.slice (some ⟨bk,0,none⟩) 2 2] (W.alloc (.cells #[.int .i64 a,.int .i64 b] 2))
  fun e w'=>e= .returned (.bool (inB a 0 1000000000 && inB b 0 1000000000))/\w'=W.alloc (.cells #[.int .i64 a,.int .i64 b] 2):=by
 have h:=NJ bk 2 [a,b] (W.alloc (.cells #[.int .i64 a,.int .i64 b] 2)) (by simp) (yw W a b bk hb);rw [xX] at h;exact h
theorem QJ (a:Int) (W:World) (bk:Nat) (hb:bk=W.heap.size):Calls Tryz.prog 312 #[.func (Fn.func 314) #[] #[],.slice (some ⟨bk,0,none⟩) 1 1] (W.alloc (.cells #[.int .i64 a] 2))
  fun e w'=>e= .returned (.bool (inB a 1 1000000000))/\w'=W.alloc (.cells #[.int .i64 a] 2):=by
 have h:=OK bk 1 [a] (W.alloc (.cells #[.int .i64 a] 2)) (by simp) (yv W a bk hb);rw [xW] at h;exact h
theorem Mk (a b c:Int) (w:World):Calls Tryz.prog 310 #[.int .i64 a,.int .i64 b,.int .i64 c] w fun e w'=>e= .returned (.int .i64 (Ym a b c))/\Below w.heap.size w w':=by
 refine BH a b c 0 1000000000 0 1000000000 1 1000000000 ?_ ?_ ?_ ?_
 ·intro ha
  have hv:Ym a b c= -1:=by simp [Ym,ha]
  rw [hv];clear hv;go_enter Tryz.func310,Tryz.ntmps310;go_wp2_with fail;refine (UO a b _ _ rfl).mono ?_;rintro e w' ⟨rfl,rfl⟩;go_wp2_with fail;go_ret;exact ⟨rfl,(ba _ _)⟩
 ·intro ha hb
  have hv:Ym a b c= -1:=by simp [Ym,hb]
  rw [hv];clear hv;go_enter Tryz.func310,Tryz.ntmps310;go_wp2_with fail;refine (UO a b _ _ rfl).mono ?_;rintro e w' ⟨rfl,rfl⟩;go_wp2_with fail;go_ret;exact ⟨rfl,(ba _ _)⟩
 ·intro ha hb hc
  have hv:Ym a b c= -1:=by simp [Ym,hc]
  rw [hv];clear hv;go_enter Tryz.func310,Tryz.ntmps310;go_wp2_with fail;refine (UO a b _ _ rfl).mono ?_;rintro e w' ⟨rfl,rfl⟩;go_wp2_with fail;refine (QJ c _ _ (by simp)).mono ?_;rintro e w' ⟨rfl,rfl⟩;go_wp2_with fail;go_ret;exact ⟨rfl,((ba _ _)).alloc (by simp) _⟩
 ·intro ha hb hc
  have hv:Ym a b c=a*b / c:=by simp [Ym,ha,hb,hc]
  rw [hv];clear hv;obtain ⟨a0,a1⟩:=ZN ha;obtain ⟨b0,b1⟩:=ZN hb;obtain ⟨c0,c1⟩:=ZN hc;obtain ⟨m0,m1⟩:=AR a0 a1 b0 b1;go_enter Tryz.func310,Tryz.ntmps310;go_wp2_with fail;refine (UO a b _ _ rfl).mono ?_;rintro e w' ⟨rfl,rfl⟩;go_wp2_with fail;refine (QJ c _ _ (by simp)).mono ?_;rintro e w' ⟨rfl,rfl⟩;go_wp2_with fail;go_ret;exact ⟨rfl,((ba _ _)).alloc (by simp) _⟩
def UG (need:Int) (p:Z4):Bool:=decide (5*need<=4*p.1)
def QM (need:Int):List Z4->Nat
 | []=>0
 | [_]=>0
 | p::q::ps=>if UG need p then 0 else QM need (q::ps)+1
def Xq (r:ZX) (need:Int):Int:=if Ze r && inB need 0 1000000 then QM need r.2 else -1
def Xl (r:ZX) (pace work:Int):Int:=if Ze r && (inB work 0 1000000 && inB pace 0 (r.2.length-1)) then Ym (Z7 r.2 pace.toNat).2 work (Z7 r.2 pace.toNat).1 else -1
def O0 (r:ZX) (need work:Int):Int:=Xl r (Xq r need) work
theorem G7 (p:Z4) (ps:List Z4):Z7 (p::ps) 0=p:=rfl
theorem G9 (p:Z4) (ps:List Z4) (k:Nat):Z7 (p::ps) (k+1)=Z7 ps k:=by unfold Z7;simp [List.getD]
theorem Aj {need:Int} {p:Z4} (h:5*need<=4*p.1):UG need p=true:=VO h
theorem Ai {need:Int} {p:Z4} (h:4*p.1<5*need):UG need p=false:=XE (by omega)
theorem RP (need:Int):∀ (ps:List Z4) (k:Nat),k+1<=ps.length->(∀ j,j<k->UG need (Z7 ps j)=false)->(k+1=ps.length\/UG need (Z7 ps k)=true)->QM need ps=k
 | [],k,hk,_,_=>by simp at hk
 | [p],k,hk,_,_=>by simp at hk;subst hk;rfl
 | p::q::ps,0,_,_,he=>by
  rcases he with he | he
  ·simp at he
  ·rw [G7] at he;simp [QM,he]
 | p::q::ps,k+1,hk,hlo,he=>by
  have h0:=hlo 0 (by omega);rw [G7] at h0
  have ih:=RP need (q::ps) k (by simp at hk ⊢;omega) (fun j hj=>by have:=hlo (j+1) (by omega);rwa [G9] at this) (by
   rcases he with he | he
   ·left;simp at he ⊢;omega
   ·right;rwa [G9] at he)
  simp [QM,h0,ih]
theorem Hj (need:Int):∀ ps:List Z4,1<=ps.length->QM need ps+1<=ps.length
 | [],h=>by simp at h
 | [p],_=>by simp [QM]
 | p::q::ps,_=>by
  have ih:=Hj need (q::ps) (by simp);unfold QM;split<;>simp at ih ⊢;omega
theorem Pd {r:ZX} (h:Ze r=true) {k:Nat} (hk:k<r.2.length):1<=(Z7 r.2 k).1/\(Z7 r.2 k).1<=1024/\1<=(Z7 r.2 k).2/\(Z7 r.2 k).2<=1024:=by
 unfold Ze at h;simp only [ZP] at h;have h1:=Kn h.2.2 hk;unfold Wt TQ at h1;simp only [ZP] at h1;have a:=ZN h1.1.1;have b:=ZN h1.1.2;omega
theorem Ox {r:ZX} {need:Int} (h:Ze r=false):Xq r need= -1:=by unfold Xq;simp [h]
theorem Oy {r:ZX} {need:Int} (h:inB need 0 1000000=false):Xq r need= -1:=by unfold Xq;simp [h]
theorem ML {r:ZX} {need:Int} (h:Ze r=true) (h2:inB need 0 1000000=true):Xq r need=QM need r.2:=by unfold Xq;simp [h,h2]
theorem Rl {r:ZX} {pace work:Int} (h:Ze r=false):Xl r pace work= -1:=by unfold Xl;simp [h]
theorem Rm {r:ZX} {pace work:Int} (h:inB work 0 1000000=false):Xl r pace work= -1:=by unfold Xl;simp [h]
theorem TM {r:ZX} {pace work:Int} (h:inB pace 0 (r.2.length-1)=false):Xl r pace work= -1:=by unfold Xl;simp [h]
theorem Qk {r:ZX} {pace work:Int} (h:Ze r=true) (h2:inB work 0 1000000=true) (h3:inB pace 0 (r.2.length-1)=true):Xl r pace work=Ym (Z7 r.2 pace.toNat).2 work (Z7 r.2 pace.toNat).1:=by unfold Xl;simp [h,h2,h3]
theorem Cv {a b c:Int} (a0:0<=a) (a1:a<=1000000000) (b0:0<=b) (b1:b<=1000000000) (c0:1<=c) (c1:c<=1000000000):Ym a b c=a*b / c:=by
 unfold Ym;rw [Zp a0 a1,Zp b0 b1,Zp c0 c1];rfl
theorem Gb (r:ZX) (pace work:Int) : -1<=Xl r pace work/\Xl r pace work<=1024000000:=by
 cases h:Ze r
 ·rw [Rl h];omega
 cases h2:inB work 0 1000000
 ·rw [Rm h2];omega
 cases h3:inB pace 0 (r.2.length-1)
 ·rw [TM h3];omega
 rw [Qk h h2 h3];have hb:=ZN h2;have hp:=ZN h3;have hr:=Pd h (k:=pace.toNat) (by omega);generalize Z7 r.2 pace.toNat=p at *;rw [Cv (by omega) (by omega) (by omega) (by omega) (by omega) (by omega)];have m0:0<=p.2*work:=Int.mul_nonneg (by omega) (by omega);have m1:p.2*work<=1024*1000000:=Int.mul_le_mul (by omega) (by omega) (by omega) (by omega);have d0:=Int.ediv_nonneg m0 (show 0<=p.1 by omega);have d1:=Int.ediv_le_self p.1 m0;omega
def AA (J:Nat->Act->World->Prop) (Q:Exit->Act->World->Prop):Exit->Act->World->Prop
 | .goto l,a,w=>J l a w
 | e,a,w=>Q e a w
theorem Kd {J:Nat->Act->World->Prop} {Q:Exit->Act->World->Prop} {a:Act} : AA J Q .ret a w=Q .ret a w:=rfl
theorem JV {P:Program} {a:Act} {Q:Exit->Act->World->Prop} {c:Code} (J:Nat->Act->World->Prop) (μ:Nat->Act->World->Nat)
  (first:c.wp P (AA J Q) a w)
  (pass:∀ l a w,J l a w-> ∃ rest,findLabel c l=some rest/\rest.wp P (AA (fun l' a' w'=>J l' a' w'/\μ l' a' w'<μ l a w) Q) a w):(Code.scope c).wp P Q a w:=by
 intro b k cs
 have key:∀ n l a w,μ l a w=n->J l a w-> ∃ rest,findLabel c l=some rest/\ ∃ e a' w',Q e a' w'/\Arrives P (lone (b.at a (.code rest:: .inScope c::k)) cs w) b k cs e a' w':=by
  intro n
  induction n using Nat.strongRecOn with
  | _ n ih=>
   intro l a w hn hJ;obtain ⟨rest,hf,hp⟩:=pass l a w hJ;refine ⟨rest,hf,?_⟩;obtain ⟨e,a₁,w₁,hq,harr⟩:=hp b (.inScope c::k) cs;cases e with
   | normal=>exact ⟨.normal,a₁,w₁,hq,Steps.trans harr (.one step_inScope)⟩
   | exit id=>exact ⟨.exit id,a₁,w₁,hq,fun k' hk=>harr k' (by simp [exitTo,hk])⟩
   | goto l'=>
    obtain ⟨hJ',hlt⟩:=hq;obtain ⟨rest',hf',e₂,a₂,w₂,hq₂,harr₂⟩:=ih _ (by omega) l' a₁ w₁ rfl hJ';exact ⟨e₂,a₂,w₂,hq₂,.of_steps (harr _ (by simp [gotoIn,hf'])) harr₂⟩
   | ret=>exact ⟨_,a₁,w₁,hq,harr⟩
   | panic ch=>exact ⟨_,a₁,w₁,hq,harr⟩
   | outgrown=>exact ⟨_,a₁,w₁,hq,harr⟩
 obtain ⟨e,a₁,w₁,hq,harr⟩:=first b (.inScope c::k) cs
 cases e with
 | normal=>exact ⟨.normal,a₁,w₁,hq,.head step_scope (Steps.trans harr (.one step_inScope))⟩
 | exit id=>exact ⟨.exit id,a₁,w₁,hq,fun k' hk=> .head step_scope (harr k' (by simp [exitTo,hk]))⟩
 | goto l'=>
  obtain ⟨rest',hf',e₂,a₂,w₂,hq₂,harr₂⟩:=key _ l' a₁ w₁ rfl hq;exact ⟨e₂,a₂,w₂,hq₂,.of_steps (.head step_scope (harr _ (by simp [gotoIn,hf']))) harr₂⟩
 | ret=>exact ⟨_,a₁,w₁,hq,.of_steps (.one step_scope) harr⟩
 | panic ch=>exact ⟨_,a₁,w₁,hq,.of_steps (.one step_scope) harr⟩
 | outgrown=>exact ⟨_,a₁,w₁,hq,.of_steps (.one step_scope) harr⟩
theorem QS (lo n hi:Int) (w:World):Calls Tryz.prog 181 #[.int .i64 lo,.int .i64 n,.int .i64 hi] w fun e w'=>e= .returned (.bool (inB n lo hi))/\w'=w:=by
 by_cases h1:lo<=n
 ·by_cases h2:n<=hi
  all_goals
   go_enter Tryz.func181,Tryz.ntmps181
   go_wp2
   go_ret;exact ⟨Z5 (by unfold inB;simp [h1,h2]),rfl⟩
 ·go_enter Tryz.func181,Tryz.ntmps181
  go_wp2
  go_ret;exact ⟨Z5 (Wn (by omega)).symm,rfl⟩
theorem Sz (f need:Int) (w:World) (f0:0<=f) (f1:f<=1000000) (n0:0<=need) (n1:need<=2000000) :
  Calls Tryz.prog 315 #[.int .i64 f,.int .i64 need] w fun e w'=>e= .returned (.bool (decide (5*need<=4*f)))/\w'=w:=by
 go_enter Tryz.func315,Tryz.ntmps315;go_wp2_with fail;go_ret;exact ⟨Z5 rfl,rfl⟩
theorem XP (x:Int) (w:World):Calls Tryz.prog 171 #[.int .i64 x] w fun e w'=>e= .returned (.bool (inB x 0 1000000))/\w'=w:=by
 go_enter Tryz.func171,Tryz.ntmps171;go_wp2_with (go_at_call 59;refine (ZV _ _ _ _).mono ?_;rintro e w' ⟨rfl,rfl⟩)
 go_ret;exact ⟨rfl,rfl⟩
theorem Xh (b cap:Nat) (zs:List Int) (w:World) (hl:zs.length<=1000) (hc:∀ k,k<zs.length->w.cell? ⟨b,k,none⟩=some (.int .i64 (zs.getD k 0))) :
  Calls Tryz.prog 374 #[.slice (some ⟨b,0,none⟩) zs.length cap] w fun e w'=>e= .returned (.bool (zs.all fun z=>inB z 0 1000000))/\w'=w:=by
 have Hc:=Z9 hc;clear hc;go_enter Tryz.func374,Tryz.ntmps374;go_wp2_with fail
 refine JV (fun l a' w'=>w'=w/\ ∃ (r:Bool) (k:Nat) (u4 u5 u6 u7 u8 u9 u10 u11 u12 u13 u14 u15:Value),k<=zs.length/\a'={ tmps:=#[.slice (some ⟨b,0,none⟩) zs.length cap,undef,.bool r,.int .i64 k,u4,u5,u6,u7,u8,u9,u10,u11,u12,u13,u14,u15],defers:=[] }/\
   ((l=0/\(zs.all fun z=>inB z 0 1000000)=true)\/(l=1/\((zs.take k).all fun z=>inB z 0 1000000)=true)\/(l=2/\(zs.all fun z=>inB z 0 1000000)=false))) (fun l a' _=>if l=1 then zs.length+1-(intOf (a'.tmps.getD 3 undef)).toNat else 0) ?_ ?_
 ·by_cases hlt:0<zs.length
  ·have hcell:=uh Hc 0 hlt
   generalize hz:zs.getD 0 0=z at hcell;have Hz:=Z9 hz;clear hz;cases hp:inB z 0 1000000
   ·go_wp2_with fail
    go_step3
    go_wp2_with (go_at_call 181;refine (QS _ _ _ _).mono ?_;rintro e w' ⟨rfl,rfl⟩)
    go_step3
    exact ⟨rfl,false,0,_,_,_,_,_,_,_,_,_,_,_,_,Zz _,rfl,.inr (.inr ⟨rfl,Sj hlt (uh Hz) hp⟩)⟩
   ·go_wp2_with fail
    go_step3
    go_wp2_with (go_at_call 181;refine (QS _ _ _ _).mono ?_;rintro e w' ⟨rfl,rfl⟩)
    go_step3
    exact ⟨rfl,false,1,_,_,_,_,_,_,_,_,_,_,_,_,hlt,rfl,.inr (.inl ⟨rfl,Pt (k:=0) hlt (uh Hz) (by simp) hp⟩)⟩
  ·obtain rfl:zs=[]:=List.eq_nil_of_length_eq_zero (by omega)
   go_wp2_with fail
   go_step3
   go_wp2_with fail
   go_step3
   exact ⟨rfl,false,0,_,_,_,_,_,_,_,_,_,_,_,_,Zz _,rfl,.inl ⟨rfl,rfl⟩⟩
 ·rintro l a' w' ⟨rfl,r,k,u4,u5,u6,u7,u8,u9,u10,u11,u12,u13,u14,u15,hk,rfl,⟨rfl,ha⟩ | ⟨rfl,ha⟩ | ⟨rfl,ha⟩⟩
  ·refine ⟨_,rfl,?_⟩
   go_wp2_with fail;rw [Kd];go_ret;exact ⟨Z5 ha.symm,rfl⟩
  ·refine ⟨_,rfl,?_⟩
   have Ha:=Z9 ha;clear ha;by_cases hlt:k<zs.length
   ·have hcell:=uh Hc k hlt
    have hne:((k:Int) ==(zs.length:Int))=false:=by simp;omega
    generalize hz:zs.getD k 0=z at hcell;have Hz:=Z9 hz;clear hz;cases hp:inB z 0 1000000
    ·go_wp2_with (go_at_call 181;refine (QS _ _ _ _).mono ?_;rintro e w' ⟨rfl,rfl⟩)
     go_step3
     refine ⟨⟨rfl,r,k,_,_,_,_,_,_,_,_,_,_,_,_,hk,rfl,.inr (.inr ⟨rfl,Sj hlt (uh Hz) hp⟩)⟩,?_⟩;simp [intOf];omega
    ·go_wp2_with (go_at_call 181;refine (QS _ _ _ _).mono ?_;rintro e w' ⟨rfl,rfl⟩)
     go_step3
     refine ⟨⟨rfl,r,k+1,_,_,_,_,_,_,_,_,_,_,_,_,hlt,by go_num,.inr (.inl ⟨rfl,Pt hlt (uh Hz) (uh Ha) hp⟩)⟩,?_⟩;simp [intOf];omega
   ·obtain rfl:k=zs.length:=by omega
    go_wp2_with fail
    go_step3
    refine ⟨⟨rfl,r,zs.length,_,_,_,_,_,_,_,_,_,_,_,_,hk,rfl,.inl ⟨rfl,?_⟩⟩,?_⟩
    ·rw [<-uh Ha,List.take_of_length_le (by omega)]
    ·simp [intOf]
  ·refine ⟨_,rfl,?_⟩
   go_wp2_with fail;rw [Kd];go_ret;exact ⟨Z5 ha.symm,rfl⟩
def amt (x:Int):Bool:=inB x 0 1000000
def Wk (w u f:Int):Bool:=(amt w && (amt u && amt f)) && decide (5*(w+u)<=4*f)
def VJ (u f:Int):Bool:=(amt u && amt f) && !decide (5*u<=4*f)
def XJ (u f:Int):Int:=if amt u && amt f then f-u else -1000001
theorem AQ (u f:Int):decide (4*f<5*u)= !decide (5*u<=4*f):=by
 by_cases h:5*u<=4*f
 ·rw [decide_eq_true h,decide_eq_false (by omega)];rfl
 ·rw [decide_eq_false h,decide_eq_true (by omega)];rfl
theorem Qi {x:Int} (h:amt x=true):0<=x/\x<=1000000:=ZN h
theorem Df (x y:Int):([x,y].all fun z=>inB z 0 1000000)=(amt x && amt y):=by simp [amt]
theorem yS (x y z:Int):([x,y,z].all fun z=>inB z 0 1000000)=(amt x && (amt y && amt z)):=by simp [amt]
theorem NT (u f:Int) (w:World):Calls Tryz.prog 372 #[.int .i64 u,.int .i64 f] w fun e w'=>e= .returned (.int .i64 (XJ u f))/\Below w.heap.size w w':=by
 cases h:amt u && amt f
 ·have hs:XJ u f= -1000001:=by unfold XJ;rw [h];rfl
  have Hs:=Z9 hs;go_enter Tryz.func372,Tryz.ntmps372;go_wp2_with fail;refine (Xh _ _ [u,f] _ (by simp) ?_).mono ?_
  ·intro k hk
   simp at hk
   match k,hk with
   | 0,_=>simp
   | 1,_=>simp
  rintro e w' ⟨rfl,rfl⟩;rw [Df,h];go_wp2_with fail;go_ret;exact ⟨ZC (uh Hs).symm,(ba _ _)⟩
 ·have hs:XJ u f=f-u:=by unfold XJ;rw [h];rfl
  have Hs:=Z9 hs;have h':=h;simp only [ZP] at h';obtain ⟨u0,u1⟩:=Qi h'.1;obtain ⟨f0,f1⟩:=Qi h'.2;go_enter Tryz.func372,Tryz.ntmps372;go_wp2_with fail;refine (Xh _ _ [u,f] _ (by simp) ?_).mono ?_
  ·intro k hk
   simp at hk
   match k,hk with
   | 0,_=>simp
   | 1,_=>simp
  rintro e w' ⟨rfl,rfl⟩;rw [Df,h];go_wp2_with fail;go_ret;exact ⟨ZC (uh Hs).symm,(ba _ _)⟩
theorem NU (u f:Int) (w:World):Calls Tryz.prog 371 #[.int .i64 u,.int .i64 f] w fun e w'=>e= .returned (.bool (VJ u f))/\Below w.heap.size w w':=by
 cases h:amt u && amt f
 ·have hs:VJ u f=false:=by unfold VJ;rw [h];rfl
  have Hs:=Z9 hs;go_enter Tryz.func371,Tryz.ntmps371;go_wp2_with fail;refine (Xh _ _ [u,f] _ (by simp) ?_).mono ?_
  ·intro k hk
   simp at hk
   match k,hk with
   | 0,_=>simp
   | 1,_=>simp
  rintro e w' ⟨rfl,rfl⟩;rw [Df,h];go_wp2_with fail;go_ret;exact ⟨Z5 (uh Hs).symm,(ba _ _)⟩
 ·have hs:VJ u f= !decide (5*u<=4*f):=by unfold VJ;rw [h];rfl
  have Hs:=Z9 hs;have h':=h;simp only [ZP] at h';obtain ⟨u0,u1⟩:=Qi h'.1;obtain ⟨f0,f1⟩:=Qi h'.2;go_enter Tryz.func371,Tryz.ntmps371;go_wp2_with fail;refine (Xh _ _ [u,f] _ (by simp) ?_).mono ?_
  ·intro k hk
   simp at hk
   match k,hk with
   | 0,_=>simp
   | 1,_=>simp
  rintro e w' ⟨rfl,rfl⟩;rw [Df,h];go_wp2_with (go_at_call 315;refine (Sz f u _ f0 f1 u0 (by omega)).mono ?_;rintro e w' ⟨rfl,rfl⟩)
  go_ret;exact ⟨Z5 (uh Hs).symm,(ba _ _)⟩
theorem Mi (x u f:Int) (w:World):Calls Tryz.prog 373 #[.int .i64 x,.int .i64 u,.int .i64 f] w fun e w'=>e= .returned (.bool (Wk x u f))/\Below w.heap.size w w':=by
 cases h:amt x && (amt u && amt f)
 ·have hs:Wk x u f=false:=by unfold Wk;rw [h];rfl
  have Hs:=Z9 hs;go_enter Tryz.func373,Tryz.ntmps373;go_wp2_with fail;refine (Xh _ _ [x,u,f] _ (by simp) ?_).mono ?_
  ·intro k hk
   simp at hk
   match k,hk with
   | 0,_=>simp
   | 1,_=>simp
   | 2,_=>simp
  rintro e w' ⟨rfl,rfl⟩;rw [yS,h];go_wp2_with fail;go_ret;exact ⟨Z5 (uh Hs).symm,(ba _ _)⟩
 ·have hs:Wk x u f=decide (5*(x+u)<=4*f):=by unfold Wk;rw [h];rfl
  have Hs:=Z9 hs;have h':=h;simp only [ZP] at h';obtain ⟨x0,x1⟩:=Qi h'.1;obtain ⟨u0,u1⟩:=Qi h'.2.1;obtain ⟨f0,f1⟩:=Qi h'.2.2;go_enter Tryz.func373,Tryz.ntmps373;go_wp2_with fail;refine (Xh _ _ [x,u,f] _ (by simp) ?_).mono ?_
  ·intro k hk
   simp at hk
   match k,hk with
   | 0,_=>simp
   | 1,_=>simp
   | 2,_=>simp
  rintro e w' ⟨rfl,rfl⟩;rw [yS,h];go_wp2_with (go_at_call 315;refine (Sz f (x+u) _ f0 f1 (by omega) (by omega)).mono ?_;rintro e w' ⟨rfl,rfl⟩)
  go_ret;exact ⟨Z5 (uh Hs).symm,(ba _ _)⟩
theorem Ur (x u f:Int) (w:World):Calls Tryz.prog 167 #[.int .i64 x,.int .i64 u,.int .i64 f] w fun e w'=>e= .returned (.bool (Wk x u f))/\w'=w:=by
 cases hx:inB x 0 1000000
 ·go_enter Tryz.func167,Tryz.ntmps167
  go_wp2_with (go_at_call 171;refine (XP _ _).mono ?_;rintro e w' ⟨rfl,rfl⟩)
  go_ret;exact ⟨Z5 (by simp [Wk,amt,hx]),rfl⟩
 ·cases hu:inB u 0 1000000
  ·go_enter Tryz.func167,Tryz.ntmps167
   go_wp2_with (go_at_call 171;refine (XP _ _).mono ?_;rintro e w' ⟨rfl,rfl⟩)
   go_ret;exact ⟨Z5 (by simp [Wk,amt,hx,hu]),rfl⟩
  ·cases hf:inB f 0 1000000
   ·go_enter Tryz.func167,Tryz.ntmps167
    go_wp2_with (go_at_call 171;refine (XP _ _).mono ?_;rintro e w' ⟨rfl,rfl⟩)
    go_ret;exact ⟨Z5 (by simp [Wk,amt,hx,hu,hf]),rfl⟩
   ·obtain ⟨x0,x1⟩:=ZN hx
    obtain ⟨u0,u1⟩:=ZN hu;obtain ⟨f0,f1⟩:=ZN hf;go_enter Tryz.func167,Tryz.ntmps167;go_wp2_with (go_at_call 171;refine (XP _ _).mono ?_;rintro e w' ⟨rfl,rfl⟩)
    go_ret;exact ⟨Z5 (by simp [Wk,amt,hx,hu,hf]),rfl⟩
theorem N7 (u f:Int) (w:World):Calls Tryz.prog 169 #[.int .i64 u,.int .i64 f] w fun e w'=>e= .returned (.bool (VJ u f))/\w'=w:=by
 cases hu:inB u 0 1000000
 ·go_enter Tryz.func169,Tryz.ntmps169
  go_wp2_with (go_at_call 171;refine (XP _ _).mono ?_;rintro e w' ⟨rfl,rfl⟩)
  go_ret;exact ⟨Z5 (by simp [VJ,amt,hu]),rfl⟩
 ·cases hf:inB f 0 1000000
  ·go_enter Tryz.func169,Tryz.ntmps169
   go_wp2_with (go_at_call 171;refine (XP _ _).mono ?_;rintro e w' ⟨rfl,rfl⟩)
   go_ret;exact ⟨Z5 (by simp [VJ,amt,hu,hf]),rfl⟩
  ·obtain ⟨u0,u1⟩:=ZN hu
   obtain ⟨f0,f1⟩:=ZN hf;go_enter Tryz.func169,Tryz.ntmps169;go_wp2_with (go_at_call 171;refine (XP _ _).mono ?_;rintro e w' ⟨rfl,rfl⟩)
   go_ret;exact ⟨Z5 (by simp [VJ,amt,hu,hf,AQ]),rfl⟩
theorem N6 (u f:Int) (w:World):Calls Tryz.prog 109 #[.int .i64 u,.int .i64 f] w fun e w'=>e= .returned (.int .i64 (XJ u f))/\w'=w:=by
 cases hu:inB u 0 1000000
 ·go_enter Tryz.func109,Tryz.ntmps109
  go_wp2_with (go_at_call 171;refine (XP _ _).mono ?_;rintro e w' ⟨rfl,rfl⟩)
  go_ret;exact ⟨ZC (by simp [XJ,amt,hu]),rfl⟩
 ·cases hf:inB f 0 1000000
  ·go_enter Tryz.func109,Tryz.ntmps109
   go_wp2_with (go_at_call 171;refine (XP _ _).mono ?_;rintro e w' ⟨rfl,rfl⟩)
   go_ret;exact ⟨ZC (by simp [XJ,amt,hu,hf]),rfl⟩
  ·obtain ⟨u0,u1⟩:=ZN hu
   obtain ⟨f0,f1⟩:=ZN hf;go_enter Tryz.func109,Tryz.ntmps109;go_wp2_with (go_at_call 171;refine (XP _ _).mono ?_;rintro e w' ⟨rfl,rfl⟩)
   go_ret;exact ⟨ZC (by simp [XJ,amt,hu,hf]),rfl⟩
def Qe (gs:List Zr) (s:Z3):Int:=min (max s.2.2.2.2.2.2.2.2.2.1 (UK (bnd gs s.2.2.2.2.1) s.2.2.2.2.2.1 s.2.2.2.2.2.2.1).1) (UK (bnd gs s.2.2.2.2.1) s.2.2.2.2.2.1 s.2.2.2.2.2.2.1).2
def Zs (m:Z6) (who:Int):Int:=Qe m.gd (Z8 m.sm who.toNat)
theorem BG (gs:List Zr) (s:Z3):0<=Qe gs s/\Qe gs s<=1024:=by
 obtain ⟨b0,b1,b2⟩:=yu gs s.2.2.2.2.1;obtain ⟨n0,n1,n2⟩:=DI (lo:=s.2.2.2.2.2.1) (hi:=s.2.2.2.2.2.2.1) b0 b1 b2;unfold Qe;omega
theorem R1 (m:Z6) (who:Int):0<=Zs m who/\Zs m who<=1024:=BG _ _
def US (m:Z6) (but:Int) (q:List Z4):Int:=q.foldl (fun n e=>if e.2=but then n else n+Zs m e.2) 0
theorem FA (m:Z6) (but:Int) (q:List Z4) (e:Z4):US m but (q++[e])=if e.2=but then US m but q else US m but q+Zs m e.2:=by
 unfold US;rw [List.foldl_append];rfl
theorem IM (m:Z6) (but:Int):∀ (q:List Z4) (n:Int),0<=n->0<=q.foldl (fun n e=>if e.2=but then n else n+Zs m e.2) n/\q.foldl (fun n e=>if e.2=but then n else n+Zs m e.2) n<=n+1024*q.length
 | [],n,h=>⟨h,by simp⟩
 | e::q,n,h=>by
  have hw:=R1 m e.2;have ih:=IM m but q (if e.2=but then n else n+Zs m e.2) (by split<;>omega);refine ⟨ih.1,Int.le_trans ih.2 ?_⟩;simp only [YQ,Int.natCast_add,Int.natCast_one]
  split<;>omega
theorem IN (m:Z6) (but:Int) (q:List Z4):0<=US m but q/\US m but q<=1024*q.length:=by
 have:=IM m but q 0 (by omega);unfold US;omega
def Zc (m:Z6) (b but:Int):Int:=US m but (atV m.sm b m.sm.length)
theorem Tz (m:Z6) (b but:Int):0<=Zc m b but/\Zc m b but<=1024*m.sm.length:=by
 have h:=IN m but (atV m.sm b m.sm.length);have hl:=Sk m.sm b m.sm.length;unfold Zc;refine ⟨h.1,Int.le_trans h.2 ?_⟩;omega
def YU (m:Z6) (room:Int):Nat->Int × Int
 | 0=>(0,0)
 | k+1=>if (Xr m.rm k:Int)=room then ((if (Z8 m.dk k).1 then max (YU m room k).1 (Zc m k (-1)) else (YU m room k).1),(YU m room k).2+Zc m k (-1)) else YU m room k
theorem Pp (m:Z6) (room:Int) (hl:m.sm.length<=12):∀ k:Nat,(0<=(YU m room k).1/\(YU m room k).1<=12288)/\0<=(YU m room k).2/\(YU m room k).2<=12288*k
 | 0=>by simp [YU]
 | k+1=>by
  have ih:=Pp m room hl k;have hu:=Tz m k (-1);unfold YU
  split
  ·simp only
   constructor
   ·split<;>omega
   ·push_cast;omega
  ·push_cast;omega
def TE (m:Z6) (room:Nat):Int:=O0 (ZQ m.rm room) (YU m room m.dk.length).1 (YU m room m.dk.length).2
def VA (m:Z6):Nat->Int
 | 0=>0
 | k+1=>VA m k+TE m k
def PA (m:Z6):Int:=VA m m.rm.length
theorem OP (m:Z6):∀ k:Nat,-(k:Int)<=VA m k/\VA m k<=1024000000*k
 | 0=>by simp [VA]
 | k+1=>by
  have ih:=OP m k;have hc:=Gb (ZQ m.rm k) (Xq (ZQ m.rm k) (YU m k m.dk.length).1) (YU m k m.dk.length).2;unfold VA TE O0
  push_cast
  omega
def QV (s:Z3) (b:Int):Z3:=(2,b,s.2.2)
def Wv (m:Z6) (who b:Int):Z6:={ m with sm:=m.sm.set who.toNat (QV (Z8 m.sm who.toNat) b) }
def Za (m:Z6) (who b:Int):Int:=PA (Wv m who b)
def YH (m:Z6) (who:Int) (b:Nat):Bool:=(Z8 m.dk b).1 && VX (Z8 m.sm who.toNat).2.2.2.1 b
def Oh (m:Z6) (who:Int) (b:Nat):Bool:=YH m who b && Wk (Zs m who) (Zc m b who) (Zd m.rm b)
def UR (m:Z6) (who:Int):Nat->List Int
 | 0=>[]
 | k+1=>if Oh m who k then UR m who k++[(k:Int)] else UR m who k
def YI (m:Z6) (who:Int):List Int:=UR m who m.dk.length
theorem OR (m:Z6) (who:Int):∀ k,(UR m who k).length<=k
 | 0=>Z1 _
 | k+1=>by
  have:=OR m who k;unfold UR
  split
  ·simp;omega
  ·omega
theorem OS (m:Z6) (who:Int) (x:Int):∀ k,x ∈ UR m who k ↔ ∃ b:Nat,b<k/\x=(b:Int)/\Oh m who b=true
 | 0=>by simp [UR]
 | k+1=>by
  have ih:=OS m who x k;unfold UR
  split
  ·rename_i hf
   rw [List.mem_append,ih];constructor
   ·rintro (⟨b,hb,e,h⟩ | h)
    ·exact ⟨b,by omega,e,h⟩
    ·exact ⟨k,by omega,by simpa using h,hf⟩
   ·rintro ⟨b,hb,e,h⟩
    by_cases hbk:b=k
    ·subst hbk;right;simp [e]
    ·left;exact ⟨b,by omega,e,h⟩
  ·rename_i hf
   rw [ih];constructor
   ·rintro ⟨b,hb,e,h⟩
    exact ⟨b,by omega,e,h⟩
   ·rintro ⟨b,hb,e,h⟩
    by_cases hbk:b=k
    ·subst hbk;exact absurd h hf
    ·exact ⟨b,by omega,e,h⟩
def So (m:Z6) (b:Nat):Bool:=(Z8 m.dk b).1 && VJ (Zc m b (-1)) (Zd m.rm b)
def WB (m:Z6):Bool:=(List.range m.dk.length).any (So m)
def WJ (m:Z6) (who:Int) (a:Int × Int) (b:Int):Int × Int:=if Za m who b<a.2\/(Za m who b=a.2/\b=(Z8 m.sm who.toNat).2.1) then (b,Za m who b) else a
def Xj (m:Z6) (who:Int) (f:List Int) (k:Nat):Int × Int:=((f.take k).drop 1).foldl (WJ m who) (Z8 f 0,Za m who (Z8 f 0))
def YB (m:Z6) (who:Int):Nat->Int × Int
 | 0=>(-1,0)
 | k+1=>if YH m who k && (decide ((YB m who k).1<0) || decide ((YB m who k).2<XJ (Zc m k who) (Zd m.rm k))) then ((k:Int),XJ (Zc m k who) (Zd m.rm k)) else YB m who k
def Y3 (m:Z6) (who:Int):Int:=if !WB m && decide (0<(YI m who).length) then (Xj m who (YI m who) (YI m who).length).1 else (YB m who m.dk.length).1
theorem FY (m:Z6) (who:Int) (P:Int->Prop):∀ (f:List Int) (a:Int × Int),P a.1->(∀ x ∈ f,P x)->P (f.foldl (WJ m who) a).1
 | [],a,h,_=>h
 | b::f,a,h,hf=>by
  refine FY m who P f (WJ m who a b) ?_ (fun x hx=>hf x (List.mem_cons_of_mem _ hx));unfold WJ
  split
  ·exact hf b (by simp)
  ·exact h
theorem JG (m:Z6) (who:Int):∀ k:Nat,((YB m who k).1= -1/\ ∀ b,b<k->YH m who b=false)\/ ∃ b:Nat,b<k/\(YB m who k).1=(b:Int)/\YH m who b=true
 | 0=> .inl ⟨rfl,fun b hb=>by omega⟩
 | k+1=>by
  have ih:=JG m who k;unfold YB
  split
  ·rename_i h
   simp only [ZP] at h;exact .inr ⟨k,by omega,rfl,h.1⟩
  ·rename_i h
   rcases ih with ⟨e,hn⟩ | ⟨b,hb,e,hm⟩
   ·refine .inl ⟨e,fun b hb=> ?_⟩
    by_cases hbk:b=k
    ·subst hbk
     cases hm:YH m who b
     ·rfl
     ·exfalso
      apply h;rw [hm,e];rfl
    ·exact hn b (by omega)
   ·exact .inr ⟨b,by omega,e,hm⟩
theorem XB (m:Z6) (who:Int):(Y3 m who= -1/\ ∀ b,b<m.dk.length->YH m who b=false)\/ ∃ b:Nat,b<m.dk.length/\Y3 m who=(b:Int)/\YH m who b=true:=by
 unfold Y3
 split
 ·rename_i h
  simp only [ZP,Y0] at h;right
  have hin:∀ x ∈ YI m who,∃ b:Nat,b<m.dk.length/\x=(b:Int)/\YH m who b=true:=by
   intro x hx;obtain ⟨b,hb,e,hf⟩:=(OS m who x m.dk.length).1 hx;unfold Oh at hf;simp only [ZP] at hf;exact ⟨b,hb,e,hf.1⟩
  unfold Xj;exact FY m who (fun x=> ∃ b:Nat,b<m.dk.length/\x=(b:Int)/\YH m who b=true) _ _ (hin _ (Vs h.2)) (fun x hx=>hin x (List.mem_of_mem_take (List.mem_of_mem_drop hx)))
 ·exact JG m who m.dk.length
theorem Vc {st be rk my gu lo hi hd ca ut wk:Int} (h0:1<=st/\st<=3) (h1:0<=be/\be<=7) (h2:inB rk (-5) 5=true) (h3:1<=my/\my<=255) (h4 : -1<=gu/\gu<=5) (h5:Ya lo hi=true) (h6 : -1000000000000<=hd/\hd<=1000000000000) (h7:0<=ca/\ca<=Zi rk-1) (h8:0<=ut/\ut<=1024) (h9:0<=wk/\wk<=100000000000) :
  YR (st,be,rk,my,gu,lo,hi,hd,ca,ut,wk)=true:=by
 unfold YR;simp only [ZP];exact ⟨Zp h0.1 h0.2,Zp h1.1 h1.2,h2,Zp h3.1 h3.2,Zp h4.1 h4.2,h5,Zp h6.1 h6.2,Zp h7.1 h7.2,Zp h8.1 h8.2,Zp h9.1 h9.2⟩
theorem XT {s:Z3} : XY m s=true ↔ s=Uy\/(YR s=true/\s.2.2.2.2.1<m.gd.length/\s.2.1<m.dk.length):=by
 unfold XY Zw;simp only [ZP,Bool.or_eq_true,Y0];constructor
 ·rintro ⟨hg | hp,hr⟩
  ·exact .inl (U5 hg)
  ·right
   refine ⟨hp,?_⟩
   rcases hr with e | e
   ·have:s.1=0:=by simpa using e
    rw [MO this] at hp;cases hp
   ·exact e
 ·rintro (rfl | ⟨hp,hr⟩)
  ·exact ⟨.inl Em,.inl rfl⟩
  ·exact ⟨.inr hp,.inr hr⟩
theorem Vt {s:Z3} (h:ZK s=false):XI m s=true:=by unfold XI;rw [h];rfl
theorem Rc {s:Z3} (h1:(Z8 m.dk s.2.1.toNat).1=true) (h2:VX s.2.2.2.1 s.2.1=true) (h3:Yd (WN s) (Z8 m.dk s.2.1.toNat).2.2=true):XI m s=true:=by
 unfold XI;rw [h1,h2,show s.2.2.2.2.2.2.2.1=WN s from rfl,h3];simp
theorem ZR (h:ZJ m=true):Loose m:=by
 unfold ZJ at h;simp only [ZP] at h;exact Tk h.1
def setS (m:Z6) (k:Nat) (s:Z3):Z6:={ m with sm:=m.sm.set k s }
theorem Loose.setS (h:Loose m) {k:Nat} (hk:k<m.sm.length) {s:Z3} (h1:XY m s=true) (h2:XI m s=true):Loose (setS m k s):=by
 refine ⟨?_,h.desk,h.pace,?_,?_,h.openD⟩
 ·have:=h.head
  unfold YA at this ⊢;unfold Go.Proofs.YtamgfpdahadnfaaGreatDoor.setS;simpa using this
 ·intro i hi
  have hi':i<m.sm.length:=by unfold Go.Proofs.YtamgfpdahadnfaaGreatDoor.setS at hi;simpa using hi
  show XY (Go.Proofs.YtamgfpdahadnfaaGreatDoor.setS m k s) (Z8 (m.sm.set k s) i)=true;rw [Wl (m:=m) (m':=Go.Proofs.YtamgfpdahadnfaaGreatDoor.setS m k s) rfl rfl,ZF hk]
  split
  ·exact h1
  ·exact h.here i hi'
 ·intro i hi
  have hi':i<m.sm.length:=by unfold Go.Proofs.YtamgfpdahadnfaaGreatDoor.setS at hi;simpa using hi
  show XI m (Z8 (m.sm.set k s) i)=true;rw [ZF hk]
  split
  ·exact h2
  ·exact h.seat i hi'
theorem XW {α:Type} [Inhabited α] (xs:List α) (x:α) (i:Nat):Z8 (xs++[x]) i=if i=xs.length then x else Z8 xs i:=by
 unfold Z8
 split
 ·rename_i h;subst h;simp [List.getD]
 ·rename_i h
  rcases Nat.lt_or_ge i xs.length with hi | hi
  ·simp [List.getD,List.getElem?_append_left hi]
  ·simp [List.getD,List.getElem?_append_right hi,List.getElem?_eq_none hi]
   rw [List.getElem?_eq_none (by simp;omega)];rfl
def pushS (m:Z6) (s:Z3):Z6:={ m with sm:=m.sm++[s] }
theorem Loose.pushS (h:Loose m) (hl:m.sm.length<12) {s:Z3} (h1:XY m s=true) (h2:XI m s=true):Loose (pushS m s):=by
 refine ⟨?_,h.desk,h.pace,?_,?_,h.openD⟩
 ·have:=h.head
  unfold YA at this ⊢;unfold Go.Proofs.YtamgfpdahadnfaaGreatDoor.pushS;simp only [ZP,Y0] at this ⊢;refine ⟨this.1,this.2.1,?_,this.2.2.2⟩;simp;omega
 ·intro i hi
  have hi':i<m.sm.length+1:=by unfold Go.Proofs.YtamgfpdahadnfaaGreatDoor.pushS at hi;simpa using hi
  show XY (Go.Proofs.YtamgfpdahadnfaaGreatDoor.pushS m s) (Z8 (m.sm++[s]) i)=true;rw [Wl (m:=m) (m':=Go.Proofs.YtamgfpdahadnfaaGreatDoor.pushS m s) rfl rfl,XW]
  split
  ·exact h1
  ·exact h.here i (by omega)
 ·intro i hi
  have hi':i<m.sm.length+1:=by unfold Go.Proofs.YtamgfpdahadnfaaGreatDoor.pushS at hi;simpa using hi
  show XI m (Z8 (m.sm++[s]) i)=true;rw [XW]
  split
  ·exact h2
  ·exact h.seat i (by omega)
def Yo (m:Z6) (b:Int):Int:=(Z8 m.dk b.toNat).2.2
def Uq (s:Z3) (b had:Int):Z3:=(2,b,s.2.2.1,s.2.2.2.1,s.2.2.2.2.1,s.2.2.2.2.2.1,s.2.2.2.2.2.2.1,had,s.2.2.2.2.2.2.2.2)
def putS (m:Z6) (s:Z3) (b:Int):Z3:=(s.1,b,s.2.2.1,s.2.2.2.1,s.2.2.2.2.1,s.2.2.2.2.2.1,s.2.2.2.2.2.2.1,Zq (WN s) (Yo m s.2.1) (Yo m b),s.2.2.2.2.2.2.2.2)
def SG (s:Z3) (may:Int):Z3:=(s.1,s.2.1,s.2.2.1,may,s.2.2.2.2)
def EI (s:Z3) (lo hi:Int):Z3:=(s.1,s.2.1,s.2.2.1,s.2.2.2.1,s.2.2.2.2.1,lo,hi,s.2.2.2.2.2.2.2)
def OU (s:Z3) (g:Int):Z3:=(s.1,s.2.1,s.2.2.1,s.2.2.2.1,g,s.2.2.2.2.2)
def Zt (rank may guild:Int):Z3:=(1,0,rank,may,guild,0,1024,0,0,0,0)
theorem Xi (h:Loose m):m.dk.length<=8:=by
 have:=h.head;unfold YA at this;simp only [ZP,Y0] at this;have h8:=(Zl this.1).2.2.2;omega
theorem Ce (h:Loose m):m.gd.length<=6:=by
 have:=h.head;unfold YA at this;simp only [ZP,Y0] at this;exact (Vo this.2.1).2
theorem Loose.limits (h:Loose m) {k:Nat} (hk:k<m.sm.length) (hs:(Z8 m.sm k).1 ≠ 0):YR (Z8 m.sm k)=true/\(Z8 m.sm k).2.2.2.2.1<m.gd.length/\(Z8 m.sm k).2.1<m.dk.length:=by
 rcases XT.1 (h.here k hk) with e | e
 ·rw [e] at hs;exact absurd rfl hs
 ·exact e
theorem Cn (h:Loose m) {k:Nat} (hk:k<m.sm.length) (hp:ZK (Z8 m.sm k)=true):Loose (setS m k (stS (Z8 m.sm k) 1)):=
 h.setS hk (Mg (h.here k hk) hp (by omega) (by omega)) (Vt rfl)
theorem Ew (h:Loose m) {k:Nat} (hk:k<m.sm.length):Loose (setS m k Uy):=
 h.setS hk (XT.2 (.inl rfl)) (Vt rfl)
theorem Cm (h:Loose m) {k:Nat} (hk:k<m.sm.length) {rank:Int} {s:Z3} (hr:XL (Z8 m.sm k) rank=(s,true)):Loose (setS m k s):=by
 unfold XL at hr
 split at hr
 ·rename_i hp
  split at hr
  ·rename_i hrk
   obtain ⟨rfl,_⟩:=Prod.mk.inj hr
   have hne:(Z8 m.sm k).1 ≠ 0:=by
    intro e;rw [MO e] at hp;cases hp
   obtain ⟨_,g1,b1⟩:=h.limits hk hne;refine h.setS hk (XT.2 (.inr ⟨PR hp hrk,g1,b1⟩)) ?_;have:=h.seat k hk;unfold XI at this ⊢;exact this
  ·cases (Prod.mk.inj hr).2
 ·cases (Prod.mk.inj hr).2
theorem AE (h:Loose m) {k:Nat} (hk:k<m.sm.length) (hs:(Z8 m.sm k).1 ≠ 0) {lo hi:Int} (hp:Ya lo hi=true):Loose (setS m k (EI (Z8 m.sm k) lo hi)):=by
 obtain ⟨p,g1,b1⟩:=h.limits hk hs;refine h.setS hk (XT.2 (.inr ⟨?_,g1,b1⟩)) ?_
 ·generalize Z8 m.sm k=s at *
  obtain ⟨st,be,rk,my,gu,lo',hi',hd,ca,ut,wk⟩:=s;obtain ⟨x0,x1,x2,x3,x4,x5,x6,x7,x8,x9⟩:=Zo p;exact Vc x0 x1 x2 x3 x4 hp x6 x7 x8 x9
 ·have:=h.seat k hk
  unfold XI at this ⊢;exact this
theorem Ck (h:Loose m) {k:Nat} (hk:k<m.sm.length) (hs:(Z8 m.sm k).1 ≠ 0) {g:Int} (g0 : -1<=g) (g1:g<m.gd.length):Loose (setS m k (OU (Z8 m.sm k) g)):=by
 obtain ⟨p,_,b1⟩:=h.limits hk hs;have hg:=Ce h;refine h.setS hk (XT.2 (.inr ⟨?_,g1,b1⟩)) ?_
 ·generalize Z8 m.sm k=s at *
  obtain ⟨st,be,rk,my,gu,lo',hi',hd,ca,ut,wk⟩:=s;obtain ⟨x0,x1,x2,x3,x4,x5,x6,x7,x8,x9⟩:=Zo p;exact Vc x0 x1 x2 x3 ⟨g0,by omega⟩ x5 x6 x7 x8 x9
 ·have:=h.seat k hk
  unfold XI at this ⊢;exact this
theorem AF (h:Loose m) {k:Nat} (hk:k<m.sm.length) (hs:(Z8 m.sm k).1 ≠ 0) {may:Int} (m0:1<=may) (m1:may<=255) (hb:ZK (Z8 m.sm k)=false\/VX may (Z8 m.sm k).2.1=true):Loose (setS m k (SG (Z8 m.sm k) may)):=by
 obtain ⟨p,g1,b1⟩:=h.limits hk hs;refine h.setS hk (XT.2 (.inr ⟨?_,g1,b1⟩)) ?_
 ·generalize Z8 m.sm k=s at *
  obtain ⟨st,be,rk,my,gu,lo',hi',hd,ca,ut,wk⟩:=s;obtain ⟨x0,x1,x2,x3,x4,x5,x6,x7,x8,x9⟩:=Zo p;exact Vc x0 x1 x2 ⟨m0,m1⟩ x4 x5 x6 x7 x8 x9
 ·rcases hb with hb | hb
  ·exact Vt hb
  ·have:=h.seat k hk
   unfold XI at this;cases hp:ZK (Z8 m.sm k)
   ·exact Vt hp
   ·rw [hp] at this
    simp only [Bool.not_true,Bool.false_or,ZP] at this;exact Rc (s:=SG (Z8 m.sm k) may) this.1 hb this.2.2
theorem AG {s:Z3} {b:Nat} {had:Int} (h:Loose m) (hp:YR s=true) (hg:s.2.2.2.2.1<m.gd.length) (hb:b<m.dk.length) (ho:(Z8 m.dk b).1=true) (hm:VX s.2.2.2.1 b=true) (hd:Yd had (Z8 m.dk b).2.2=true) :
  XY m (Uq s b had)=true/\XI m (Uq s b had)=true:=by
 have h8:=Xi h;obtain ⟨st,be,rk,my,gu,lo',hi',hd',ca,ut,wk⟩:=s;obtain ⟨x0,x1,x2,x3,x4,x5,x6,x7,x8,x9⟩:=Zo hp;obtain ⟨d0,d1,_⟩:=TY hd;refine ⟨XT.2 (.inr ⟨Vc (by omega) ⟨by omega,by omega⟩ x2 x3 x4 x5 ⟨d0,d1⟩ x7 x8 x9,hg,?_⟩),?_⟩
 ·show (b:Int)<_;omega
 ·exact Rc (m:=m) (s:=Uq (st,be,rk,my,gu,lo',hi',hd',ca,ut,wk) b had) (by show (Z8 m.dk ((b:Int)).toNat).1=true;simpa using ho) hm (by show Yd had (Z8 m.dk ((b:Int)).toNat).2.2=true;simpa using hd)
theorem Ms (h:Loose m) {s:Z3} {b:Nat} (hp:YR s=true) (hpr:ZK s=true) (hg:s.2.2.2.2.1<m.gd.length) (b0:0<=s.2.1) (b1:s.2.1<m.dk.length) (hband:Yd (WN s) (Yo m s.2.1)=true) (hb:b<m.dk.length) (ho:(Z8 m.dk b).1=true) (hm:VX s.2.2.2.1 b=true) :
  XY m (putS m s b)=true/\XI m (putS m s b)=true:=by
 have h8:=Xi h;obtain ⟨k0,k1⟩:=VC (h.desk s.2.1.toNat (by omega));obtain ⟨k2,k3⟩:=VC (h.desk b hb);obtain ⟨a0,a1,a2,a3,a4,a5⟩:=TY hband;have hmk:Yo m (b:Int)=(Z8 m.dk b).2.2:=by unfold Yo;simp
 have hmv:Zq (WN s) (Yo m s.2.1) (Yo m b)=WN s-Yo m s.2.1+Yo m b:=AP a0 a1 a2 a3 (by omega) (by omega);obtain ⟨st,be,rk,my,gu,lo',hi',hd',ca,ut,wk⟩:=s;obtain ⟨x0,x1,x2,x3,x4,x5,x6,x7,x8,x9⟩:=Zo hp;simp only at b0 b1 hmv a4 a5 k0 k1 hg hm;refine ⟨XT.2 (.inr ⟨?_,hg,?_⟩),?_⟩
 ·unfold putS
  simp only;rw [hmv];exact Vc x0 ⟨by omega,by omega⟩ x2 x3 x4 x5 ⟨by omega,by omega⟩ x7 x8 x9
 ·show (b:Int)<_;omega
 ·refine Rc (m:=m) (s:=putS m (st,be,rk,my,gu,lo',hi',hd',ca,ut,wk) b) (by show (Z8 m.dk ((b:Int)).toNat).1=true;simpa using ho) hm ?_
  show Yd (Zq _ _ _) (Z8 m.dk ((b:Int)).toNat).2.2=true;rw [hmv,show ((b:Int)).toNat=b by simp,<-hmk];exact ND (by omega) (by omega) (by omega) (by omega) (by omega) (by omega)
def TK (m:Z6) (r:Nat) (p:Int):Z6:={ m with pc:=m.pc.set r p }
theorem Ke (h:Loose m) {r:Nat} (hr:r<m.rm.length) {p:Int} (p0:0<=p) (p1:p<(ZQ m.rm r).2.length):Loose (TK m r p):=by
 have hd:=h.head
 have hpl:m.pc.length=m.rm.length:=by
  unfold YA at hd;simp only [ZP,Y0] at hd;exact hd.2.2.2.2.1
 refine ⟨?_,h.desk,?_,h.here,h.seat,h.openD⟩
 ·unfold YA at hd ⊢
  unfold TK;simpa using hd
 ·intro j hj
  have hj':j<m.pc.length:=by unfold TK at hj;simpa using hj
  have:=h.pace j hj';unfold V3 at this ⊢;unfold TK;simp only;rw [ZF (by omega)]
  split
  ·rename_i e;subst e;exact Zp p0 (by omega)
  ·exact this
def Yb (m:Z6) (b:Nat) (o:Bool):Z6:={ m with dk:=m.dk.set b (o,(Z8 m.dk b).2) }
theorem Cl (h:Loose m) {b:Nat} (hb:b<m.dk.length):Loose (Yb m b true):=by
 have hat:∀ j,(Z8 (Yb m b true).dk j)=if j=b then (true,(Z8 m.dk b).2) else Z8 m.dk j:=fun j=>ZF hb j
 have hmk:∀ j,(Z8 (Yb m b true).dk j).2=(Z8 m.dk j).2:=fun j=>by
  rw [hat];by_cases e:j=b
  ·rw [if_pos e,e]
  ·rw [if_neg e]
 have hop:∀ j,(Z8 m.dk j).1=true->(Z8 (Yb m b true).dk j).1=true:=fun j e=>by
  rw [hat];by_cases e':j=b
  ·rw [if_pos e']
  ·rw [if_neg e'];exact e
 have hlen:(Yb m b true).dk.length=m.dk.length:=by unfold Yb;simp
 refine ⟨?_,?_,h.pace,?_,?_,?_⟩
 ·have:=h.head
  unfold YA at this ⊢;rw [hlen];exact this
 ·intro j hj
  have:=h.desk j (by omega);unfold Vv at this ⊢;rw [hmk];exact this
 ·intro i hi
  rw [Wl (m:=m) (m':=Yb m b true) rfl hlen];exact h.here i hi
 ·intro i hi
  have:=h.seat i hi;unfold XI at this ⊢;show (!ZK (Z8 m.sm i) || _)=true;cases hp:ZK (Z8 m.sm i)
  ·rfl
  ·rw [hp] at this
   simp only [Bool.not_true,Bool.false_or,ZP] at this ⊢;refine ⟨hop _ this.1,this.2.1,?_⟩;show Yd _ (Z8 (Yb m b true).dk (Z8 m.sm i).2.1.toNat).2.2=true;rw [hmk];exact this.2.2
 ·exact ⟨b,by omega,by rw [hat,if_pos rfl]⟩
def Ye:Z6:=⟨[],[],[],[],[],0⟩
def WL (m:Z6) (who:Int):Bool:=inB who 0 ((m.sm.length:Int)-1) && !((Z8 m.sm who.toNat).1 ==0)
theorem XS {who:Int} (h:WL m who=true):∃ k:Nat,who=(k:Int)/\k<m.sm.length/\(Z8 m.sm k).1 ≠ 0:=by
 unfold WL at h;simp only [ZP,Bool.not_eq_true',beq_eq_false_iff_ne] at h;have h1:=ZN h.1;exact ⟨who.toNat,by omega,by omega,h.2⟩
theorem Xn (h:Loose m):Few m:=by
 have hd:=h.head;unfold YA at hd;simp only [ZP,Y0] at hd;obtain ⟨h1,h2,h3,h4,h5,_⟩:=hd;obtain ⟨r1,r2,r3,r4⟩:=Zl h1;have hg:=(Vo h2).2;refine ⟨by omega,fun r hr=> ?_,by omega,by omega,by omega,by omega⟩;have hrb:=List.all_eq_true.1 r3 r hr;unfold Ze at hrb;simp only [ZP] at hrb;have:=ZN hrb.2.1;omega
def RR (m:Z6) (who:Int):Z6 × Int:=
 if ZJ m then (if WL m who then (if ZK (Z8 m.sm who.toNat) then (ZM (setS m who.toNat (stS (Z8 m.sm who.toNat) 1)),0) else (m,2)) else (m,1)) else (Ye,3)
def TG (m:Z6) (who:Int):Z6 × Int:=
 if ZJ m then (if WL m who then (ZM (setS m who.toNat Uy),0) else (m,1)) else (Ye,3)
def Uj (m:Z6) (who lo hi:Int):Z6 × Int:=
 if ZJ m then (if WL m who then (if Ya lo hi then (ZM (setS m who.toNat (EI (Z8 m.sm who.toNat) lo hi)),0) else (m,3)) else (m,1)) else (Ye,3)
def Uo (m:Z6) (who rank:Int):Z6 × Int:=
 if ZJ m then (if WL m who then (if (XL (Z8 m.sm who.toNat) rank).2 then (ZM (setS m who.toNat (XL (Z8 m.sm who.toNat) rank).1),0) else (m,3)) else (m,1)) else (Ye,3)
theorem Fb (h:ZJ m=true) (who:Int):ZJ (RR m who).1=true:=by
 unfold RR;rw [h];simp only [if_true]
 split
 ·rename_i hw
  obtain ⟨k,rfl,hk,hs⟩:=XS hw;rw [show ((k:Int)).toNat=k by simp]
  split
  ·rename_i hp
   exact YG (Cn (ZR h) hk hp)
  ·exact h
 ·exact h
theorem GK (h:ZJ m=true) (who:Int):ZJ (TG m who).1=true:=by
 unfold TG;rw [h];simp only [if_true]
 split
 ·rename_i hw
  obtain ⟨k,rfl,hk,hs⟩:=XS hw;rw [show ((k:Int)).toNat=k by simp];exact YG (Ew (ZR h) hk)
 ·exact h
theorem GP (h:ZJ m=true) (who lo hi:Int):ZJ (Uj m who lo hi).1=true:=by
 unfold Uj;rw [h];simp only [if_true]
 split
 ·rename_i hw
  obtain ⟨k,rfl,hk,hs⟩:=XS hw;rw [show ((k:Int)).toNat=k by simp]
  split
  ·rename_i hp
   exact YG (AE (ZR h) hk hs hp)
  ·exact h
 ·exact h
theorem E8 (h:ZJ m=true) (who rank:Int):ZJ (Uo m who rank).1=true:=by
 unfold Uo;rw [h];simp only [if_true]
 split
 ·rename_i hw
  obtain ⟨k,rfl,hk,hs⟩:=XS hw;rw [show ((k:Int)).toNat=k by simp]
  split
  ·rename_i hp
   exact YG (Cm (ZR h) hk (Prod.ext rfl hp))
  ·exact h
 ·exact h
theorem TU (u x n:Int) (w:World):Calls Tryz.prog 280 #[.int .i64 u,.int .i64 x,.int .i64 n] w fun e w'=>e= .returned (.int .i64 (ZE u x n))/\w'=w:=by
 refine BH u x n 0 1024 0 1024 0 1000 ?_ ?_ ?_ ?_
 ·intro ha
  have hv:ZE u x n= -1:=by simp [ZE,ha]
  rw [hv];clear hv;go_enter Tryz.func280,Tryz.ntmps280;go_wp2_with (first | (go_at_call 105;refine (TP _ _).mono ?_;rintro e w' ⟨rfl,rfl⟩) | (go_at_call 59;refine (ZV _ _ _ _).mono ?_;rintro e w' ⟨rfl,rfl⟩))
  go_ret;exact ⟨rfl,rfl⟩
 ·intro ha hb
  have hv:ZE u x n= -1:=by simp [ZE,hb]
  rw [hv];clear hv;go_enter Tryz.func280,Tryz.ntmps280;go_wp2_with (first | (go_at_call 105;refine (TP _ _).mono ?_;rintro e w' ⟨rfl,rfl⟩) | (go_at_call 59;refine (ZV _ _ _ _).mono ?_;rintro e w' ⟨rfl,rfl⟩))
  go_ret;exact ⟨rfl,rfl⟩
 ·intro ha hb hc
  have hv:ZE u x n= -1:=by simp [ZE,hc]
  rw [hv];clear hv;go_enter Tryz.func280,Tryz.ntmps280;go_wp2_with (first | (go_at_call 105;refine (TP _ _).mono ?_;rintro e w' ⟨rfl,rfl⟩) | (go_at_call 59;refine (ZV _ _ _ _).mono ?_;rintro e w' ⟨rfl,rfl⟩))
  go_ret;exact ⟨rfl,rfl⟩
 ·intro ha hb hc
  have hv:ZE u x n=PE x n.toNat u:=by simp [ZE,ha,hb,hc]
  rw [hv];clear hv;obtain ⟨a0,a1⟩:=ZN ha;obtain ⟨b0,b1⟩:=ZN hb;obtain ⟨c0,c1⟩:=ZN hc;obtain ⟨m,rfl⟩:=Int.eq_ofNat_of_zero_le c0;rw [Zy];go_enter Tryz.func280,Tryz.ntmps280;go_wp2_with (first | (go_at_call 105;refine (TP _ _).mono ?_;rintro e w' ⟨rfl,rfl⟩) | (go_at_call 59;refine (ZV _ _ _ _).mono ?_;rintro e w' ⟨rfl,rfl⟩))
  go_loop [0,2] (fun s i=> ∃ k:Nat,k<=m/\i= .int .i64 ((m:Int)-k)/\s= .int .i64 (PE x k u)) (fun _ i=>(intOf i).toNat)
  case atStart=>exact ⟨0,Zz _,by simp,rfl⟩
  case round=>
   obtain ⟨k,hk,rfl,rfl⟩:=hrel;obtain ⟨f1,f2⟩:=Gk x b0 b1 k u a0 a1;have Hs:=Z9 (L7 x k u);generalize hz:PE x k u=z at *;have Hz:=Z9 hz;clear hz;by_cases hlt:k<m
   ·go_wp2_with fail
    go_round
    case rel=>exact ⟨k+1,by omega,by go_num,by rw [uh Hs]⟩
    case measure=>exact ms
   ·go_wp2_with fail
    go_ret;exact ⟨ZC (by rw [<-uh Hz,show k=m from by omega]),rfl⟩
end Go.Proofs.YtamgfpdahadnfaaGreatDoor
