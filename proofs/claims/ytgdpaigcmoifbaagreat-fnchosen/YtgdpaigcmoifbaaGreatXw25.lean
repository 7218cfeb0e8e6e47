/- Part 25 of what the proof rests on. No condition but those that a theorem names. -/
import Derived.Test.YtgdpaigcmoifbaaGreatXw18
namespace Go.Proofs.YtgdpaigcmoifbaaGreat
open Go.ChangeShapes Go.WideShapes Go.ChangeAt Go.RowKit Go.Sort
set_option linter.unusedVariables false
variable {w w' w0 w1 w2 w3 w₀ wr W W' X A B C : World} {v v0 v1 v2 v3 v4 u u0 u1 u2 u3 u4 : Value} {m : Z6}
theorem Ix (h:Loose m) (k:Nat) (hk:k<=m.dk.length):Loose (YU m k):=by
 obtain ⟨e1,e2,e3,e4,e5,e6⟩:=Zv m k;have hd:=fun j=>VT m j k hk
 have hopen:∀ j,(Z8 (YU m k).dk j).1=(Z8 m.dk j).1:=by
  intro j;rw [hd j]
  split
  ·unfold Xq;split<;>rfl
  ·rfl
 have hmark:∀ j,j<m.dk.length->(-900000000000<=(Z8 (YU m k).dk j).2.2/\(Z8 (YU m k).dk j).2.2<=900000000000)/\(Z8 m.dk j).2.2<=(Z8 (YU m k).dk j).2.2/\((Z8 (YU m k).dk j).2.2<=(Z8 m.dk j).2.2\/ ∀ i,i<m.sm.length->(Z8 m.sm i).2.1=(j:Int)->ZL (Z8 m.sm i)=true->(Z8 (YU m k).dk j).2.2<=Xs (Z8 m.sm i)):=by
  intro j hj;obtain ⟨k0,k1⟩:=SL (h.desk j hj);rw [hd j]
  split
  ·unfold Xq
   split
   ·exact ⟨⟨k0,k1⟩,Int.le_refl _,.inl (Int.le_refl _)⟩
   ·rename_i e t hq
    obtain ⟨_,i,hi,hib,hip,rfl⟩:=Vx hq;obtain ⟨_,_,_,_,hband⟩:=h.at hi hip;obtain ⟨a0,a1,_⟩:=TL hband;have hm:=J6 (m:=(Z8 m.dk j).2.2) (f:=Xs (Z8 m.sm i)) (by omega) (by omega) a0 a1;show (-900000000000<=Zw _ _/\Zw _ _<=900000000000)/\_<=Zw _ _/\(Zw _ _<=_\/_)
    rw [hm];refine ⟨by omega,by omega,?_⟩;by_cases hc:Xs (Z8 m.sm i)<=(Z8 m.dk j).2.2
    ·left;omega
    ·right
     intro i' hi' hb' hp';have:=Q8 hq hi' hb' hp';simp only at this;show min (max (Z8 m.dk j).2.2 (Xs (Z8 m.sm i))) 900000000000<=_;omega
  ·exact ⟨⟨k0,k1⟩,Int.le_refl _,.inl (Int.le_refl _)⟩
 refine ⟨?_,?_,?_,?_,?_,?_⟩
 ·have:=h.head
  unfold Yx at this ⊢;rw [e1,e2,e3,e4,e5,e6];exact this
 ·intro j hj
  have hj':j<m.dk.length:=by omega
  exact Zn (hmark j hj').1.1 (hmark j hj').1.2
 ·intro j hj
  have hj':j<m.pc.length:=by rw [e3] at hj;exact hj
  have:=h.pace j hj';unfold VX at this ⊢;rw [e1,e3];exact this
 ·intro i hi
  have hi':i<m.sm.length:=by omega
  rw [Wj (m:=m) (by rw [e2]) (by rw [e6])];rw [XB m hi']
  split
  ·rename_i hp
   exact L7 (h.here i hi') hp.2 (by split<;>omega) (by split<;>omega)
  ·exact h.here i hi'
 ·intro i hi
  have hi':i<m.sm.length:=by omega
  have ha:=W6 m k i hi';unfold XL;show (!ZL (Z8 (YU m k).sm i) || _)=true;rw [ha.2.1];cases hp:ZL (Z8 m.sm i)
  ·rfl
  ·obtain ⟨b0,b1,ho,hm,hband⟩:=h.at hi' hp
   obtain ⟨a0,a1,a2,a3,a4,a5⟩:=TL hband;obtain ⟨⟨q0,q1⟩,q2,q3⟩:=hmark (Z8 m.sm i).2.1.toNat (by omega)
   have hmay:(Z8 (YU m k).sm i).2.2.2.1=(Z8 m.sm i).2.2.2.1:=by
    rw [XB m hi'];split<;>rfl
   show (!true || ((Z8 (YU m k).dk (Z8 (YU m k).sm i).2.1.toNat).1 && (V6 (Z8 (YU m k).sm i).2.2.2.1 (Z8 (YU m k).sm i).2.1 && Wt (Xs (Z8 (YU m k).sm i)) (Z8 (YU m k).dk (Z8 (YU m k).sm i).2.1.toNat).2.2)))=true;rw [ha.1,ha.2.2,hmay,hopen,ho,hm];rw [Pn a0 a1 (by omega) (by omega) ?_ (by omega)]
   ·rfl
   ·rcases q3 with q3 | q3
    ·omega
    ·have:=q3 i hi' (by omega) hp
     omega
 ·obtain ⟨j,hj,ho⟩:=h.openD
  exact ⟨j,by omega,by rw [hopen];exact ho⟩
theorem Ia {α:Type} [Inhabited α] {xs ys:List α} (hl:xs.length=ys.length) (h:∀ i,i<xs.length->Z8 xs i=Z8 ys i):xs=ys:=by
 apply List.ext_getElem hl;intro i h1 h2;have:=h i h1;unfold Z8 at this
 rwa [List.getD_eq_getElem?_getD,List.getD_eq_getElem?_getD,List.getElem?_eq_getElem h1,List.getElem?_eq_getElem h2] at this
theorem Bl {ss:List Z2} {b:Int} {e:Z4} {t:List Z4} (h:atV ss b ss.length=e::t):(ZE ss (e::t)).set e.2.toNat (stS (Z8 (ZE ss (e::t)) e.2.toNat) 3)=ZE (ss.set e.2.toNat (stS (Z8 ss e.2.toNat) 3)) t:=by
 have hmem:∀ x ∈ e::t,0<=x.2/\x.2<ss.length:=fun x hx=>by
  rw [<-h] at hx;obtain ⟨i,hi,_,_,rfl⟩:=(XQ ss b x ss.length).1 hx;exact ⟨by show (0:Int)<=(i:Int);omega,by show (i:Int)<_;omega⟩
 have hw:=TK ss b ss.length;rw [h,List.pairwise_cons] at hw;obtain ⟨he0,he1⟩:=hmem e (List.mem_cons_self ..);have hel:e.2.toNat<ss.length:=by omega
 have hse:∀ x ∈ t,0<=x.2/\x.2<(ss.set e.2.toNat (stS (Z8 ss e.2.toNat) 3)).length:=fun x hx=>by rw [V1];exact hmem x (List.mem_cons_of_mem _ hx)
 refine Ia (by rw [V1,XC,XC,V1]) fun i hi=> ?_;rw [V1,XC] at hi;rw [ZD (by rw [XC];exact hel)];obtain ⟨p1,p2⟩:=Qm (e::t) ss i hmem;obtain ⟨r1,r2⟩:=Qm t (ss.set e.2.toNat (stS (Z8 ss e.2.toNat) 3)) i hse;by_cases hie:i=e.2.toNat
 ·subst hie
  have hn:∀ x ∈ t,x.2 ≠ ((e.2.toNat:Nat):Int):=fun x hx e9=>hw.1 x hx (by omega);rw [if_pos rfl,r2 hn,ZD hel,if_pos rfl,p1 ⟨e,List.mem_cons_self ..,by omega⟩];rfl
 ·rw [if_neg hie]
  by_cases hx:∃ x ∈ t,x.2=(i:Int)
  ·obtain ⟨x,hx,hxi⟩:=hx
   rw [p1 ⟨x,List.mem_cons_of_mem _ hx,hxi⟩,r1 ⟨x,hx,hxi⟩,ZD hel,if_neg hie]
  ·have hn:∀ x ∈ t,x.2 ≠ (i:Int):=fun x hx' e9=>hx ⟨x,hx',e9⟩
   rw [p2 (fun x hx'=>by
    rcases List.mem_cons.1 hx' with rfl | hx'
    ·omega
    ·exact hn x hx'),r2 hn,ZD hel,if_neg hie]
def Xr (m:Z6):Z6:=if YA m then ZH m else W7
def VW (m:Z6) (b:Int):Bool:=ZM m && (Y1 m b && ((Z8 m.dk b.toNat).1 && decide ((atV m.sm b m.sm.length).length=0)))
def UQ (ds:List Yg):List Int:=ds.map fun d=>d.2.1
def XS (m:Z6):List Int:=if ZM m then UQ m.dk else []
theorem Nm (ds:List Yg):(UQ ds).length=ds.length:=by unfold UQ;simp
theorem KE {ds:List Yg} {k:Nat} (h:k<ds.length):UQ (ds.take (k+1))=UQ (ds.take k)++[(Z8 ds k).2.1]:=by
 unfold UQ Z8;rw [List.take_add_one,List.map_append,List.getD,List.getElem?_eq_getElem h];rfl
theorem MM {ss:List Z2} {k:Nat} (hk:k<ss.length):ss.set k (Z8 ss k)=ss:=by
 refine Ia (by simp) fun i hi=> ?_;rw [ZD hk]
 split
 ·rename_i e;rw [e]
 ·rfl
theorem SmithsAt.put {B n c g k i:Nat} {ss:List Z2} {x:Z2} (h:SmithsAt B W (.slice (some ⟨g,0,none⟩) n c) (ss.set k x)) (hn:n=ss.length) (hk:k<ss.length) (hi:i<11) (u:Value) (y:Z2) (hy:ZR y=(ZR x).set i u):SmithsAt B (W.setCell ⟨g,k*11+i,none⟩ u) (.slice (some ⟨g,0,none⟩) n c) (ss.set k y):=by
 have h1:=(RecAt.put1 ZT (by omega) h (by simpa using hn) (j:=k) (i:=i) (by simpa using hk) hi u y (by rw [ZD hk,if_pos rfl];exact hy)).1
 rwa [List.set_set] at h1
theorem Smy.other  {B:Nat} {ss:List Z2} (h:Smy w v0 v1 v2 v3 v4 m) (hb:Below w.heap.size w W) (hs:SmithsAt B W u ss):Smy W v0 v1 u v3 v4 { m with sm:=ss }:=⟨h.rm.below hb,h.gd.below hb,hs.list,h.dk.below hb,h.pc.below hb⟩
theorem Blk.put6 {R:Nat} {t:TypeId} {u0 u1 u2 u3 u4 u5:Value} (v0 v1 v2 v3 v4 v5:Value) (h:Blk w R t #[u0,u1,u2,u3,u4,u5]):Blk ((((((w.setCell ⟨R,0,none⟩ v0).setCell ⟨R,1,none⟩ v1).setCell ⟨R,2,none⟩ v2).setCell ⟨R,3,none⟩ v3).setCell ⟨R,4,none⟩ v4).setCell ⟨R,5,none⟩ v5) R t #[v0,v1,v2,v3,v4,v5]:=by
 have h0:Blk _ R t #[v0,u1,u2,u3,u4,u5]:=h.set 0 v0;have h1:Blk _ R t #[v0,v1,u2,u3,u4,u5]:=h0.set 1 v1;have h2:Blk _ R t #[v0,v1,v2,u3,u4,u5]:=h1.set 2 v2;have h3:Blk _ R t #[v0,v1,v2,v3,u4,u5]:=h2.set 3 v3;have h4:Blk _ R t #[v0,v1,v2,v3,v4,u5]:=h3.set 4 v4;exact h4.set 5 v5
theorem Below.put6 {n:Nat} {R:Nat} (v0 v1 v2 v3 v4 v5:Value) (h:Below n w W) (hR:n<=R):Below n w ((((((W.setCell ⟨R,0,none⟩ v0).setCell ⟨R,1,none⟩ v1).setCell ⟨R,2,none⟩ v2).setCell ⟨R,3,none⟩ v3).setCell ⟨R,4,none⟩ v4).setCell ⟨R,5,none⟩ v5):=by
 iterate 6 (refine Yv ?_ hR _)
 exact h
theorem RecAt.off6 {α:Type} [Inhabited α] {t k B:Nat} {enc:α->List Value} {R:Nat} {xs:List α} (v0 v1 v2 v3 v4 v5:Value) (h:RecAt t k enc B W v xs) (hR:∀ i,v.ownBlock=some i->i ≠ R):RecAt t k enc B ((((((W.setCell ⟨R,0,none⟩ v0).setCell ⟨R,1,none⟩ v1).setCell ⟨R,2,none⟩ v2).setCell ⟨R,3,none⟩ v3).setCell ⟨R,4,none⟩ v4).setCell ⟨R,5,none⟩ v5) v xs:=
 RecAt.same h fun i hi=>by rw [heap_setCell_other _ _ _ _ (hR i hi),heap_setCell_other _ _ _ _ (hR i hi),heap_setCell_other _ _ _ _ (hR i hi),heap_setCell_other _ _ _ _ (hR i hi),heap_setCell_other _ _ _ _ (hR i hi),heap_setCell_other _ _ _ _ (hR i hi)]
set_option linter.unusedSimpArgs false
set_option maxRecDepth 100000
theorem PW {i:Nat} (hi:i<m.sm.length):ZL (Z8 (ZH m).sm i)=ZL (Z8 m.sm i)/\(Z8 (ZH m).sm i).2=(Z8 m.sm i).2:=by
 refine ⟨(W6 m m.dk.length i hi).2.1,?_⟩;have a0:Z8 (ZH m).sm i=_:=XB m hi m.dk.length;rw [a0]
 split<;>rfl
theorem Ee {b:Int} (h:VW m b=true):UM m b=[]/\0<=b/\b<m.dk.length/\(Z8 m.dk b.toNat).1=true:=by
 unfold VW at h;simp only [ZO,YZ] at h;obtain ⟨h1,h2,h3,h4⟩:=h;have hb:=ZN h2;refine ⟨?_,hb.1,by omega,h3⟩;unfold UM;rw [h1,h2];exact List.eq_nil_of_length_eq_zero h4
theorem JI (h:ZM m=false):XS m=[]:=by unfold XS;rw [h];rfl
theorem OH (h:ZM m=true):(XS m).length=m.dk.length:=by unfold XS;rw [h];exact Nm _
theorem Ft (h:ZM m=true) {i:Nat} (hi:i<m.dk.length):Z8 (XS m) i=(Z8 m.dk i).2.1:=by
 unfold XS;rw [h];unfold UQ Z8;simp [List.getD,hi]
theorem Nf {i:Nat} (hi:i<m.dk.length):(Z8 (ZH m).dk i).2.1=Xp m.sm i:=by
 have a0:Z8 (ZH m).dk i=_:=VT m i m.dk.length (Z0 _);rw [a0,if_pos hi];unfold Xq Xp;cases atV m.sm i m.sm.length<;>rfl
theorem CJ (h:Loose m) {i:Nat} (hi:i<m.dk.length):UM (ZH m) i=atV m.sm i m.sm.length:=by
 have e6:(ZH m).dk.length=m.dk.length:=(Zv m m.dk.length).2.2.2.2.2;unfold UM;rw [YS h]
 have hb:Y1 (ZH m) i=true:=by
  unfold Y1 inB;rw [e6];simp only [ZO,YZ];omega
 rw [hb];exact QT m m.dk.length i
theorem Et {i:Nat} (hi:i<m.dk.length) (h:atV m.sm i m.sm.length=[]):(Z8 (ZH m).dk i).2.1= -1:=by rw [Nf hi,I7 h]
theorem Oo {i:Nat} (hi:i<m.dk.length) {e:Z4} {t:List Z4} (h:atV m.sm i m.sm.length=e::t):(Z8 (ZH m).dk i).2.1=e.2/\0<=e.2/\e.2<m.sm.length/\Xs (Z8 (ZH m).sm e.2.toNat)=e.1:=by
 obtain ⟨h1,j,hj,_,_,he⟩:=Vx h;rw [Nf hi,h1,he];refine ⟨rfl,by simp,by simpa using hj,?_⟩;show Xs (Z8 (ZH m).sm ((j:Int)).toNat)=Xs (Z8 m.sm j);rw [Zp];unfold Xs;rw [(PW hj).2]
theorem Eu (hL:Loose m) {i:Nat} (hi:i<m.dk.length) {e f:Z4} {t:List Z4} (h:atV m.sm i m.sm.length=e::t) (hf:f ∈ t):0<=f.2/\f.2<m.sm.length/\(Z8 (ZH m).sm f.2.toNat).1=2/\e.1<=f.1:=by
 obtain ⟨j,hj,hb,hp,rfl⟩:=(XQ m.sm i f m.sm.length).1 (by rw [h];exact List.mem_cons_of_mem _ hf);have hw:=TK m.sm i m.sm.length;rw [h] at hw;have hne:=(List.pairwise_cons.1 hw).1 _ hf;refine ⟨by simp,by simpa using hj,?_,Q8 h hj hb hp⟩;show (Z8 (ZH m).sm ((j:Int)).toNat).1=2;rw [Zp];have a0:Z8 (ZH m).sm j=_:=XB m hj m.dk.length;have hfi:=(Vx h).1;rw [a0,hb,if_pos ⟨⟨by omega,by omega⟩,hp⟩,hfi,if_neg hne];rfl
end Go.Proofs.YtgdpaigcmoifbaaGreat
