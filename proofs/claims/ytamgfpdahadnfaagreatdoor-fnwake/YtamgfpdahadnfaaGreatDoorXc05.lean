/- Part 5 of what the proof rests on. No condition but those that a theorem names. -/
import Derived.Test.YtamgfpdahadnfaaGreatDoorXc04
import Derived.Shelf.RegionOpen
import Derived.Laws.StructEq
import Derived.Deep.RegionHeld3
set_option maxHeartbeats 8000000
set_option maxRecDepth 100000
namespace Go.Proofs.YtamgfpdahadnfaaGreatDoor
open Go.ChangeShapes Go.WideShapes Go.ChangeAt Go.RowKit Go.Sort
set_option linter.unusedVariables false
def T0 (m:Z6) (s:Z3):Int:=Y3 (pushS m s) (m.sm.length:Int)
def Ww (m:Z6) (rank may guild:Int):Z6 × Int:=
 if ZJ m then (if Zw (Zt rank may guild) && decide (guild<m.gd.length) then (if m.sm.length=12 then (m,4) else (if T0 m (Zt rank may guild)<0 then (m,2) else
  (ZM (setS (pushS m (Zt rank may guild)) m.sm.length (Uq (Zt rank may guild) (T0 m (Zt rank may guild)) (Yo m (T0 m (Zt rank may guild))))),0))) else (m,3)) else (Ye,3)
theorem Tm {rank may guild:Int} (h:Zw (Zt rank may guild)=true):YR (Zt rank may guild)=true:=by
 unfold Zw at h;rw [Rp (by show (1:Int) ≠ 0;omega),Bool.false_or] at h;exact h
theorem MG {m:Z6} (h:Loose m) {rank may guild:Int} (hs:Zw (Zt rank may guild)=true) (hg:guild<m.gd.length):Loose (pushS m (Zt rank may guild))\/m.sm.length>=12:=by
 by_cases hl:m.sm.length<12
 ·left
  obtain ⟨j,hj,_⟩:=h.openD;exact h.pushS hl (XT.2 (.inr ⟨Tm hs,hg,by show (0:Int)<_;omega⟩)) (Vt rfl)
 ·right;omega
theorem Kj {m:Z6} (h:Loose m) {b:Nat} (hb:b<m.dk.length):Yd (Yo m (b:Int)) (Z8 m.dk b).2.2=true:=by
 have hmk:Yo m (b:Int)=(Z8 m.dk b).2.2:=by unfold Yo;simp
 obtain ⟨k0,k1⟩:=VC (h.desk b hb);rw [hmk];exact ND (by omega) (by omega) (by omega) (by omega) (by omega) (by omega)
theorem YS {m:Z6} (h:Loose m):m.sm.length<=12:=by
 have hd:=h.head;unfold YA at hd;simp only [ZP,Y0] at hd;exact hd.2.2.1
theorem Ql {m:Z6} (h:ZJ m=true) (rank may guild:Int):ZJ (Ww m rank may guild).1=true:=by
 unfold Ww;rw [h];simp only [if_true]
 split
 ·rename_i hs
  simp only [ZP,Y0] at hs
  split
  ·exact h
  ·rename_i hl
   split
   ·exact h
   ·rename_i hb
    have hlo:=ZR h;have h12:=YS hlo
    have hx:Loose (pushS m (Zt rank may guild)):=by
     rcases MG hlo hs.1 hs.2 with e | e
     ·exact e
     ·omega
    rcases XB (pushS m (Zt rank may guild)) (m.sm.length:Int) with ⟨e,_⟩ | ⟨b,hbl,e,hm⟩
    ·exact absurd (show T0 m (Zt rank may guild)<0 by unfold T0;rw [e];omega) hb
    ·have ec:T0 m (Zt rank may guild)=(b:Int):=e
     rw [ec];unfold YH at hm;simp only [ZP,Zy] at hm
     have hat:Z8 (pushS m (Zt rank may guild)).sm m.sm.length=Zt rank may guild:=by
      show Z8 (m.sm++[Zt rank may guild]) m.sm.length=_;rw [XW,if_pos rfl]
     rw [hat] at hm;obtain ⟨k1,k2⟩:=AG (m:=pushS m (Zt rank may guild)) (s:=Zt rank may guild) (b:=b) (had:=Yo m (b:Int)) hx (Tm hs.1) hs.2 hbl hm.1 hm.2 (Kj hlo hbl);exact YG (hx.setS (by unfold pushS;simp) k1 k2)
 ·exact h
def Wz (m:Z6) (s:Z3) (b:Int):Int:=Zj (Zq (WN s) (Yo m s.2.1) (Yo m b)) (Yo m b)
def Yl (m:Z6) (k:Nat) (b:Int):Z6:=setS m k (Uq (Z8 m.sm k) b (Wz m (Z8 m.sm k) b))
def WA (m:Z6) (who:Int):Z6 × Int:=
 if ZJ m then (if WL m who then (if (Z8 m.sm who.toNat).1=1 then (if Y3 m who<0 then (m,2) else (if YK (Yl m who.toNat (Y3 m who)) then (ZM (Yl m who.toNat (Y3 m who)),0) else (m,4))) else (m,2)) else (m,1)) else (Ye,3)
theorem Nr {m:Z6} (h:ZJ m=true) (who:Int):ZJ (WA m who).1=true:=by
 unfold WA;rw [h];simp only [if_true]
 split
 ·split
  ·split
   ·exact h
   ·split
    ·rename_i hl
     exact YG (Tk hl)
    ·exact h
  ·exact h
 ·exact h
theorem KC (m:Z6) (k:Nat) (s t:Z3):setS (setS m k s) k t=setS m k t:=by unfold setS;simp
def Xv (m:Z6) (k:Nat) (may:Int):Z6:=setS m k (SG (Z8 m.sm k) may)
def Vz (m:Z6) (who may:Int):Z6 × Int:=
 if ZJ m then (if WL m who then (if inB may 1 255 then (if ZK (Z8 m.sm who.toNat) && !VX may (Z8 m.sm who.toNat).2.1 then
  (if Y3 (Xv m who.toNat may) who<0 then (m,2) else (ZM (setS (Xv m who.toNat may) who.toNat (putS (Xv m who.toNat may) (SG (Z8 m.sm who.toNat) may) (Y3 (Xv m who.toNat may) who))),0))
  else (ZM (Xv m who.toNat may),0)) else (m,3)) else (m,1)) else (Ye,3)
theorem Ks {s:Z3} {may:Int} (h:YR s=true) (m0:1<=may) (m1:may<=255):YR (SG s may)=true:=by
 obtain ⟨st,be,rk,my,gu,lo',hi',hd,ca,ut,wk⟩:=s;obtain ⟨x0,x1,x2,x3,x4,x5,x6,x7,x8,x9⟩:=Zo h;exact Vc x0 x1 x2 ⟨m0,m1⟩ x4 x5 x6 x7 x8 x9
theorem FO {m:Z6} (h:ZJ m=true) (who may:Int):ZJ (Vz m who may).1=true:=by
 unfold Vz;rw [h];simp only [if_true]
 split
 ·rename_i hw
  obtain ⟨k,rfl,hk,hs⟩:=XS hw;rw [show ((k:Int)).toNat=k by simp];have hlo:=ZR h
  split
  ·rename_i hm
   obtain ⟨m0,m1⟩:=ZN hm
   split
   ·rename_i hp
    simp only [ZP,Bool.not_eq_true'] at hp
    split
    ·exact h
    ·rename_i hb
     rcases XB (Xv m k may) (k:Int) with ⟨e,_⟩ | ⟨b,hbl,e,hma⟩
     ·exact absurd (show Y3 (Xv m k may) (k:Int)<0 by rw [e];omega) hb
     ·rw [e]
      obtain ⟨p,g1,b1⟩:=hlo.limits hk hs;obtain ⟨a0,a1,a2,a3,a4⟩:=hlo.at hk hp.1;unfold YH at hma;simp only [ZP,Zy] at hma
      have hat:Z8 (Xv m k may).sm k=SG (Z8 m.sm k) may:=by
       show Z8 (m.sm.set k _) k=_;rw [ZF hk,if_pos rfl]
      rw [hat] at hma;have:=Ms (m:=m) hlo (s:=SG (Z8 m.sm k) may) (b:=b) (Ks p m0 m1) hp.1 g1 a0 a1 a4 hbl hma.1 hma.2;unfold Xv;rw [KC];exact YG (hlo.setS hk this.1 this.2)
   ·rename_i hp
    refine YG (AF hlo hk hs m0 m1 ?_);cases h1:ZK (Z8 m.sm k)
    ·exact .inl rfl
    ·right
     cases h2:VX may (Z8 m.sm k).2.1
     ·rw [h1,h2] at hp;exact absurd rfl hp
     ·rfl
  ·exact h
 ·exact h
def QI (m:Z6) (who g:Int):Z6 × Int:=
 if WL m who then (if inB g (-1) ((m.gd.length:Int)-1) then (ZM (setS m who.toNat (OU (Z8 m.sm who.toNat) g)),0) else (m,3)) else (m,1)
theorem Ev {m:Z6} (h:ZJ m=true) (who g:Int):ZJ (QI m who g).1=true:=by
 unfold QI
 split
 ·rename_i hw
  obtain ⟨k,rfl,hk,hs⟩:=XS hw;rw [show ((k:Int)).toNat=k by simp]
  split
  ·rename_i hg
   have:=ZN hg;exact YG (Ck (ZR h) hk hs this.1 (by omega))
  ·exact h
 ·exact h
def SY (m:Z6) (r:Nat):Int:=Xq (ZQ m.rm r) (YU m r m.dk.length).1
theorem Db {m:Z6} (h:Loose m) {r:Nat} (hr:r<m.rm.length):0<=SY m r/\SY m r<(ZQ m.rm r).2.length:=by
 have hd:=h.head;unfold YA at hd;simp only [ZP,Y0] at hd;obtain ⟨r1,r2,r3,r4⟩:=Zl hd.1;have hmem:ZQ m.rm r ∈ m.rm:=by unfold ZQ;simp [List.getD,hr]
 have hrb:=List.all_eq_true.1 r3 _ hmem;have hu:=Pp m r (YS h) m.dk.length
 have hlen:1<=(ZQ m.rm r).2.length:=by
  have hx:=hrb;unfold Ze at hx;simp only [ZP] at hx;have:=ZN hx.2.1;omega
 have hn:=Hj (YU m r m.dk.length).1 (ZQ m.rm r).2 hlen;unfold SY Xq;rw [hrb,Zp (by omega) (by omega)];simp only [Bool.and_self,if_true];omega
def Pu (m:Z6):Nat->Z6
 | 0=>m
 | k+1=>TK (Pu m k) k (SY m k)
theorem QU (m:Z6):∀ k,(Pu m k).rm=m.rm/\(Pu m k).gd=m.gd/\(Pu m k).sm=m.sm/\(Pu m k).dk=m.dk/\(Pu m k).now=m.now/\(Pu m k).pc.length=m.pc.length
 | 0=>⟨rfl,rfl,rfl,rfl,rfl,rfl⟩
 | k+1=>by
  obtain ⟨a,b,c,d,e,f⟩:=QU m k;refine ⟨a,b,c,d,e,?_⟩;show ((Pu m k).pc.set k _).length=_;rw [V4,f]
theorem JW {m:Z6} (h:Loose m):∀ k,k<=m.pc.length->Loose (Pu m k)
 | 0,_=>h
 | k+1,hk=>by
  have ih:=JW h k (by omega);have hd:=h.head;unfold YA at hd;simp only [ZP,Y0] at hd;have hr:k<m.rm.length:=by have:=hd.2.2.2.2.1;omega
  have hw:=Db h hr;have hs:=(QU m k).1;exact Ke ih (by rw [hs];exact hr) hw.1 (by rw [hs];exact hw.2)
def D3 (m:Z6):Z6:=ZM (Pu m m.pc.length)
theorem BN {m:Z6} (h:ZJ m=true):ZJ (D3 m)=true:=YG (JW (ZR h) _ (Z1 _))
def Tb (m:Z6) (b:Int):Int:=(Z7 (ZQ m.rm (Xr m.rm b)).2 (Z8 m.pc (Xr m.rm b)).toNat).1
def zk (s:Z3) (u:Int):Z3:=(s.1,s.2.1,s.2.2.1,s.2.2.2.1,s.2.2.2.2.1,s.2.2.2.2.2.1,s.2.2.2.2.2.2.1,s.2.2.2.2.2.2.2.1,s.2.2.2.2.2.2.2.2.1,u,s.2.2.2.2.2.2.2.2.2.2)
def BD (s:Z3):Int:=s.2.2.2.2.2.2.2.2.2.1
def P9 (m:Z6) (n:Int) (s:Z3):Option Z3:=
 if s.1=0 then some s else if s.1=3 then (if (WG s (n*Tb m s.2.1)).2 then some (zk (WG s (n*Tb m s.2.1)).1 (ZE (BD (WG s (n*Tb m s.2.1)).1) (Tb m s.2.1) n)) else none) else some (zk s (ZE (BD s) 0 n))
def Xx (m:Z6) (n:Int):Nat->Option (List Z3)
 | 0=>some m.sm
 | k+1=>match Xx m n k with
  | none=>none
  | some ss=>match P9 m n (Z8 m.sm k) with
   | none=>none
   | some t=>some (ss.set k t)
theorem OE {m:Z6} {n:Int} : ∀ {k:Nat} {ss:List Z3},Xx m n k=some ss->ss.length=m.sm.length/\ ∀ j,k<=j->Z8 ss j=Z8 m.sm j
 | 0,ss,h=>by cases h;exact ⟨rfl,fun _ _=>rfl⟩
 | k+1,ss,h=>by
  unfold Xx at h;cases ht:Xx m n k with
  | none=>rw [ht] at h;cases h
  | some s0=>
   rw [ht] at h;simp only at h;cases h1:P9 m n (Z8 m.sm k) with
   | none=>rw [h1] at h;cases h
   | some t=>
    rw [h1] at h;cases h;obtain ⟨e1,e2⟩:=OE ht;refine ⟨by simpa using e1,fun j hj=> ?_⟩;rw [<-e2 j (by omega)];unfold Z8;simp [List.getD,List.getElem?_set_ne (show k ≠ j by omega)]
theorem OD {m:Z6} {n:Int} {k:Nat} : ∀ d,Xx m n k=none->Xx m n (k+d)=none
 | 0,h=>h
 | d+1,h=>by
  have:=OD d h;show Xx m n (k+d+1)=none;unfold Xx;rw [this]
def Sh (m:Z6) (n:Int) (ss:List Z3):Z6:={ m with sm:=ss,now:=m.now+n }
def Sg (m:Z6) (n:Int):Z6 × Int:=
 if ZJ m then (if inB n 1 20 then (match Xx m n m.sm.length with
  | none=>(m,4)
  | some ss=>if YK (Sh m n ss) then (ZM (Sh m n ss),0) else (m,4)) else (m,3)) else (Ye,3)
theorem Fp {m:Z6} (h:ZJ m=true) (n:Int):ZJ (Sg m n).1=true:=by
 unfold Sg;rw [h];simp only [if_true]
 split
 ·split
  ·exact h
  ·split
   ·rename_i hl
    exact YG (Tk hl)
   ·exact h
 ·exact h
def Wa (v0 v1 v2 v3 v4:Value) (qs:List (ZX × Value)) (k:Nat):Prop:=v0.ownBlock=some k\/(∃ q ∈ qs,q.2.ownBlock=some k)\/v1.ownBlock=some k\/v2.ownBlock=some k\/v3.ownBlock=some k\/v4.ownBlock=some k
section
variable {n₀ : Nat} {w w' : World} {v0 v1 v2 v3 v4 : Value} {m : Z6} {qs : List (ZX × Value)}
theorem FullSmy.own (h:FullSmy n₀ w v0 v1 v2 v3 v4 m qs) {k:Nat} (e:Wa v0 v1 v2 v3 v4 qs k):n₀<=k/\k<w.heap.size:=by
 rcases e with e | e | e | e | e | e
 ·exact h.hall.lt (.inl e)
 ·exact h.hall.lt (.inr e)
 ·exact RecAt.lt h.gd e
 ·exact RecAt.lt h.sm e
 ·exact RecAt.lt h.dk e
 ·exact RecAt.lt h.pc e
theorem FullSmy.keep (h:FullSmy n₀ w v0 v1 v2 v3 v4 m qs) (hs:∀ k,Wa v0 v1 v2 v3 v4 qs k->w'.heap[k]?=w.heap[k]?):FullSmy n₀ w' v0 v1 v2 v3 v4 m qs:=
 ⟨⟨Xp h.hall.row (fun k e=>hs k (.inl e)),fun q hq=>Xp (h.hall.pc q hq) (fun k e=>hs k (.inr (.inl ⟨q,hq,e⟩))),h.hall.off,h.hall.apart⟩,h.rm,RecAt.same h.gd fun k e=>hs k (.inr (.inr (.inl e))),RecAt.same h.sm fun k e=>hs k (.inr (.inr (.inr (.inl e)))),RecAt.same h.dk fun k e=>hs k (.inr (.inr (.inr (.inr (.inl e))))),RecAt.same h.pc fun k e=>hs k (.inr (.inr (.inr (.inr (.inr e))))),h.h1,h.h2,h.h3,h.h4,h.a12,h.a13,h.a14,h.a23,h.a24,h.a34⟩
end
end Go.Proofs.YtamgfpdahadnfaaGreatDoor
namespace Go.Proofs.YtamgfpdahadnfaaGreatDoor
open Go.ChangeShapes Go.WideShapes Go.ChangeAt Go.RowKit Go.Sort Go.Shelf
set_option linter.unusedVariables false
set_option linter.unusedSimpArgs false
set_option maxRecDepth 100000
structure Nx (w W:World) (R:Nat) (v0 v1 v2 v3 v4:Value) (m:Z6) (qs:List (ZX × Value)):Prop where
 full:FullSmy w.heap.size W v0 v1 v2 v3 v4 m qs
 blk:Blk W R 32 #[v0,v1,v2,v3,v4,.int .i64 m.now]
 own:∀ k,Wa v0 v1 v2 v3 v4 qs k->k ≠ R
 bb:Below w.heap.size w W
 hR:w.heap.size<=R
section
variable {w W X : World} {R : Nat} {v0 v1 v2 v3 v4 : Value} {m : Z6} {qs : List (ZX × Value)}
theorem Nx.next (h:Nx w W R v0 v1 v2 v3 v4 m qs) (hb:Below W.heap.size W X):Nx w X R v0 v1 v2 v3 v4 m qs:=⟨h.full.below hb,h.blk.below hb h.blk.lt,h.own,h.bb.trans (hb.mono h.bb.size),h.hR⟩
theorem Nx.cells (h:Nx w W R v0 v1 v2 v3 v4 m qs):W.cell? ⟨R,0,none⟩=some v0/\W.cell? ⟨R,1,none⟩=some v1/\W.cell? ⟨R,2,none⟩=some v2/\W.cell? ⟨R,3,none⟩=some v3/\W.cell? ⟨R,4,none⟩=some v4/\W.cell? ⟨R,5,none⟩=some (.int .i64 m.now):=h.blk.c6
theorem Nx.putS {g n cap:Nat} (h:Nx w W R v0 v1 (.slice (some ⟨g,0,none⟩) n cap) v3 v4 m qs) (hn:n=m.sm.length) {j i:Nat} (hj:j<m.sm.length) (hi:i<11) (u:Value) (x:Z3) (hx:ZU x=(ZU (Z8 m.sm j)).set i u):Nx w (W.setCell ⟨g,j*11+i,none⟩ u) R v0 v1 (.slice (some ⟨g,0,none⟩) n cap) v3 v4 (setS m j x) qs:=by
 have hg:=h.full.own (k:=g) (.inr (.inr (.inr (.inl rfl))));have hgR:=h.own g (.inr (.inr (.inr (.inl rfl))));exact ⟨h.full.putS hn hj hi u x hx,h.blk.other (a:=⟨g,j*11+i,none⟩) (fun e=>hgR e.symm) u,h.own,h.bb.setCell (p:=⟨g,j*11+i,none⟩) hg.1 u,h.hR⟩
end
def Chg (w:World) (R:Nat) (q:Int->Addr) (X:Z6) (c:Int) (e:Ending) (W':World):Prop:=
 Below w.heap.size w W'/\((c=0/\e= .returned .nilIface/\ ∃ u0 u1 u2 u3 u4 rs,Nx w W' R u0 u1 u2 u3 u4 X rs)\/((c=1\/c=2\/c=3\/c=4\/c=5)/\e= .returned (Xg (q c))))
theorem Chg.no {w W':World} {R:Nat} {q:Int->Addr} {X:Z6} {c d:Int} (h:Below w.heap.size w W') (e:c=d) (hd:d=1\/d=2\/d=3\/d=4\/d=5):Chg w R q X c (.returned (Xg (q d))) W':=by
 subst e;exact ⟨h,.inr ⟨hd,rfl⟩⟩
theorem Chg.yes {w W':World} {R:Nat} {q:Int->Addr} {X Y:Z6} {c:Int} {u0 u1 u2 u3 u4:Value} {rs:List (ZX × Value)} (h:Nx w W' R u0 u1 u2 u3 u4 Y rs) (e:c=0) (hX:X=Y):Chg w R q X c (.returned .nilIface) W':=by
 subst e hX;exact ⟨h.bb,.inl ⟨rfl,rfl,_,_,_,_,_,_,h⟩⟩
theorem KA (m:Z6) (k:Nat) (s t:Z3):setS (setS m k s) k t=setS m k t:=by unfold setS;simp
section
variable {F : Nat → TypeId → Array Value → Prop} {w W X : World} {R : Nat} {v0 v1 v2 v3 v4 : Value} {m : Z6} {qs : List (ZX × Value)}
end
theorem ME {w W:World} {R g n cap:Nat} {v0 v1 v3 v4:Value} {m:Z6} {qs:List (ZX × Value)} (K:Nx w W R v0 v1 (.slice (some ⟨g,0,none⟩) n cap) v3 v4 m qs) (hn:n=m.sm.length) {k:Nat} (hk:k<m.sm.length) (b had:Int) :
  Calls Tryz.prog 99 #[.pointer (some ⟨g,k*11,none⟩),.int .i64 b,.int .i64 had] W fun e W'=>e= .returned (.tuple #[])/\Nx w W' R v0 v1 (.slice (some ⟨g,0,none⟩) n cap) v3 v4 (setS m k (Uq (Z8 m.sm k) b had)) qs:=by
 obtain ⟨⟨st,be,rk,my,gu,lo,hi,hd,ca,ut,wk⟩,hrk⟩:∃ d,Z8 m.sm k=d:=⟨_,rfl⟩
 have hl:∀ x:Z3,k<(setS m k x).sm.length:=fun x=>by unfold setS;simpa using hk
 have hlen:∀ x:Z3,n=(setS m k x).sm.length:=fun x=>by unfold setS;simpa using hn
 have hat:∀ x:Z3,Z8 (setS m k x).sm k=x:=fun x=>by unfold setS;rw [ZF hk,if_pos rfl]
 obtain ⟨_,hga,_,_,hc,hz⟩:=RecAt.view ZT (by omega) K.full.sm hn (by omega);cases hga;have s0:=hc k hk 0 _ rfl;have f0:=hz (k*11);have K1:=K.putS hn hk (i:=0) (by omega) (.int .i64 2) (2,be,rk,my,gu,lo,hi,hd,ca,ut,wk) (by rw [hrk];rfl);obtain ⟨_,hga,_,_,hc1,hz1⟩:=RecAt.view ZT (by omega) K1.full.sm (hlen _) (by have:=hl (2,be,rk,my,gu,lo,hi,hd,ca,ut,wk);omega);cases hga;have s1:=hc1 k (hl _) 1 _ rfl;have f1:=hz1 (k*11+1);have K2:=K1.putS (hlen _) (hl _) (i:=1) (by omega) (.int .i64 b) (2,b,rk,my,gu,lo,hi,hd,ca,ut,wk) (by rw [hat];rfl);rw [KA] at K2;obtain ⟨_,hga,_,_,hc2,hz2⟩:=RecAt.view ZT (by omega) K2.full.sm (hlen _) (by have:=hl (2,b,rk,my,gu,lo,hi,hd,ca,ut,wk);omega);cases hga;have s7:=hc2 k (hl _) 7 _ rfl;have f7:=hz2 (k*11+7);have K3:=K2.putS (hlen _) (hl _) (i:=7) (by omega) (.int .i64 had) (2,b,rk,my,gu,lo,hi,had,ca,ut,wk) (by rw [hat];rfl);rw [KA] at K3;simp only [Nat.add_zero] at s0 s1 s7 K3;simp only [Nat.add_zero] at f1 f7;have HK:=Z9 K3;have hres:Uq (st,be,rk,my,gu,lo,hi,hd,ca,ut,wk) b had=(2,b,rk,my,gu,lo,hi,had,ca,ut,wk):=rfl;rw [hrk,hres];clear K K1 K2 K3 hc hz hc1 hz1 hc2 hz2 hat hl hlen hres hrk;go_enter Tryz.func99,Tryz.ntmps99;go_wp2_with fail
 go_end0
 exact ⟨rfl,uh HK⟩
end Go.Proofs.YtamgfpdahadnfaaGreatDoor
namespace Go.Proofs.YtamgfpdahadnfaaGreatDoor
open Go.ChangeShapes Go.WideShapes Go.ChangeAt Go.RowKit Go.Sort
set_option linter.unusedVariables false
theorem IH {m:Z6} (h:Loose m) (k:Nat) (hk:k<=m.dk.length):Loose (YV m k):=by
 obtain ⟨e1,e2,e3,e4,e5,e6⟩:=ZH m k;have hd:=fun j=>Uw m j k hk
 have hopen:∀ j,(Z8 (YV m k).dk j).1=(Z8 m.dk j).1:=by
  intro j;rw [hd j]
  split
  ·unfold Wf;split<;>rfl
  ·rfl
 have hmark:∀ j,j<m.dk.length->(-900000000000<=(Z8 (YV m k).dk j).2.2/\(Z8 (YV m k).dk j).2.2<=900000000000)/\(Z8 m.dk j).2.2<=(Z8 (YV m k).dk j).2.2/\((Z8 (YV m k).dk j).2.2<=(Z8 m.dk j).2.2\/ ∀ i,i<m.sm.length->(Z8 m.sm i).2.1=(j:Int)->ZK (Z8 m.sm i)=true->(Z8 (YV m k).dk j).2.2<=WN (Z8 m.sm i)):=by
  intro j hj;obtain ⟨k0,k1⟩:=VC (h.desk j hj);rw [hd j]
  split
  ·unfold Wf
   split
   ·exact ⟨⟨k0,k1⟩,Int.le_refl _,.inl (Int.le_refl _)⟩
   ·rename_i e t hq
    obtain ⟨_,i,hi,hib,hip,rfl⟩:=Sr hq;obtain ⟨_,_,_,_,hband⟩:=h.at hi hip;obtain ⟨a0,a1,_⟩:=TY hband;have hm:=Kk (m:=(Z8 m.dk j).2.2) (f:=WN (Z8 m.sm i)) (by omega) (by omega) a0 a1;show (-900000000000<=Zu _ _/\Zu _ _<=900000000000)/\_<=Zu _ _/\(Zu _ _<=_\/_)
    rw [hm];refine ⟨by omega,by omega,?_⟩;by_cases hc:WN (Z8 m.sm i)<=(Z8 m.dk j).2.2
    ·left;omega
    ·right
     intro i' hi' hb' hp';have:=Og hq hi' hb' hp';simp only at this;show min (max (Z8 m.dk j).2.2 (WN (Z8 m.sm i))) 900000000000<=_;omega
  ·exact ⟨⟨k0,k1⟩,Int.le_refl _,.inl (Int.le_refl _)⟩
 refine ⟨?_,?_,?_,?_,?_,?_⟩
 ·have:=h.head
  unfold YA at this ⊢;rw [e1,e2,e3,e4,e5,e6];exact this
 ·intro j hj
  have hj':j<m.dk.length:=by omega
  exact Zp (hmark j hj').1.1 (hmark j hj').1.2
 ·intro j hj
  have hj':j<m.pc.length:=by rw [e3] at hj;exact hj
  have:=h.pace j hj';unfold V3 at this ⊢;rw [e1,e3];exact this
 ·intro i hi
  have hi':i<m.sm.length:=by omega
  rw [Wl (m:=m) (by rw [e2]) (by rw [e6])];rw [Xd m hi']
  split
  ·rename_i hp
   exact Mg (h.here i hi') hp.2 (by split<;>omega) (by split<;>omega)
  ·exact h.here i hi'
 ·intro i hi
  have hi':i<m.sm.length:=by omega
  have ha:=Xc m k i hi';unfold XI;show (!ZK (Z8 (YV m k).sm i) || _)=true;rw [ha.2.1];cases hp:ZK (Z8 m.sm i)
  ·rfl
  ·obtain ⟨b0,b1,ho,hm,hband⟩:=h.at hi' hp
   obtain ⟨a0,a1,a2,a3,a4,a5⟩:=TY hband;obtain ⟨⟨q0,q1⟩,q2,q3⟩:=hmark (Z8 m.sm i).2.1.toNat (by omega)
   have hmay:(Z8 (YV m k).sm i).2.2.2.1=(Z8 m.sm i).2.2.2.1:=by
    rw [Xd m hi'];split<;>rfl
   show (!true || ((Z8 (YV m k).dk (Z8 (YV m k).sm i).2.1.toNat).1 && (VX (Z8 (YV m k).sm i).2.2.2.1 (Z8 (YV m k).sm i).2.1 && Yd (WN (Z8 (YV m k).sm i)) (Z8 (YV m k).dk (Z8 (YV m k).sm i).2.1.toNat).2.2)))=true;rw [ha.1,ha.2.2,hmay,hopen,ho,hm];rw [ND a0 a1 (by omega) (by omega) ?_ (by omega)]
   ·rfl
   ·rcases q3 with q3 | q3
    ·omega
    ·have:=q3 i hi' (by omega) hp
     omega
 ·obtain ⟨j,hj,ho⟩:=h.openD
  exact ⟨j,by omega,by rw [hopen];exact ho⟩
theorem Il {α:Type} [Inhabited α] {xs ys:List α} (hl:xs.length=ys.length) (h:∀ i,i<xs.length->Z8 xs i=Z8 ys i):xs=ys:=by
 apply List.ext_getElem hl;intro i h1 h2;have:=h i h1;unfold Z8 at this
 rwa [List.getD_eq_getElem?_getD,List.getD_eq_getElem?_getD,List.getElem?_eq_getElem h1,List.getElem?_eq_getElem h2] at this
theorem Bz {ss:List Z3} {b:Int} {e:Z4} {t:List Z4} (h:atV ss b ss.length=e::t):(ZB ss (e::t)).set e.2.toNat (stS (Z8 (ZB ss (e::t)) e.2.toNat) 3)=ZB (ss.set e.2.toNat (stS (Z8 ss e.2.toNat) 3)) t:=by
 have hmem:∀ x ∈ e::t,0<=x.2/\x.2<ss.length:=fun x hx=>by
  rw [<-h] at hx;obtain ⟨i,hi,_,_,rfl⟩:=(XC ss b x ss.length).1 hx;exact ⟨by show (0:Int)<=(i:Int);omega,by show (i:Int)<_;omega⟩
 have hw:=S8 ss b ss.length;rw [h,List.pairwise_cons] at hw;obtain ⟨he0,he1⟩:=hmem e (List.mem_cons_self ..);have hel:e.2.toNat<ss.length:=by omega
 have hse:∀ x ∈ t,0<=x.2/\x.2<(ss.set e.2.toNat (stS (Z8 ss e.2.toNat) 3)).length:=fun x hx=>by rw [V4];exact hmem x (List.mem_cons_of_mem _ hx)
 refine Il (by rw [V4,XA,XA,V4]) fun i hi=> ?_;rw [V4,XA] at hi;rw [ZF (by rw [XA];exact hel)];obtain ⟨p1,p2⟩:=QB (e::t) ss i hmem;obtain ⟨r1,r2⟩:=QB t (ss.set e.2.toNat (stS (Z8 ss e.2.toNat) 3)) i hse;by_cases hie:i=e.2.toNat
 ·subst hie
  have hn:∀ x ∈ t,x.2 ≠ ((e.2.toNat:Nat):Int):=fun x hx e9=>hw.1 x hx (by omega);rw [if_pos rfl,r2 hn,ZF hel,if_pos rfl,p1 ⟨e,List.mem_cons_self ..,by omega⟩];rfl
 ·rw [if_neg hie]
  by_cases hx:∃ x ∈ t,x.2=(i:Int)
  ·obtain ⟨x,hx,hxi⟩:=hx
   rw [p1 ⟨x,List.mem_cons_of_mem _ hx,hxi⟩,r1 ⟨x,hx,hxi⟩,ZF hel,if_neg hie]
  ·have hn:∀ x ∈ t,x.2 ≠ (i:Int):=fun x hx' e9=>hx ⟨x,hx',e9⟩
   rw [p2 (fun x hx'=>by
    rcases List.mem_cons.1 hx' with rfl | hx'
    ·omega
    ·exact hn x hx'),r2 hn,ZF hel,if_neg hie]
def Zn (m:Z6):Z6:=if YK m then ZM m else Ye
theorem OC (x0 x1 x2 x3 x4 x5 x6 x7 x8 x9 x10 y0 y1 y2 y3 y4 y5 y6 y7 y8 y9 y10:Int) (w:World):(Op.equalIn 10000 40 (.agg (I11 x0 x1 x2 x3 x4 x5 x6 x7 x8 x9 x10)) (.agg (I11 y0 y1 y2 y3 y4 y5 y6 y7 y8 y9 y10))).run Tryz.prog w= .ok (Tt (x0,x1,x2,x3,x4,x5,x6,x7,x8,x9,x10) (y0,y1,y2,y3,y4,y5,y6,y7,y8,y9,y10)) w:=by
 have u:=Tryz.underlying2;have a:=Tryz.isAgg2;have z:=Tryz.sizeOf2;have hS:Tryz.prog.underlying 40=some (.struct (Tryz.prog.fieldsOf 40)):=by kernel_rfl
 have hp:Tryz.prog.stoodInHeld 40=false:=by kernel_rfl
 rw [show (10000:Nat)=9999+1 from rfl,run_equalIn_agg w 9999 40 _ _ hS hp];simp only [Program.fieldsOf,Tryz.underlying40];go_simp;unfold Tt;by_cases h0:x0=y0;rotate_left
 ·simp [h0]
 subst h0;by_cases h1:x1=y1;rotate_left
 ·simp [h1]
 subst h1;by_cases h2:x2=y2;rotate_left
 ·simp [h2]
 subst h2;by_cases h3:x3=y3;rotate_left
 ·simp [h3]
 subst h3;by_cases h4:x4=y4;rotate_left
 ·simp [h4]
 subst h4;by_cases h5:x5=y5;rotate_left
 ·simp [h5]
 subst h5;by_cases h6:x6=y6;rotate_left
 ·simp [h6]
 subst h6;by_cases h7:x7=y7;rotate_left
 ·simp [h7]
 subst h7;by_cases h8:x8=y8;rotate_left
 ·simp [h8]
 subst h8;by_cases h9:x9=y9;rotate_left
 ·simp [h9]
 subst h9;by_cases h10:x10=y10;rotate_left
 ·simp [h10]
 subst h10;simp
theorem KF (x0 x1 x2 x3 x4 x5 x6 x7 x8 x9 x10 y0 y1 y2 y3 y4 y5 y6 y7 y8 y9 y10:Int) (w:World):(binOp .eql 40 (.agg (I11 x0 x1 x2 x3 x4 x5 x6 x7 x8 x9 x10)) (.agg (I11 y0 y1 y2 y3 y4 y5 y6 y7 y8 y9 y10))).run Tryz.prog w= .ok (.bool (Tt (x0,x1,x2,x3,x4,x5,x6,x7,x8,x9,x10) (y0,y1,y2,y3,y4,y5,y6,y7,y8,y9,y10))) w:=by
 rw [run_eql_struct,OC];rfl
theorem Pg (x0 x1 x2 x3 x4 x5 x6 x7 x8 x9 x10 y0 y1 y2 y3 y4 y5 y6 y7 y8 y9 y10:Int) (w:World):(binOp .neq 40 (.agg (I11 x0 x1 x2 x3 x4 x5 x6 x7 x8 x9 x10)) (.agg (I11 y0 y1 y2 y3 y4 y5 y6 y7 y8 y9 y10))).run Tryz.prog w= .ok (.bool (!Tt (x0,x1,x2,x3,x4,x5,x6,x7,x8,x9,x10) (y0,y1,y2,y3,y4,y5,y6,y7,y8,y9,y10))) w:=by
 rw [run_neq_struct,OC];rfl
theorem Rx {r x:Int} (h:Zi r=x) (w:World):Calls Tryz.prog 190 #[.int .i64 r] w fun e w'=>e= .returned (.int .i64 x)/\w'=w:=by
 have:=OX r w;rw [h] at this;exact this
theorem Yy {r x:Int} (h:Zi r=x) (w:World):Calls Tryz.prog 104 #[.int .i64 r] w fun e w'=>e= .returned (.int .i64 x)/\w'=w:=by
 have:=Pm r w;rw [h] at this;exact this
attribute [local go_sem ↓] KF Pg
theorem Xa (n:Int) (w:World):Calls Tryz.prog 103 #[.int .i64 n] w fun e w'=>e= .returned (.bool (inB n (-1000000000000) 1000000000000))/\w'=w:=by
 go_enter Tryz.func103,Tryz.ntmps103;go_wp2_with (go_at_call 59;refine (ZV _ _ _ _).mono ?_;rintro e w' ⟨rfl,rfl⟩)
 go_ret;exact ⟨rfl,rfl⟩
theorem Zk (st be rk my gu lo hi hd ca ut wk:Int) (w:World):Calls Tryz.prog 48 #[.agg (I11 st be rk my gu lo hi hd ca ut wk)] w fun e w'=>e= .returned (.bool (Zw (st,be,rk,my,gu,lo,hi,hd,ca,ut,wk)))/\Below w.heap.size w w':=by
 by_cases hst:st=0
 ·subst hst
  unfold Zw;rw [MO rfl,Bool.or_false];obtain ⟨q,hq⟩:∃ q,U4 (0,be,rk,my,gu,lo,hi,hd,ca,ut,wk)=q:=⟨_,rfl⟩
  rw [hq];have hz:Tt (0,be,rk,my,gu,lo,hi,hd,ca,ut,wk) (0,0,0,0,0,0,0,0,0,0,0)=q:=hq;clear hq;go_enter Tryz.func48,Tryz.ntmps48;go_wp2_with fail;go_ret;exact ⟨rfl,(ba _ _)⟩
 ·have hne:(st ==0)=false:=by simpa using hst
  unfold Zw;rw [Rp hst,Bool.false_or];unfold YR;simp only;obtain ⟨x0,x1⟩:=TA rk;obtain ⟨x,hx⟩:∃ x,Zi rk=x:=⟨_,rfl⟩
  rw [hx] at x0 x1 ⊢;have Hw:=Z9 hx;have hwr:IntKind.i64.wrap (x-1)=x-1:=by rw [IntKind.wrap_i64];omega
  clear hx hst;cases h0:inB st 1 3
  ·go_enter Tryz.func48,Tryz.ntmps48
   go_wp2_with (first | (go_at_call 59;refine (ZV _ _ _ _).mono ?_;rintro e w' ⟨rfl,rfl⟩) | (go_at_call 102;refine (YN _ _).mono ?_;rintro e w' ⟨rfl,rfl⟩) | (go_at_call 78;refine (YF _ _ _).mono ?_;rintro e w' ⟨rfl,rfl⟩))
   go_ret;exact ⟨rfl,(ba _ _)⟩
  cases h1:inB be 0 7
  ·go_enter Tryz.func48,Tryz.ntmps48
   go_wp2_with (first | (go_at_call 59;refine (ZV _ _ _ _).mono ?_;rintro e w' ⟨rfl,rfl⟩) | (go_at_call 102;refine (YN _ _).mono ?_;rintro e w' ⟨rfl,rfl⟩) | (go_at_call 78;refine (YF _ _ _).mono ?_;rintro e w' ⟨rfl,rfl⟩))
   go_ret;exact ⟨rfl,(ba _ _)⟩
  cases h2:inB rk (-5) 5
  ·go_enter Tryz.func48,Tryz.ntmps48
   go_wp2_with (first | (go_at_call 59;refine (ZV _ _ _ _).mono ?_;rintro e w' ⟨rfl,rfl⟩) | (go_at_call 102;refine (YN _ _).mono ?_;rintro e w' ⟨rfl,rfl⟩) | (go_at_call 78;refine (YF _ _ _).mono ?_;rintro e w' ⟨rfl,rfl⟩))
   go_ret;exact ⟨rfl,(ba _ _)⟩
  cases h3:inB my 1 255
  ·go_enter Tryz.func48,Tryz.ntmps48
   go_wp2_with (first | (go_at_call 59;refine (ZV _ _ _ _).mono ?_;rintro e w' ⟨rfl,rfl⟩) | (go_at_call 102;refine (YN _ _).mono ?_;rintro e w' ⟨rfl,rfl⟩) | (go_at_call 78;refine (YF _ _ _).mono ?_;rintro e w' ⟨rfl,rfl⟩))
   go_ret;exact ⟨rfl,(ba _ _)⟩
  cases h4:inB gu (-1) 5
  ·go_enter Tryz.func48,Tryz.ntmps48
   go_wp2_with (first | (go_at_call 59;refine (ZV _ _ _ _).mono ?_;rintro e w' ⟨rfl,rfl⟩) | (go_at_call 102;refine (YN _ _).mono ?_;rintro e w' ⟨rfl,rfl⟩) | (go_at_call 78;refine (YF _ _ _).mono ?_;rintro e w' ⟨rfl,rfl⟩))
   go_ret;exact ⟨rfl,(ba _ _)⟩
  cases h5:Ya lo hi
  ·go_enter Tryz.func48,Tryz.ntmps48
   go_wp2_with (first | (go_at_call 59;refine (ZV _ _ _ _).mono ?_;rintro e w' ⟨rfl,rfl⟩) | (go_at_call 102;refine (YN _ _).mono ?_;rintro e w' ⟨rfl,rfl⟩) | (go_at_call 78;refine (YF _ _ _).mono ?_;rintro e w' ⟨rfl,rfl⟩))
   go_ret;exact ⟨rfl,(ba _ _)⟩
  cases h6:inB hd (-1000000000000) 1000000000000
  ·go_enter Tryz.func48,Tryz.ntmps48
   go_wp2_with (first | (go_at_call 59;refine (ZV _ _ _ _).mono ?_;rintro e w' ⟨rfl,rfl⟩) | (go_at_call 102;refine (YN _ _).mono ?_;rintro e w' ⟨rfl,rfl⟩) | (go_at_call 78;refine (YF _ _ _).mono ?_;rintro e w' ⟨rfl,rfl⟩))
   go_quiet (first | exact Yg (ZV _ _ _ _) | exact Yg (Xa _ _) | exact Yg (Yy (uh Hw) _) | exact Yg (X8 _ _));go_wp2_with fail;go_ret;exact ⟨rfl,Yp ((ba _ _)) _⟩
  cases h7:inB ca 0 (x-1)
  ·go_enter Tryz.func48,Tryz.ntmps48
   go_wp2_with (first | (go_at_call 59;refine (ZV _ _ _ _).mono ?_;rintro e w' ⟨rfl,rfl⟩) | (go_at_call 102;refine (YN _ _).mono ?_;rintro e w' ⟨rfl,rfl⟩) | (go_at_call 78;refine (YF _ _ _).mono ?_;rintro e w' ⟨rfl,rfl⟩))
   go_quiet (first | exact Yg (ZV _ _ _ _) | exact Yg (Xa _ _) | exact Yg (Yy (uh Hw) _) | exact Yg (X8 _ _));go_wp2_with fail;go_ret;exact ⟨rfl,Yp ((ba _ _)) _⟩
  cases h8:inB ut 0 1024
  ·go_enter Tryz.func48,Tryz.ntmps48
   go_wp2_with (first | (go_at_call 59;refine (ZV _ _ _ _).mono ?_;rintro e w' ⟨rfl,rfl⟩) | (go_at_call 102;refine (YN _ _).mono ?_;rintro e w' ⟨rfl,rfl⟩) | (go_at_call 78;refine (YF _ _ _).mono ?_;rintro e w' ⟨rfl,rfl⟩))
   go_quiet (first | exact Yg (ZV _ _ _ _) | exact Yg (Xa _ _) | exact Yg (Yy (uh Hw) _) | exact Yg (X8 _ _));go_wp2_with fail;go_ret;exact ⟨rfl,Yp ((ba _ _)) _⟩
  cases h9:inB wk 0 100000000000
  ·go_enter Tryz.func48,Tryz.ntmps48
   go_wp2_with (first | (go_at_call 59;refine (ZV _ _ _ _).mono ?_;rintro e w' ⟨rfl,rfl⟩) | (go_at_call 102;refine (YN _ _).mono ?_;rintro e w' ⟨rfl,rfl⟩) | (go_at_call 78;refine (YF _ _ _).mono ?_;rintro e w' ⟨rfl,rfl⟩))
   go_quiet (first | exact Yg (ZV _ _ _ _) | exact Yg (Xa _ _) | exact Yg (Yy (uh Hw) _) | exact Yg (X8 _ _));go_wp2_with fail;go_ret;exact ⟨rfl,Yp ((ba _ _)) _⟩
  go_enter Tryz.func48,Tryz.ntmps48;go_wp2_with (first | (go_at_call 59;refine (ZV _ _ _ _).mono ?_;rintro e w' ⟨rfl,rfl⟩) | (go_at_call 102;refine (YN _ _).mono ?_;rintro e w' ⟨rfl,rfl⟩) | (go_at_call 78;refine (YF _ _ _).mono ?_;rintro e w' ⟨rfl,rfl⟩))
  go_quiet (first | exact Yg (ZV _ _ _ _) | exact Yg (Xa _ _) | exact Yg (Yy (uh Hw) _) | exact Yg (X8 _ _));go_wp2_with fail;go_ret;exact ⟨rfl,Yp ((ba _ _)) _⟩
end Go.Proofs.YtamgfpdahadnfaaGreatDoor
namespace Go.Proofs.YtamgfpdahadnfaaGreatDoor
open Go.ChangeShapes Go.WideShapes Go.ChangeAt Go.RowKit Go.Sort
set_option linter.unusedVariables false
theorem Mw (st be rk my gu lo hi hd ca ut wk:Int) (w:World):Calls Tryz.prog 55 #[.agg (I11 st be rk my gu lo hi hd ca ut wk)] w fun e w'=>
  e= .returned (.bool (ZK (st,be,rk,my,gu,lo,hi,hd,ca,ut,wk)))/\Below w.heap.size w w':=by
 unfold ZK;simp only;cases h2:(st ==2)
 all_goals
  go_enter Tryz.func55,Tryz.ntmps55;go_wp2_with fail;go_ret;exact ⟨by first | rfl | (simp),(ba _ _)⟩
theorem Na (h m:Int) (w:World):Calls Tryz.prog 117 #[.int .i64 h,.int .i64 m] w fun e w'=>e= .returned (.bool (Yd h m))/\w'=w:=by
 unfold Yd;cases h1:inB h (-1000000000000) 1000000000000
 ·go_enter Tryz.func117,Tryz.ntmps117
  go_wp2_with (first | (go_at_call 103;refine (Xa _ _).mono ?_;rintro e w' ⟨rfl,rfl⟩) | (go_at_call 59;refine (ZV _ _ _ _).mono ?_;rintro e w' ⟨rfl,rfl⟩))
  go_ret;exact ⟨rfl,rfl⟩
 cases h2:inB m (-1000000000000) 1000000000000
 ·go_enter Tryz.func117,Tryz.ntmps117
  go_wp2_with (first | (go_at_call 103;refine (Xa _ _).mono ?_;rintro e w' ⟨rfl,rfl⟩) | (go_at_call 59;refine (ZV _ _ _ _).mono ?_;rintro e w' ⟨rfl,rfl⟩))
  go_ret;exact ⟨rfl,rfl⟩
 obtain ⟨a0,a1⟩:=ZN h1;obtain ⟨b0,b1⟩:=ZN h2;go_enter Tryz.func117,Tryz.ntmps117;go_wp2_with (first | (go_at_call 103;refine (Xa _ _).mono ?_;rintro e w' ⟨rfl,rfl⟩) | (go_at_call 59;refine (ZV _ _ _ _).mono ?_;rintro e w' ⟨rfl,rfl⟩))
 go_ret;exact ⟨rfl,rfl⟩
theorem WT {w:World} {v:Value} {rs:List ZX} {q:Bool} (hq:Y2 rs=q) (h:IsRooms w v rs):Calls Tryz.prog 114 #[.agg #[v]] w fun e w'=>e= .returned (.bool q)/\Below w.heap.size w w':=by
 have:=Us h;rw [hq] at this;exact this
theorem Xs {w:World} {v:Value} {ps:List Zr} {q:Bool} (hq:Zh ps=q) (h:XD w v ps):Calls Tryz.prog 115 #[v] w fun e w'=>e= .returned (.bool q)/\Below w.heap.size w w':=by
 have:=Ph h;rw [hq] at this;exact this
theorem Q4 {w:World} {v:Value} {rs:List ZX} {n:Int} (hn:ZW rs=n) (h:IsRooms w v rs) (ha:Adds rs):Calls Tryz.prog 116 #[.agg #[v]] w fun e w'=>e= .returned (.int .i64 n)/\Below w.heap.size w w':=by
 have:=RI h ha;rw [hn] at this;exact this
theorem AH {x lo hi:Int} {q:Bool} (hq:inB x lo hi=q) (w:World):Calls Tryz.prog 59 #[.int .i64 x,.int .i64 lo,.int .i64 hi] w fun e w'=>e= .returned (.bool q)/\Below w.heap.size w w':=by
 have:=ZV x lo hi w;rw [hq] at this;exact this.mono fun e w' ⟨h1,h2⟩=>⟨h1,by rw [h2];exact ZZ _ _⟩
theorem Ly {st be rk my gu lo hi hd ca ut wk:Int} {q:Bool} (hq:Zw (st,be,rk,my,gu,lo,hi,hd,ca,ut,wk)=q) (w:World):Calls Tryz.prog 48 #[.agg (I11 st be rk my gu lo hi hd ca ut wk)] w fun e w'=>e= .returned (.bool q)/\Below w.heap.size w w':=by
 have:=Zk st be rk my gu lo hi hd ca ut wk w;rw [hq] at this;exact this
theorem Yv {st be rk my gu lo hi hd ca ut wk:Int} {q:Bool} (hq:ZK (st,be,rk,my,gu,lo,hi,hd,ca,ut,wk)=q) (w:World):Calls Tryz.prog 55 #[.agg (I11 st be rk my gu lo hi hd ca ut wk)] w fun e w'=>e= .returned (.bool q)/\Below w.heap.size w w':=by
 have:=Mw st be rk my gu lo hi hd ca ut wk w;rw [hq] at this;exact this
theorem PH {s i:Int} {q:Bool} (hq:VX s i=q) (h0:0<=s) (h1:s<=255) (h2:0<=i) (h3:i<=7) (w:World):Calls Tryz.prog 60 #[.int .i64 s,.int .i64 i] w fun e w'=>e= .returned (.bool q)/\Below w.heap.size w w':=by
 have:=OY s i w h0 h1 h2 h3;rw [hq] at this;exact this.mono fun e w' ⟨h1,h2⟩=>⟨h1,by rw [h2];exact ZZ _ _⟩
theorem UL {h k:Int} {q:Bool} (hq:Yd h k=q) (w:World):Calls Tryz.prog 117 #[.int .i64 h,.int .i64 k] w fun e w'=>e= .returned (.bool q)/\Below w.heap.size w w':=by
 have:=Na h k w;rw [hq] at this;exact this.mono fun e w' ⟨h1,h2⟩=>⟨h1,by rw [h2];exact ZZ _ _⟩
theorem SA {w:World} {v0 v1 v2 v3 v4:Value} {m:Z6} (h:Smy w v0 v1 v2 v3 v4 m) :
  Calls Tryz.prog 54 #[.agg #[v0,v1,v2,v3,v4,.int .i64 m.now]] w fun e w'=>e= .returned (.bool (YK m))/\Below w.heap.size w w':=by
 have Hv:=Z9 (h.alloc (.cells #[v0,v1,v2,v3,v4,.int .i64 m.now] 32));obtain ⟨h0,h1,h2,h3,h4⟩:=h;obtain ⟨a0,p0,rfl,hc0,hm0,r0⟩:=h0;obtain ⟨a1,p1,rfl,hc1,hm1,_⟩:=h1;obtain ⟨a2,p2,rfl,hc2,hm2,r2⟩:=h2;obtain ⟨a3,p3,rfl,hc3,hm3,r3⟩:=h3;obtain ⟨a4,p4,rfl,hc4,hm4,r4⟩:=h4;have R0:=Z9 r0;have R2:=Z9 r2;have R3:=Z9 r3;have R4:=Z9 r4;clear r0 r2 r3 r4;go_enter Tryz.func54,Tryz.ntmps54;go_wp2_with fail;obtain ⟨W,hW,BB,kb⟩:=GZ w 32 (S6 a0 p0 a1 p1 a2 p2 a3 p3 a4 p4 m);rw [hW]
 (try rw [hW] at Hv);clear hW
 have c0:=Z2 ((uh kb).cell (i:=0) (v:= .slice a0 m.rm.length p0) rfl);have c1:=Z2 ((uh kb).cell (i:=1) (v:= .slice a1 m.gd.length p1) rfl);have c2:=Z2 ((uh kb).cell (i:=2) (v:= .slice a2 m.sm.length p2) rfl);have c3:=Z2 ((uh kb).cell (i:=3) (v:= .slice a3 m.dk.length p3) rfl);have c4:=Z2 ((uh kb).cell (i:=4) (v:= .slice a4 m.pc.length p4) rfl);have c5:=Z2 ((uh kb).cell (i:=5) (v:= .int .i64 m.now) rfl);cases h0:Y2 m.rm
 ·have Q0:=Z9 h0
  clear h0;refine wq ?_
  repeat (go_big_quiet_step (first | exact ZY (WT (uh Q0) ((uh Hv).below (Z0 _ _ _)).rm)))
  refine wqn fun W1 hb=> ?_;clear c0 c1 c2 c3 c4 c5;go_wp2_with fail;go_ret;exact ⟨Z5 (VU (by unfold YA;rw [uh Q0];rfl)).symm,(uh BB).trans (hb.mono (uh BB).size)⟩
 have Q0:=Z9 h0;have QA:=Z9 (S7 h0);clear h0;cases h1:Zh m.gd
 ·have Q1:=Z9 h1
  clear h1;refine wq ?_
  repeat (go_big_quiet_step (first | exact ZY (WT (uh Q0) ((uh Hv).below (Z0 _ _ _)).rm) | exact ZY (Xs (uh Q1) ((uh Hv).below (Z0 _ _ _)).gd)))
  refine wqn fun W1 hb=> ?_;clear c0 c1 c2 c3 c4 c5;go_wp2_with fail;go_ret;exact ⟨Z5 (VU (by unfold YA;rw [uh Q0,uh Q1];rfl)).symm,(uh BB).trans (hb.mono (uh BB).size)⟩
 have Q1:=Z9 h1;clear h1;by_cases h2:12<m.sm.length
 ·have h2i:(12:Int)<(m.sm.length:Int):=by omega
  have h2d:decide ((12:Int)<(m.sm.length:Int))=true:=VO h2i;refine wq ?_
  repeat (go_big_quiet_step (first | exact ZY (WT (uh Q0) ((uh Hv).below (Z0 _ _ _)).rm) | exact ZY (Xs (uh Q1) ((uh Hv).below (Z0 _ _ _)).gd)))
  refine wqn fun W1 hb=> ?_;clear c0 c1 c2 c3 c4 c5;go_wp2_with fail;go_ret;exact ⟨Z5 (VU (by unfold YA;rw [uh Q0,uh Q1];simp;intro h9;omega)).symm,(uh BB).trans (hb.mono (uh BB).size)⟩
 have h2i:¬ (12:Int)<(m.sm.length:Int):=by omega
 have h2d:decide ((12:Int)<(m.sm.length:Int))=false:=XE h2i;obtain ⟨n,hn⟩:∃ n,ZW m.rm=n:=⟨_,rfl⟩
 have Q3:=Z9 hn;clear hn;by_cases h3:(m.dk.length:Int)=n;rotate_left
 ·have h3b:((m.dk.length:Int) !=n)=true:=by simpa using h3
  refine wq ?_
  repeat (go_big_quiet_step (first | exact ZY (WT (uh Q0) ((uh Hv).below (Z0 _ _ _)).rm) | exact ZY (Xs (uh Q1) ((uh Hv).below (Z0 _ _ _)).gd) | exact ZY (Q4 (uh Q3) ((uh Hv).below (Z0 _ _ _)).rm (uh QA))))
  refine wqn fun W1 hb=> ?_;clear c0 c1 c2 c3 c4 c5;go_wp2_with fail;go_ret;exact ⟨Z5 (VU (by unfold YA;rw [uh Q0,uh Q1,uh Q3];simp [h3])).symm,(uh BB).trans (hb.mono (uh BB).size)⟩
 have h3b:((m.dk.length:Int) !=n)=false:=by simpa using h3
 by_cases h4:m.pc.length=m.rm.length;rotate_left
 ·have h4b:((m.pc.length:Int) !=(m.rm.length:Int))=true:=by simp;omega
  refine wq ?_
  repeat (go_big_quiet_step (first | exact ZY (WT (uh Q0) ((uh Hv).below (Z0 _ _ _)).rm) | exact ZY (Xs (uh Q1) ((uh Hv).below (Z0 _ _ _)).gd) | exact ZY (Q4 (uh Q3) ((uh Hv).below (Z0 _ _ _)).rm (uh QA))))
  refine wqn fun W1 hb=> ?_;clear c0 c1 c2 c3 c4 c5;go_wp2_with fail;go_ret;exact ⟨Z5 (VU (by unfold YA;rw [uh Q0,uh Q1];simp [h4])).symm,(uh BB).trans (hb.mono (uh BB).size)⟩
 have h4b:((m.pc.length:Int) !=(m.rm.length:Int))=false:=by simp;omega
 cases h5:inB m.now 0 1000000
 ·have Q5:=Z9 h5
  clear h5;refine wq ?_
  repeat (go_big_quiet_step (first | exact ZY (WT (uh Q0) ((uh Hv).below (Z0 _ _ _)).rm) | exact ZY (Xs (uh Q1) ((uh Hv).below (Z0 _ _ _)).gd) | exact ZY (Q4 (uh Q3) ((uh Hv).below (Z0 _ _ _)).rm (uh QA)) | exact ZY (AH (uh Q5) _)))
  refine wqn fun W1 hb=> ?_;clear c0 c1 c2 c3 c4 c5;go_wp2_with fail;go_ret;exact ⟨Z5 (VU (by unfold YA;rw [uh Q0,uh Q1,uh Q3,uh Q5];simp)).symm,(uh BB).trans (hb.mono (uh BB).size)⟩
 have Q5:=Z9 h5;clear h5;have QH:Hid (YA m=true):=Z9 (by unfold YA;rw [uh Q0,uh Q1,uh Q3,uh Q5];simp [h3,h4];omega);refine wq ?_
 repeat (go_big_quiet_step (first | exact ZY (WT (uh Q0) ((uh Hv).below (Z0 _ _ _)).rm) | exact ZY (Xs (uh Q1) ((uh Hv).below (Z0 _ _ _)).gd) | exact ZY (Q4 (uh Q3) ((uh Hv).below (Z0 _ _ _)).rm (uh QA)) | exact ZY (AH (uh Q5) _)))
 refine wqn fun W1 hb=> ?_;clear c0 c1 c2 c3 c4 c5;replace kb:=bl kb hb;replace Hv:=Z9 ((uh Hv).below hb);replace BB:=bt BB hb;clear hb;have H3:=Z9 h3;have H4:=Z9 h4;clear Hv Q0 Q1 Q3 Q5 QA h2d h3b h4b h3 h4;have c3:=(uh kb).cell (i:=3) (v:= .slice a3 m.dk.length p3) rfl;go_wp2_with fail;clear c3
 go_loopw [3,4] (fun o i wr=> ∃ k:Nat,k<=m.dk.length/\o= .bool (TL m k)/\i= .int .i64 k/\Vk m k=true/\Blk wr w.heap.size 32 (S6 a0 p0 a1 p1 a2 p2 a3 p3 a4 p4 m)/\Below w.heap.size w wr) (fun _ i _=>m.dk.length-(intOf i).toNat)
 case atStart=>exact ⟨0,Zz _,rfl,rfl,rfl,uh kb,uh BB⟩
 case round=>
  obtain ⟨k,hk,rfl,rfl,hup,kb1,hb1⟩:=hrel;clear kb BB;have kb:=Z9 kb1;have BB:=Z9 hb1;have Hup:=Z9 hup;clear kb1 hb1 hup;obtain ⟨ob,hob⟩:∃ b,TL m k=b:=⟨_,rfl⟩
  rw [hob];have Hob:=Z9 hob;clear hob;have c3:=(uh kb).cell (i:=3) (v:= .slice a3 m.dk.length p3) rfl;by_cases hlt:k<m.dk.length
  ·rcases uh R3 with e0 | ⟨b,off,rfl,hbw,hcl⟩
   ·rw [e0] at hlt;simp at hlt
   obtain ⟨d0,d1,d2⟩:=Y4 hcl hlt;rw [<-(uh BB).cell (p:=⟨b,off+k*3,none⟩) hbw] at d0;rw [<-(uh BB).cell (p:=⟨b,off+k*3+2,none⟩) hbw] at d2;clear d1 hcl;have HU:=Z9 (show Vk m (k+1)=(Vk m k && Vv (Z8 m.dk k)) from TB k);have HO:=Z9 (show TL m (k+1)=(TL m k || (Z8 m.dk k).1) from zV k);have HL:=Z9 (GQ (m:=m) hlt);generalize Z8 m.dk k=dd at *;obtain ⟨op,who,mk⟩:=dd;simp only at d0 d2;cases hmk:inB mk (-900000000000) 900000000000
   ·cases ob
    all_goals
     go_wp2_with (go_at_call 59;refine (ZV _ _ _ _).mono ?_;rintro e w' ⟨rfl,h9⟩;subst w')
     go_ret;exact ⟨Z5 (uh HL hmk).symm,uh BB⟩
   ·cases ob
    all_goals
     go_wp2_with (go_at_call 59;refine (ZV _ _ _ _).mono ?_;rintro e w' ⟨rfl,h9⟩;subst w')
     go_roundw
     case rel=>exact ⟨k+1,by omega,by rw [uh HO,uh Hob];simp,by go_num,by rw [uh HU,uh Hup];exact hmk,uh kb,uh BB⟩
     case measure=>exact ms
  ·obtain rfl:k=m.dk.length:=by omega
   have QD:=Hup;clear Hup;have c4:=(uh kb).cell (i:=4) (v:= .slice a4 m.pc.length p4) rfl;go_wp2_with fail;clear c3 c4
   go_loopw [5] (fun i wr=> ∃ k:Nat,k<=m.pc.length/\i= .int .i64 k/\VL m k=true/\Blk wr w.heap.size 32 (S6 a0 p0 a1 p1 a2 p2 a3 p3 a4 p4 m)/\Below w.heap.size w wr) (fun i _=>m.pc.length-(intOf i).toNat)
   case atStart=>exact ⟨0,Zz _,rfl,rfl,uh kb,uh BB⟩
   case round=>
    obtain ⟨k,hk,rfl,hup,kb1,hb1⟩:=hrel;clear kb BB;have kb:=Z9 kb1;have BB:=Z9 hb1;have Hup:=Z9 hup;clear kb1 hb1 hup;have c0:=(uh kb).cell (i:=0) (v:= .slice a0 m.rm.length p0) rfl;have c4:=(uh kb).cell (i:=4) (v:= .slice a4 m.pc.length p4) rfl;by_cases hlt:k<m.pc.length
    ·have hlr:k<m.rm.length:=by have:=uh H4;omega
     rcases uh R4 with e0 | ⟨b,off,rfl,hbw,hcl⟩
     ·rw [e0] at hlt;simp at hlt
     rcases uh R0 with e0 | ⟨b',off',rfl,hbw',hcl'⟩
     ·rw [e0] at hlr;simp at hlr
     have d0:=MH hcl hlt;obtain ⟨_,pv,d1,hip⟩:=hcl' k hlr;rw [<-(uh BB).cell (p:=⟨b,off+k,none⟩) hbw] at d0;rw [<-(uh BB).cell (p:=⟨b',off'+k*2+1,none⟩) hbw'] at d1;obtain ⟨pa,pcap,rfl,hpc,hpm,_⟩:=hip;clear hcl hcl';have HU:=Z9 (show VL m (k+1)=(VL m k && V3 m k) from TB k);have HL:=Z9 (GR (m:=m) hlt);have HP:=Z9 (show V3 m k=inB (Z8 m.pc k) 0 (((ZQ m.rm k).2.length:Int)-1) from rfl);generalize Z8 m.pc k=z at *;generalize (ZQ m.rm k).2.length=nl at *;have hwr:IntKind.i64.wrap ((nl:Int)-1)=(nl:Int)-1:=by rw [IntKind.wrap_i64];omega
     cases hz:inB z 0 ((nl:Int)-1)
     ·go_wp2_with fail
      go_quiet (exact Yg (ZV _ _ _ _));go_wp2_with fail;go_ret;exact ⟨Z5 (uh HL (by rw [uh HP];exact hz)).symm,Yp (uh BB) _⟩
     ·go_wp2_with fail
      go_quiet (exact Yg (ZV _ _ _ _));go_wp2_with fail;go_roundw
      case rel=>exact ⟨k+1,by omega,by go_num,by rw [uh HU,uh Hup,uh HP,hz];rfl,(uh kb).drewN _,Yp (uh BB) _⟩
      case measure=>exact ms
    ·obtain rfl:k=m.pc.length:=by omega
     have QP:=Hup;clear Hup;have c2:=(uh kb).cell (i:=2) (v:= .slice a2 m.sm.length p2) rfl;go_wp2_with fail;clear c0 c2 c4
     go_loopw [6] (fun i wr=> ∃ k:Nat,k<=m.sm.length/\i= .int .i64 k/\VM m k=true/\Blk wr w.heap.size 32 (S6 a0 p0 a1 p1 a2 p2 a3 p3 a4 p4 m)/\Below w.heap.size w wr) (fun i _=>m.sm.length-(intOf i).toNat)
     case atStart=>exact ⟨0,Zz _,rfl,rfl,uh kb,uh BB⟩
     case round=>
      obtain ⟨k,hk,rfl,hup,kb1,hb1⟩:=hrel;clear kb BB;have kb:=Z9 kb1;have BB:=Z9 hb1;have Hup:=Z9 hup;clear kb1 hb1 hup;have c1:=(uh kb).cell (i:=1) (v:= .slice a1 m.gd.length p1) rfl;have c2:=(uh kb).cell (i:=2) (v:= .slice a2 m.sm.length p2) rfl;have c3:=(uh kb).cell (i:=3) (v:= .slice a3 m.dk.length p3) rfl;by_cases hlt:k<m.sm.length
      ·rcases uh R2 with e0 | ⟨b,off,rfl,hbw,hcl⟩
       ·rw [e0] at hlt;simp at hlt
       obtain ⟨d0,d1,d2,d3,d4,d5,d6,d7,d8,d9,d10⟩:=ZA hcl hlt;rw [<-(uh BB).cell (p:=⟨b,off+k*11,none⟩) hbw] at d0;rw [<-(uh BB).cell (p:=⟨b,off+k*11+1,none⟩) hbw] at d1;rw [<-(uh BB).cell (p:=⟨b,off+k*11+2,none⟩) hbw] at d2;rw [<-(uh BB).cell (p:=⟨b,off+k*11+3,none⟩) hbw] at d3;rw [<-(uh BB).cell (p:=⟨b,off+k*11+4,none⟩) hbw] at d4;rw [<-(uh BB).cell (p:=⟨b,off+k*11+5,none⟩) hbw] at d5;rw [<-(uh BB).cell (p:=⟨b,off+k*11+6,none⟩) hbw] at d6;rw [<-(uh BB).cell (p:=⟨b,off+k*11+7,none⟩) hbw] at d7;rw [<-(uh BB).cell (p:=⟨b,off+k*11+8,none⟩) hbw] at d8;rw [<-(uh BB).cell (p:=⟨b,off+k*11+9,none⟩) hbw] at d9;rw [<-(uh BB).cell (p:=⟨b,off+k*11+10,none⟩) hbw] at d10;clear hcl;have HU:=Z9 (show VM m (k+1)=(VM m k && (XY m (Z8 m.sm k) && XI m (Z8 m.sm k))) from TB k);have HL:=Z9 (JA (m:=m) hlt);generalize Z8 m.sm k=ss at *;obtain ⟨st,be,rk,my,gu,lo,hi,hd,ca,ut,wk⟩:=ss;simp only at d0 d1 d2 d3 d4 d5 d6 d7 d8 d9 d10;have hl0:w.heap.size<wr.heap.size:=(uh kb).lt;go_wp2_with fail;clear c1 c2 c3 d0 d1 d2 d3 d4 d5 d6 d7 d8 d9 d10;obtain ⟨qs,hqs⟩:∃ q,Zw (st,be,rk,my,gu,lo,hi,hd,ca,ut,wk)=q:=⟨_,rfl⟩
       have Hqs:=Z9 hqs;clear hqs;refine ck (Ly (uh Hqs) _) fun w1 hb=> ?_;have ks:Hid (Blk w1 wr.heap.size 40 (I11 st be rk my gu lo hi hd ca ut wk)):=Z9 ((Blk.new wr _ _).below hb (by simp));replace kb:=Z9 (((uh kb).alloc (.cells (I11 st be rk my gu lo hi hd ca ut wk) 40)).below hb (by simp;omega));replace BB:=Z9 ((((uh BB).alloc (uh BB).size (.cells (I11 st be rk my gu lo hi hd ca ut wk) 40))).trans (hb.mono (by simp;have:=(uh BB).size;omega)));clear hb hl0;generalize wr.heap.size=sb at *;have c1:=(uh kb).cell (i:=1) (v:= .slice a1 m.gd.length p1) rfl;have c3:=(uh kb).cell (i:=3) (v:= .slice a3 m.dk.length p3) rfl;have d0:=(uh ks).cell (i:=0) (v:= .int .i64 st) rfl;have d1:=(uh ks).cell (i:=1) (v:= .int .i64 be) rfl;have d4:=(uh ks).cell (i:=4) (v:= .int .i64 gu) rfl;cases qs
       ·go_wp2_with fail
        go_ret;exact ⟨Z5 (uh HL (by unfold XY;rw [uh Hqs];rfl)).symm,uh BB⟩
       ·by_cases hst:st=0
        ·subst hst
         have hne:((0:Int) !=0)=false:=rfl;go_wp2_with fail;have Hps:Hid (ZK (0,be,rk,my,gu,lo,hi,hd,ca,ut,wk)=false):=Z9 rfl;have e0:=Z2 ((uh ks).cell (i:=0) (v:= .int .i64 0) rfl);have e1:=Z2 ((uh ks).cell (i:=1) (v:= .int .i64 be) rfl);have e2:=Z2 ((uh ks).cell (i:=2) (v:= .int .i64 rk) rfl);have e3:=Z2 ((uh ks).cell (i:=3) (v:= .int .i64 my) rfl);have e4:=Z2 ((uh ks).cell (i:=4) (v:= .int .i64 gu) rfl);have e5:=Z2 ((uh ks).cell (i:=5) (v:= .int .i64 lo) rfl);have e6:=Z2 ((uh ks).cell (i:=6) (v:= .int .i64 hi) rfl);have e7:=Z2 ((uh ks).cell (i:=7) (v:= .int .i64 hd) rfl);have e8:=Z2 ((uh ks).cell (i:=8) (v:= .int .i64 ca) rfl);have e9:=Z2 ((uh ks).cell (i:=9) (v:= .int .i64 ut) rfl);have e10:=Z2 ((uh ks).cell (i:=10) (v:= .int .i64 wk) rfl);refine wq ?_
         repeat (go_big_quiet_step (first | exact ZY (Yv (uh Hps) _)))
         refine wqn fun W1 hb=> ?_;replace kb:=bl kb hb;replace BB:=bt BB hb;clear hb;go_wp2_with fail;go_roundw
         case rel=>exact ⟨k+1,by omega,by go_num,by rw [uh HU,uh Hup];unfold XY XI;rw [uh Hqs,uh Hps];rfl,uh kb,uh BB⟩
         case measure=>exact ms
        have hne:(st !=0)=true:=by simpa using hst
        by_cases hgu:(m.gd.length:Int)<=gu
        ·go_wp2_with fail
         go_ret;exact ⟨Z5 (uh HL (by unfold XY;rw [uh Hqs];simp [hst];intro h9;omega)).symm,uh BB⟩
        by_cases hbe:(m.dk.length:Int)<=be
        ·go_wp2_with fail
         go_ret;exact ⟨Z5 (uh HL (by unfold XY;rw [uh Hqs];simp [hst];intro h9;omega)).symm,uh BB⟩
        go_wp2_with fail;have Hh:Hid (XY m (st,be,rk,my,gu,lo,hi,hd,ca,ut,wk)=true):=Z9 (by unfold XY;rw [uh Hqs];simp;omega);obtain ⟨ps,hps⟩:∃ q,ZK (st,be,rk,my,gu,lo,hi,hd,ca,ut,wk)=q:=⟨_,rfl⟩
        have Hps:=Z9 hps;clear hps;have e0:=Z2 ((uh ks).cell (i:=0) (v:= .int .i64 st) rfl);have e1:=Z2 ((uh ks).cell (i:=1) (v:= .int .i64 be) rfl);have e2:=Z2 ((uh ks).cell (i:=2) (v:= .int .i64 rk) rfl);have e3:=Z2 ((uh ks).cell (i:=3) (v:= .int .i64 my) rfl);have e4:=Z2 ((uh ks).cell (i:=4) (v:= .int .i64 gu) rfl);have e5:=Z2 ((uh ks).cell (i:=5) (v:= .int .i64 lo) rfl);have e6:=Z2 ((uh ks).cell (i:=6) (v:= .int .i64 hi) rfl);have e7:=Z2 ((uh ks).cell (i:=7) (v:= .int .i64 hd) rfl);have e8:=Z2 ((uh ks).cell (i:=8) (v:= .int .i64 ca) rfl);have e9:=Z2 ((uh ks).cell (i:=9) (v:= .int .i64 ut) rfl);have e10:=Z2 ((uh ks).cell (i:=10) (v:= .int .i64 wk) rfl);have e11:=Z2 ((uh kb).cell (i:=3) (v:= .slice a3 m.dk.length p3) rfl);cases ps
        ·refine wq ?_
         repeat (go_big_quiet_step (first | exact ZY (Yv (uh Hps) _)))
         refine wqn fun W1 hb=> ?_;replace kb:=bl kb hb;replace BB:=bt BB hb;clear hb;go_wp2_with fail;go_roundw
         case rel=>exact ⟨k+1,by omega,by go_num,by rw [uh HU,uh Hup];rw [uh Hh];unfold XI;rw [uh Hps];rfl,uh kb,uh BB⟩
         case measure=>exact ms
        obtain ⟨b0,b1,b2,m0,m1,_⟩:=GB (uh Hh) (uh Hps);simp only at b0 b1 b2 m0 m1;obtain ⟨j,rfl⟩:∃ j:Nat,be=j:=⟨be.toNat,by omega⟩
        have hj:j<m.dk.length:=by omega
        rcases uh R3 with e9 | ⟨b',off',rfl,hbw',hcl'⟩
        ·rw [e9] at hj;simp at hj
        obtain ⟨t0,_,t2⟩:=Y4 hcl' hj;rw [<-(uh BB).cell (p:=⟨b',off'+j*3,none⟩) hbw'] at t0;rw [<-(uh BB).cell (p:=⟨b',off'+j*3+2,none⟩) hbw'] at t2;clear hcl';have HS:=Z9 (show XI m (st,(j:Int),rk,my,gu,lo,hi,hd,ca,ut,wk)=(!ZK (st,(j:Int),rk,my,gu,lo,hi,hd,ca,ut,wk) || ((Z8 m.dk j).1 && (VX my j && Yd hd (Z8 m.dk j).2.2))) from rfl);generalize Z8 m.dk j=dd at *;obtain ⟨op,who,mk⟩:=dd;simp only at t0 t2;have t0:=Z2 t0;have t2:=Z2 t2;obtain ⟨qb,hqb⟩:∃ q,VX my j=q:=⟨_,rfl⟩
        have Hbit:=Z9 hqb;obtain ⟨qd,hqd⟩:∃ q,Yd hd mk=q:=⟨_,rfl⟩
        have Hbd:=Z9 hqd;clear hqb hqd;have HS2:=uh HS;simp only [uh Hps,uh Hbit,uh Hbd] at HS2;have HS3:=Z9 HS2;clear HS HS2;cases op
        ·refine wq ?_
         repeat (go_big_quiet_step (first | exact ZY (Yv (uh Hps) _) | exact ZY (PH (uh Hbit) (by omega) (by omega) (by omega) (by omega) _) | exact ZY (UL (uh Hbd) _)))
         refine wqn fun W1 hb=> ?_;replace kb:=bl kb hb;replace BB:=bt BB hb;clear hb;go_wp2_with fail;go_ret;exact ⟨Z5 (uh HL (by rw [uh HS3];simp)).symm,uh BB⟩
        cases qb
        ·refine wq ?_
         repeat (go_big_quiet_step (first | exact ZY (Yv (uh Hps) _) | exact ZY (PH (uh Hbit) (by omega) (by omega) (by omega) (by omega) _) | exact ZY (UL (uh Hbd) _)))
         refine wqn fun W1 hb=> ?_;replace kb:=bl kb hb;replace BB:=bt BB hb;clear hb;go_wp2_with fail;go_ret;exact ⟨Z5 (uh HL (by rw [uh HS3];simp)).symm,uh BB⟩
        cases qd
        ·refine wq ?_
         repeat (go_big_quiet_step (first | exact ZY (Yv (uh Hps) _) | exact ZY (PH (uh Hbit) (by omega) (by omega) (by omega) (by omega) _) | exact ZY (UL (uh Hbd) _)))
         refine wqn fun W1 hb=> ?_;replace kb:=bl kb hb;replace BB:=bt BB hb;clear hb;go_wp2_with fail;go_ret;exact ⟨Z5 (uh HL (by rw [uh HS3];simp)).symm,uh BB⟩
        refine wq ?_
        repeat (go_big_quiet_step (first | exact ZY (Yv (uh Hps) _) | exact ZY (PH (uh Hbit) (by omega) (by omega) (by omega) (by omega) _) | exact ZY (UL (uh Hbd) _)))
        refine wqn fun W1 hb=> ?_;replace kb:=bl kb hb;replace BB:=bt BB hb;clear hb;go_wp2_with fail;go_roundw
        case rel=>exact ⟨k+1,by omega,by go_num,by rw [uh HU,uh Hup];rw [uh Hh,uh HS3];rfl,uh kb,uh BB⟩
        case measure=>exact ms
      ·obtain rfl:k=m.sm.length:=by omega
       go_wp2_with fail;go_ret;exact ⟨Z5 (by rw [EJ (uh QH) (uh QD) (uh QP) (uh Hup)];exact (uh Hob).symm),uh BB⟩
theorem Kx {ss : List Z3} {b : Int} {k : Nat} (h : Yk ss b k = none) : ∀ n, k ≤ n → Yk ss b n = none
  | 0, hn => by obtain rfl : k = 0 := by omega
                exact h
  | n + 1, hn => by
    by_cases e : k = n + 1
    · rw [← e]; exact h
    · have := Kx h n (by omega)
      unfold Yk; rw [this]
theorem CM {ss:List Z3} {b wk:Int} {wt:Bool} {k:Nat} (h:Yk ss b k=some (wk,wt)) (hs:¬ ((Z8 ss k).2.1=b/\ZK (Z8 ss k)=true)):Yk ss b (k+1)=some (wk,wt):=by
  unfold Yk;rw [h];simp only [if_neg hs]
theorem CN {ss:List Z3} {b wk:Int} {wt:Bool} {k:Nat} (h:Yk ss b k=some (wk,wt)) (h1:(Z8 ss k).2.1=b) (h2:ZK (Z8 ss k)=true) (h3:(Z8 ss k).1=2):Yk ss b (k+1)=some (wk,true):=by
  unfold Yk;rw [h];simp only [if_pos (And.intro h1 h2),if_pos h3]
theorem Bc {ss:List Z3} {b wk:Int} {wt:Bool} {k:Nat} (h:Yk ss b k=some (wk,wt)) (h1:(Z8 ss k).2.1=b) (h2:ZK (Z8 ss k)=true) (h3:¬ (Z8 ss k).1=2) (h4:0<=wk):Yk ss b (k+1)=none:=by
  unfold Yk;rw [h];simp only [if_pos (And.intro h1 h2),if_neg h3,if_pos h4]
theorem CO {ss:List Z3} {b wk:Int} {wt:Bool} {k:Nat} (h:Yk ss b k=some (wk,wt)) (h1:(Z8 ss k).2.1=b) (h2:ZK (Z8 ss k)=true) (h3:¬ (Z8 ss k).1=2) (h4:¬ 0<=wk):Yk ss b (k+1)=some ((k:Int),wt):=by
  unfold Yk;rw [h];simp only [if_pos (And.intro h1 h2),if_neg h3,if_neg h4]
theorem Fi {m:Z6} (h:YK m=false):ZJ m=false:=by unfold ZJ;rw [h];rfl
theorem M5 {m:Z6} {k:Nat} (hk:k<m.dk.length) (h:Yh m k=false):ZJ m=false:=by unfold ZJ;rw [Qh hk h];simp
theorem Bj {m:Z6} (h:YK m=true) (h2:(List.range m.dk.length).all (Yh m)=true):ZJ m=true:=by unfold ZJ;rw [h,h2];rfl
theorem K8 {m:Z6} {k:Nat} (h:Yk m.sm k m.sm.length=none):Yh m k=false:=by unfold Yh;rw [h]
theorem La {m:Z6} {k:Nat} {wk:Int} {wt:Bool} (h:Yk m.sm k m.sm.length=some (wk,wt)):Yh m k=((Z8 m.dk k).2.1 ==wk && !(wt && decide (wk<0))):=by unfold Yh;rw [h]
theorem Ex {w : World} {v0 v1 v2 v3 v4 : Value} {m : Z6} {q : Bool} (hq : YK m = q) (h : Smy w v0 v1 v2 v3 v4 m) :
    Calls Tryz.prog 54 #[.agg #[v0, v1, v2, v3, v4, .int .i64 m.now]] w fun e w' => e = .returned (.bool q) ∧ Below w.heap.size w w' := by
  have := SA h; rw [hq] at this; exact this
theorem Pl {w : World} {v0 v1 v2 v3 v4 : Value} {m : Z6} (h : Smy w v0 v1 v2 v3 v4 m) :
    Calls Tryz.prog 12 #[.agg #[v0, v1, v2, v3, v4, .int .i64 m.now]] w fun e w' => e = .returned (.bool (ZJ m)) ∧ Below w.heap.size w w' := by
  have Hv := Z9 (h.alloc (.cells #[v0, v1, v2, v3, v4, .int .i64 m.now] 32));obtain ⟨h0, h1, h2, h3, h4⟩ := h;obtain ⟨a0, p0, rfl, hc0, hm0, _⟩ := h0;obtain ⟨a1, p1, rfl, hc1, hm1, _⟩ := h1;obtain ⟨a2, p2, rfl, hc2, hm2, r2⟩ := h2;obtain ⟨a3, p3, rfl, hc3, hm3, r3⟩ := h3;obtain ⟨a4, p4, rfl, hc4, hm4, _⟩ := h4;have R2 := Z9 r2;have R3 := Z9 r3;clear r2 r3;obtain ⟨ql, hql⟩ : ∃ q, YK m = q := ⟨_, rfl⟩
  have QL := Z9 hql;clear hql;go_enter Tryz.func12, Tryz.ntmps12;go_wp2_with fail;refine ck (Ex (uh QL) (uh Hv)) fun w1 hb => ?_;have kb : Hid (Blk w1 w.heap.size 32 (S6 a0 p0 a1 p1 a2 p2 a3 p3 a4 p4 m)) := Z9 ((Blk.new w _ _).below hb (by simp));have BB : Hid (Below w.heap.size w w1) := Z9 (((ba _ _)).trans (hb.mono (by simp)));clear hb Hv;have c3 := (uh kb).cell (i := 3) (v := .slice a3 m.dk.length p3) rfl;cases ql
  · go_wp2_with fail
    go_ret;exact ⟨Z5 (Fi (uh QL)).symm, uh BB⟩
  go_wp2_with fail;clear c3
  go_loopw [3] (fun b wr => ∃ k : Nat, k ≤ m.dk.length ∧ b = .int .i64 k ∧ (List.range k).all (Yh m) = true ∧ Blk wr w.heap.size 32 (S6 a0 p0 a1 p1 a2 p2 a3 p3 a4 p4 m) ∧ Below w.heap.size w wr) (fun b _ => m.dk.length - (intOf b).toNat)
  case atStart => exact ⟨0, Zz _, rfl, rfl, uh kb, uh BB⟩
  case round =>
    obtain ⟨j, hj, rfl, hup, kb1, hb1⟩ := hrel;clear kb BB;have kb := Z9 kb1;have BB := Z9 hb1;have Hup := Z9 hup;clear kb1 hb1 hup;have c3 := (uh kb).cell (i := 3) (v := .slice a3 m.dk.length p3) rfl;by_cases hlt : j < m.dk.length
    · have c2 := (uh kb).cell (i := 2) (v := .slice a2 m.sm.length p2) rfl
      go_wp2_with fail;clear c2 c3;obtain ⟨wo, rfl⟩ : ∃ wo, wo = wr := ⟨wr, rfl⟩
      go_loopw [4, 5, 6] (fun x y i wr => ∃ (k : Nat) (wk : Int) (wt : Bool), k ≤ m.sm.length ∧ x = .int .i64 wk ∧ y = .bool wt ∧ i = .int .i64 k ∧ -1 ≤ wk ∧ wk ≤ (k : Int) ∧ Yk m.sm j k = some (wk, wt) ∧ Blk wr w.heap.size 32 (S6 a0 p0 a1 p1 a2 p2 a3 p3 a4 p4 m) ∧ Below w.heap.size w wr) (fun _ _ i _ => m.sm.length - (intOf i).toNat)
      case atStart => exact ⟨0, -1, false, Zz _, rfl, rfl, rfl, by omega, by omega, rfl, uh kb, uh BB⟩
      case round =>
        obtain ⟨k, wkk, wt, hk, rfl, rfl, rfl, wk0, wk1, hsc, kb1, hb1⟩ := hrel;clear kb BB;have kb := Z9 kb1;have BB := Z9 hb1;have Hsc := Z9 hsc;clear kb1 hb1 hsc;have c2 := (uh kb).cell (i := 2) (v := .slice a2 m.sm.length p2) rfl;by_cases hls : k < m.sm.length
        · rcases uh R2 with e0 | ⟨b, off, rfl, hbw, hcl⟩
          · rw [e0] at hls; simp at hls
          obtain ⟨d0, d1, d2, d3, d4, d5, d6, d7, d8, d9, d10⟩ := ZA hcl hls;rw [← (uh BB).cell (p := ⟨b, off + k * 11, none⟩) hbw] at d0;rw [← (uh BB).cell (p := ⟨b, off + k * 11 + 1, none⟩) hbw] at d1;rw [← (uh BB).cell (p := ⟨b, off + k * 11 + 2, none⟩) hbw] at d2;rw [← (uh BB).cell (p := ⟨b, off + k * 11 + 3, none⟩) hbw] at d3;rw [← (uh BB).cell (p := ⟨b, off + k * 11 + 4, none⟩) hbw] at d4;rw [← (uh BB).cell (p := ⟨b, off + k * 11 + 5, none⟩) hbw] at d5;rw [← (uh BB).cell (p := ⟨b, off + k * 11 + 6, none⟩) hbw] at d6;rw [← (uh BB).cell (p := ⟨b, off + k * 11 + 7, none⟩) hbw] at d7;rw [← (uh BB).cell (p := ⟨b, off + k * 11 + 8, none⟩) hbw] at d8;rw [← (uh BB).cell (p := ⟨b, off + k * 11 + 9, none⟩) hbw] at d9;rw [← (uh BB).cell (p := ⟨b, off + k * 11 + 10, none⟩) hbw] at d10;clear hcl;have S1 := Z9 (fun hs => CM (uh Hsc) hs);have S2 := Z9 (fun h1 h2 h3 => CN (uh Hsc) h1 h2 h3);have S3 := Z9 (fun h1 h2 h3 h4 => Bc (uh Hsc) h1 h2 h3 h4);have S4 := Z9 (fun h1 h2 h3 h4 => CO (uh Hsc) h1 h2 h3 h4);generalize Z8 m.sm k = ss at *;obtain ⟨st, be, rk, my, gu, lo, hi, hd, ca, ut, wk⟩ := ss;simp only at d0 d1 d2 d3 d4 d5 d6 d7 d8 d9 d10;have hl0 : w.heap.size < wr.heap.size := (uh kb).lt;by_cases hbe : be = (j : Int)
          rotate_left
          · have hbn : (be != (j : Int)) = true := by simpa using hbe
            go_wp2_with fail;go_roundw
            case rel => exact ⟨k + 1, wkk, wt, by omega, rfl, rfl, by go_num, by omega, by omega, uh S1 (fun h9 => hbe h9.1), (uh kb).alloc _, (uh BB).alloc (uh BB).size _⟩
            case measure => exact ms
          subst hbe;have hbn : ((j : Int) != (j : Int)) = false := by simp
          obtain ⟨ps, hps⟩ : ∃ q, ZK (st, (j : Int), rk, my, gu, lo, hi, hd, ca, ut, wk) = q := ⟨_, rfl⟩
          have Hps := Z9 hps;clear hps;go_wp2_with fail;clear c2 d0 d1 d2 d3 d4 d5 d6 d7 d8 d9 d10;refine ck (Yv (uh Hps) _) fun w2 hb => ?_;have ks : Hid (Blk w2 wr.heap.size 40 (I11 st (j : Int) rk my gu lo hi hd ca ut wk)) := Z9 ((Blk.new wr _ _).below hb (by simp));replace kb := Z9 (((uh kb).alloc (.cells (I11 st (j : Int) rk my gu lo hi hd ca ut wk) 40)).below hb (by simp; omega));replace BB := Z9 ((((uh BB).alloc (uh BB).size (.cells (I11 st (j : Int) rk my gu lo hi hd ca ut wk) 40))).trans (hb.mono (by simp; have := (uh BB).size; omega)));clear hb hl0;have d0 := (uh ks).cell (i := 0) (v := .int .i64 st) rfl;cases ps
          · go_wp2_with fail
            go_roundw
            case rel => exact ⟨k + 1, wkk, wt, by omega, rfl, rfl, by go_num, by omega, by omega, uh S1 (fun h9 => by have h8 := h9.2; rw [uh Hps] at h8; cases h8), uh kb, uh BB⟩
            case measure => exact ms
          by_cases hst : st = 2
          · subst hst
            go_wp2_with fail;go_roundw
            case rel => exact ⟨k + 1, wkk, true, by omega, rfl, rfl, by go_num, by omega, by omega, uh S2 (by first | rfl | trivial) (uh Hps) (by first | rfl | trivial), uh kb, uh BB⟩
            case measure => exact ms
          have hsn : (st == 2) = false := by simpa using hst
          by_cases hw0 : 0 ≤ wkk
          · go_wp2_with fail
            go_ret;exact ⟨Z5 (M5 hlt (K8 (Kx (uh S3 (by first | rfl | trivial) (uh Hps) hst hw0) _ (by omega)))).symm, uh BB⟩
          go_wp2_with fail;go_roundw
          case rel => exact ⟨k + 1, (k : Int), wt, by omega, rfl, rfl, by go_num, by omega, by omega, uh S4 (by first | rfl | trivial) (uh Hps) hst hw0, uh kb, uh BB⟩
          case measure => exact ms
        · obtain rfl : k = m.sm.length := by omega
          have c3 := (uh kb).cell (i := 3) (v := .slice a3 m.dk.length p3) rfl
          rcases uh R3 with e0 | ⟨b', off', rfl, hbw', hcl'⟩
          · rw [e0] at hlt; simp at hlt
          obtain ⟨_, t1, _⟩ := Y4 hcl' hlt;rw [← (uh BB).cell (p := ⟨b', off' + j * 3 + 1, none⟩) hbw'] at t1;clear hcl';have HB := Z9 (La (uh Hsc));have HL := Z9 (M5 (m := m) hlt);have HU := Z9 (show (List.range (j + 1)).all (Yh m) = ((List.range j).all (Yh m) && Yh m j) from TB j);generalize Z8 m.dk j = dd at *;obtain ⟨op, who, mk⟩ := dd;simp only at t1;by_cases hwho : who = wkk;rotate_left
          · have hwn : (who != wkk) = true := by simpa using hwho
            go_wp2_with fail;go_ret;exact ⟨Z5 (uh HL (by rw [uh HB]; simp [hwho])).symm, uh BB⟩
          have hwn : (who != wkk) = false := by simpa using hwho
          have Hwho := Z9 hwho;clear hwho;cases wt
          · go_wp2_with fail
            go_roundw
            case rel => exact ⟨j + 1, by omega, by go_num, by rw [uh HU, uh Hup, uh HB, uh Hwho]; simp, uh kb, uh BB⟩
            case measure => exact ms
          by_cases hw0 : wkk < 0
          · go_wp2_with fail
            go_ret;exact ⟨Z5 (uh HL (by rw [uh HB]; simp [hw0])).symm, uh BB⟩
          go_wp2_with fail;go_roundw
          case rel => exact ⟨j + 1, by omega, by go_num, by rw [uh HU, uh Hup, uh HB, uh Hwho]; simp; omega, uh kb, uh BB⟩
          case measure => exact ms
    · obtain rfl : j = m.dk.length := by omega
      go_wp2_with fail;go_ret;exact ⟨Z5 (Bj (uh QL) (uh Hup)).symm, uh BB⟩
theorem Vp:(Tryz.prog.info? 91).map (fun i=>(i.zero,i.size,i.bytes))=some (some (.agg #[.int .i64 0,.int .i64 0]),2,16):=by kernel_rfl
theorem SO (ps:List Z4):(YW ps).length=ps.length*2:=by unfold YW;exact Kp ps
theorem QN (ps qs:List Z4):YW (ps++qs)=YW ps++YW qs:=by unfold YW;rw [List.flatMap_append]
theorem Oz:∀ (ps:List Z4) (n:Nat),YW (ps.take n)=(YW ps).take (n*2)
 | [],n=>by simp [YW]
 | p::ps,0=>by simp [YW]
 | p::ps,n+1=>by
  have ih:=Oz ps n;unfold YW at ih ⊢;rw [show (n+1)*2=n*2+2 by omega];simpa using ih
def EntsAt (n₀:Nat) (w:World) (v:Value) (ps:List Z4):Prop:=w.ownsRow n₀ 91 2 v ps.length (YW ps)
theorem EntsAt.lt {n₀:Nat} {w:World} {v:Value} {ps:List Z4} (h:EntsAt n₀ w v ps) {k:Nat} (hk:v.ownBlock=some k):n₀<=k/\k<w.heap.size:=World.ownsRow.lt h k hk
theorem EntsAt.mono {n₀ n₁:Nat} {w:World} {v:Value} {ps:List Z4} (h:EntsAt n₀ w v ps) (hn:n₁<=n₀):EntsAt n₁ w v ps:=To h hn
theorem EntsAt.same {n₀:Nat} {w w':World} {v:Value} {ps:List Z4} (h:EntsAt n₀ w v ps) (hs:∀ k,v.ownBlock=some k->w'.heap[k]?=w.heap[k]?):EntsAt n₀ w' v ps:=Xp h hs
theorem EntsAt.later {n₀:Nat} {w w':World} {v:Value} {ps:List Z4} (h:EntsAt n₀ w v ps) (hb:Below w.heap.size w w'):EntsAt n₀ w' v ps:=h.same fun k hk=>hb.block k (h.lt hk).2
theorem EntsAt.pc {n₀:Nat} {w:World} {v:Value} {ps:List Z4} (h:EntsAt n₀ w v ps):IsPaces w v ps:=by
 have h':=h
 rcases h.2 with ⟨rfl,hz⟩ | ⟨g,cap,cur,rfl,hb,hg,hnc,hcm,r⟩
 ·exact ⟨none,0,by rw [hz],by omega,by omega,.inl (List.eq_nil_of_length_eq_zero hz)⟩
 ·refine ⟨_,cap,rfl,hnc,by unfold maxLen at hcm;omega,.inr ⟨g,0,rfl,(Array.getElem?_eq_some_iff.1 hg).1,fun k hk=> ?_⟩⟩
  have hp:=Uz (f:=fun p:Z4=>Value.int .i64 p.1) (g:=fun p:Z4=>Value.int .i64 p.2) ps k hk;have hat:Z7 ps k=ps[k]:=by unfold Z7;simp [List.getD,hk]
  rw [Nat.zero_add,hat];exact ⟨(World.ownsRow.cellAt h' (k*2) (by omega)).trans hp.1,(World.ownsRow.cellAt h' (k*2+1) (by omega)).trans hp.2⟩
theorem EntsAt.shape {n₀:Nat} {w:World} {v:Value} {ps:List Z4} (h:EntsAt n₀ w v ps):∃ a cap,v= .slice a ps.length cap:=by
 rcases h.2 with ⟨rfl,hz⟩ | ⟨g,cap,cur,rfl,_⟩
 ·exact ⟨none,0,by rw [hz]⟩
 ·exact ⟨_,cap,rfl⟩
theorem EntsAt.cut {n₀:Nat} {w:World} {a:Option Addr} {len cap:Nat} {ps:List Z4} (h:EntsAt n₀ w (.slice a len cap) ps) {n:Nat} (hn:n<=ps.length) (ha:a ≠ none):EntsAt n₀ w (.slice a n cap) (ps.take n):=by
 have hl:(ps.take n).length=n:=by simp;omega
 unfold EntsAt;rw [hl,Oz]
 rcases h.2 with ⟨hv,hz⟩ | ⟨g,cap',cur,hv,hb,hg,hnc,hcm,hs,ht⟩
 ·cases hv;exact absurd rfl ha
 ·cases hv
  refine ⟨by rw [List.length_take,SO];omega,.inr ⟨g,cap,cur,rfl,hb,hg,by omega,hcm,hs,?_⟩⟩;rw [<-ht,List.take_take];congr 1;omega
theorem IsPaces.cut {w:World} {a:Option Addr} {len cap:Nat} {ps:List Z4} (h:IsPaces w (.slice a len cap) ps) {n:Nat} (hn:n<=ps.length):IsPaces w (.slice a n cap) (ps.take n):=by
 obtain ⟨a',cap',he,hc,hm,hr⟩:=h;cases he;have hl:(ps.take n).length=n:=by simp;omega
 refine ⟨a,cap,by rw [hl],by omega,hm,?_⟩
 rcases hr with hr | ⟨b,off,rfl,hlt,hcl⟩
 ·exact .inl (by rw [hr];simp)
 ·refine .inr ⟨b,off,rfl,hlt,fun k hk=> ?_⟩
  rw [Vb (by omega)];exact hcl k (by omega)
theorem DF {a b c d:Int} (h:a ≠ c):ltB (a,b) (c,d)=decide (a<c):=by unfold ltB;simp;omega
theorem DG {a b d:Int} : ltB (a,b) (a,d)=decide (b<d):=by unfold ltB;simp
theorem SW (a b c d:Int) (w:World):Calls Tryz.prog 203 #[.agg #[.int .i64 a,.int .i64 b],.agg #[.int .i64 c,.int .i64 d]] w fun e w'=>e= .returned (.bool (ltB (a,b) (c,d)))/\Below w.heap.size w w':=by
 by_cases h:a=c
 ·subst h
  rw [DG];go_enter Tryz.func203,Tryz.ntmps203;go_wp2_with fail;go_ret;exact ⟨rfl,((ba _ _)).alloc (by simp) _⟩
 ·rw [DF h]
  have h':(a ==c)=false:=by simpa using h
  have h2:(a !=c)=true:=by simpa using h
  clear h;go_enter Tryz.func203,Tryz.ntmps203;go_wp2_with fail;go_ret;exact ⟨rfl,((ba _ _)).alloc (by simp) _⟩
theorem Wd (a b c d:Int) (w:World):Calls Tryz.prog 274 #[.agg #[.int .i64 a,.int .i64 b],.agg #[.int .i64 c,.int .i64 d]] w fun e w'=>e= .returned (.bool (ltB (a,b) (c,d)))/\Below w.heap.size w w':=by
 by_cases h:a=c
 ·subst h
  rw [DG];go_enter Tryz.func274,Tryz.ntmps274;go_wp2_with fail;go_ret;exact ⟨rfl,((ba _ _)).alloc (by simp) _⟩
 ·rw [DF h]
  have h':(a ==c)=false:=by simpa using h
  have h2:(a !=c)=true:=by simpa using h
  clear h;go_enter Tryz.func274,Tryz.ntmps274;go_wp2_with fail;go_ret;exact ⟨rfl,((ba _ _)).alloc (by simp) _⟩
theorem J8 (n:Int) (w:World):Calls Tryz.prog 260 #[.int .i64 n] w fun e w'=>e= .returned (.bool (inB n (-1000000000000) 1000000000000))/\w'=w:=by
 go_enter Tryz.func260,Tryz.ntmps260;go_wp2_with (go_at_call 181;refine (Zv _ _ _ _).mono ?_;rintro e w' ⟨rfl,rfl⟩)
 go_ret;exact ⟨rfl,rfl⟩
theorem U7 (f c:Int) (w:World):Calls Tryz.prog 273 #[.agg #[.int .i64 f,.int .i64 c]] w fun e w'=>e= .returned (.bool (L6 (f,c)))/\Below w.heap.size w w':=by
 cases h1:inB f (-1000000000000) 1000000000000
 ·go_enter Tryz.func273,Tryz.ntmps273
  go_wp2_with fail;refine (J8 _ _).mono ?_;rintro e w' ⟨rfl,rfl⟩;go_wp2_with fail;go_ret;exact ⟨Z5 (by unfold L6;simp [h1]),(ba _ _)⟩
 ·go_enter Tryz.func273,Tryz.ntmps273
  go_wp2_with fail;refine (J8 _ _).mono ?_;rintro e w' ⟨rfl,rfl⟩;go_wp2_with fail;refine (Zv _ _ _ _).mono ?_;rintro e w' ⟨rfl,rfl⟩;go_wp2_with fail;go_ret;exact ⟨Z5 (by unfold L6;simp [h1]),(ba _ _)⟩
theorem Kc (f c who:Int) (B:Nat) (w:World) (hc:w.cell? ⟨B,0,none⟩=some (.int .i64 who)) (hB:B<w.heap.size) :
  Calls Tryz.prog 299 #[.agg #[.int .i64 f,.int .i64 c],.pointer (some ⟨B,0,none⟩)] w fun e w'=>e= .returned (.bool (c ==who))/\Below w.heap.size w w':=by
 have hne:B ≠ w.heap.size:=U3 hB;go_enter Tryz.func299,Tryz.ntmps299;go_wp2_with fail;go_ret;exact ⟨rfl,(ba _ _)⟩
theorem GC {w:World} {v:Value} {ps:List Z4} (who:Int) (B:Nat) (h:IsPaces w v ps) (hc:w.cell? ⟨B,0,none⟩=some (.int .i64 who)) (hB:B<w.heap.size) :
  Calls Tryz.prog 298 #[v,.func (Fn.func 299) #[] #[.pointer (some ⟨B,0,none⟩)]] w fun e w'=>e= .returned (.int .i64 (VD ps who))/\Below w.heap.size w w':=by
 obtain ⟨a,cap,rfl,hcc,hm,hr⟩:=h;have Hr:=Z9 hr;have Hc:=Z9 hc;clear hr hc;go_enter Tryz.func298,Tryz.ntmps298;go_wp2_with fail
 go_loopw [5,8] (fun _ i wr=> ∃ k:Nat,k<=ps.length/\i= .int .i64 k/\Hid (∀ j,j<k->(Z7 ps j).2 ≠ who)/\Below w.heap.size w wr) (fun _ i _=>ps.length-(intOf i).toNat)
 case atStart=>exact ⟨0,Zz _,rfl,Z9 (fun j hj=>by omega),ZZ _ _⟩
 case round=>
  obtain ⟨k,hk,rfl,hno,hb⟩:=hrel;have Hb:=Z9 hb;by_cases hlt:k<ps.length
  ·rcases uh Hr with h0 | ⟨b,off,rfl,hbw,hcl⟩
   ·rw [h0] at hlt;simp at hlt
   obtain ⟨c0,c1⟩:=hcl k hlt;rw [<-hb.cell (p:=⟨b,off+k*2,none⟩) hbw] at c0;rw [<-hb.cell (p:=⟨b,off+k*2+1,none⟩) hbw] at c1;generalize hz:Z7 ps k=p at *;obtain ⟨f,z⟩:=p;simp only at c0 c1;have hcb:=(hb.cell (p:=⟨B,0,none⟩) hB).trans (uh Hc);have hBr:B<wr.heap.size:=Zf hB hb.size;have Hz:=Z9 hz;have Hcb:=Z9 hcb;clear hz hcl hb hcb;by_cases hx:z=who
   ·subst hx
    go_wp2_with fail;refine ck (Kc _ _ _ _ _ (uh Hcb) hBr) fun w1 hb1=> ?_;have Hb1:=Z9 hb1;clear hb1;go_wp2_with fail;go_ret;exact ⟨ZC (Ek hlt (by rw [uh Hz]) (uh hno)).symm,(uh Hb).trans ((uh Hb1).mono (uh Hb).size)⟩
   ·have hx':(z ==who)=false:=by simpa using hx
    have Hx:=Z9 hx;clear hx;go_wp2_with fail;refine (Kc _ _ _ _ _ (uh Hcb) hBr).mono ?_;rw [hx'];rintro e w1 ⟨rfl,hb1⟩;have Hb1:=Z9 hb1;clear hb1;go_wp2_with fail;go_roundw
    case rel=>exact ⟨k+1,by omega,by go_num,Z9 (Yi (uh hno) (by rw [uh Hz];exact uh Hx)),(uh Hb).trans ((uh Hb1).mono (uh Hb).size)⟩
    case measure=>exact ms
  ·obtain rfl:k=ps.length:=by omega
   go_wp2_with fail;go_ret;exact ⟨ZC (L9 (uh hno)).symm,hb⟩
theorem H8 {w:World} {v:Value} {ps:List Z4} (who:Int) (h:IsPaces w v ps) :
  Calls Tryz.prog 275 #[v,.int .i64 who] w fun e w'=>e= .returned (.int .i64 (VD ps who))/\Below w.heap.size w w':=by
 have Hv:=Z9 h;obtain ⟨a,cap,rfl,hcc,hm,hr⟩:=h;clear hr;go_enter Tryz.func275,Tryz.ntmps275;go_wp2_with fail;refine ck (GC who w.heap.size ((uh Hv).below ((ba _ _))) (by simp) (by simp)) fun w1 hb=> ?_;have Hb:=Z9 hb;clear hb;go_wp2_with fail;go_ret;exact ⟨rfl,((ba _ _)).trans ((uh Hb).mono (by simp))⟩
structure Fr (bx:Nat) (r:Option Nat) (w w':World):Prop where
 os:w'.os=w.os
 tape:w'.tape=w.tape
 output:w'.output=w.output
 size:w.heap.size<=w'.heap.size
 block:∀ k,k<w.heap.size->k ≠ bx->r ≠ some k->w'.heap[k]?=w.heap[k]?
theorem Fr.refl (bx:Nat) (r:Option Nat) (w:World):Fr bx r w w:=⟨rfl,rfl,rfl,Z1 _,fun _ _ _ _=>rfl⟩
theorem Fr.trans {bx:Nat} {r:Option Nat} {a b c:World} (h:Fr bx r a b) (k:Fr bx r b c):Fr bx r a c:=
 ⟨k.os.trans h.os,k.tape.trans h.tape,k.output.trans h.output,XO h.size k.size,fun i hi hn hr=>(k.block i (Zf hi h.size) hn hr).trans (h.block i hi hn hr)⟩
theorem Fr.of_below {bx:Nat} {r:Option Nat} {w w':World} (h:Below w.heap.size w w'):Fr bx r w w':=⟨h.os,h.tape,h.output,h.size,fun k hk _ _=>h.block k hk⟩
theorem Fr.of_grown {bx:Nat} {r:Option Nat} {w w':World} (h:w.grownBy w' r):Fr bx r w w':=⟨h.os,h.tape,h.output,h.size,fun k hk _ hr=>h.block k hk (fun e=>hr e.symm)⟩
theorem Fr.box {bx:Nat} {r:Option Nat} (w:World) (v:Value):Fr bx r w (w.setCell ⟨bx,0,none⟩ v):=⟨rfl,rfl,rfl,by simp,fun k hk hn _=>Below.heap_setCell w ⟨bx,0,none⟩ v k hn⟩
theorem Fr.below {bx B:Nat} {r:Option Nat} {w w':World} (h:Fr bx r w w') (hx:B<=bx) (hr:∀ k,r=some k->B<=k) (hs:B<=w.heap.size):Below B w w':=
 ⟨h.os,h.tape,h.output,h.size,fun k hk=>h.block k (by omega) (by omega) (fun e=>by have:=hr k e;omega)⟩
theorem EntsAt.fr {n₀ bx:Nat} {r:Option Nat} {w w':World} {v:Value} {ps:List Z4} (h:EntsAt n₀ w v ps) (hf:Fr bx r w w') (h1:v.ownBlock ≠ some bx) (h2:∀ k,v.ownBlock=some k->r ≠ some k):EntsAt n₀ w' v ps:=
 h.same fun k hk=>hf.block k (h.lt hk).2 (fun e=>h1 (by rw [hk,e])) (h2 k hk)
structure HeapIs (n₀ bx:Nat) (v:Value) (w:World) (ps:List Z4):Prop where
 cell:w.cell? ⟨bx,0,none⟩=some v
 free:w.frozen? ⟨bx,0,none⟩=false
 lt:bx<w.heap.size
 row:EntsAt n₀ w v ps
 off:v.ownBlock ≠ some bx
theorem HeapIs.later {n₀ bx:Nat} {v:Value} {w w':World} {ps:List Z4} (h:HeapIs n₀ bx v w ps) (hb:Below w.heap.size w w'):HeapIs n₀ bx v w' ps:=
 ⟨(hb.cell (p:=⟨bx,0,none⟩) h.lt).trans h.cell,(hb.frozen (p:=⟨bx,0,none⟩) h.lt).trans h.free,Zf h.lt hb.size,h.row.later hb,h.off⟩
theorem HeapIs.view {n₀ bx:Nat} {v:Value} {w:World} {ps:List Z4} (h:HeapIs n₀ bx v w ps) (hl:0<ps.length):∃ g cap,v= .slice (some ⟨g,0,none⟩) ps.length cap/\g ≠ bx/\g<w.heap.size/\n₀<=g/\ps.length<=cap/\cap<=9223372036854775807/\
  (∀ k,k<ps.length->w.cell? ⟨g,k*2,none⟩=some (.int .i64 (Z7 ps k).1)/\w.cell? ⟨g,k*2+1,none⟩=some (.int .i64 (Z7 ps k).2))/\(∀ k,w.frozen? ⟨g,k,none⟩=false):=by
 have hr:=h.row
 rcases h.row.2 with ⟨hv,hz⟩ | ⟨g,cap,cur,rfl,hb,hg,hnc,hcm,r⟩
 ·omega
 ·obtain ⟨a,cap',he,_,_,hrr⟩:=hr.pc
  cases he;refine ⟨g,cap,rfl,fun e=>h.off (by rw [e];rfl),(Array.getElem?_eq_some_iff.1 hg).1,hb,hnc,by unfold maxLen at hcm;omega,?_,fun k=>World.ownsRow.frozenAt hr k⟩
  rcases hrr with h0 | ⟨b,off,he,_,hcl⟩
  ·rw [h0] at hl;simp at hl
  ·cases he
   intro k hk;have:=hcl k hk;simpa using this
theorem PI {n₀ bx:Nat} {v:Value} {w:World} {ps:List Z4} (h:HeapIs n₀ bx v w ps):Calls Tryz.prog 277 #[.pointer (some ⟨bx,0,none⟩)] w fun e w'=>e= .returned (.int .i64 ps.length)/\w'=w:=by
 have hc:=h.cell;obtain ⟨a,cap,rfl⟩:=h.row.shape;go_enter Tryz.func277,Tryz.ntmps277;go_wp2_with fail;go_ret;exact ⟨rfl,rfl⟩
theorem RJ {n₀ bx:Nat} {v:Value} {w:World} {ps:List Z4} (h:HeapIs n₀ bx v w ps) {i j:Nat} (hi:i<ps.length) (hj:j<ps.length) :
  Calls Tryz.prog 362 #[.pointer (some ⟨bx,0,none⟩),.int .i64 i,.int .i64 j] w fun e w'=>e= .returned (.bool (ltB (Z7 ps i) (Z7 ps j)))/\Below w.heap.size w w':=by
 obtain ⟨g,cap,rfl,hne,hlt,_,hnc,hcm,hcl,_⟩:=h.view (by omega);have hc:=h.cell;obtain ⟨a0,a1⟩:=hcl i hi;obtain ⟨b0,b1⟩:=hcl j hj;generalize Z7 ps i=p at *;generalize Z7 ps j=q at *;obtain ⟨f,z⟩:=p;obtain ⟨f',z'⟩:=q;simp only at a0 a1 b0 b1;have hi0:(0:Int)<=(i:Int):=by omega
 have hj0:(0:Int)<=(j:Int):=by omega
 have hi1:(i:Int)<(ps.length:Int):=by omega
 have hj1:(j:Int)<(ps.length:Int):=by omega
 have k0:=Z2 a0;have k1:=Z2 a1;have k2:=Z2 b0;have k3:=Z2 b1;have k4:=Z2 hc;clear hcl h hc a0 a1 b0 b1;go_enter Tryz.func362,Tryz.ntmps362;go_wp2_with fail;refine wq ?_
 repeat (go_big_quiet_step (exact ZY (Wd _ _ _ _ _)))
 refine wpQuiet_nil ?_;intro _ hw';obtain ⟨⟨dq,osq⟩,hw''⟩:=hw';subst hw'';go_wp2_with fail;go_ret;exact ⟨rfl,Z0 _ _ _⟩
theorem RU {w:World} {a p:Addr} {u v:Value} (h:w.cell? p=some v):∃ c,(w.setCell a u).cell? p=some c:=by
 by_cases e:p=a
 ·subst e;exact ⟨_,World.cell?_setCell_same _ _ _ h⟩
 ·exact ⟨v,by rw [World.cell?_setCell_other _ _ _ _ (fun e2=>e e2.symm)];exact h⟩
theorem HeapIs.swapped {n₀ bx g cap n:Nat} {w:World} {ps:List Z4} (h:HeapIs n₀ bx (.slice (some ⟨g,0,none⟩) n cap) w ps) (hn:n=ps.length) (hne:g ≠ bx) {i j:Nat} (hi:i<ps.length) (hj:j<ps.length) (f z f' z':Int) (W:World) (hW:W=((((w.setCell ⟨g,i*2,none⟩ (.int .i64 f')).setCell ⟨g,i*2+1,none⟩ (.int .i64 z')).setCell ⟨g,j*2,none⟩ (.int .i64 f)).setCell ⟨g,j*2+1,none⟩ (.int .i64 z))) :
  HeapIs n₀ bx (.slice (some ⟨g,0,none⟩) n cap) W ((ps.set i (f',z')).set j (f,z))/\Fr bx (some g) w W:=by
 subst hn;have r1:=G5 h.row (i*2) (.int .i64 f') (.int .i64 z');rw [yM _ _ _ _ hi] at r1;have r2:=G5 r1.1 (j*2) (.int .i64 f) (.int .i64 z);rw [yM _ _ _ _ (by simpa using hj),<-hW] at r2;have hg:=Rq r1.2 r2.2;clear r1 hW;have hlt:=h.lt;have hb:=hg.block bx hlt (by simpa using Ne.symm hne);refine ⟨⟨?_,?_,Zf hlt hg.size,?_,h.off⟩,Fr.of_grown hg⟩
 ·exact (World.cell?_of_block (w:=w) (a:=⟨bx,0,none⟩) hb).trans h.cell
 ·exact (World.frozen?_of_block (w:=w) (a:=⟨bx,0,none⟩) hb).trans h.free
 ·unfold EntsAt
  rw [V4,V4];exact r2.1
theorem RV {n₀ bx:Nat} {v:Value} {w:World} {ps:List Z4} (h:HeapIs n₀ bx v w ps) {i j:Nat} (hi:i<ps.length) (hj:j<ps.length) :
  Calls Tryz.prog 365 #[.pointer (some ⟨bx,0,none⟩),.int .i64 i,.int .i64 j] w fun e w'=>e= .returned (.tuple #[])/\HeapIs n₀ bx v w' (swp ps i j)/\Fr bx v.ownBlock w w':=by
 have H:=Z9 h;obtain ⟨g,cap,rfl,hne,hlt,hn0,hnc,hcm,hcl,hfz⟩:=h.view (by omega);have hc:=h.cell;obtain ⟨a0,a1⟩:=hcl i hi;obtain ⟨b0,b1⟩:=hcl j hj;have z0:=hfz (i*2);have z1:=hfz (i*2+1);have z2:=hfz (j*2);have z3:=hfz (j*2+1);have HX:Hid (swp ps i j=(ps.set i (Z7 ps j)).set j (Z7 ps i)):=Z9 rfl;generalize Z7 ps i=p at *;generalize Z7 ps j=q at *;obtain ⟨f,z⟩:=p;obtain ⟨f',z'⟩:=q;simp only at a0 a1 b0 b1;have hi0:(0:Int)<=(i:Int):=by omega
 have hj0:(0:Int)<=(j:Int):=by omega
 have hi1:(i:Int)<(ps.length:Int):=by omega
 have hj1:(j:Int)<(ps.length:Int):=by omega
 obtain ⟨c1,y1⟩:∃ c,(w.setCell ⟨g,i*2,none⟩ (.int .i64 f')).cell? ⟨g,j*2,none⟩=some c:=RU b0
 obtain ⟨c2,y2⟩:∃ c,((w.setCell ⟨g,i*2,none⟩ (.int .i64 f')).setCell ⟨g,i*2+1,none⟩ (.int .i64 z')).cell? ⟨g,j*2+1,none⟩=some c:=by
  obtain ⟨c,hc9⟩:=RU (a:=⟨g,i*2,none⟩) (u:= .int .i64 f') b1;exact RU hc9
 obtain ⟨c3,y3⟩:∃ c,((w.setCell ⟨g,i*2,none⟩ (.int .i64 f')).setCell ⟨g,i*2+1,none⟩ (.int .i64 z')).cell? ⟨g,j*2,none⟩=some c:=by
  obtain ⟨c,hc9⟩:=RU (a:=⟨g,i*2,none⟩) (u:= .int .i64 f') b0;exact RU hc9
 clear hcl h hfz;go_enter Tryz.func365,Tryz.ntmps365;go_wp2_with fail
 go_region
 go_end0
 generalize hW:((((w.setCell ⟨g,i*2,none⟩ (.int .i64 f')).setCell ⟨g,i*2+1,none⟩ (.int .i64 z')).setCell ⟨g,j*2,none⟩ (.int .i64 f)).setCell ⟨g,j*2+1,none⟩ (.int .i64 z))=W;obtain ⟨h1,h2⟩:=(uh H).swapped rfl hne hi hj f z f' z' W hW.symm;exact ⟨rfl,by rw [uh HX];exact h1.later ((ZZ _ _).drew),h2.trans (Fr.of_below ((ZZ _ _).drew))⟩
end Go.Proofs.YtamgfpdahadnfaaGreatDoor
