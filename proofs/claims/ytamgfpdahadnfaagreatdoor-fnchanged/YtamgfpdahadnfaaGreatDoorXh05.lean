/- Part 5 of what the proof rests on. No condition but those that a theorem names. -/
import Derived.Test.YtamgfpdahadnfaaGreatDoorXh04
import Derived.Shelf.RegionOpen
import Derived.Defers
import Derived.Recover
import Derived.WalkLawsBesides
import Derived.Laws.StructEq
set_option maxHeartbeats 8000000
set_option maxRecDepth 100000
namespace Go.Proofs.YtamgfpdahadnfaaGreatDoor
open Go.ChangeShapes Go.WideShapes Go.ChangeAt Go.RowKit Go.Sort
set_option linter.unusedVariables false
def Lt (m:Z6) (s:Z3):Int:=YQ (pushS m s) (m.sm.length:Int)
def S7 (m:Z6) (rank may guild:Int):Z6 × Int:=
 if ZI m then (if Zx (Ye rank may guild) && decide (guild<m.gd.length) then (if m.sm.length=12 then (m,4) else (if Lt m (Ye rank may guild)<0 then (m,2) else
  (ZN (setS (pushS m (Ye rank may guild)) m.sm.length (Qk (Ye rank may guild) (Lt m (Ye rank may guild)) (Xy m (Lt m (Ye rank may guild))))),0))) else (m,3)) else (Yj,3)
theorem GN {rank may guild:Int} (h:Zx (Ye rank may guild)=true):Zh (Ye rank may guild)=true:=by
 unfold Zx at h;rw [Rn (by show (1:Int) ≠ 0;omega),Bool.false_or] at h;exact h
theorem GM {m:Z6} (h:Loose m) {rank may guild:Int} (hs:Zx (Ye rank may guild)=true) (hg:guild<m.gd.length):Loose (pushS m (Ye rank may guild))\/m.sm.length>=12:=by
 by_cases hl:m.sm.length<12
 ·left
  obtain ⟨j,hj,_⟩:=h.openD;exact h.pushS hl (Xk.2 (.inr ⟨GN hs,hg,by show (0:Int)<_;omega⟩)) (UD rfl)
 ·right;omega
theorem B8 {m:Z6} (h:Loose m) {b:Nat} (hb:b<m.dk.length):WE (Xy m (b:Int)) (Z8 m.dk b).2.2=true:=by
 have hmk:Xy m (b:Int)=(Z8 m.dk b).2.2:=by unfold Xy;simp
 obtain ⟨k0,k1⟩:=Rk (h.desk b hb);rw [hmk];exact M7 (by omega) (by omega) (by omega) (by omega) (by omega) (by omega)
theorem Yz {m:Z6} (h:Loose m):m.sm.length<=12:=by
 have hd:=h.head;unfold YD at hd;simp only [ZM,YW] at hd;exact hd.2.2.1
theorem DZ {m:Z6} (h:ZI m=true) (rank may guild:Int):ZI (S7 m rank may guild).1=true:=by
 unfold S7;rw [h];simp only [if_true]
 split
 ·rename_i hs
  simp only [ZM,YW] at hs
  split
  ·exact h
  ·rename_i hl
   split
   ·exact h
   ·rename_i hb
    have hlo:=ZK h;have h12:=Yz hlo
    have hx:Loose (pushS m (Ye rank may guild)):=by
     rcases GM hlo hs.1 hs.2 with e | e
     ·exact e
     ·omega
    rcases VS (pushS m (Ye rank may guild)) (m.sm.length:Int) with ⟨e,_⟩ | ⟨b,hbl,e,hm⟩
    ·exact absurd (show Lt m (Ye rank may guild)<0 by unfold Lt;rw [e];omega) hb
    ·have ec:Lt m (Ye rank may guild)=(b:Int):=e
     rw [ec];unfold Yw at hm;simp only [ZM,Zz] at hm
     have hat:Z8 (pushS m (Ye rank may guild)).sm m.sm.length=Ye rank may guild:=by
      show Z8 (m.sm++[Ye rank may guild]) m.sm.length=_;rw [Vv,if_pos rfl]
     rw [hat] at hm;obtain ⟨k1,k2⟩:=Gs (m:=pushS m (Ye rank may guild)) (s:=Ye rank may guild) (b:=b) (had:=Xy m (b:Int)) hx (GN hs.1) hs.2 hbl hm.1 hm.2 (B8 hlo hbl);exact YK (hx.setS (by unfold pushS;simp) k1 k2)
 ·exact h
def DI (m:Z6) (s:Z3) (b:Int):Int:=YL (Zq (Xq s) (Xy m s.2.1) (Xy m b)) (Xy m b)
def RW (m:Z6) (k:Nat) (b:Int):Z6:=setS m k (Qk (Z8 m.sm k) b (DI m (Z8 m.sm k) b))
def Ty (m:Z6) (who:Int):Z6 × Int:=
 if ZI m then (if WU m who then (if (Z8 m.sm who.toNat).1=1 then (if YQ m who<0 then (m,2) else (if Yv (RW m who.toNat (YQ m who)) then (ZN (RW m who.toNat (YQ m who)),0) else (m,4))) else (m,2)) else (m,1)) else (Yj,3)
theorem Fs {m:Z6} (h:ZI m=true) (who:Int):ZI (Ty m who).1=true:=by
 unfold Ty;rw [h];simp only [if_true]
 split
 ·split
  ·split
   ·exact h
   ·split
    ·rename_i hl
     exact YK (Pz hl)
    ·exact h
  ·exact h
 ·exact h
theorem Q7 (m:Z6) (k:Nat) (s t:Z3):setS (setS m k s) k t=setS m k t:=by unfold setS;simp
def Y3 (m:Z6) (k:Nat) (may:Int):Z6:=setS m k (Wk (Z8 m.sm k) may)
def XW (m:Z6) (who may:Int):Z6 × Int:=
 if ZI m then (if WU m who then (if inB may 1 255 then (if ZL (Z8 m.sm who.toNat) && !WI may (Z8 m.sm who.toNat).2.1 then
  (if YQ (Y3 m who.toNat may) who<0 then (m,2) else (ZN (setS (Y3 m who.toNat may) who.toNat (putS (Y3 m who.toNat may) (Wk (Z8 m.sm who.toNat) may) (YQ (Y3 m who.toNat may) who))),0))
  else (ZN (Y3 m who.toNat may),0)) else (m,3)) else (m,1)) else (Yj,3)
theorem QZ {s:Z3} {may:Int} (h:Zh s=true) (m0:1<=may) (m1:may<=255):Zh (Wk s may)=true:=by
 obtain ⟨st,be,rk,my,gu,lo',hi',hd,ca,ut,wk⟩:=s;obtain ⟨x0,x1,x2,x3,x4,x5,x6,x7,x8,x9⟩:=Zi h;exact Tp x0 x1 x2 ⟨m0,m1⟩ x4 x5 x6 x7 x8 x9
theorem NN {m:Z6} (h:ZI m=true) (who may:Int):ZI (XW m who may).1=true:=by
 unfold XW;rw [h];simp only [if_true]
 split
 ·rename_i hw
  obtain ⟨k,rfl,hk,hs⟩:=Yl hw;rw [show ((k:Int)).toNat=k by simp];have hlo:=ZK h
  split
  ·rename_i hm
   obtain ⟨m0,m1⟩:=ZO hm
   split
   ·rename_i hp
    simp only [ZM,Bool.not_eq_true'] at hp
    split
    ·exact h
    ·rename_i hb
     rcases VS (Y3 m k may) (k:Int) with ⟨e,_⟩ | ⟨b,hbl,e,hma⟩
     ·exact absurd (show YQ (Y3 m k may) (k:Int)<0 by rw [e];omega) hb
     ·rw [e]
      obtain ⟨p,g1,b1⟩:=hlo.limits hk hs;obtain ⟨a0,a1,a2,a3,a4⟩:=hlo.at hk hp.1;unfold Yw at hma;simp only [ZM,Zz] at hma
      have hat:Z8 (Y3 m k may).sm k=Wk (Z8 m.sm k) may:=by
       show Z8 (m.sm.set k _) k=_;rw [ZJ hk,if_pos rfl]
      rw [hat] at hma;have:=Pv (m:=m) hlo (s:=Wk (Z8 m.sm k) may) (b:=b) (QZ p m0 m1) hp.1 g1 a0 a1 a4 hbl hma.1 hma.2;unfold Y3;rw [Q7];exact YK (hlo.setS hk this.1 this.2)
   ·rename_i hp
    refine YK (Gr hlo hk hs m0 m1 ?_);cases h1:ZL (Z8 m.sm k)
    ·exact .inl rfl
    ·right
     cases h2:WI may (Z8 m.sm k).2.1
     ·rw [h1,h2] at hp;exact absurd rfl hp
     ·rfl
  ·exact h
 ·exact h
def Qw (m:Z6) (who g:Int):Z6 × Int:=
 if WU m who then (if inB g (-1) ((m.gd.length:Int)-1) then (ZN (setS m who.toNat (OF (Z8 m.sm who.toNat) g)),0) else (m,3)) else (m,1)
theorem Ei {m:Z6} (h:ZI m=true) (who g:Int):ZI (Qw m who g).1=true:=by
 unfold Qw
 split
 ·rename_i hw
  obtain ⟨k,rfl,hk,hs⟩:=Yl hw;rw [show ((k:Int)).toNat=k by simp]
  split
  ·rename_i hg
   have:=ZO hg;exact YK (BT (ZK h) hk hs this.1 (by omega))
  ·exact h
 ·exact h
def SW (m:Z6) (r:Nat):Int:=Xn (ZR m.rm r) (YV m r m.dk.length).1
theorem CR {m:Z6} (h:Loose m) {r:Nat} (hr:r<m.rm.length):0<=SW m r/\SW m r<(ZR m.rm r).2.length:=by
 have hd:=h.head;unfold YD at hd;simp only [ZM,YW] at hd;obtain ⟨r1,r2,r3,r4⟩:=Zo hd.1;have hmem:ZR m.rm r ∈ m.rm:=by unfold ZR;simp [List.getD,hr]
 have hrb:=List.all_eq_true.1 r3 _ hmem;have hu:=Pa m r (Yz h) m.dk.length
 have hlen:1<=(ZR m.rm r).2.length:=by
  have hx:=hrb;unfold Ze at hx;simp only [ZM] at hx;have:=ZO hx.2.1;omega
 have hn:=GX (YV m r m.dk.length).1 (ZR m.rm r).2 hlen;unfold SW Xn;rw [hrb,Zn (by omega) (by omega)];simp only [Bool.and_self,if_true];omega
def Pj (m:Z6):Nat->Z6
 | 0=>m
 | k+1=>TI (Pj m k) k (SW m k)
theorem QN (m:Z6):∀ k,(Pj m k).rm=m.rm/\(Pj m k).gd=m.gd/\(Pj m k).sm=m.sm/\(Pj m k).dk=m.dk/\(Pj m k).now=m.now/\(Pj m k).pc.length=m.pc.length
 | 0=>⟨rfl,rfl,rfl,rfl,rfl,rfl⟩
 | k+1=>by
  obtain ⟨a,b,c,d,e,f⟩:=QN m k;refine ⟨a,b,c,d,e,?_⟩;show ((Pj m k).pc.set k _).length=_;rw [V7,f]
theorem JH {m:Z6} (h:Loose m):∀ k,k<=m.pc.length->Loose (Pj m k)
 | 0,_=>h
 | k+1,hk=>by
  have ih:=JH h k (by omega);have hd:=h.head;unfold YD at hd;simp only [ZM,YW] at hd;have hr:k<m.rm.length:=by have:=hd.2.2.2.2.1;omega
  have hw:=CR h hr;have hs:=(QN m k).1;exact JW ih (by rw [hs];exact hr) hw.1 (by rw [hs];exact hw.2)
def DL (m:Z6):Z6:=ZN (Pj m m.pc.length)
theorem Bu {m:Z6} (h:ZI m=true):ZI (DL m)=true:=YK (JH (ZK h) _ (Z2 _))
def S9 (m:Z6) (b:Int):Int:=(Z7 (ZR m.rm (Xo m.rm b)).2 (Z8 m.pc (Xo m.rm b)).toNat).1
def yP (s:Z3) (u:Int):Z3:=(s.1,s.2.1,s.2.2.1,s.2.2.2.1,s.2.2.2.2.1,s.2.2.2.2.2.1,s.2.2.2.2.2.2.1,s.2.2.2.2.2.2.2.1,s.2.2.2.2.2.2.2.2.1,u,s.2.2.2.2.2.2.2.2.2.2)
def Bk (s:Z3):Int:=s.2.2.2.2.2.2.2.2.2.1
def PU (m:Z6) (n:Int) (s:Z3):Option Z3:=
 if s.1=0 then some s else if s.1=3 then (if (WR s (n*S9 m s.2.1)).2 then some (yP (WR s (n*S9 m s.2.1)).1 (ZE (Bk (WR s (n*S9 m s.2.1)).1) (S9 m s.2.1) n)) else none) else some (yP s (ZE (Bk s) 0 n))
def Xw (m:Z6) (n:Int):Nat->Option (List Z3)
 | 0=>some m.sm
 | k+1=>match Xw m n k with
  | none=>none
  | some ss=>match PU m n (Z8 m.sm k) with
   | none=>none
   | some t=>some (ss.set k t)
theorem Oi {m:Z6} {n:Int} : ∀ {k:Nat} {ss:List Z3},Xw m n k=some ss->ss.length=m.sm.length/\ ∀ j,k<=j->Z8 ss j=Z8 m.sm j
 | 0,ss,h=>by cases h;exact ⟨rfl,fun _ _=>rfl⟩
 | k+1,ss,h=>by
  unfold Xw at h;cases ht:Xw m n k with
  | none=>rw [ht] at h;cases h
  | some s0=>
   rw [ht] at h;simp only at h;cases h1:PU m n (Z8 m.sm k) with
   | none=>rw [h1] at h;cases h
   | some t=>
    rw [h1] at h;cases h;obtain ⟨e1,e2⟩:=Oi ht;refine ⟨by simpa using e1,fun j hj=> ?_⟩;rw [<-e2 j (by omega)];unfold Z8;simp [List.getD,List.getElem?_set_ne (show k ≠ j by omega)]
theorem Oh {m:Z6} {n:Int} {k:Nat} : ∀ d,Xw m n k=none->Xw m n (k+d)=none
 | 0,h=>h
 | d+1,h=>by
  have:=Oh d h;show Xw m n (k+d+1)=none;unfold Xw;rw [this]
def Sg (m:Z6) (n:Int) (ss:List Z3):Z6:={ m with sm:=ss,now:=m.now+n }
def Sf (m:Z6) (n:Int):Z6 × Int:=
 if ZI m then (if inB n 1 20 then (match Xw m n m.sm.length with
  | none=>(m,4)
  | some ss=>if Yv (Sg m n ss) then (ZN (Sg m n ss),0) else (m,4)) else (m,3)) else (Yj,3)
theorem Fd {m:Z6} (h:ZI m=true) (n:Int):ZI (Sf m n).1=true:=by
 unfold Sf;rw [h];simp only [if_true]
 split
 ·split
  ·exact h
  ·split
   ·rename_i hl
    exact YK (Pz hl)
   ·exact h
 ·exact h
def Wg (v0 v1 v2 v3 v4:Value) (qs:List (ZZ × Value)) (k:Nat):Prop:=v0.ownBlock=some k\/(∃ q ∈ qs,q.2.ownBlock=some k)\/v1.ownBlock=some k\/v2.ownBlock=some k\/v3.ownBlock=some k\/v4.ownBlock=some k
section
variable {n₀ : Nat} {w w' : World} {v0 v1 v2 v3 v4 : Value} {m : Z6} {qs : List (ZZ × Value)}
theorem FullSmy.own (h:FullSmy n₀ w v0 v1 v2 v3 v4 m qs) {k:Nat} (e:Wg v0 v1 v2 v3 v4 qs k):n₀<=k/\k<w.heap.size:=by
 rcases e with e | e | e | e | e | e
 ·exact h.hall.lt (.inl e)
 ·exact h.hall.lt (.inr e)
 ·exact RecAt.lt h.gd e
 ·exact RecAt.lt h.sm e
 ·exact RecAt.lt h.dk e
 ·exact RecAt.lt h.pc e
theorem FullSmy.keep (h:FullSmy n₀ w v0 v1 v2 v3 v4 m qs) (hs:∀ k,Wg v0 v1 v2 v3 v4 qs k->w'.heap[k]?=w.heap[k]?):FullSmy n₀ w' v0 v1 v2 v3 v4 m qs:=
 ⟨⟨Xm h.hall.row (fun k e=>hs k (.inl e)),fun q hq=>Xm (h.hall.pc q hq) (fun k e=>hs k (.inr (.inl ⟨q,hq,e⟩))),h.hall.off,h.hall.apart⟩,h.rm,RecAt.same h.gd fun k e=>hs k (.inr (.inr (.inl e))),RecAt.same h.sm fun k e=>hs k (.inr (.inr (.inr (.inl e)))),RecAt.same h.dk fun k e=>hs k (.inr (.inr (.inr (.inr (.inl e))))),RecAt.same h.pc fun k e=>hs k (.inr (.inr (.inr (.inr (.inr e))))),h.h1,h.h2,h.h3,h.h4,h.a12,h.a13,h.a14,h.a23,h.a24,h.a34⟩
end
end Go.Proofs.YtamgfpdahadnfaaGreatDoor
namespace Go.Proofs.YtamgfpdahadnfaaGreatDoor
open Go.ChangeShapes Go.WideShapes Go.ChangeAt Go.RowKit Go.Sort Go.Shelf
set_option linter.unusedVariables false
set_option linter.unusedSimpArgs false
set_option maxRecDepth 100000
structure Nx (w W:World) (R:Nat) (v0 v1 v2 v3 v4:Value) (m:Z6) (qs:List (ZZ × Value)):Prop where
 full:FullSmy w.heap.size W v0 v1 v2 v3 v4 m qs
 blk:Blk W R 32 #[v0,v1,v2,v3,v4,.int .i64 m.now]
 own:∀ k,Wg v0 v1 v2 v3 v4 qs k->k ≠ R
 bb:Below w.heap.size w W
 hR:w.heap.size<=R
section
variable {w W X : World} {R : Nat} {v0 v1 v2 v3 v4 : Value} {m : Z6} {qs : List (ZZ × Value)}
theorem Nx.next (h:Nx w W R v0 v1 v2 v3 v4 m qs) (hb:Below W.heap.size W X):Nx w X R v0 v1 v2 v3 v4 m qs:=⟨h.full.below hb,h.blk.below hb h.blk.lt,h.own,h.bb.trans (hb.mono h.bb.size),h.hR⟩
theorem Nx.cells (h:Nx w W R v0 v1 v2 v3 v4 m qs):W.cell? ⟨R,0,none⟩=some v0/\W.cell? ⟨R,1,none⟩=some v1/\W.cell? ⟨R,2,none⟩=some v2/\W.cell? ⟨R,3,none⟩=some v3/\W.cell? ⟨R,4,none⟩=some v4/\W.cell? ⟨R,5,none⟩=some (.int .i64 m.now):=h.blk.c6
theorem Nx.putS {g n cap:Nat} (h:Nx w W R v0 v1 (.slice (some ⟨g,0,none⟩) n cap) v3 v4 m qs) (hn:n=m.sm.length) {j i:Nat} (hj:j<m.sm.length) (hi:i<11) (u:Value) (x:Z3) (hx:ZU x=(ZU (Z8 m.sm j)).set i u):Nx w (W.setCell ⟨g,j*11+i,none⟩ u) R v0 v1 (.slice (some ⟨g,0,none⟩) n cap) v3 v4 (setS m j x) qs:=by
 have hg:=h.full.own (k:=g) (.inr (.inr (.inr (.inl rfl))));have hgR:=h.own g (.inr (.inr (.inr (.inl rfl))));exact ⟨h.full.putS hn hj hi u x hx,h.blk.other (a:=⟨g,j*11+i,none⟩) (fun e=>hgR e.symm) u,h.own,h.bb.setCell (p:=⟨g,j*11+i,none⟩) hg.1 u,h.hR⟩
theorem Nx.putW {g n cap:Nat} (h:Nx w W R v0 v1 (.slice (some ⟨g,0,none⟩) n cap) v3 v4 m qs) (hn:n=m.sm.length) {j:Nat} (hj:j<m.sm.length) (x:Z3):Nx w (QG W g (j*11) (ZU x)) R v0 v1 (.slice (some ⟨g,0,none⟩) n cap) v3 v4 (setS m j x) qs:=by
 have hg:=h.full.own (k:=g) (.inr (.inr (.inr (.inl rfl))));have hgR:=h.own g (.inr (.inr (.inr (.inl rfl))));obtain ⟨_,hgr⟩:=RecAt.put ZX (by omega) h.full.sm hn hj x;exact ⟨h.full.putW hn hj x,h.blk.same (hgr.block R h.blk.lt (fun e=>hgR (by cases e;rfl))),h.own,h.bb.grown hgr h.bb.size (fun k e=>by cases e;exact hg.1),h.hR⟩
end
def Chg (w:World) (R:Nat) (q:Int->Addr) (X:Z6) (c:Int) (e:Ending) (W':World):Prop:=
 Below w.heap.size w W'/\((c=0/\e= .returned .nilIface/\ ∃ u0 u1 u2 u3 u4 rs,Nx w W' R u0 u1 u2 u3 u4 X rs)\/((c=1\/c=2\/c=3\/c=4\/c=5)/\e= .returned (YJ (q c))))
theorem O0 (m:Z6) (k:Nat) (s t:Z3):setS (setS m k s) k t=setS m k t:=by unfold setS;simp
structure Ny (F:Nat->TypeId->Array Value->Prop) (w W:World) (R:Nat) (v0 v1 v2 v3 v4:Value) (m:Z6) (qs:List (ZZ × Value)):Prop where
 nx:Nx w W R v0 v1 v2 v3 v4 m qs
 fx:∀ k t cs,F k t cs->Blk W k t cs/\k ≠ R/\ ¬ Wg v0 v1 v2 v3 v4 qs k
section
variable {F : Nat → TypeId → Array Value → Prop} {w W X : World} {R : Nat} {v0 v1 v2 v3 v4 : Value} {m : Z6} {qs : List (ZZ × Value)}
theorem Ny.full (h:Ny F w W R v0 v1 v2 v3 v4 m qs):FullSmy w.heap.size W v0 v1 v2 v3 v4 m qs:=h.nx.full
theorem Ny.blk (h:Ny F w W R v0 v1 v2 v3 v4 m qs):Blk W R 32 #[v0,v1,v2,v3,v4,.int .i64 m.now]:=h.nx.blk
theorem Ny.bb (h:Ny F w W R v0 v1 v2 v3 v4 m qs):Below w.heap.size w W:=h.nx.bb
theorem Ny.fb (h:Ny F w W R v0 v1 v2 v3 v4 m qs):∀ k t cs,F k t cs->Blk W k t cs:=fun k t cs e=>(h.fx k t cs e).1
theorem Ny.next (h:Ny F w W R v0 v1 v2 v3 v4 m qs) (hb:Below W.heap.size W X):Ny F w X R v0 v1 v2 v3 v4 m qs:=⟨h.nx.next hb,fun k t cs e=>⟨(h.fx k t cs e).1.below hb (h.fx k t cs e).1.lt,(h.fx k t cs e).2⟩⟩
theorem Ny.cells (h:Ny F w W R v0 v1 v2 v3 v4 m qs):W.cell? ⟨R,0,none⟩=some v0/\W.cell? ⟨R,1,none⟩=some v1/\W.cell? ⟨R,2,none⟩=some v2/\W.cell? ⟨R,3,none⟩=some v3/\W.cell? ⟨R,4,none⟩=some v4/\W.cell? ⟨R,5,none⟩=some (.int .i64 m.now):=h.nx.cells
theorem Ny.putS {g n cap:Nat} (h:Ny F w W R v0 v1 (.slice (some ⟨g,0,none⟩) n cap) v3 v4 m qs) (hn:n=m.sm.length) {j i:Nat} (hj:j<m.sm.length) (hi:i<11) (u:Value) (x:Z3) (hx:ZU x=(ZU (Z8 m.sm j)).set i u):Ny F w (W.setCell ⟨g,j*11+i,none⟩ u) R v0 v1 (.slice (some ⟨g,0,none⟩) n cap) v3 v4 (setS m j x) qs:=
 ⟨h.nx.putS hn hj hi u x hx,fun k t cs e=>⟨(h.fx k t cs e).1.other (a:=⟨g,j*11+i,none⟩) (fun e2=>(h.fx k t cs e).2.2 (.inr (.inr (.inr (.inl (by rw [e2];rfl)))))) u,(h.fx k t cs e).2⟩⟩
theorem Ny.putW {g n cap:Nat} (h:Ny F w W R v0 v1 (.slice (some ⟨g,0,none⟩) n cap) v3 v4 m qs) (hn:n=m.sm.length) {j:Nat} (hj:j<m.sm.length) (x:Z3):Ny F w (QG W g (j*11) (ZU x)) R v0 v1 (.slice (some ⟨g,0,none⟩) n cap) v3 v4 (setS m j x) qs:=by
 obtain ⟨_,hgr⟩:=RecAt.put ZX (by omega) h.nx.full.sm hn hj x;exact ⟨h.nx.putW hn hj x,fun k t cs e=>⟨(h.fx k t cs e).1.same (hgr.block k (h.fx k t cs e).1.lt (fun e2=>(h.fx k t cs e).2.2 (.inr (.inr (.inr (.inl e2.symm)))))),(h.fx k t cs e).2⟩⟩
end
end Go.Proofs.YtamgfpdahadnfaaGreatDoor
namespace Go.Proofs.YtamgfpdahadnfaaGreatDoor
open Go.ChangeShapes Go.WideShapes Go.ChangeAt Go.RowKit Go.Sort
set_option linter.unusedVariables false
structure Bx (w W:World) (R:Nat) (a0:Option Addr) (p0:Nat) (a1:Option Addr) (p1:Nat) (a2:Option Addr) (p2:Nat) (a3:Option Addr) (p3:Nat) (a4:Option Addr) (p4:Nat) (m:Z6):Prop where
 smy:Smy W (.slice a0 m.rm.length p0) (.slice a1 m.gd.length p1) (.slice a2 m.sm.length p2) (.slice a3 m.dk.length p3) (.slice a4 m.pc.length p4) m
 blk:Blk W R 32 (S6 a0 p0 a1 p1 a2 p2 a3 p3 a4 p4 m)
 bb:Below w.heap.size w W
section
variable {w W X : World} {R : Nat} {a0 a1 a2 a3 a4 : Option Addr} {p0 p1 p2 p3 p4 : Nat} {m : Z6}
theorem Bx.next (h:Bx w W R a0 p0 a1 p1 a2 p2 a3 p3 a4 p4 m) (hb:Below W.heap.size W X):Bx w X R a0 p0 a1 p1 a2 p2 a3 p3 a4 p4 m:=⟨h.smy.below hb,h.blk.below hb h.blk.lt,h.bb.trans (hb.mono h.bb.size)⟩
theorem Bx.alloc (h:Bx w W R a0 p0 a1 p1 a2 p2 a3 p3 a4 p4 m) (o:Obj):Bx w (W.alloc o) R a0 p0 a1 p1 a2 p2 a3 p3 a4 p4 m:=h.next ((ba _ _))
theorem Bx.drew (h:Bx w W R a0 p0 a1 p1 a2 p2 a3 p3 a4 p4 m):Bx w W.drew R a0 p0 a1 p1 a2 p2 a3 p3 a4 p4 m:=h.next (Z1 _ _).drew
theorem Bx.cells (h:Bx w W R a0 p0 a1 p1 a2 p2 a3 p3 a4 p4 m):W.cell? ⟨R,0,none⟩=some (.slice a0 m.rm.length p0)/\W.cell? ⟨R,1,none⟩=some (.slice a1 m.gd.length p1)/\W.cell? ⟨R,2,none⟩=some (.slice a2 m.sm.length p2)/\W.cell? ⟨R,3,none⟩=some (.slice a3 m.dk.length p3)/\W.cell? ⟨R,4,none⟩=some (.slice a4 m.pc.length p4)/\W.cell? ⟨R,5,none⟩=some (.int .i64 m.now):=h.blk.c6
end
theorem Bx.new {w:World} {v0 v1 v2 v3 v4:Value} {m:Z6} (h:Smy w v0 v1 v2 v3 v4 m):∃ a0 p0 a1 p1 a2 p2 a3 p3 a4 p4,v0= .slice a0 m.rm.length p0/\v1= .slice a1 m.gd.length p1/\v2= .slice a2 m.sm.length p2/\v3= .slice a3 m.dk.length p3/\v4= .slice a4 m.pc.length p4/\Bx w (w.alloc (.cells (S6 a0 p0 a1 p1 a2 p2 a3 p3 a4 p4 m) 32)) w.heap.size a0 p0 a1 p1 a2 p2 a3 p3 a4 p4 m:=by
 obtain ⟨a0,p0,a1,p1,a2,p2,a3,p3,a4,p4,rfl,rfl,rfl,rfl,rfl,_⟩:=h.five;exact ⟨a0,p0,a1,p1,a2,p2,a3,p3,a4,p4,rfl,rfl,rfl,rfl,rfl,h.alloc _,Blk.new _ _ _,(ba _ _)⟩
theorem Bx.put {w W:World} {v0 v1 v2 v3 v4:Value} {m:Z6} (h:Smy W v0 v1 v2 v3 v4 m) (hb:Below w.heap.size w W):∃ a0 p0 a1 p1 a2 p2 a3 p3 a4 p4,v0= .slice a0 m.rm.length p0/\v1= .slice a1 m.gd.length p1/\v2= .slice a2 m.sm.length p2/\v3= .slice a3 m.dk.length p3/\v4= .slice a4 m.pc.length p4/\Bx w (W.alloc (.cells (S6 a0 p0 a1 p1 a2 p2 a3 p3 a4 p4 m) 32)) W.heap.size a0 p0 a1 p1 a2 p2 a3 p3 a4 p4 m:=by
 obtain ⟨a0,p0,a1,p1,a2,p2,a3,p3,a4,p4,rfl,rfl,rfl,rfl,rfl,_⟩:=h.five;exact ⟨a0,p0,a1,p1,a2,p2,a3,p3,a4,p4,rfl,rfl,rfl,rfl,rfl,h.alloc _,Blk.new _ _ _,hb.trans (((ba _ _)).mono hb.size)⟩
end Go.Proofs.YtamgfpdahadnfaaGreatDoor
namespace Go.Proofs.YtamgfpdahadnfaaGreatDoor
open Go.ChangeShapes Go.WideShapes Go.ChangeAt Go.RowKit Go.Sort
set_option linter.unusedVariables false
theorem Ix {m:Z6} (h:Loose m) (k:Nat) (hk:k<=m.dk.length):Loose (Zj m k):=by
 obtain ⟨e1,e2,e3,e4,e5,e6⟩:=ZG m k;have hd:=fun j=>V1 m j k hk
 have hopen:∀ j,(Z8 (Zj m k).dk j).1=(Z8 m.dk j).1:=by
  intro j;rw [hd j]
  split
  ·unfold WH;split<;>rfl
  ·rfl
 have hmark:∀ j,j<m.dk.length->(-900000000000<=(Z8 (Zj m k).dk j).2.2/\(Z8 (Zj m k).dk j).2.2<=900000000000)/\(Z8 m.dk j).2.2<=(Z8 (Zj m k).dk j).2.2/\((Z8 (Zj m k).dk j).2.2<=(Z8 m.dk j).2.2\/ ∀ i,i<m.sm.length->(Z8 m.sm i).2.1=(j:Int)->ZL (Z8 m.sm i)=true->(Z8 (Zj m k).dk j).2.2<=Xq (Z8 m.sm i)):=by
  intro j hj;obtain ⟨k0,k1⟩:=Rk (h.desk j hj);rw [hd j]
  split
  ·unfold WH
   split
   ·exact ⟨⟨k0,k1⟩,Int.le_refl _,.inl (Int.le_refl _)⟩
   ·rename_i e t hq
    obtain ⟨_,i,hi,hib,hip,rfl⟩:=Sp hq;obtain ⟨_,_,_,_,hband⟩:=h.at hi hip;obtain ⟨a0,a1,_⟩:=TZ hband;have hm:=J3 (m:=(Z8 m.dk j).2.2) (f:=Xq (Z8 m.sm i)) (by omega) (by omega) a0 a1;show (-900000000000<=Zv _ _/\Zv _ _<=900000000000)/\_<=Zv _ _/\(Zv _ _<=_\/_)
    rw [hm];refine ⟨by omega,by omega,?_⟩;by_cases hc:Xq (Z8 m.sm i)<=(Z8 m.dk j).2.2
    ·left;omega
    ·right
     intro i' hi' hb' hp';have:=NR hq hi' hb' hp';simp only at this;show min (max (Z8 m.dk j).2.2 (Xq (Z8 m.sm i))) 900000000000<=_;omega
  ·exact ⟨⟨k0,k1⟩,Int.le_refl _,.inl (Int.le_refl _)⟩
 refine ⟨?_,?_,?_,?_,?_,?_⟩
 ·have:=h.head
  unfold YD at this ⊢;rw [e1,e2,e3,e4,e5,e6];exact this
 ·intro j hj
  have hj':j<m.dk.length:=by omega
  exact Zn (hmark j hj').1.1 (hmark j hj').1.2
 ·intro j hj
  have hj':j<m.pc.length:=by rw [e3] at hj;exact hj
  have:=h.pace j hj';unfold V4 at this ⊢;rw [e1,e3];exact this
 ·intro i hi
  have hi':i<m.sm.length:=by omega
  rw [Wu (m:=m) (by rw [e2]) (by rw [e6])];rw [XB m hi']
  split
  ·rename_i hp
   exact LM (h.here i hi') hp.2 (by split<;>omega) (by split<;>omega)
  ·exact h.here i hi'
 ·intro i hi
  have hi':i<m.sm.length:=by omega
  have ha:=WA m k i hi';unfold XL;show (!ZL (Z8 (Zj m k).sm i) || _)=true;rw [ha.2.1];cases hp:ZL (Z8 m.sm i)
  ·rfl
  ·obtain ⟨b0,b1,ho,hm,hband⟩:=h.at hi' hp
   obtain ⟨a0,a1,a2,a3,a4,a5⟩:=TZ hband;obtain ⟨⟨q0,q1⟩,q2,q3⟩:=hmark (Z8 m.sm i).2.1.toNat (by omega)
   have hmay:(Z8 (Zj m k).sm i).2.2.2.1=(Z8 m.sm i).2.2.2.1:=by
    rw [XB m hi'];split<;>rfl
   show (!true || ((Z8 (Zj m k).dk (Z8 (Zj m k).sm i).2.1.toNat).1 && (WI (Z8 (Zj m k).sm i).2.2.2.1 (Z8 (Zj m k).sm i).2.1 && WE (Xq (Z8 (Zj m k).sm i)) (Z8 (Zj m k).dk (Z8 (Zj m k).sm i).2.1.toNat).2.2)))=true;rw [ha.1,ha.2.2,hmay,hopen,ho,hm];rw [M7 a0 a1 (by omega) (by omega) ?_ (by omega)]
   ·rfl
   ·rcases q3 with q3 | q3
    ·omega
    ·have:=q3 i hi' (by omega) hp
     omega
 ·obtain ⟨j,hj,ho⟩:=h.openD
  exact ⟨j,by omega,by rw [hopen];exact ho⟩
theorem PI {α:Type} [Inhabited α] {xs ys:List α} (hl:xs.length=ys.length) (h:∀ i,i<xs.length->Z8 xs i=Z8 ys i):xs=ys:=by
 apply List.ext_getElem hl;intro i h1 h2;have:=h i h1;unfold Z8 at this
 rwa [List.getD_eq_getElem?_getD,List.getD_eq_getElem?_getD,List.getElem?_eq_getElem h1,List.getElem?_eq_getElem h2] at this
theorem Bh {ss:List Z3} {b:Int} {e:Z4} {t:List Z4} (h:atV ss b ss.length=e::t):(ZD ss (e::t)).set e.2.toNat (stS (Z8 (ZD ss (e::t)) e.2.toNat) 3)=ZD (ss.set e.2.toNat (stS (Z8 ss e.2.toNat) 3)) t:=by
 have hmem:∀ x ∈ e::t,0<=x.2/\x.2<ss.length:=fun x hx=>by
  rw [<-h] at hx;obtain ⟨i,hi,_,_,rfl⟩:=(XF ss b x ss.length).1 hx;exact ⟨by show (0:Int)<=(i:Int);omega,by show (i:Int)<_;omega⟩
 have hw:=S0 ss b ss.length;rw [h,List.pairwise_cons] at hw;obtain ⟨he0,he1⟩:=hmem e (List.mem_cons_self ..);have hel:e.2.toNat<ss.length:=by omega
 have hse:∀ x ∈ t,0<=x.2/\x.2<(ss.set e.2.toNat (stS (Z8 ss e.2.toNat) 3)).length:=fun x hx=>by rw [V7];exact hmem x (List.mem_cons_of_mem _ hx)
 refine PI (by rw [V7,XC,XC,V7]) fun i hi=> ?_;rw [V7,XC] at hi;rw [ZJ (by rw [XC];exact hel)];obtain ⟨p1,p2⟩:=Qq (e::t) ss i hmem;obtain ⟨r1,r2⟩:=Qq t (ss.set e.2.toNat (stS (Z8 ss e.2.toNat) 3)) i hse;by_cases hie:i=e.2.toNat
 ·subst hie
  have hn:∀ x ∈ t,x.2 ≠ ((e.2.toNat:Nat):Int):=fun x hx e9=>hw.1 x hx (by omega);rw [if_pos rfl,r2 hn,ZJ hel,if_pos rfl,p1 ⟨e,List.mem_cons_self ..,by omega⟩];rfl
 ·rw [if_neg hie]
  by_cases hx:∃ x ∈ t,x.2=(i:Int)
  ·obtain ⟨x,hx,hxi⟩:=hx
   rw [p1 ⟨x,List.mem_cons_of_mem _ hx,hxi⟩,r1 ⟨x,hx,hxi⟩,ZJ hel,if_neg hie]
  ·have hn:∀ x ∈ t,x.2 ≠ (i:Int):=fun x hx' e9=>hx ⟨x,hx',e9⟩
   rw [p2 (fun x hx'=>by
    rcases List.mem_cons.1 hx' with rfl | hx'
    ·omega
    ·exact hn x hx'),r2 hn,ZJ hel,if_neg hie]
def YX (m:Z6):Z6:=if Yv m then ZN m else Yj
theorem FullSmy.set_off {n₀:Nat} {w:World} {v0 v1 v2 v3 v4:Value} {m:Z6} {qs:List (ZZ × Value)} (h:FullSmy n₀ w v0 v1 v2 v3 v4 m qs) {g:Nat} (ho:∀ k,(v0.ownBlock=some k\/(∃ q ∈ qs,q.2.ownBlock=some k)\/v1.ownBlock=some k\/v2.ownBlock=some k\/v3.ownBlock=some k\/v4.ownBlock=some k)->k ≠ g) (o:Nat) (u:Value):FullSmy n₀ (w.setCell ⟨g,o,none⟩ u) v0 v1 v2 v3 v4 m qs:=by
 have hne:∀ k,k ≠ g->(w.setCell ⟨g,o,none⟩ u).heap[k]?=w.heap[k]?:=fun k hk=>heap_setCell_other w _ k u hk;exact ⟨h.hall.same2 fun k e=>hne k (ho k (by rcases e with e | e;exact .inl e;exact .inr (.inl e))),h.rm,RecAt.same h.gd fun k e=>hne k (ho k (.inr (.inr (.inl e)))),RecAt.same h.sm fun k e=>hne k (ho k (.inr (.inr (.inr (.inl e))))),RecAt.same h.dk fun k e=>hne k (ho k (.inr (.inr (.inr (.inr (.inl e)))))),RecAt.same h.pc fun k e=>hne k (ho k (.inr (.inr (.inr (.inr (.inr e)))))),h.h1,h.h2,h.h3,h.h4,h.a12,h.a13,h.a14,h.a23,h.a24,h.a34⟩
theorem Yr (n₀:Nat) (w:World):FullSmy n₀ w (.slice none 0 0) (.slice none 0 0) (.slice none 0 0) (.slice none 0 0) (.slice none 0 0) Yj []:=by
 have hz:Lh (.slice none 0 0) (.slice none 0 0):=fun b e=>by cases e
 exact ⟨OwnHall.nil _ _,rfl,World.ownsRow_nil _ _ _ _,World.ownsRow_nil _ _ _ _,World.ownsRow_nil _ _ _ _,World.ownsRow_nil _ _ _ _,⟨hz,fun q hq=>by cases hq⟩,⟨hz,fun q hq=>by cases hq⟩,⟨hz,fun q hq=>by cases hq⟩,⟨hz,fun q hq=>by cases hq⟩,hz,hz,hz,hz,hz,hz⟩
open Go.ChangeShapes Go.WideShapes Go.ChangeAt Go.RowKit Go.Sort Go.Shelf
set_option linter.unusedSimpArgs false
set_option maxRecDepth 100000
theorem Bf {a0 a1 a2 a3 a4:Option Addr} {n0 n1 n2 n3 n4 p0 p1 p2 p3 p4:Nat} {now:Int} {W:World} : Calls Tryz.prog 42 #[.agg #[.slice a0 n0 p0,.slice a1 n1 p1,.slice a2 n2 p2,.slice a3 n3 p3,.slice a4 n4 p4,.int .i64 now],.nilIface] W fun e w'=>e= .returned (.tuple #[.agg #[.slice a0 n0 p0,.slice a1 n1 p1,.slice a2 n2 p2,.slice a3 n3 p3,.slice a4 n4 p4,.int .i64 now],.int .i64 0])/\Below W.heap.size W w':=by
 have kb:Hid (Blk (((W.alloc (.cells #[.slice a0 n0 p0,.slice a1 n1 p1,.slice a2 n2 p2,.slice a3 n3 p3,.slice a4 n4 p4,.int .i64 now] 32)).alloc (.cells E6 32)).alloc (.cells #[.pointer none] 96)) W.heap.size 32 #[.slice a0 n0 p0,.slice a1 n1 p1,.slice a2 n2 p2,.slice a3 n3 p3,.slice a4 n4 p4,.int .i64 now]):=Z9 (((Blk.new W _ _).alloc _).alloc _)
 have kr:Hid (Blk (((W.alloc (.cells #[.slice a0 n0 p0,.slice a1 n1 p1,.slice a2 n2 p2,.slice a3 n3 p3,.slice a4 n4 p4,.int .i64 now] 32)).alloc (.cells E6 32)).alloc (.cells #[.pointer none] 96)) (W.heap.size+1) 32 E6):=Z9 (by
  have k:=Blk.new (W.alloc (.cells #[.slice a0 n0 p0,.slice a1 n1 p1,.slice a2 n2 p2,.slice a3 n3 p3,.slice a4 n4 p4,.int .i64 now] 32)) 32 E6;rw [ZB] at k
  exact k.alloc _)
 have kv:Hid (Blk (((W.alloc (.cells #[.slice a0 n0 p0,.slice a1 n1 p1,.slice a2 n2 p2,.slice a3 n3 p3,.slice a4 n4 p4,.int .i64 now] 32)).alloc (.cells E6 32)).alloc (.cells #[.pointer none] 96)) (W.heap.size+1+1) 96 #[.pointer none]):=Z9 (by
  have k:=Blk.new ((W.alloc (.cells #[.slice a0 n0 p0,.slice a1 n1 p1,.slice a2 n2 p2,.slice a3 n3 p3,.slice a4 n4 p4,.int .i64 now] 32)).alloc (.cells E6 32)) 96 #[.pointer none];rw [ZB,ZB] at k
  exact k)
 have BB:Hid (Below W.heap.size W (((W.alloc (.cells #[.slice a0 n0 p0,.slice a1 n1 p1,.slice a2 n2 p2,.slice a3 n3 p3,.slice a4 n4 p4,.int .i64 now] 32)).alloc (.cells E6 32)).alloc (.cells #[.pointer none] 96))):=Z9 ((((ba _ _)).alloc (by simp) _).alloc (by simp;omega) _);have hsz:(((W.alloc (.cells #[.slice a0 n0 p0,.slice a1 n1 p1,.slice a2 n2 p2,.slice a3 n3 p3,.slice a4 n4 p4,.int .i64 now] 32)).alloc (.cells E6 32)).alloc (.cells #[.pointer none] 96)).heap.size=W.heap.size+1+1+1:=by simp
 go_enter Tryz.func42,Tryz.ntmps42;go_wp2_with fail;generalize (((W.alloc (.cells #[.slice a0 n0 p0,.slice a1 n1 p1,.slice a2 n2 p2,.slice a3 n3 p3,.slice a4 n4 p4,.int .i64 now] 32)).alloc (.cells E6 32)).alloc (.cells #[.pointer none] 96))=W1 at *;refine ck (xO _ _) fun w1 h9=> ?_;subst w1;obtain ⟨t0,t1,t2,t3,t4,t5⟩:=(uh kb).c6;go_wp2_with fail;refine ZP (S:=fun w'=>w'.cell? ⟨W.heap.size,0,none⟩=some (.slice a0 n0 p0)/\w'.cell? ⟨W.heap.size,1,none⟩=some (.slice a1 n1 p1)/\w'.cell? ⟨W.heap.size,2,none⟩=some (.slice a2 n2 p2)/\w'.cell? ⟨W.heap.size,3,none⟩=some (.slice a3 n3 p3)/\w'.cell? ⟨W.heap.size,4,none⟩=some (.slice a4 n4 p4)/\w'.cell? ⟨W.heap.size,5,none⟩=some (.int .i64 now)) (by kernel_rfl) (Xs _ _) (by kernel_rfl) ⟨t0,t1,t2,t3,t4,t5⟩ (fun hHeld=> ?_);simp only [Xt,Xu,YT,YM,Nat.zero_add,Nat.reduceAdd];have hbd:Below W1.heap.size W1 W1.drew:=(Z1 _ _).drew;replace kr:=bl kr hbd;replace BB:=bt BB hbd;replace kb:=bl kb hbd;clear t0 t1 t2 t3 t4 t5;clear hbd;generalize W1.drew=W5 at *;obtain ⟨t0,t1,t2,t3,t4,t5⟩:=(uh kb).c6
 iterate 2 refine tz ?_
 refine wpAnyH_ready (rs:=[2]) (by kernel_rfl) (by simp) ?_;refine AllReadyH.cons rfl (fun K0 hK=> ?_) AllReadyH.nil;go_simp;refine ck (DY _) fun w9 h9=> ?_;subst w9;refine hK.out _ _ ⟨t0,t1,t2,t3,t4,t5⟩ (fun hHeld=> ?_);clear hK K0
 (try simp only [Act.put,sA,sZ,sS])
 obtain ⟨o0,o1,o2,o3,o4,o5⟩:=(uh kr).c6;obtain ⟨f0,f1,f2,f3,f4,f5⟩:=(uh kr).f6;have kbN:Blk ((((((W5.setCell ⟨W.heap.size+1,0,none⟩ (.slice a0 n0 p0)).setCell ⟨W.heap.size+1,1,none⟩ (.slice a1 n1 p1)).setCell ⟨W.heap.size+1,2,none⟩ (.slice a2 n2 p2)).setCell ⟨W.heap.size+1,3,none⟩ (.slice a3 n3 p3)).setCell ⟨W.heap.size+1,4,none⟩ (.slice a4 n4 p4)).setCell ⟨W.heap.size+1,5,none⟩ (.int .i64 now)) W.heap.size 32 #[.slice a0 n0 p0,.slice a1 n1 p1,.slice a2 n2 p2,.slice a3 n3 p3,.slice a4 n4 p4,.int .i64 now]:=(((((((uh kb).other (a:=⟨W.heap.size+1,0,none⟩) (by show W.heap.size ≠ W.heap.size+1;omega) (.slice a0 n0 p0)).other (a:=⟨W.heap.size+1,1,none⟩) (by show W.heap.size ≠ W.heap.size+1;omega) (.slice a1 n1 p1)).other (a:=⟨W.heap.size+1,2,none⟩) (by show W.heap.size ≠ W.heap.size+1;omega) (.slice a2 n2 p2)).other (a:=⟨W.heap.size+1,3,none⟩) (by show W.heap.size ≠ W.heap.size+1;omega) (.slice a3 n3 p3)).other (a:=⟨W.heap.size+1,4,none⟩) (by show W.heap.size ≠ W.heap.size+1;omega) (.slice a4 n4 p4)).other (a:=⟨W.heap.size+1,5,none⟩) (by show W.heap.size ≠ W.heap.size+1;omega) (.int .i64 now))
 refine wpAnyH_ready (rs:=[3]) (by kernel_rfl) (by simp) ?_;refine AllReadyH.cons rfl (fun K0 hK=> ?_) AllReadyH.nil;go_simp;refine hK.out _ _ ⟨kbN.cell (i:=0) rfl,kbN.cell (i:=1) rfl,kbN.cell (i:=2) rfl,kbN.cell (i:=3) rfl,kbN.cell (i:=4) rfl,kbN.cell (i:=5) rfl⟩ (fun hHeld=> ?_);clear hK K0
 (try simp only [Act.put,sA,sZ,sS])
 refine wpAnyH_done (by kernel_rfl) ?_ _;refine ZF rfl rfl ?_;go_simp;clear hHeld;go_wp2_with fail;refine ZS (v:= .tuple #[.agg #[.slice a0 n0 p0,.slice a1 n1 p1,.slice a2 n2 p2,.slice a3 n3 p3,.slice a4 n4 p4,.int .i64 now],.int .i64 0]) (by simp [results,Tryz.results42,go_sem, *]) rfl ⟨rfl,?_⟩
 iterate 6 (refine YS ?_ (by show _<=W.heap.size+1;omega) _)
 exact uh BB
theorem CE {a0 a1 a2 a3 a4:Option Addr} {n0 n1 n2 n3 n4 p0 p1 p2 p3 p4:Nat} {now:Int} {W:World} {q:Int->Addr} (he:Errs W q):Calls Tryz.prog 42 #[.agg #[.slice a0 n0 p0,.slice a1 n1 p1,.slice a2 n2 p2,.slice a3 n3 p3,.slice a4 n4 p4,.int .i64 now],YJ (q 3)] W fun e w'=>e= .returned (.tuple #[.agg #[.slice a0 n0 p0,.slice a1 n1 p1,.slice a2 n2 p2,.slice a3 n3 p3,.slice a4 n4 p4,.int .i64 now],.int .i64 3])/\Below W.heap.size W w':=by
 have HE:=Z9 he;clear he;have kb:Hid (Blk (((W.alloc (.cells #[.slice a0 n0 p0,.slice a1 n1 p1,.slice a2 n2 p2,.slice a3 n3 p3,.slice a4 n4 p4,.int .i64 now] 32)).alloc (.cells E6 32)).alloc (.cells #[.pointer none] 96)) W.heap.size 32 #[.slice a0 n0 p0,.slice a1 n1 p1,.slice a2 n2 p2,.slice a3 n3 p3,.slice a4 n4 p4,.int .i64 now]):=Z9 (((Blk.new W _ _).alloc _).alloc _)
 have kr:Hid (Blk (((W.alloc (.cells #[.slice a0 n0 p0,.slice a1 n1 p1,.slice a2 n2 p2,.slice a3 n3 p3,.slice a4 n4 p4,.int .i64 now] 32)).alloc (.cells E6 32)).alloc (.cells #[.pointer none] 96)) (W.heap.size+1) 32 E6):=Z9 (by
  have k:=Blk.new (W.alloc (.cells #[.slice a0 n0 p0,.slice a1 n1 p1,.slice a2 n2 p2,.slice a3 n3 p3,.slice a4 n4 p4,.int .i64 now] 32)) 32 E6;rw [ZB] at k
  exact k.alloc _)
 have kv:Hid (Blk (((W.alloc (.cells #[.slice a0 n0 p0,.slice a1 n1 p1,.slice a2 n2 p2,.slice a3 n3 p3,.slice a4 n4 p4,.int .i64 now] 32)).alloc (.cells E6 32)).alloc (.cells #[.pointer none] 96)) (W.heap.size+1+1) 96 #[.pointer none]):=Z9 (by
  have k:=Blk.new ((W.alloc (.cells #[.slice a0 n0 p0,.slice a1 n1 p1,.slice a2 n2 p2,.slice a3 n3 p3,.slice a4 n4 p4,.int .i64 now] 32)).alloc (.cells E6 32)) 96 #[.pointer none];rw [ZB,ZB] at k
  exact k)
 have BB:Hid (Below W.heap.size W (((W.alloc (.cells #[.slice a0 n0 p0,.slice a1 n1 p1,.slice a2 n2 p2,.slice a3 n3 p3,.slice a4 n4 p4,.int .i64 now] 32)).alloc (.cells E6 32)).alloc (.cells #[.pointer none] 96))):=Z9 ((((ba _ _)).alloc (by simp) _).alloc (by simp;omega) _);have hsz:(((W.alloc (.cells #[.slice a0 n0 p0,.slice a1 n1 p1,.slice a2 n2 p2,.slice a3 n3 p3,.slice a4 n4 p4,.int .i64 now] 32)).alloc (.cells E6 32)).alloc (.cells #[.pointer none] 96)).heap.size=W.heap.size+1+1+1:=by simp
 have HX:=Z9 ((uh HE).below (uh BB));go_enter Tryz.func42,Tryz.ntmps42;go_wp2_with fail;generalize (((W.alloc (.cells #[.slice a0 n0 p0,.slice a1 n1 p1,.slice a2 n2 p2,.slice a3 n3 p3,.slice a4 n4 p4,.int .i64 now] 32)).alloc (.cells E6 32)).alloc (.cells #[.pointer none] 96))=W1 at *;refine ck (xC (q 3) _ _ (uh HX).ct) fun w1 hb=> ?_;replace kb:=bl kb hb;replace kr:=bl kr hb;replace BB:=bt BB hb;replace HX:=Z9 ((uh HX).below hb);clear hb;obtain ⟨t0,t1,t2,t3,t4,t5⟩:=(uh kb).c6;go_wp2_with fail;refine ZP (S:=fun w'=>w'.cell? ⟨W.heap.size,0,none⟩=some (.slice a0 n0 p0)/\w'.cell? ⟨W.heap.size,1,none⟩=some (.slice a1 n1 p1)/\w'.cell? ⟨W.heap.size,2,none⟩=some (.slice a2 n2 p2)/\w'.cell? ⟨W.heap.size,3,none⟩=some (.slice a3 n3 p3)/\w'.cell? ⟨W.heap.size,4,none⟩=some (.slice a4 n4 p4)/\w'.cell? ⟨W.heap.size,5,none⟩=some (.int .i64 now)) (by kernel_rfl) (Xs _ _) (by kernel_rfl) ⟨t0,t1,t2,t3,t4,t5⟩ (fun hHeld=> ?_);simp only [Xt,Xu,YT,YM,Nat.zero_add,Nat.reduceAdd];have hbd:Below w1.heap.size w1 w1.drew:=(Z1 _ _).drew;replace kr:=bl kr hbd;replace BB:=bt BB hbd;replace kb:=bl kb hbd;clear t0 t1 t2 t3 t4 t5;replace HX:=Z9 ((uh HX).below hbd);clear hbd;generalize w1.drew=W5 at *;obtain ⟨t0,t1,t2,t3,t4,t5⟩:=(uh kb).c6
 iterate 2 refine tz ?_
 refine wpAnyH_ready (rs:=[2]) (by kernel_rfl) (by simp) ?_;refine AllReadyH.cons rfl (fun K0 hK=> ?_) AllReadyH.nil;go_simp;refine ck (FT (uh HX)) fun w9 h9=> ?_;subst w9;refine hK.out _ _ ⟨t0,t1,t2,t3,t4,t5⟩ (fun hHeld=> ?_);clear hK K0
 (try simp only [Act.put,sA,sZ,sS])
 obtain ⟨o0,o1,o2,o3,o4,o5⟩:=(uh kr).c6;obtain ⟨f0,f1,f2,f3,f4,f5⟩:=(uh kr).f6;have kbN:Blk ((((((W5.setCell ⟨W.heap.size+1,0,none⟩ (.slice a0 n0 p0)).setCell ⟨W.heap.size+1,1,none⟩ (.slice a1 n1 p1)).setCell ⟨W.heap.size+1,2,none⟩ (.slice a2 n2 p2)).setCell ⟨W.heap.size+1,3,none⟩ (.slice a3 n3 p3)).setCell ⟨W.heap.size+1,4,none⟩ (.slice a4 n4 p4)).setCell ⟨W.heap.size+1,5,none⟩ (.int .i64 now)) W.heap.size 32 #[.slice a0 n0 p0,.slice a1 n1 p1,.slice a2 n2 p2,.slice a3 n3 p3,.slice a4 n4 p4,.int .i64 now]:=(((((((uh kb).other (a:=⟨W.heap.size+1,0,none⟩) (by show W.heap.size ≠ W.heap.size+1;omega) (.slice a0 n0 p0)).other (a:=⟨W.heap.size+1,1,none⟩) (by show W.heap.size ≠ W.heap.size+1;omega) (.slice a1 n1 p1)).other (a:=⟨W.heap.size+1,2,none⟩) (by show W.heap.size ≠ W.heap.size+1;omega) (.slice a2 n2 p2)).other (a:=⟨W.heap.size+1,3,none⟩) (by show W.heap.size ≠ W.heap.size+1;omega) (.slice a3 n3 p3)).other (a:=⟨W.heap.size+1,4,none⟩) (by show W.heap.size ≠ W.heap.size+1;omega) (.slice a4 n4 p4)).other (a:=⟨W.heap.size+1,5,none⟩) (by show W.heap.size ≠ W.heap.size+1;omega) (.int .i64 now))
 refine wpAnyH_ready (rs:=[3]) (by kernel_rfl) (by simp) ?_;refine AllReadyH.cons rfl (fun K0 hK=> ?_) AllReadyH.nil;go_simp;refine hK.out _ _ ⟨kbN.cell (i:=0) rfl,kbN.cell (i:=1) rfl,kbN.cell (i:=2) rfl,kbN.cell (i:=3) rfl,kbN.cell (i:=4) rfl,kbN.cell (i:=5) rfl⟩ (fun hHeld=> ?_);clear hK K0
 (try simp only [Act.put,sA,sZ,sS])
 refine wpAnyH_done (by kernel_rfl) ?_ _;refine ZF rfl rfl ?_;go_simp;clear hHeld;go_wp2_with fail;refine ZS (v:= .tuple #[.agg #[.slice a0 n0 p0,.slice a1 n1 p1,.slice a2 n2 p2,.slice a3 n3 p3,.slice a4 n4 p4,.int .i64 now],.int .i64 3]) (by simp [results,Tryz.results42,go_sem, *]) rfl ⟨rfl,?_⟩
 iterate 6 (refine YS ?_ (by show _<=W.heap.size+1;omega) _)
 exact uh BB
theorem CF {a0 a1 a2 a3 a4:Option Addr} {n0 n1 n2 n3 n4 p0 p1 p2 p3 p4:Nat} {now:Int} {b0 b1 b2 b3 b4:Option Addr} {l0 l1 l2 l3 l4 r0 r1 r2 r3 r4:Nat} {nw:Int} {W:World} {q:Int->Addr} (he:Errs W q) {p:Nat} {c:Int} (hcc:c=1\/c=2\/c=3\/c=4\/c=5) (hp:Blk W p 100 #[.slice b0 l0 r0,.slice b1 l1 r1,.slice b2 l2 r2,.slice b3 l3 r3,.slice b4 l4 r4,.int .i64 nw,YJ (q c)]):Calls Tryz.prog 42 #[.agg #[.slice a0 n0 p0,.slice a1 n1 p1,.slice a2 n2 p2,.slice a3 n3 p3,.slice a4 n4 p4,.int .i64 now],OT p] W fun e w'=>e= .returned (.tuple #[.agg #[.slice b0 l0 r0,.slice b1 l1 r1,.slice b2 l2 r2,.slice b3 l3 r3,.slice b4 l4 r4,.int .i64 nw],.int .i64 c])/\Below W.heap.size W w':=by
 have HE:=Z9 he;have Hp:=Z9 hp;clear he hp;have kb:Hid (Blk (((W.alloc (.cells #[.slice a0 n0 p0,.slice a1 n1 p1,.slice a2 n2 p2,.slice a3 n3 p3,.slice a4 n4 p4,.int .i64 now] 32)).alloc (.cells E6 32)).alloc (.cells #[.pointer none] 96)) W.heap.size 32 #[.slice a0 n0 p0,.slice a1 n1 p1,.slice a2 n2 p2,.slice a3 n3 p3,.slice a4 n4 p4,.int .i64 now]):=Z9 (((Blk.new W _ _).alloc _).alloc _)
 have kr:Hid (Blk (((W.alloc (.cells #[.slice a0 n0 p0,.slice a1 n1 p1,.slice a2 n2 p2,.slice a3 n3 p3,.slice a4 n4 p4,.int .i64 now] 32)).alloc (.cells E6 32)).alloc (.cells #[.pointer none] 96)) (W.heap.size+1) 32 E6):=Z9 (by
  have k:=Blk.new (W.alloc (.cells #[.slice a0 n0 p0,.slice a1 n1 p1,.slice a2 n2 p2,.slice a3 n3 p3,.slice a4 n4 p4,.int .i64 now] 32)) 32 E6;rw [ZB] at k
  exact k.alloc _)
 have kv:Hid (Blk (((W.alloc (.cells #[.slice a0 n0 p0,.slice a1 n1 p1,.slice a2 n2 p2,.slice a3 n3 p3,.slice a4 n4 p4,.int .i64 now] 32)).alloc (.cells E6 32)).alloc (.cells #[.pointer none] 96)) (W.heap.size+1+1) 96 #[.pointer none]):=Z9 (by
  have k:=Blk.new ((W.alloc (.cells #[.slice a0 n0 p0,.slice a1 n1 p1,.slice a2 n2 p2,.slice a3 n3 p3,.slice a4 n4 p4,.int .i64 now] 32)).alloc (.cells E6 32)) 96 #[.pointer none];rw [ZB,ZB] at k
  exact k)
 have BB:Hid (Below W.heap.size W (((W.alloc (.cells #[.slice a0 n0 p0,.slice a1 n1 p1,.slice a2 n2 p2,.slice a3 n3 p3,.slice a4 n4 p4,.int .i64 now] 32)).alloc (.cells E6 32)).alloc (.cells #[.pointer none] 96))):=Z9 ((((ba _ _)).alloc (by simp) _).alloc (by simp;omega) _);have hsz:(((W.alloc (.cells #[.slice a0 n0 p0,.slice a1 n1 p1,.slice a2 n2 p2,.slice a3 n3 p3,.slice a4 n4 p4,.int .i64 now] 32)).alloc (.cells E6 32)).alloc (.cells #[.pointer none] 96)).heap.size=W.heap.size+1+1+1:=by simp
 have HX:=Z9 ((uh HE).below (uh BB));have kp:=Z9 ((uh Hp).below (uh BB) (uh Hp).lt);go_enter Tryz.func42,Tryz.ntmps42;go_wp2_with fail;generalize (((W.alloc (.cells #[.slice a0 n0 p0,.slice a1 n1 p1,.slice a2 n2 p2,.slice a3 n3 p3,.slice a4 n4 p4,.int .i64 now] 32)).alloc (.cells E6 32)).alloc (.cells #[.pointer none] 96))=W1 at *;refine (xP _ p _ (uh HX).ct ((uh kv).cell (i:=0) rfl) ((uh kv).free 0)).mono ?_;rintro e w1 ⟨rfl,hc,hall⟩;have hb:=hall (W.heap.size+1+1) (Z2 _) (by omega);have hpl:=(uh Hp).lt;replace kb:=Z9 ((uh kb).below hb (by omega));replace kr:=Z9 ((uh kr).below hb (by omega));replace kp:=Z9 ((uh kp).below hb (by omega));have hE0:=(uh HE).below ((uh BB).trans (hb.mono (by omega)));replace BB:=Z9 ((uh BB).trans (hb.mono (by omega)));replace HX:=Z9 hE0;clear hb hall hE0 kv hsz hpl;obtain ⟨t0,t1,t2,t3,t4,t5⟩:w1.cell? ⟨p,0,none⟩=some (.slice b0 l0 r0)/\w1.cell? ⟨p,1,none⟩=some (.slice b1 l1 r1)/\w1.cell? ⟨p,2,none⟩=some (.slice b2 l2 r2)/\w1.cell? ⟨p,3,none⟩=some (.slice b3 l3 r3)/\w1.cell? ⟨p,4,none⟩=some (.slice b4 l4 r4)/\w1.cell? ⟨p,5,none⟩=some (.int .i64 nw):=⟨(uh kp).cell (i:=0) rfl,(uh kp).cell (i:=1) rfl,(uh kp).cell (i:=2) rfl,(uh kp).cell (i:=3) rfl,(uh kp).cell (i:=4) rfl,(uh kp).cell (i:=5) rfl⟩
 go_wp2_with fail;refine ZP (S:=fun w'=>w'.cell? ⟨W.heap.size+1+1,0,none⟩=some (.pointer (some ⟨p,0,none⟩))/\w'.cell? ⟨p,0,none⟩=some (.slice b0 l0 r0)/\w'.cell? ⟨p,1,none⟩=some (.slice b1 l1 r1)/\w'.cell? ⟨p,2,none⟩=some (.slice b2 l2 r2)/\w'.cell? ⟨p,3,none⟩=some (.slice b3 l3 r3)/\w'.cell? ⟨p,4,none⟩=some (.slice b4 l4 r4)/\w'.cell? ⟨p,5,none⟩=some (.int .i64 nw)) (by kernel_rfl) (Xs _ _) (by kernel_rfl) ⟨hc,t0,t1,t2,t3,t4,t5⟩ (fun hHeld=> ?_);simp only [Xt,Xu,YT,YM,Nat.zero_add,Nat.reduceAdd];have hbd:Below w1.heap.size w1 w1.drew:=(Z1 _ _).drew;replace kr:=bl kr hbd;replace BB:=bt BB hbd;replace kp:=bl kp hbd;replace hc:=(hbd.cell (World.block_lt_of_cell? _ _ hc)).trans hc;replace HX:=Z9 ((uh HX).below hbd);clear t0 t1 t2 t3 t4 t5;clear hbd;generalize w1.drew=W5 at *;obtain ⟨t0,t1,t2,t3,t4,t5⟩:W5.cell? ⟨p,0,none⟩=some (.slice b0 l0 r0)/\W5.cell? ⟨p,1,none⟩=some (.slice b1 l1 r1)/\W5.cell? ⟨p,2,none⟩=some (.slice b2 l2 r2)/\W5.cell? ⟨p,3,none⟩=some (.slice b3 l3 r3)/\W5.cell? ⟨p,4,none⟩=some (.slice b4 l4 r4)/\W5.cell? ⟨p,5,none⟩=some (.int .i64 nw):=⟨(uh kp).cell (i:=0) rfl,(uh kp).cell (i:=1) rfl,(uh kp).cell (i:=2) rfl,(uh kp).cell (i:=3) rfl,(uh kp).cell (i:=4) rfl,(uh kp).cell (i:=5) rfl⟩
 iterate 5 refine tz ?_
 refine wpAnyH_ready (rs:=[5]) (by kernel_rfl) (by simp) ?_;refine AllReadyH.cons rfl (fun K0 hK=> ?_) AllReadyH.nil;go_simp;refine ck (FU hcc p (uh HX) ((uh kp).cell (i:=6) rfl)) fun w9 h9=> ?_;subst w9;refine hK.out _ _ ⟨hc,t0,t1,t2,t3,t4,t5⟩ (fun hHeld=> ?_);clear hK K0
 (try simp only [Act.put,sA,sZ,sS])
 obtain ⟨o0,o1,o2,o3,o4,o5⟩:=(uh kr).c6;obtain ⟨f0,f1,f2,f3,f4,f5⟩:=(uh kr).f6;have hpl:=(uh Hp).lt;have hne:p ≠ W.heap.size+1:=by omega
 have hcN:((((((W5.setCell ⟨W.heap.size+1,0,none⟩ (.slice b0 l0 r0)).setCell ⟨W.heap.size+1,1,none⟩ (.slice b1 l1 r1)).setCell ⟨W.heap.size+1,2,none⟩ (.slice b2 l2 r2)).setCell ⟨W.heap.size+1,3,none⟩ (.slice b3 l3 r3)).setCell ⟨W.heap.size+1,4,none⟩ (.slice b4 l4 r4)).setCell ⟨W.heap.size+1,5,none⟩ (.int .i64 nw)).cell? ⟨W.heap.size+1+1,0,none⟩=some (.pointer (some ⟨p,0,none⟩)):=by
  rw [World.cell?_setCell_far _ _ _ _ (by show W.heap.size+1 ≠ W.heap.size+1+1;omega),World.cell?_setCell_far _ _ _ _ (by show W.heap.size+1 ≠ W.heap.size+1+1;omega),World.cell?_setCell_far _ _ _ _ (by show W.heap.size+1 ≠ W.heap.size+1+1;omega),World.cell?_setCell_far _ _ _ _ (by show W.heap.size+1 ≠ W.heap.size+1+1;omega),World.cell?_setCell_far _ _ _ _ (by show W.heap.size+1 ≠ W.heap.size+1+1;omega),World.cell?_setCell_far _ _ _ _ (by show W.heap.size+1 ≠ W.heap.size+1+1;omega)];exact hc
 have kpN:Blk ((((((W5.setCell ⟨W.heap.size+1,0,none⟩ (.slice b0 l0 r0)).setCell ⟨W.heap.size+1,1,none⟩ (.slice b1 l1 r1)).setCell ⟨W.heap.size+1,2,none⟩ (.slice b2 l2 r2)).setCell ⟨W.heap.size+1,3,none⟩ (.slice b3 l3 r3)).setCell ⟨W.heap.size+1,4,none⟩ (.slice b4 l4 r4)).setCell ⟨W.heap.size+1,5,none⟩ (.int .i64 nw)) p 100 #[.slice b0 l0 r0,.slice b1 l1 r1,.slice b2 l2 r2,.slice b3 l3 r3,.slice b4 l4 r4,.int .i64 nw,YJ (q c)]:=(((((((uh kp).other (a:=⟨W.heap.size+1,0,none⟩) hne (.slice b0 l0 r0)).other (a:=⟨W.heap.size+1,1,none⟩) hne (.slice b1 l1 r1)).other (a:=⟨W.heap.size+1,2,none⟩) hne (.slice b2 l2 r2)).other (a:=⟨W.heap.size+1,3,none⟩) hne (.slice b3 l3 r3)).other (a:=⟨W.heap.size+1,4,none⟩) hne (.slice b4 l4 r4)).other (a:=⟨W.heap.size+1,5,none⟩) hne (.int .i64 nw))
 refine wpAnyH_ready (rs:=[6]) (by kernel_rfl) (by simp) ?_;refine AllReadyH.cons rfl (fun K0 hK=> ?_) AllReadyH.nil;go_simp;refine hK.out _ _ ⟨hcN,kpN.cell (i:=0) rfl,kpN.cell (i:=1) rfl,kpN.cell (i:=2) rfl,kpN.cell (i:=3) rfl,kpN.cell (i:=4) rfl,kpN.cell (i:=5) rfl⟩ (fun hHeld=> ?_);clear hK K0
 (try simp only [Act.put,sA,sZ,sS])
 refine wpAnyH_done (by kernel_rfl) ?_ _;refine ZF rfl rfl ?_;go_simp;clear hHeld;go_wp2_with fail;refine ZS (v:= .tuple #[.agg #[.slice b0 l0 r0,.slice b1 l1 r1,.slice b2 l2 r2,.slice b3 l3 r3,.slice b4 l4 r4,.int .i64 nw],.int .i64 c]) (by simp [results,Tryz.results42,go_sem, *]) rfl ⟨rfl,?_⟩
 iterate 6 (refine YS ?_ (by show _<=W.heap.size+1;omega) _)
 exact uh BB
def Tr (w:World) (q:Int->Addr) (m X:Z6) (c:Int) (e:Ending) (w':World):Prop:=
 Below w.heap.size w w'/\((ZI m=false/\e= .returned (.tuple #[.agg E6,YJ (q 3)]))\/(ZI m=true/\c=0/\ ∃ a0 p0 a1 p1 a2 p2 a3 p3 a4 p4 rs,e= .returned (.tuple #[.agg #[.slice a0 (YX X).rm.length p0,.slice a1 (YX X).gd.length p1,.slice a2 (YX X).sm.length p2,.slice a3 (YX X).dk.length p3,.slice a4 (YX X).pc.length p4,.int .i64 (YX X).now],.nilIface])/\FullSmy w.heap.size w' (.slice a0 (YX X).rm.length p0) (.slice a1 (YX X).gd.length p1) (.slice a2 (YX X).sm.length p2) (.slice a3 (YX X).dk.length p3) (.slice a4 (YX X).pc.length p4) (YX X) rs)\/(ZI m=true/\(c=1\/c=2\/c=3\/c=4\/c=5)/\ ∃ p a0 p0 a1 p1 a2 p2 a3 p3 a4 p4 rs,e= .returned (.tuple #[.agg E6,OT p])/\Blk w' p 100 #[.slice a0 m.rm.length p0,.slice a1 m.gd.length p1,.slice a2 m.sm.length p2,.slice a3 m.dk.length p3,.slice a4 m.pc.length p4,.int .i64 m.now,YJ (q c)]/\FullSmy w.heap.size w' (.slice a0 m.rm.length p0) (.slice a1 m.gd.length p1) (.slice a2 m.sm.length p2) (.slice a3 m.dk.length p3) (.slice a4 m.pc.length p4) m rs))
theorem WN {n:Nat} {w:World} {v0 v1 v2 v3 v4:Value} {m:Z6} {qs:List (ZZ × Value)} (h:FullSmy n w v0 v1 v2 v3 v4 m qs):∃ a0 p0 a1 p1 a2 p2 a3 p3 a4 p4,v0= .slice a0 m.rm.length p0/\v1= .slice a1 m.gd.length p1/\v2= .slice a2 m.sm.length p2/\v3= .slice a3 m.dk.length p3/\v4= .slice a4 m.pc.length p4:=by
 obtain ⟨a0,p0,a1,p1,a2,p2,a3,p3,a4,p4,e0,e1,e2,e3,e4,_⟩:=h.smy.five;exact ⟨a0,p0,a1,p1,a2,p2,a3,p3,a4,p4,e0,e1,e2,e3,e4⟩
set_option maxRecDepth 100000
theorem Ud (y:Value) (w:World):Calls Tryz.prog 134 #[.bool true,y] w fun e w'=>e= .returned (.tuple #[])/\w'=w:=by
 go_enter Tryz.func134,Tryz.ntmps134;go_wp2_with fail
 go_end0
 exact ⟨rfl,rfl⟩
theorem Te (a:Addr) (w:World):Calls Tryz.prog 134 #[.bool false,YJ a] w fun e w'=>e= .panicked [{ v:=YJ a,recovered:=false }]/\w'=w:=by
 unfold YJ;go_enter Tryz.func134,Tryz.ntmps134;go_wp2_with fail;exact ⟨rfl,rfl,rfl⟩
def PChg (F:Nat->TypeId->Array Value->Prop) (w:World) (R:Nat) (q:Int->Addr) (X:Z6) (c:Int) (e:Ending) (W':World):Prop:=
 Below w.heap.size w W'/\(∀ k t cs,F k t cs->Blk W' k t cs)/\((c=0/\e= .returned (.tuple #[])/\ ∃ u0 u1 u2 u3 u4 rs,Ny F w W' R u0 u1 u2 u3 u4 X rs)\/((c=1\/c=2\/c=3\/c=4\/c=5)/\e= .panicked [{ v:=YJ (q c),recovered:=false }]))
theorem PChg.no {F:Nat->TypeId->Array Value->Prop} {w W':World} {R:Nat} {q:Int->Addr} {X:Z6} {c d:Int} (h:Below w.heap.size w W') (hF:∀ k t cs,F k t cs->Blk W' k t cs) (e:c=d) (hd:d=1\/d=2\/d=3\/d=4\/d=5):PChg F w R q X c (.panicked [{ v:=YJ (q d),recovered:=false }]) W':=by
 subst e;exact ⟨h,hF,.inr ⟨hd,rfl⟩⟩
theorem PChg.yes {F:Nat->TypeId->Array Value->Prop} {w W':World} {R:Nat} {q:Int->Addr} {X Y:Z6} {c:Int} {u0 u1 u2 u3 u4:Value} {rs:List (ZZ × Value)} (h:Ny F w W' R u0 u1 u2 u3 u4 Y rs) (e:c=0) (hX:X=Y):PChg F w R q X c (.returned (.tuple #[])) W':=by
 subst e hX;exact ⟨h.bb,h.fb,.inl ⟨rfl,rfl,_,_,_,_,_,_,h⟩⟩
theorem yW (w:World):(Instr.typeAssert .nilIface 20 62 true).run Tryz.prog w= .ok (.tuple #[.nilIface,.bool false]) w:=by kernel_rfl
theorem zJ (a:Addr) (w:World):(Instr.typeAssert (YJ a) 20 62 true).run Tryz.prog w= .ok (.tuple #[YJ a,.bool true]) w:=by kernel_rfl
theorem P7 (p:Addr) (w:World) :
  CallsD Tryz.prog 131 #[.pointer (some p)] .returning w fun e u' w'=>e= .returned (.tuple #[])/\u'= .returning/\w'=w:=by
 have h1:=yW;refine callsD_of_wpS Tryz.func131 rfl fun c₀ cs hu=> ?_;apply wpS_seq;apply wpS_region;simp [wpOpsS,go_sem,recoverD,hu,Tryz.ntmps131,Exit.thenS,h1];apply wpS_seq;apply wpS_region;simp [wpOpsS,go_sem,Exit.thenS];refine wpS_cond (t:=false) (by simp [Act.eval,Array.replicate]) ?_;simp only [Bool.false_eq_true,if_false];refine wpS_of_wp (wp_skip ?_);cases c₀
 simp_all [bodyPostS,results,Tryz.results131]
theorem Oy (b:Nat) (a:Addr) (w:World) (hc:w.cell? ⟨b,0,none⟩=some .nilIface) (hf:w.frozen? ⟨b,0,none⟩=false) :
  CallsD Tryz.prog 131 #[.pointer (some ⟨b,0,none⟩)] (.panicking [{ v:=YJ a,recovered:=false }]) w fun e u' w'=>e= .returned (.tuple #[])/\u'= .panicking [{ v:=YJ a,recovered:=true }]/\w'=w.setCell ⟨b,0,none⟩ (YJ a):=by
 have h1:=zJ a;have hs:∃ v,YJ a= .iface 288 v:=⟨_,rfl⟩
 obtain ⟨v,hv⟩:=hs;rw [hv] at h1 ⊢;refine callsD_of_wpS Tryz.func131 rfl fun c₀ cs hu=> ?_;apply wpS_seq;apply wpS_region;simp [wpOpsS,go_sem,recoverD,hu,Tryz.ntmps131,Exit.thenS,h1];apply wpS_seq;apply wpS_region;simp [wpOpsS,go_sem,Exit.thenS];refine wpS_cond (t:=true) (by simp [Act.eval,Array.replicate]) ?_;simp only [if_true];apply wpS_region;simp [wpOpsS,go_sem,hc,hf,bodyPostS,results,Tryz.results131]
theorem Og (x0 x1 x2 x3 x4 x5 x6 x7 x8 x9 x10 y0 y1 y2 y3 y4 y5 y6 y7 y8 y9 y10:Int) (w:World):(Op.equalIn 10000 40 (.agg (I11 x0 x1 x2 x3 x4 x5 x6 x7 x8 x9 x10)) (.agg (I11 y0 y1 y2 y3 y4 y5 y6 y7 y8 y9 y10))).run Tryz.prog w= .ok (Tq (x0,x1,x2,x3,x4,x5,x6,x7,x8,x9,x10) (y0,y1,y2,y3,y4,y5,y6,y7,y8,y9,y10)) w:=by
 have u:=Tryz.underlying2;have a:=Tryz.isAgg2;have z:=Tryz.sizeOf2;have hS:Tryz.prog.underlying 40=some (.struct (Tryz.prog.fieldsOf 40)):=by kernel_rfl
 have hp:Tryz.prog.stoodInHeld 40=false:=by kernel_rfl
 rw [show (10000:Nat)=9999+1 from rfl,run_equalIn_agg w 9999 40 _ _ hS hp];simp only [Program.fieldsOf,Tryz.underlying40];go_simp;unfold Tq;by_cases h0:x0=y0;rotate_left
 ·simp [h0]
 subst h0;by_cases h1:x1=y1;rotate_left
 ·simp [h1]
 subst h1;by_cases h2:x2=y2;rotate_left
 ·simp [h2]
 subst h2;by_cases h3:x3=y3;rotate_left
 ·simp [h3]
 subst h3;by_cases h4:x4=y4;rotate_left
 ·simp [h4]
 subst h4;by_cases h5:x5=y5;rotate_left
 ·simp [h5]
 subst h5;by_cases h6:x6=y6;rotate_left
 ·simp [h6]
 subst h6;by_cases h7:x7=y7;rotate_left
 ·simp [h7]
 subst h7;by_cases h8:x8=y8;rotate_left
 ·simp [h8]
 subst h8;by_cases h9:x9=y9;rotate_left
 ·simp [h9]
 subst h9;by_cases h10:x10=y10;rotate_left
 ·simp [h10]
 subst h10;simp
theorem Ki (x0 x1 x2 x3 x4 x5 x6 x7 x8 x9 x10 y0 y1 y2 y3 y4 y5 y6 y7 y8 y9 y10:Int) (w:World):(binOp .eql 40 (.agg (I11 x0 x1 x2 x3 x4 x5 x6 x7 x8 x9 x10)) (.agg (I11 y0 y1 y2 y3 y4 y5 y6 y7 y8 y9 y10))).run Tryz.prog w= .ok (.bool (Tq (x0,x1,x2,x3,x4,x5,x6,x7,x8,x9,x10) (y0,y1,y2,y3,y4,y5,y6,y7,y8,y9,y10))) w:=by
 rw [run_eql_struct,Og];rfl
theorem O2 (x0 x1 x2 x3 x4 x5 x6 x7 x8 x9 x10 y0 y1 y2 y3 y4 y5 y6 y7 y8 y9 y10:Int) (w:World):(binOp .neq 40 (.agg (I11 x0 x1 x2 x3 x4 x5 x6 x7 x8 x9 x10)) (.agg (I11 y0 y1 y2 y3 y4 y5 y6 y7 y8 y9 y10))).run Tryz.prog w= .ok (.bool (!Tq (x0,x1,x2,x3,x4,x5,x6,x7,x8,x9,x10) (y0,y1,y2,y3,y4,y5,y6,y7,y8,y9,y10))) w:=by
 rw [run_neq_struct,Og];rfl
theorem Uf {r x:Int} (h:Zl r=x) (w:World):Calls Tryz.prog 190 #[.int .i64 r] w fun e w'=>e= .returned (.int .i64 x)/\w'=w:=by
 have:=OI r w;rw [h] at this;exact this
theorem YB {r x:Int} (h:Zl r=x) (w:World):Calls Tryz.prog 104 #[.int .i64 r] w fun e w'=>e= .returned (.int .i64 x)/\w'=w:=by
 have:=O7 r w;rw [h] at this;exact this
attribute [local go_sem ↓] Ki O2
theorem Xd (n:Int) (w:World):Calls Tryz.prog 103 #[.int .i64 n] w fun e w'=>e= .returned (.bool (inB n (-1000000000000) 1000000000000))/\w'=w:=by
 go_enter Tryz.func103,Tryz.ntmps103;go_wp2_with (go_at_call 59;refine (ZT _ _ _ _).mono ?_;rintro e w' ⟨rfl,rfl⟩)
 go_ret;exact ⟨rfl,rfl⟩
theorem Zm (st be rk my gu lo hi hd ca ut wk:Int) (w:World):Calls Tryz.prog 48 #[.agg (I11 st be rk my gu lo hi hd ca ut wk)] w fun e w'=>e= .returned (.bool (Zx (st,be,rk,my,gu,lo,hi,hd,ca,ut,wk)))/\Below w.heap.size w w':=by
 by_cases hst:st=0
 ·subst hst
  unfold Zx;rw [Mp rfl,Bool.or_false];obtain ⟨q,hq⟩:∃ q,Wt (0,be,rk,my,gu,lo,hi,hd,ca,ut,wk)=q:=⟨_,rfl⟩
  rw [hq];have hz:Tq (0,be,rk,my,gu,lo,hi,hd,ca,ut,wk) (0,0,0,0,0,0,0,0,0,0,0)=q:=hq;clear hq;go_enter Tryz.func48,Tryz.ntmps48;go_wp2_with fail;go_ret;exact ⟨rfl,(ba _ _)⟩
 ·have hne:(st ==0)=false:=by simpa using hst
  unfold Zx;rw [Rn hst,Bool.false_or];unfold Zh;simp only;obtain ⟨x0,x1⟩:=Vw rk;obtain ⟨x,hx⟩:∃ x,Zl rk=x:=⟨_,rfl⟩
  rw [hx] at x0 x1 ⊢;have Hw:=Z9 hx;have hwr:IntKind.i64.wrap (x-1)=x-1:=by rw [IntKind.wrap_i64];omega
  clear hx hst;cases h0:inB st 1 3
  ·go_enter Tryz.func48,Tryz.ntmps48
   go_wp2_with (first | (go_at_call 59;refine (ZT _ _ _ _).mono ?_;rintro e w' ⟨rfl,rfl⟩) | (go_at_call 102;refine (YR _ _).mono ?_;rintro e w' ⟨rfl,rfl⟩) | (go_at_call 78;refine (YI _ _ _).mono ?_;rintro e w' ⟨rfl,rfl⟩))
   go_ret;exact ⟨rfl,(ba _ _)⟩
  cases h1:inB be 0 7
  ·go_enter Tryz.func48,Tryz.ntmps48
   go_wp2_with (first | (go_at_call 59;refine (ZT _ _ _ _).mono ?_;rintro e w' ⟨rfl,rfl⟩) | (go_at_call 102;refine (YR _ _).mono ?_;rintro e w' ⟨rfl,rfl⟩) | (go_at_call 78;refine (YI _ _ _).mono ?_;rintro e w' ⟨rfl,rfl⟩))
   go_ret;exact ⟨rfl,(ba _ _)⟩
  cases h2:inB rk (-5) 5
  ·go_enter Tryz.func48,Tryz.ntmps48
   go_wp2_with (first | (go_at_call 59;refine (ZT _ _ _ _).mono ?_;rintro e w' ⟨rfl,rfl⟩) | (go_at_call 102;refine (YR _ _).mono ?_;rintro e w' ⟨rfl,rfl⟩) | (go_at_call 78;refine (YI _ _ _).mono ?_;rintro e w' ⟨rfl,rfl⟩))
   go_ret;exact ⟨rfl,(ba _ _)⟩
  cases h3:inB my 1 255
  ·go_enter Tryz.func48,Tryz.ntmps48
   go_wp2_with (first | (go_at_call 59;refine (ZT _ _ _ _).mono ?_;rintro e w' ⟨rfl,rfl⟩) | (go_at_call 102;refine (YR _ _).mono ?_;rintro e w' ⟨rfl,rfl⟩) | (go_at_call 78;refine (YI _ _ _).mono ?_;rintro e w' ⟨rfl,rfl⟩))
   go_ret;exact ⟨rfl,(ba _ _)⟩
  cases h4:inB gu (-1) 5
  ·go_enter Tryz.func48,Tryz.ntmps48
   go_wp2_with (first | (go_at_call 59;refine (ZT _ _ _ _).mono ?_;rintro e w' ⟨rfl,rfl⟩) | (go_at_call 102;refine (YR _ _).mono ?_;rintro e w' ⟨rfl,rfl⟩) | (go_at_call 78;refine (YI _ _ _).mono ?_;rintro e w' ⟨rfl,rfl⟩))
   go_ret;exact ⟨rfl,(ba _ _)⟩
  cases h5:Yx lo hi
  ·go_enter Tryz.func48,Tryz.ntmps48
   go_wp2_with (first | (go_at_call 59;refine (ZT _ _ _ _).mono ?_;rintro e w' ⟨rfl,rfl⟩) | (go_at_call 102;refine (YR _ _).mono ?_;rintro e w' ⟨rfl,rfl⟩) | (go_at_call 78;refine (YI _ _ _).mono ?_;rintro e w' ⟨rfl,rfl⟩))
   go_ret;exact ⟨rfl,(ba _ _)⟩
  cases h6:inB hd (-1000000000000) 1000000000000
  ·go_enter Tryz.func48,Tryz.ntmps48
   go_wp2_with (first | (go_at_call 59;refine (ZT _ _ _ _).mono ?_;rintro e w' ⟨rfl,rfl⟩) | (go_at_call 102;refine (YR _ _).mono ?_;rintro e w' ⟨rfl,rfl⟩) | (go_at_call 78;refine (YI _ _ _).mono ?_;rintro e w' ⟨rfl,rfl⟩))
   go_quiet (first | exact Yg (ZT _ _ _ _) | exact Yg (Xd _ _) | exact Yg (YB (uh Hw) _) | exact Yg (Yb _ _));go_wp2_with fail;go_ret;exact ⟨rfl,Yn ((ba _ _)) _⟩
  cases h7:inB ca 0 (x-1)
  ·go_enter Tryz.func48,Tryz.ntmps48
   go_wp2_with (first | (go_at_call 59;refine (ZT _ _ _ _).mono ?_;rintro e w' ⟨rfl,rfl⟩) | (go_at_call 102;refine (YR _ _).mono ?_;rintro e w' ⟨rfl,rfl⟩) | (go_at_call 78;refine (YI _ _ _).mono ?_;rintro e w' ⟨rfl,rfl⟩))
   go_quiet (first | exact Yg (ZT _ _ _ _) | exact Yg (Xd _ _) | exact Yg (YB (uh Hw) _) | exact Yg (Yb _ _));go_wp2_with fail;go_ret;exact ⟨rfl,Yn ((ba _ _)) _⟩
  cases h8:inB ut 0 1024
  ·go_enter Tryz.func48,Tryz.ntmps48
   go_wp2_with (first | (go_at_call 59;refine (ZT _ _ _ _).mono ?_;rintro e w' ⟨rfl,rfl⟩) | (go_at_call 102;refine (YR _ _).mono ?_;rintro e w' ⟨rfl,rfl⟩) | (go_at_call 78;refine (YI _ _ _).mono ?_;rintro e w' ⟨rfl,rfl⟩))
   go_quiet (first | exact Yg (ZT _ _ _ _) | exact Yg (Xd _ _) | exact Yg (YB (uh Hw) _) | exact Yg (Yb _ _));go_wp2_with fail;go_ret;exact ⟨rfl,Yn ((ba _ _)) _⟩
  cases h9:inB wk 0 100000000000
  ·go_enter Tryz.func48,Tryz.ntmps48
   go_wp2_with (first | (go_at_call 59;refine (ZT _ _ _ _).mono ?_;rintro e w' ⟨rfl,rfl⟩) | (go_at_call 102;refine (YR _ _).mono ?_;rintro e w' ⟨rfl,rfl⟩) | (go_at_call 78;refine (YI _ _ _).mono ?_;rintro e w' ⟨rfl,rfl⟩))
   go_quiet (first | exact Yg (ZT _ _ _ _) | exact Yg (Xd _ _) | exact Yg (YB (uh Hw) _) | exact Yg (Yb _ _));go_wp2_with fail;go_ret;exact ⟨rfl,Yn ((ba _ _)) _⟩
  go_enter Tryz.func48,Tryz.ntmps48;go_wp2_with (first | (go_at_call 59;refine (ZT _ _ _ _).mono ?_;rintro e w' ⟨rfl,rfl⟩) | (go_at_call 102;refine (YR _ _).mono ?_;rintro e w' ⟨rfl,rfl⟩) | (go_at_call 78;refine (YI _ _ _).mono ?_;rintro e w' ⟨rfl,rfl⟩))
  go_quiet (first | exact Yg (ZT _ _ _ _) | exact Yg (Xd _ _) | exact Yg (YB (uh Hw) _) | exact Yg (Yb _ _));go_wp2_with fail;go_ret;exact ⟨rfl,Yn ((ba _ _)) _⟩
end Go.Proofs.YtamgfpdahadnfaaGreatDoor
namespace Go.Proofs.YtamgfpdahadnfaaGreatDoor
open Go.ChangeShapes Go.WideShapes Go.ChangeAt Go.RowKit Go.Sort
set_option linter.unusedVariables false
theorem Ma (st be rk my gu lo hi hd ca ut wk:Int) (w:World):Calls Tryz.prog 55 #[.agg (I11 st be rk my gu lo hi hd ca ut wk)] w fun e w'=>
  e= .returned (.bool (ZL (st,be,rk,my,gu,lo,hi,hd,ca,ut,wk)))/\Below w.heap.size w w':=by
 unfold ZL;simp only;cases h2:(st ==2)
 all_goals
  go_enter Tryz.func55,Tryz.ntmps55;go_wp2_with fail;go_ret;exact ⟨by first | rfl | (simp),(ba _ _)⟩
theorem MI (h m:Int) (w:World):Calls Tryz.prog 117 #[.int .i64 h,.int .i64 m] w fun e w'=>e= .returned (.bool (WE h m))/\w'=w:=by
 unfold WE;cases h1:inB h (-1000000000000) 1000000000000
 ·go_enter Tryz.func117,Tryz.ntmps117
  go_wp2_with (first | (go_at_call 103;refine (Xd _ _).mono ?_;rintro e w' ⟨rfl,rfl⟩) | (go_at_call 59;refine (ZT _ _ _ _).mono ?_;rintro e w' ⟨rfl,rfl⟩))
  go_ret;exact ⟨rfl,rfl⟩
 cases h2:inB m (-1000000000000) 1000000000000
 ·go_enter Tryz.func117,Tryz.ntmps117
  go_wp2_with (first | (go_at_call 103;refine (Xd _ _).mono ?_;rintro e w' ⟨rfl,rfl⟩) | (go_at_call 59;refine (ZT _ _ _ _).mono ?_;rintro e w' ⟨rfl,rfl⟩))
  go_ret;exact ⟨rfl,rfl⟩
 obtain ⟨a0,a1⟩:=ZO h1;obtain ⟨b0,b1⟩:=ZO h2;go_enter Tryz.func117,Tryz.ntmps117;go_wp2_with (first | (go_at_call 103;refine (Xd _ _).mono ?_;rintro e w' ⟨rfl,rfl⟩) | (go_at_call 59;refine (ZT _ _ _ _).mono ?_;rintro e w' ⟨rfl,rfl⟩))
 go_ret;exact ⟨rfl,rfl⟩
theorem Xa {w:World} {v:Value} {rs:List ZZ} {q:Bool} (hq:Y2 rs=q) (h:IsRooms w v rs):Calls Tryz.prog 114 #[.agg #[v]] w fun e w'=>e= .returned (.bool q)/\Below w.heap.size w w':=by
 have:=Uw h;rw [hq] at this;exact this
theorem Xp {w:World} {v:Value} {ps:List Zt} {q:Bool} (hq:Zk ps=q) (h:XG w v ps):Calls Tryz.prog 115 #[v] w fun e w'=>e= .returned (.bool q)/\Below w.heap.size w w':=by
 have:=O3 h;rw [hq] at this;exact this
theorem QV {w:World} {v:Value} {rs:List ZZ} {n:Int} (hn:ZV rs=n) (h:IsRooms w v rs) (ha:Adds rs):Calls Tryz.prog 116 #[.agg #[v]] w fun e w'=>e= .returned (.int .i64 n)/\Below w.heap.size w w':=by
 have:=RA h ha;rw [hn] at this;exact this
theorem An {x lo hi:Int} {q:Bool} (hq:inB x lo hi=q) (w:World):Calls Tryz.prog 59 #[.int .i64 x,.int .i64 lo,.int .i64 hi] w fun e w'=>e= .returned (.bool q)/\Below w.heap.size w w':=by
 have:=ZT x lo hi w;rw [hq] at this;exact this.mono fun e w' ⟨h1,h2⟩=>⟨h1,by rw [h2];exact Z1 _ _⟩
theorem Lb {st be rk my gu lo hi hd ca ut wk:Int} {q:Bool} (hq:Zx (st,be,rk,my,gu,lo,hi,hd,ca,ut,wk)=q) (w:World):Calls Tryz.prog 48 #[.agg (I11 st be rk my gu lo hi hd ca ut wk)] w fun e w'=>e= .returned (.bool q)/\Below w.heap.size w w':=by
 have:=Zm st be rk my gu lo hi hd ca ut wk w;rw [hq] at this;exact this
theorem Yu {st be rk my gu lo hi hd ca ut wk:Int} {q:Bool} (hq:ZL (st,be,rk,my,gu,lo,hi,hd,ca,ut,wk)=q) (w:World):Calls Tryz.prog 55 #[.agg (I11 st be rk my gu lo hi hd ca ut wk)] w fun e w'=>e= .returned (.bool q)/\Below w.heap.size w w':=by
 have:=Ma st be rk my gu lo hi hd ca ut wk w;rw [hq] at this;exact this
theorem Pw {s i:Int} {q:Bool} (hq:WI s i=q) (h0:0<=s) (h1:s<=255) (h2:0<=i) (h3:i<=7) (w:World):Calls Tryz.prog 60 #[.int .i64 s,.int .i64 i] w fun e w'=>e= .returned (.bool q)/\Below w.heap.size w w':=by
 have:=JZ s i w h0 h1 h2 h3;rw [hq] at this;exact this.mono fun e w' ⟨h1,h2⟩=>⟨h1,by rw [h2];exact Z1 _ _⟩
theorem UO {h k:Int} {q:Bool} (hq:WE h k=q) (w:World):Calls Tryz.prog 117 #[.int .i64 h,.int .i64 k] w fun e w'=>e= .returned (.bool q)/\Below w.heap.size w w':=by
 have:=MI h k w;rw [hq] at this;exact this.mono fun e w' ⟨h1,h2⟩=>⟨h1,by rw [h2];exact Z1 _ _⟩
theorem Sx {w:World} {v0 v1 v2 v3 v4:Value} {m:Z6} (h:Smy w v0 v1 v2 v3 v4 m) :
  Calls Tryz.prog 54 #[.agg #[v0,v1,v2,v3,v4,.int .i64 m.now]] w fun e w'=>e= .returned (.bool (Yv m))/\Below w.heap.size w w':=by
 have Hv:=Z9 (h.alloc (.cells #[v0,v1,v2,v3,v4,.int .i64 m.now] 32));obtain ⟨h0,h1,h2,h3,h4⟩:=h;obtain ⟨a0,p0,rfl,hc0,hm0,r0⟩:=h0;obtain ⟨a1,p1,rfl,hc1,hm1,_⟩:=h1;obtain ⟨a2,p2,rfl,hc2,hm2,r2⟩:=h2;obtain ⟨a3,p3,rfl,hc3,hm3,r3⟩:=h3;obtain ⟨a4,p4,rfl,hc4,hm4,r4⟩:=h4;have R0:=Z9 r0;have R2:=Z9 r2;have R3:=Z9 r3;have R4:=Z9 r4;clear r0 r2 r3 r4;go_enter Tryz.func54,Tryz.ntmps54;go_wp2_with fail;obtain ⟨W,hW,BB,kb⟩:=GP w 32 (S6 a0 p0 a1 p1 a2 p2 a3 p3 a4 p4 m);rw [hW]
 (try rw [hW] at Hv);clear hW
 have c0:=ZW ((uh kb).cell (i:=0) (v:= .slice a0 m.rm.length p0) rfl);have c1:=ZW ((uh kb).cell (i:=1) (v:= .slice a1 m.gd.length p1) rfl);have c2:=ZW ((uh kb).cell (i:=2) (v:= .slice a2 m.sm.length p2) rfl);have c3:=ZW ((uh kb).cell (i:=3) (v:= .slice a3 m.dk.length p3) rfl);have c4:=ZW ((uh kb).cell (i:=4) (v:= .slice a4 m.pc.length p4) rfl);have c5:=ZW ((uh kb).cell (i:=5) (v:= .int .i64 m.now) rfl);cases h0:Y2 m.rm
 ·have Q0:=Z9 h0
  clear h0;refine wq ?_
  repeat (go_big_quiet_step (first | exact ZY (Xa (uh Q0) ((uh Hv).below (Z0 _ _ _)).rm)))
  refine wqn fun W1 hb=> ?_;clear c0 c1 c2 c3 c4 c5;go_wp2_with fail;go_ret;exact ⟨Z5 (VW (by unfold YD;rw [uh Q0];rfl)).symm,(uh BB).trans (hb.mono (uh BB).size)⟩
 have Q0:=Z9 h0;have QA:=Z9 (SZ h0);clear h0;cases h1:Zk m.gd
 ·have Q1:=Z9 h1
  clear h1;refine wq ?_
  repeat (go_big_quiet_step (first | exact ZY (Xa (uh Q0) ((uh Hv).below (Z0 _ _ _)).rm) | exact ZY (Xp (uh Q1) ((uh Hv).below (Z0 _ _ _)).gd)))
  refine wqn fun W1 hb=> ?_;clear c0 c1 c2 c3 c4 c5;go_wp2_with fail;go_ret;exact ⟨Z5 (VW (by unfold YD;rw [uh Q0,uh Q1];rfl)).symm,(uh BB).trans (hb.mono (uh BB).size)⟩
 have Q1:=Z9 h1;clear h1;by_cases h2:12<m.sm.length
 ·have h2i:(12:Int)<(m.sm.length:Int):=by omega
  have h2d:decide ((12:Int)<(m.sm.length:Int))=true:=Vx h2i;refine wq ?_
  repeat (go_big_quiet_step (first | exact ZY (Xa (uh Q0) ((uh Hv).below (Z0 _ _ _)).rm) | exact ZY (Xp (uh Q1) ((uh Hv).below (Z0 _ _ _)).gd)))
  refine wqn fun W1 hb=> ?_;clear c0 c1 c2 c3 c4 c5;go_wp2_with fail;go_ret;exact ⟨Z5 (VW (by unfold YD;rw [uh Q0,uh Q1];simp;intro h9;omega)).symm,(uh BB).trans (hb.mono (uh BB).size)⟩
 have h2i:¬ (12:Int)<(m.sm.length:Int):=by omega
 have h2d:decide ((12:Int)<(m.sm.length:Int))=false:=Xr h2i;obtain ⟨n,hn⟩:∃ n,ZV m.rm=n:=⟨_,rfl⟩
 have Q3:=Z9 hn;clear hn;by_cases h3:(m.dk.length:Int)=n;rotate_left
 ·have h3b:((m.dk.length:Int) !=n)=true:=by simpa using h3
  refine wq ?_
  repeat (go_big_quiet_step (first | exact ZY (Xa (uh Q0) ((uh Hv).below (Z0 _ _ _)).rm) | exact ZY (Xp (uh Q1) ((uh Hv).below (Z0 _ _ _)).gd) | exact ZY (QV (uh Q3) ((uh Hv).below (Z0 _ _ _)).rm (uh QA))))
  refine wqn fun W1 hb=> ?_;clear c0 c1 c2 c3 c4 c5;go_wp2_with fail;go_ret;exact ⟨Z5 (VW (by unfold YD;rw [uh Q0,uh Q1,uh Q3];simp [h3])).symm,(uh BB).trans (hb.mono (uh BB).size)⟩
 have h3b:((m.dk.length:Int) !=n)=false:=by simpa using h3
 by_cases h4:m.pc.length=m.rm.length;rotate_left
 ·have h4b:((m.pc.length:Int) !=(m.rm.length:Int))=true:=by simp;omega
  refine wq ?_
  repeat (go_big_quiet_step (first | exact ZY (Xa (uh Q0) ((uh Hv).below (Z0 _ _ _)).rm) | exact ZY (Xp (uh Q1) ((uh Hv).below (Z0 _ _ _)).gd) | exact ZY (QV (uh Q3) ((uh Hv).below (Z0 _ _ _)).rm (uh QA))))
  refine wqn fun W1 hb=> ?_;clear c0 c1 c2 c3 c4 c5;go_wp2_with fail;go_ret;exact ⟨Z5 (VW (by unfold YD;rw [uh Q0,uh Q1];simp [h4])).symm,(uh BB).trans (hb.mono (uh BB).size)⟩
 have h4b:((m.pc.length:Int) !=(m.rm.length:Int))=false:=by simp;omega
 cases h5:inB m.now 0 1000000
 ·have Q5:=Z9 h5
  clear h5;refine wq ?_
  repeat (go_big_quiet_step (first | exact ZY (Xa (uh Q0) ((uh Hv).below (Z0 _ _ _)).rm) | exact ZY (Xp (uh Q1) ((uh Hv).below (Z0 _ _ _)).gd) | exact ZY (QV (uh Q3) ((uh Hv).below (Z0 _ _ _)).rm (uh QA)) | exact ZY (An (uh Q5) _)))
  refine wqn fun W1 hb=> ?_;clear c0 c1 c2 c3 c4 c5;go_wp2_with fail;go_ret;exact ⟨Z5 (VW (by unfold YD;rw [uh Q0,uh Q1,uh Q3,uh Q5];simp)).symm,(uh BB).trans (hb.mono (uh BB).size)⟩
 have Q5:=Z9 h5;clear h5;have QH:Hid (YD m=true):=Z9 (by unfold YD;rw [uh Q0,uh Q1,uh Q3,uh Q5];simp [h3,h4];omega);refine wq ?_
 repeat (go_big_quiet_step (first | exact ZY (Xa (uh Q0) ((uh Hv).below (Z0 _ _ _)).rm) | exact ZY (Xp (uh Q1) ((uh Hv).below (Z0 _ _ _)).gd) | exact ZY (QV (uh Q3) ((uh Hv).below (Z0 _ _ _)).rm (uh QA)) | exact ZY (An (uh Q5) _)))
 refine wqn fun W1 hb=> ?_;clear c0 c1 c2 c3 c4 c5;replace kb:=bl kb hb;replace Hv:=Z9 ((uh Hv).below hb);replace BB:=bt BB hb;clear hb;have H3:=Z9 h3;have H4:=Z9 h4;clear Hv Q0 Q1 Q3 Q5 QA h2d h3b h4b h3 h4;have c3:=(uh kb).cell (i:=3) (v:= .slice a3 m.dk.length p3) rfl;go_wp2_with fail;clear c3
 go_loopw [3,4] (fun o i wr=> ∃ k:Nat,k<=m.dk.length/\o= .bool (TJ m k)/\i= .int .i64 k/\Vk m k=true/\Blk wr w.heap.size 32 (S6 a0 p0 a1 p1 a2 p2 a3 p3 a4 p4 m)/\Below w.heap.size w wr) (fun _ i _=>m.dk.length-(intOf i).toNat)
 case atStart=>exact ⟨0,ZA _,rfl,rfl,rfl,uh kb,uh BB⟩
 case round=>
  obtain ⟨k,hk,rfl,rfl,hup,kb1,hb1⟩:=hrel;clear kb BB;have kb:=Z9 kb1;have BB:=Z9 hb1;have Hup:=Z9 hup;clear kb1 hb1 hup;obtain ⟨ob,hob⟩:∃ b,TJ m k=b:=⟨_,rfl⟩
  rw [hob];have Hob:=Z9 hob;clear hob;have c3:=(uh kb).cell (i:=3) (v:= .slice a3 m.dk.length p3) rfl;by_cases hlt:k<m.dk.length
  ·rcases uh R3 with e0 | ⟨b,off,rfl,hbw,hcl⟩
   ·rw [e0] at hlt;simp at hlt
   obtain ⟨d0,d1,d2⟩:=Y4 hcl hlt;rw [<-(uh BB).cell (p:=⟨b,off+k*3,none⟩) hbw] at d0;rw [<-(uh BB).cell (p:=⟨b,off+k*3+2,none⟩) hbw] at d2;clear d1 hcl;have HU:=Z9 (show Vk m (k+1)=(Vk m k && Vy (Z8 m.dk k)) from Tz k);have HO:=Z9 (show TJ m (k+1)=(TJ m k || (Z8 m.dk k).1) from zE k);have HL:=Z9 (GF (m:=m) hlt);generalize Z8 m.dk k=dd at *;obtain ⟨op,who,mk⟩:=dd;simp only at d0 d2;cases hmk:inB mk (-900000000000) 900000000000
   ·cases ob
    all_goals
     go_wp2_with (go_at_call 59;refine (ZT _ _ _ _).mono ?_;rintro e w' ⟨rfl,h9⟩;subst w')
     go_ret;exact ⟨Z5 (uh HL hmk).symm,uh BB⟩
   ·cases ob
    all_goals
     go_wp2_with (go_at_call 59;refine (ZT _ _ _ _).mono ?_;rintro e w' ⟨rfl,h9⟩;subst w')
     go_roundw
     case rel=>exact ⟨k+1,by omega,by rw [uh HO,uh Hob];simp,by go_num,by rw [uh HU,uh Hup];exact hmk,uh kb,uh BB⟩
     case measure=>exact ms
  ·obtain rfl:k=m.dk.length:=by omega
   have QD:=Hup;clear Hup;have c4:=(uh kb).cell (i:=4) (v:= .slice a4 m.pc.length p4) rfl;go_wp2_with fail;clear c3 c4
   go_loopw [5] (fun i wr=> ∃ k:Nat,k<=m.pc.length/\i= .int .i64 k/\VM m k=true/\Blk wr w.heap.size 32 (S6 a0 p0 a1 p1 a2 p2 a3 p3 a4 p4 m)/\Below w.heap.size w wr) (fun i _=>m.pc.length-(intOf i).toNat)
   case atStart=>exact ⟨0,ZA _,rfl,rfl,uh kb,uh BB⟩
   case round=>
    obtain ⟨k,hk,rfl,hup,kb1,hb1⟩:=hrel;clear kb BB;have kb:=Z9 kb1;have BB:=Z9 hb1;have Hup:=Z9 hup;clear kb1 hb1 hup;have c0:=(uh kb).cell (i:=0) (v:= .slice a0 m.rm.length p0) rfl;have c4:=(uh kb).cell (i:=4) (v:= .slice a4 m.pc.length p4) rfl;by_cases hlt:k<m.pc.length
    ·have hlr:k<m.rm.length:=by have:=uh H4;omega
     rcases uh R4 with e0 | ⟨b,off,rfl,hbw,hcl⟩
     ·rw [e0] at hlt;simp at hlt
     rcases uh R0 with e0 | ⟨b',off',rfl,hbw',hcl'⟩
     ·rw [e0] at hlr;simp at hlr
     have d0:=Mi hcl hlt;obtain ⟨_,pv,d1,hip⟩:=hcl' k hlr;rw [<-(uh BB).cell (p:=⟨b,off+k,none⟩) hbw] at d0;rw [<-(uh BB).cell (p:=⟨b',off'+k*2+1,none⟩) hbw'] at d1;obtain ⟨pa,pcap,rfl,hpc,hpm,_⟩:=hip;clear hcl hcl';have HU:=Z9 (show VM m (k+1)=(VM m k && V4 m k) from Tz k);have HL:=Z9 (GG (m:=m) hlt);have HP:=Z9 (show V4 m k=inB (Z8 m.pc k) 0 (((ZR m.rm k).2.length:Int)-1) from rfl);generalize Z8 m.pc k=z at *;generalize (ZR m.rm k).2.length=nl at *;have hwr:IntKind.i64.wrap ((nl:Int)-1)=(nl:Int)-1:=by rw [IntKind.wrap_i64];omega
     cases hz:inB z 0 ((nl:Int)-1)
     ·go_wp2_with fail
      go_quiet (exact Yg (ZT _ _ _ _));go_wp2_with fail;go_ret;exact ⟨Z5 (uh HL (by rw [uh HP];exact hz)).symm,Yn (uh BB) _⟩
     ·go_wp2_with fail
      go_quiet (exact Yg (ZT _ _ _ _));go_wp2_with fail;go_roundw
      case rel=>exact ⟨k+1,by omega,by go_num,by rw [uh HU,uh Hup,uh HP,hz];rfl,(uh kb).drewN _,Yn (uh BB) _⟩
      case measure=>exact ms
    ·obtain rfl:k=m.pc.length:=by omega
     have QP:=Hup;clear Hup;have c2:=(uh kb).cell (i:=2) (v:= .slice a2 m.sm.length p2) rfl;go_wp2_with fail;clear c0 c2 c4
     go_loopw [6] (fun i wr=> ∃ k:Nat,k<=m.sm.length/\i= .int .i64 k/\VN m k=true/\Blk wr w.heap.size 32 (S6 a0 p0 a1 p1 a2 p2 a3 p3 a4 p4 m)/\Below w.heap.size w wr) (fun i _=>m.sm.length-(intOf i).toNat)
     case atStart=>exact ⟨0,ZA _,rfl,rfl,uh kb,uh BB⟩
     case round=>
      obtain ⟨k,hk,rfl,hup,kb1,hb1⟩:=hrel;clear kb BB;have kb:=Z9 kb1;have BB:=Z9 hb1;have Hup:=Z9 hup;clear kb1 hb1 hup;have c1:=(uh kb).cell (i:=1) (v:= .slice a1 m.gd.length p1) rfl;have c2:=(uh kb).cell (i:=2) (v:= .slice a2 m.sm.length p2) rfl;have c3:=(uh kb).cell (i:=3) (v:= .slice a3 m.dk.length p3) rfl;by_cases hlt:k<m.sm.length
      ·rcases uh R2 with e0 | ⟨b,off,rfl,hbw,hcl⟩
       ·rw [e0] at hlt;simp at hlt
       obtain ⟨d0,d1,d2,d3,d4,d5,d6,d7,d8,d9,d10⟩:=Zw hcl hlt;rw [<-(uh BB).cell (p:=⟨b,off+k*11,none⟩) hbw] at d0;rw [<-(uh BB).cell (p:=⟨b,off+k*11+1,none⟩) hbw] at d1;rw [<-(uh BB).cell (p:=⟨b,off+k*11+2,none⟩) hbw] at d2;rw [<-(uh BB).cell (p:=⟨b,off+k*11+3,none⟩) hbw] at d3;rw [<-(uh BB).cell (p:=⟨b,off+k*11+4,none⟩) hbw] at d4;rw [<-(uh BB).cell (p:=⟨b,off+k*11+5,none⟩) hbw] at d5;rw [<-(uh BB).cell (p:=⟨b,off+k*11+6,none⟩) hbw] at d6;rw [<-(uh BB).cell (p:=⟨b,off+k*11+7,none⟩) hbw] at d7;rw [<-(uh BB).cell (p:=⟨b,off+k*11+8,none⟩) hbw] at d8;rw [<-(uh BB).cell (p:=⟨b,off+k*11+9,none⟩) hbw] at d9;rw [<-(uh BB).cell (p:=⟨b,off+k*11+10,none⟩) hbw] at d10;clear hcl;have HU:=Z9 (show VN m (k+1)=(VN m k && (XV m (Z8 m.sm k) && XL m (Z8 m.sm k))) from Tz k);have HL:=Z9 (Jl (m:=m) hlt);generalize Z8 m.sm k=ss at *;obtain ⟨st,be,rk,my,gu,lo,hi,hd,ca,ut,wk⟩:=ss;simp only at d0 d1 d2 d3 d4 d5 d6 d7 d8 d9 d10;have hl0:w.heap.size<wr.heap.size:=(uh kb).lt;go_wp2_with fail;clear c1 c2 c3 d0 d1 d2 d3 d4 d5 d6 d7 d8 d9 d10;obtain ⟨qs,hqs⟩:∃ q,Zx (st,be,rk,my,gu,lo,hi,hd,ca,ut,wk)=q:=⟨_,rfl⟩
       have Hqs:=Z9 hqs;clear hqs;refine ck (Lb (uh Hqs) _) fun w1 hb=> ?_;have ks:Hid (Blk w1 wr.heap.size 40 (I11 st be rk my gu lo hi hd ca ut wk)):=Z9 ((Blk.new wr _ _).below hb (by simp));replace kb:=Z9 (((uh kb).alloc (.cells (I11 st be rk my gu lo hi hd ca ut wk) 40)).below hb (by simp;omega));replace BB:=Z9 ((((uh BB).alloc (uh BB).size (.cells (I11 st be rk my gu lo hi hd ca ut wk) 40))).trans (hb.mono (by simp;have:=(uh BB).size;omega)));clear hb hl0;generalize wr.heap.size=sb at *;have c1:=(uh kb).cell (i:=1) (v:= .slice a1 m.gd.length p1) rfl;have c3:=(uh kb).cell (i:=3) (v:= .slice a3 m.dk.length p3) rfl;have d0:=(uh ks).cell (i:=0) (v:= .int .i64 st) rfl;have d1:=(uh ks).cell (i:=1) (v:= .int .i64 be) rfl;have d4:=(uh ks).cell (i:=4) (v:= .int .i64 gu) rfl;cases qs
       ·go_wp2_with fail
        go_ret;exact ⟨Z5 (uh HL (by unfold XV;rw [uh Hqs];rfl)).symm,uh BB⟩
       ·by_cases hst:st=0
        ·subst hst
         have hne:((0:Int) !=0)=false:=rfl;go_wp2_with fail;have Hps:Hid (ZL (0,be,rk,my,gu,lo,hi,hd,ca,ut,wk)=false):=Z9 rfl;have e0:=ZW ((uh ks).cell (i:=0) (v:= .int .i64 0) rfl);have e1:=ZW ((uh ks).cell (i:=1) (v:= .int .i64 be) rfl);have e2:=ZW ((uh ks).cell (i:=2) (v:= .int .i64 rk) rfl);have e3:=ZW ((uh ks).cell (i:=3) (v:= .int .i64 my) rfl);have e4:=ZW ((uh ks).cell (i:=4) (v:= .int .i64 gu) rfl);have e5:=ZW ((uh ks).cell (i:=5) (v:= .int .i64 lo) rfl);have e6:=ZW ((uh ks).cell (i:=6) (v:= .int .i64 hi) rfl);have e7:=ZW ((uh ks).cell (i:=7) (v:= .int .i64 hd) rfl);have e8:=ZW ((uh ks).cell (i:=8) (v:= .int .i64 ca) rfl);have e9:=ZW ((uh ks).cell (i:=9) (v:= .int .i64 ut) rfl);have e10:=ZW ((uh ks).cell (i:=10) (v:= .int .i64 wk) rfl);refine wq ?_
         repeat (go_big_quiet_step (first | exact ZY (Yu (uh Hps) _)))
         refine wqn fun W1 hb=> ?_;replace kb:=bl kb hb;replace BB:=bt BB hb;clear hb;go_wp2_with fail;go_roundw
         case rel=>exact ⟨k+1,by omega,by go_num,by rw [uh HU,uh Hup];unfold XV XL;rw [uh Hqs,uh Hps];rfl,uh kb,uh BB⟩
         case measure=>exact ms
        have hne:(st !=0)=true:=by simpa using hst
        by_cases hgu:(m.gd.length:Int)<=gu
        ·go_wp2_with fail
         go_ret;exact ⟨Z5 (uh HL (by unfold XV;rw [uh Hqs];simp [hst];intro h9;omega)).symm,uh BB⟩
        by_cases hbe:(m.dk.length:Int)<=be
        ·go_wp2_with fail
         go_ret;exact ⟨Z5 (uh HL (by unfold XV;rw [uh Hqs];simp [hst];intro h9;omega)).symm,uh BB⟩
        go_wp2_with fail;have Hh:Hid (XV m (st,be,rk,my,gu,lo,hi,hd,ca,ut,wk)=true):=Z9 (by unfold XV;rw [uh Hqs];simp;omega);obtain ⟨ps,hps⟩:∃ q,ZL (st,be,rk,my,gu,lo,hi,hd,ca,ut,wk)=q:=⟨_,rfl⟩
        have Hps:=Z9 hps;clear hps;have e0:=ZW ((uh ks).cell (i:=0) (v:= .int .i64 st) rfl);have e1:=ZW ((uh ks).cell (i:=1) (v:= .int .i64 be) rfl);have e2:=ZW ((uh ks).cell (i:=2) (v:= .int .i64 rk) rfl);have e3:=ZW ((uh ks).cell (i:=3) (v:= .int .i64 my) rfl);have e4:=ZW ((uh ks).cell (i:=4) (v:= .int .i64 gu) rfl);have e5:=ZW ((uh ks).cell (i:=5) (v:= .int .i64 lo) rfl);have e6:=ZW ((uh ks).cell (i:=6) (v:= .int .i64 hi) rfl);have e7:=ZW ((uh ks).cell (i:=7) (v:= .int .i64 hd) rfl);have e8:=ZW ((uh ks).cell (i:=8) (v:= .int .i64 ca) rfl);have e9:=ZW ((uh ks).cell (i:=9) (v:= .int .i64 ut) rfl);have e10:=ZW ((uh ks).cell (i:=10) (v:= .int .i64 wk) rfl);have e11:=ZW ((uh kb).cell (i:=3) (v:= .slice a3 m.dk.length p3) rfl);cases ps
        ·refine wq ?_
         repeat (go_big_quiet_step (first | exact ZY (Yu (uh Hps) _)))
         refine wqn fun W1 hb=> ?_;replace kb:=bl kb hb;replace BB:=bt BB hb;clear hb;go_wp2_with fail;go_roundw
         case rel=>exact ⟨k+1,by omega,by go_num,by rw [uh HU,uh Hup];rw [uh Hh];unfold XL;rw [uh Hps];rfl,uh kb,uh BB⟩
         case measure=>exact ms
        obtain ⟨b0,b1,b2,m0,m1,_⟩:=Gl (uh Hh) (uh Hps);simp only at b0 b1 b2 m0 m1;obtain ⟨j,rfl⟩:∃ j:Nat,be=j:=⟨be.toNat,by omega⟩
        have hj:j<m.dk.length:=by omega
        rcases uh R3 with e9 | ⟨b',off',rfl,hbw',hcl'⟩
        ·rw [e9] at hj;simp at hj
        obtain ⟨t0,_,t2⟩:=Y4 hcl' hj;rw [<-(uh BB).cell (p:=⟨b',off'+j*3,none⟩) hbw'] at t0;rw [<-(uh BB).cell (p:=⟨b',off'+j*3+2,none⟩) hbw'] at t2;clear hcl';have HS:=Z9 (show XL m (st,(j:Int),rk,my,gu,lo,hi,hd,ca,ut,wk)=(!ZL (st,(j:Int),rk,my,gu,lo,hi,hd,ca,ut,wk) || ((Z8 m.dk j).1 && (WI my j && WE hd (Z8 m.dk j).2.2))) from rfl);generalize Z8 m.dk j=dd at *;obtain ⟨op,who,mk⟩:=dd;simp only at t0 t2;have t0:=ZW t0;have t2:=ZW t2;obtain ⟨qb,hqb⟩:∃ q,WI my j=q:=⟨_,rfl⟩
        have Hbit:=Z9 hqb;obtain ⟨qd,hqd⟩:∃ q,WE hd mk=q:=⟨_,rfl⟩
        have Hbd:=Z9 hqd;clear hqb hqd;have HS2:=uh HS;simp only [uh Hps,uh Hbit,uh Hbd] at HS2;have HS3:=Z9 HS2;clear HS HS2;cases op
        ·refine wq ?_
         repeat (go_big_quiet_step (first | exact ZY (Yu (uh Hps) _) | exact ZY (Pw (uh Hbit) (by omega) (by omega) (by omega) (by omega) _) | exact ZY (UO (uh Hbd) _)))
         refine wqn fun W1 hb=> ?_;replace kb:=bl kb hb;replace BB:=bt BB hb;clear hb;go_wp2_with fail;go_ret;exact ⟨Z5 (uh HL (by rw [uh HS3];simp)).symm,uh BB⟩
        cases qb
        ·refine wq ?_
         repeat (go_big_quiet_step (first | exact ZY (Yu (uh Hps) _) | exact ZY (Pw (uh Hbit) (by omega) (by omega) (by omega) (by omega) _) | exact ZY (UO (uh Hbd) _)))
         refine wqn fun W1 hb=> ?_;replace kb:=bl kb hb;replace BB:=bt BB hb;clear hb;go_wp2_with fail;go_ret;exact ⟨Z5 (uh HL (by rw [uh HS3];simp)).symm,uh BB⟩
        cases qd
        ·refine wq ?_
         repeat (go_big_quiet_step (first | exact ZY (Yu (uh Hps) _) | exact ZY (Pw (uh Hbit) (by omega) (by omega) (by omega) (by omega) _) | exact ZY (UO (uh Hbd) _)))
         refine wqn fun W1 hb=> ?_;replace kb:=bl kb hb;replace BB:=bt BB hb;clear hb;go_wp2_with fail;go_ret;exact ⟨Z5 (uh HL (by rw [uh HS3];simp)).symm,uh BB⟩
        refine wq ?_
        repeat (go_big_quiet_step (first | exact ZY (Yu (uh Hps) _) | exact ZY (Pw (uh Hbit) (by omega) (by omega) (by omega) (by omega) _) | exact ZY (UO (uh Hbd) _)))
        refine wqn fun W1 hb=> ?_;replace kb:=bl kb hb;replace BB:=bt BB hb;clear hb;go_wp2_with fail;go_roundw
        case rel=>exact ⟨k+1,by omega,by go_num,by rw [uh HU,uh Hup];rw [uh Hh,uh HS3];rfl,uh kb,uh BB⟩
        case measure=>exact ms
      ·obtain rfl:k=m.sm.length:=by omega
       go_wp2_with fail;go_ret;exact ⟨Z5 (by rw [Ex (uh QH) (uh QD) (uh QP) (uh Hup)];exact (uh Hob).symm),uh BB⟩
end Go.Proofs.YtamgfpdahadnfaaGreatDoor
