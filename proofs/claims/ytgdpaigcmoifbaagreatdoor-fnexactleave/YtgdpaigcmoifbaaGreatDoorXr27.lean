/- Part 27 of what the proof rests on. No condition but those that a theorem names. -/
import Derived.Test.YtgdpaigcmoifbaaGreatDoorXr20
import Derived.Test.YtgdpaigcmoifbaaGreatDoorXr21
import Derived.Test.YtgdpaigcmoifbaaGreatDoorXr22
namespace Go.Proofs.YtgdpaigcmoifbaaGreatDoor
open Go.ChangeShapes Go.WideShapes Go.ChangeAt Go.RowKit Go.Sort Go.Proofs.Tryz
set_option linter.unusedVariables false
def TR (n₀:Nat) (M:Z3) (c:Int) (e:Ending) (w':World):Prop:=
 ∃ u0 u1 u2 u3 u4 qs,e= .returned (.tuple #[.agg #[u0,u1,u2,u3,u4,.int .i64 M.now],.int .i64 c])/\FullSmy n₀ w' u0 u1 u2 u3 u4 M qs
set_option maxHeartbeats 2000000 in
theorem OL {w:World} {v0 v1 v2 v3 v4:Value} {m:Z3} {who:Int} {q:Bool} (hq:Xd m who=q) (h:Smy w v0 v1 v2 v3 v4 m) :
  cB 28 #[.agg #[v0,v1,v2,v3,v4,.int .i64 m.now],.int .i64 who] w (.bool q):=by
 subst hq;obtain ⟨a0,p0,rfl,_,_⟩:=IsRooms.shape h.rm;obtain ⟨a1,p1,rfl,_,_⟩:=IsRec.shape h.gd;obtain ⟨a2,p2,rfl,hc2,hm2,r2⟩:=h.sm;obtain ⟨a3,p3,rfl,_,_⟩:=IsRec.shape h.dk;obtain ⟨a4,p4,rfl,_,_⟩:=IsRec.shape h.pc;clear h;have Ba:Hid (Below w.heap.size w (w.alloc (.cells (S6 a0 p0 a1 p1 a2 p2 a3 p3 a4 p4 m) 39))):=Z9 ((ba _ _));cases hi:inB who 0 ((m.sm.length:Int)-1)
 ·have hw:Xd m who=false:=by unfold Xd;rw [hi];rfl
  have Hi:=Z9 hi;rw [hw];clear hi hw r2;go_enter func28,ntmps28;go_wp2_with (go_at_call 70;refine (ZT _ _ _ _).mono ?_;rw [uh Hi];rintro e w' ⟨rfl,h9⟩;subst w')
  go_ret;exact ⟨rfl,uh Ba⟩
 ·obtain ⟨i0,i1⟩:=ZO hi
  obtain ⟨k,rfl⟩:∃ k:Nat,who=k:=⟨who.toNat,by omega⟩
  have hk:k<m.sm.length:=by omega
  have hw:Xd m (k:Int)= !((Z8 m.sm k).1 ==0):=by unfold Xd;rw [hi];simp
  rcases r2 with e0 | ⟨sb,off,rfl,hbw,hcl⟩
  ·rw [e0] at hk;simp at hk
  obtain ⟨d0,_⟩:=ZB hcl hk;have Hi:=Z9 hi;rw [hw];clear hi hw hcl;have hk1:(k:Int)<(m.sm.length:Int):=by omega
  generalize (Z8 m.sm k).1=st at *;go_enter func28,ntmps28;go_wp2_with (go_at_call 70;refine (ZT _ _ _ _).mono ?_;rw [uh Hi];rintro e w' ⟨rfl,h9⟩;subst w')
  go_ret;exact ⟨rfl,uh Ba⟩
open Go.ChangeShapes Go.WideShapes Go.ChangeAt Go.RowKit Go.Sort
def TH (m:Z3) (s:ZZ):Int:=YL (pushS m s) (m.sm.length:Int)
def Xy (m:Z3) (rank may guild:Int):Z3 × Int:=
 if Zl m then (if Zi (ZE rank may guild) && decide (guild<m.gd.length) then (if m.sm.length=12 then (m,4) else (if TH m (ZE rank may guild)<0 then (m,2) else
  (Zs (setS (pushS m (ZE rank may guild)) m.sm.length (R1 (ZE rank may guild) (TH m (ZE rank may guild)) (XX m (TH m (ZE rank may guild))))),0))) else (m,3)) else (Xa,3)
theorem Tn {rank may guild:Int} (h:Zi (ZE rank may guild)=true):Xe (ZE rank may guild)=true:=by
 unfold Zi at h;rw [Rj (by show (1:Int) ≠ 0;omega),Bool.false_or] at h;exact h
theorem O0 {m:Z3} (h:Loose m) {rank may guild:Int} (hs:Zi (ZE rank may guild)=true) (hg:guild<m.gd.length):Loose (pushS m (ZE rank may guild))\/m.sm.length>=12:=by
 by_cases hl:m.sm.length<12
 ·left
  obtain ⟨j,hj,_⟩:=h.openD;exact h.pushS hl (Vj.2 (.inr ⟨Tn hs,hg,by show (0:Int)<_;omega⟩)) (SL rfl)
 ·right;omega
theorem MX {m:Z3} (h:Loose m) {b:Nat} (hb:b<m.dk.length):Yl (XX m (b:Int)) (Z8 m.dk b).2.2=true:=by
 have hmk:XX m (b:Int)=(Z8 m.dk b).2.2:=by unfold XX;simp
 obtain ⟨k0,k1⟩:=Oj (h.desk b hb);rw [hmk];exact Lx (by omega) (by omega) (by omega) (by omega) (by omega) (by omega)
theorem Wq {m:Z3} (h:Loose m):m.sm.length<=12:=by
 have hd:=h.head;unfold XT at hd;simp only [ZJ,Yg] at hd;exact hd.2.2.1
theorem Of {m:Z3} (h:Zl m=true) (rank may guild:Int):Zl (Xy m rank may guild).1=true:=by
 unfold Xy;rw [h];simp only [if_true]
 split
 ·rename_i hs
  simp only [ZJ,Yg] at hs
  split
  ·exact h
  ·rename_i hl
   split
   ·exact h
   ·rename_i hb
    have hlo:=Za h;have h12:=Wq hlo
    have hx:Loose (pushS m (ZE rank may guild)):=by
     rcases O0 hlo hs.1 hs.2 with e | e
     ·exact e
     ·omega
    rcases Wj (pushS m (ZE rank may guild)) (m.sm.length:Int) with ⟨e,_⟩ | ⟨b,hbl,e,hm⟩
    ·exact absurd (show TH m (ZE rank may guild)<0 by unfold TH;rw [e];omega) hb
    ·have ec:TH m (ZE rank may guild)=(b:Int):=e
     rw [ec];unfold Yi at hm;simp only [ZJ,Zm] at hm
     have hat:Z8 (pushS m (ZE rank may guild)).sm m.sm.length=ZE rank may guild:=by
      show Z8 (m.sm++[ZE rank may guild]) m.sm.length=_;rw [XL,if_pos rfl]
     rw [hat] at hm;obtain ⟨k1,k2⟩:=Eg (m:=pushS m (ZE rank may guild)) (s:=ZE rank may guild) (b:=b) (had:=XX m (b:Int)) hx (Tn hs.1) hs.2 hbl hm.1 hm.2 (MX hlo hbl);exact Up (hx.setS (by unfold pushS;simp) k1 k2)
 ·exact h
def WG (m:Z3) (s:ZZ) (b:Int):Int:=Zx (Zr (Wy s) (XX m s.2.1) (XX m b)) (XX m b)
def W7 (m:Z3) (k:Nat) (b:Int):Z3:=setS m k (R1 (Z8 m.sm k) b (WG m (Z8 m.sm k) b))
def Xz (m:Z3) (who:Int):Z3 × Int:=
 if Zl m then (if Xd m who then (if (Z8 m.sm who.toNat).1=1 then (if YL m who<0 then (m,2) else (if Y2 (W7 m who.toNat (YL m who)) then (Zs (W7 m who.toNat (YL m who)),0) else (m,4))) else (m,2)) else (m,1)) else (Xa,3)
theorem Je {m:Z3} (h:Zl m=true) (who:Int):Zl (Xz m who).1=true:=by
 unfold Xz;rw [h];simp only [if_true]
 split
 ·split
  ·split
   ·exact h
   ·split
    ·rename_i hl
     exact Up (Tj hl)
    ·exact h
  ·exact h
 ·exact h
theorem FZ (m:Z3) (k:Nat) (s t:ZZ):setS (setS m k s) k t=setS m k t:=by unfold setS;simp
open Go.ChangeShapes Go.WideShapes Go.ChangeAt Go.RowKit Go.Sort Go.Shelf Go.Proofs.Tryz
set_option linter.unusedSimpArgs false
set_option maxRecDepth 100000
structure Nx (w W:World) (R:Nat) (v0 v1 v2 v3 v4:Value) (m:Z3) (qs:List (Z4 × Value)):Prop where
 full:FullSmy w.heap.size W v0 v1 v2 v3 v4 m qs
 blk:Blk W R 39 #[v0,v1,v2,v3,v4,.int .i64 m.now]
 own:∀ k,WX v0 v1 v2 v3 v4 qs k->k ≠ R
 bb:Below w.heap.size w W
 hR:w.heap.size<=R
section
variable {w W X : World} {R : Nat} {v0 v1 v2 v3 v4 : Value} {m : Z3} {qs : List (Z4 × Value)}
theorem Nx.next (h:Nx w W R v0 v1 v2 v3 v4 m qs) (hb:Below W.heap.size W X):Nx w X R v0 v1 v2 v3 v4 m qs:=⟨h.full.below hb,h.blk.below hb h.blk.lt,h.own,h.bb.trans (hb.mono h.bb.size),h.hR⟩
theorem Nx.cells (h:Nx w W R v0 v1 v2 v3 v4 m qs):W.cell? ⟨R,0,none⟩=some v0/\W.cell? ⟨R,1,none⟩=some v1/\W.cell? ⟨R,2,none⟩=some v2/\W.cell? ⟨R,3,none⟩=some v3/\W.cell? ⟨R,4,none⟩=some v4/\W.cell? ⟨R,5,none⟩=some (.int .i64 m.now):=h.blk.c6
theorem Nx.putS {g n cap:Nat} (h:Nx w W R v0 v1 (.slice (some ⟨g,0,none⟩) n cap) v3 v4 m qs) (hn:n=m.sm.length) {j i:Nat} (hj:j<m.sm.length) (hi:i<11) (u:Value) (x:ZZ) (hx:Zz x=(Zz (Z8 m.sm j)).set i u):Nx w (W.setCell ⟨g,j*11+i,none⟩ u) R v0 v1 (.slice (some ⟨g,0,none⟩) n cap) v3 v4 (setS m j x) qs:=by
 have hg:=h.full.own (k:=g) (.inr (.inr (.inr (.inl rfl))));have hgR:=h.own g (.inr (.inr (.inr (.inl rfl))));exact ⟨h.full.putS hn hj hi u x hx,h.blk.other (a:=⟨g,j*11+i,none⟩) (fun e=>hgR e.symm) u,h.own,h.bb.setCell (p:=⟨g,j*11+i,none⟩) hg.1 u,h.hR⟩
theorem Nx.putW {g n cap:Nat} (h:Nx w W R v0 v1 (.slice (some ⟨g,0,none⟩) n cap) v3 v4 m qs) (hn:n=m.sm.length) {j:Nat} (hj:j<m.sm.length) (x:ZZ):Nx w (Sm W g (j*11) (Zz x)) R v0 v1 (.slice (some ⟨g,0,none⟩) n cap) v3 v4 (setS m j x) qs:=by
 have hg:=h.full.own (k:=g) (.inr (.inr (.inr (.inl rfl))));have hgR:=h.own g (.inr (.inr (.inr (.inl rfl))));obtain ⟨_,hgr⟩:=RecAt.put ZV (by omega) h.full.sm hn hj x;exact ⟨h.full.putW hn hj x,h.blk.same (hgr.block R h.blk.lt (fun e=>hgR (by cases e;rfl))),h.own,h.bb.grown hgr h.bb.size (fun k e=>by cases e;exact hg.1),h.hR⟩
end
def Chg (w:World) (R:Nat) (q:Int->Addr) (X:Z3) (c:Int) (e:Ending) (W':World):Prop:=
 Below w.heap.size w W'/\((c=0/\e= .returned .nilIface/\ ∃ u0 u1 u2 u3 u4 rs,Nx w W' R u0 u1 u2 u3 u4 X rs)\/((c=1\/c=2\/c=3\/c=4\/c=5)/\e= .returned (Xx (q c))))
theorem Chg.no {w W':World} {R:Nat} {q:Int->Addr} {X:Z3} {c d:Int} (h:Below w.heap.size w W') (e:c=d) (hd:d=1\/d=2\/d=3\/d=4\/d=5):Chg w R q X c (.returned (Xx (q d))) W':=by
 subst e;exact ⟨h,.inr ⟨hd,rfl⟩⟩
theorem Chg.yes {w W':World} {R:Nat} {q:Int->Addr} {X Y:Z3} {c:Int} {u0 u1 u2 u3 u4:Value} {rs:List (Z4 × Value)} (h:Nx w W' R u0 u1 u2 u3 u4 Y rs) (e:c=0) (hX:X=Y):Chg w R q X c (.returned .nilIface) W':=by
 subst e hX;exact ⟨h.bb,.inl ⟨rfl,rfl,_,_,_,_,_,_,h⟩⟩
theorem Nf (m:Z3) (k:Nat) (s t:ZZ):setS (setS m k s) k t=setS m k t:=by unfold setS;simp
section
variable {F : Nat → TypeId → Array Value → Prop} {w W X : World} {R : Nat} {v0 v1 v2 v3 v4 : Value} {m : Z3} {qs : List (Z4 × Value)}
end
theorem OY {w W:World} {R g n cap:Nat} {v0 v1 v3 v4:Value} {m:Z3} {qs:List (Z4 × Value)} (K:Nx w W R v0 v1 (.slice (some ⟨g,0,none⟩) n cap) v3 v4 m qs) (hn:n=m.sm.length) {k:Nat} (hk:k<m.sm.length) (b had:Int) :
  Calls prog 107 #[.pointer (some ⟨g,k*11,none⟩),.int .i64 b,.int .i64 had] W fun e W'=>e= .returned (.tuple #[])/\Nx w W' R v0 v1 (.slice (some ⟨g,0,none⟩) n cap) v3 v4 (setS m k (R1 (Z8 m.sm k) b had)) qs:=by
 obtain ⟨⟨st,be,rk,my,gu,lo,hi,hd,ca,ut,wk⟩,hrk⟩:=ZI (Z8 m.sm k);have hl:∀ x:ZZ,k<(setS m k x).sm.length:=fun x=>by unfold setS;simpa using hk
 have hlen:∀ x:ZZ,n=(setS m k x).sm.length:=fun x=>by unfold setS;simpa using hn
 have hat:∀ x:ZZ,Z8 (setS m k x).sm k=x:=fun x=>by unfold setS;rw [ZC hk,if_pos rfl]
 obtain ⟨_,hga,_,_,hc,hz⟩:=RecAt.view ZV (by omega) K.full.sm hn (by omega);cases hga;have s0:=hc k hk 0 _ rfl;have f0:=hz (k*11);have K1:=K.putS hn hk (i:=0) (by omega) (.int .i64 2) (2,be,rk,my,gu,lo,hi,hd,ca,ut,wk) (by rw [hrk];rfl);obtain ⟨_,hga,_,_,hc1,hz1⟩:=RecAt.view ZV (by omega) K1.full.sm (hlen _) (by have:=hl (2,be,rk,my,gu,lo,hi,hd,ca,ut,wk);omega);cases hga;have s1:=hc1 k (hl _) 1 _ rfl;have f1:=hz1 (k*11+1);have K2:=K1.putS (hlen _) (hl _) (i:=1) (by omega) (.int .i64 b) (2,b,rk,my,gu,lo,hi,hd,ca,ut,wk) (by rw [hat];rfl);rw [Nf] at K2;obtain ⟨_,hga,_,_,hc2,hz2⟩:=RecAt.view ZV (by omega) K2.full.sm (hlen _) (by have:=hl (2,b,rk,my,gu,lo,hi,hd,ca,ut,wk);omega);cases hga;have s7:=hc2 k (hl _) 7 _ rfl;have f7:=hz2 (k*11+7);have K3:=K2.putS (hlen _) (hl _) (i:=7) (by omega) (.int .i64 had) (2,b,rk,my,gu,lo,hi,had,ca,ut,wk) (by rw [hat];rfl);rw [Nf] at K3;simp only [Nat.add_zero] at s0 s1 s7 K3;simp only [Nat.add_zero] at f1 f7;have HK:=Z9 K3;have hres:R1 (st,be,rk,my,gu,lo,hi,hd,ca,ut,wk) b had=(2,b,rk,my,gu,lo,hi,had,ca,ut,wk):=rfl;rw [hrk,hres];clear K K1 K2 K3 hc hz hc1 hz1 hc2 hz2 hat hl hlen hres hrk;go_enter func107,ntmps107;go_wp2_with fail
 go_end0
 exact ⟨rfl,uh HK⟩
end Go.Proofs.YtgdpaigcmoifbaaGreatDoor
namespace Go.Proofs.YtgdpaigcmoifbaaGreatDoor
open Go.ChangeShapes Go.WideShapes Go.ChangeAt Go.RowKit Go.Sort
set_option linter.unusedVariables false
theorem U9 {m:Z3} (h:Zl m=true):Yy m:=by
 have hf:=Ol (Za h);have h1:=hf.rm;have h2:=hf.gd;have h3:=hf.sm;have h4:=hf.dk;have h5:=hf.nums;exact ⟨⟨by omega,fun j hj=>by have:=hf.pc _ (RZ hj);omega⟩,by omega,by omega,by omega,by omega⟩
theorem Ur:Yy Xa:=⟨⟨by simp [Xa],fun j hj=>by simp [Xa] at hj⟩,by simp [Xa],by simp [Xa],by simp [Xa],by simp [Xa]⟩
theorem IQ (m:Z3) (who:Int):Yy (Xf m who).1:=by
 cases h:Zl m
 ·unfold Xf;rw [h];exact Ur
 ·exact U9 (IP h who)
theorem J6 (m:Z3) (who:Int):Yy (Ye m who).1:=by
 cases h:Zl m
 ·unfold Ye;rw [h];exact Ur
 ·exact U9 (J5 h who)
theorem Jf (m:Z3) (who:Int):Yy (Xz m who).1:=by
 cases h:Zl m
 ·unfold Xz;rw [h];exact Ur
 ·exact U9 (Je h who)
theorem G6 (m:Z3) (rank may guild:Int):Yy (Xy m rank may guild).1:=by
 cases h:Zl m
 ·unfold Xy;rw [h];exact Ur
 ·exact U9 (Of h rank may guild)
end Go.Proofs.YtgdpaigcmoifbaaGreatDoor
