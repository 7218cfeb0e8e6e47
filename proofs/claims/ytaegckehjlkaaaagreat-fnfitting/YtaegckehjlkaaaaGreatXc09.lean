/- Part 9 of what the proof rests on. No condition but those that a theorem names. -/
import Derived.Test.YtaegckehjlkaaaaGreatXc08
import Derived.OrdersHeld
import Derived.Deep.RegionHeldLaw
namespace Go.Proofs.YtaegckehjlkaaaaGreat
open Go.ChangeShapes Go.WideShapes Go.ChangeAt Go.RowKit Go.Sort
set_option linter.unusedVariables false
theorem Uj {st be rk my gu lo hi hd ca ut wk:Int} (h0:1<=st/\st<=3) (h1:0<=be/\be<=7) (h2:inB rk (-5) 5=true) (h3:1<=my/\my<=255) (h4 : -1<=gu/\gu<=5) (h5:Yr lo hi=true) (h6 : -1000000000000<=hd/\hd<=1000000000000) (h7:0<=ca/\ca<=Zl rk-1) (h8:0<=ut/\ut<=1024) (h9:0<=wk/\wk<=100000000000) :
  YY (st,be,rk,my,gu,lo,hi,hd,ca,ut,wk)=true:=by
 unfold YY
 simp only [Bool.and_eq_true]
 exact ⟨Zq h0.1 h0.2,Zq h1.1 h1.2,h2,Zq h3.1 h3.2,Zq h4.1 h4.2,h5,Zq h6.1 h6.2,Zq h7.1 h7.2,Zq h8.1 h8.2,Zq h9.1 h9.2⟩
theorem XF {m:Z6} {s:Z5} : Yf m s=true ↔ s=VQ\/(YY s=true/\s.2.2.2.2.1<m.guilds.length/\s.2.1<m.desks.length):=by
 unfold Yf ZD
 simp only [Bool.and_eq_true,Bool.or_eq_true,decide_eq_true_eq]
 constructor
 ·rintro ⟨hg | hp,hr⟩
  ·exact .inl (VH hg)
  ·right
   refine ⟨hp,?_⟩
   rcases hr with e | e
   ·have:s.1=0:=by simpa using e
    rw [OU this] at hp
    cases hp
   ·exact e
 ·rintro (rfl | ⟨hp,hr⟩)
  ·exact ⟨.inl Iw,.inl rfl⟩
  ·exact ⟨.inr hp,.inr hr⟩
theorem Vf {m:Z6} {s:Z5} (h:ZP s=false):XX m s=true:=by unfold XX;rw [h];rfl
theorem Pw {m:Z6} {s:Z5} (h1:(Z8 m.desks s.2.1.toNat).1=true) (h2:Wu s.2.2.2.1 s.2.1=true) (h3:WV (V7 s) (Z8 m.desks s.2.1.toNat).2.2=true):XX m s=true:=by
 unfold XX
 rw [h1,h2,show s.2.2.2.2.2.2.2.1=V7 s from rfl,h3]
 simp
theorem ZZ {m:Z6} (h:ZS m=true):Loose m:=by
 unfold ZS at h
 simp only [Bool.and_eq_true] at h
 exact OM h.1
def setS (m:Z6) (k:Nat) (s:Z5):Z6:={ m with smiths:=m.smiths.set k s }
theorem Loose.setS {m:Z6} (h:Loose m) {k:Nat} (hk:k<m.smiths.length) {s:Z5} (h1:Yf m s=true) (h2:XX m s=true):Loose (setS m k s):=by
 refine ⟨?_,h.desk,h.pace,?_,?_,h.openD⟩
 ·have:=h.head
  unfold YG at this ⊢
  unfold Go.Proofs.YtaegckehjlkaaaaGreat.setS
  simpa using this
 ·intro i hi
  have hi':i<m.smiths.length:=by unfold Go.Proofs.YtaegckehjlkaaaaGreat.setS at hi;simpa using hi
  show Yf (Go.Proofs.YtaegckehjlkaaaaGreat.setS m k s) (Z8 (m.smiths.set k s) i)=true
  rw [WC (m:=m) (m':=Go.Proofs.YtaegckehjlkaaaaGreat.setS m k s) rfl rfl,ZF hk]
  split
  ·exact h1
  ·exact h.here i hi'
 ·intro i hi
  have hi':i<m.smiths.length:=by unfold Go.Proofs.YtaegckehjlkaaaaGreat.setS at hi;simpa using hi
  show XX m (Z8 (m.smiths.set k s) i)=true
  rw [ZF hk]
  split
  ·exact h2
  ·exact h.seat i hi'
theorem V4 {α:Type} [Inhabited α] (xs:List α) (x:α) (i:Nat):Z8 (xs++[x]) i=if i=xs.length then x else Z8 xs i:=by
 unfold Z8
 split
 ·rename_i h;subst h;simp [List.getD]
 ·rename_i h
  rcases Nat.lt_or_ge i xs.length with hi | hi
  ·simp [List.getD,List.getElem?_append_left hi]
  ·simp [List.getD,List.getElem?_append_right hi,List.getElem?_eq_none hi]
   rw [List.getElem?_eq_none (by simp;omega)]
   rfl
def pushS (m:Z6) (s:Z5):Z6:={ m with smiths:=m.smiths++[s] }
theorem Loose.pushS {m:Z6} (h:Loose m) (hl:m.smiths.length<12) {s:Z5} (h1:Yf m s=true) (h2:XX m s=true):Loose (pushS m s):=by
 refine ⟨?_,h.desk,h.pace,?_,?_,h.openD⟩
 ·have:=h.head
  unfold YG at this ⊢
  unfold Go.Proofs.YtaegckehjlkaaaaGreat.pushS
  simp only [Bool.and_eq_true,decide_eq_true_eq] at this ⊢
  refine ⟨this.1,this.2.1,?_,this.2.2.2⟩
  simp
  omega
 ·intro i hi
  have hi':i<m.smiths.length+1:=by unfold Go.Proofs.YtaegckehjlkaaaaGreat.pushS at hi;simpa using hi
  show Yf (Go.Proofs.YtaegckehjlkaaaaGreat.pushS m s) (Z8 (m.smiths++[s]) i)=true
  rw [WC (m:=m) (m':=Go.Proofs.YtaegckehjlkaaaaGreat.pushS m s) rfl rfl,V4]
  split
  ·exact h1
  ·exact h.here i (by omega)
 ·intro i hi
  have hi':i<m.smiths.length+1:=by unfold Go.Proofs.YtaegckehjlkaaaaGreat.pushS at hi;simpa using hi
  show XX m (Z8 (m.smiths++[s]) i)=true
  rw [V4]
  split
  ·exact h2
  ·exact h.seat i (by omega)
def Xw (m:Z6) (b:Int):Int:=(Z8 m.desks b.toNat).2.2
def O3 (s:Z5) (b had:Int):Z5:=(2,b,s.2.2.1,s.2.2.2.1,s.2.2.2.2.1,s.2.2.2.2.2.1,s.2.2.2.2.2.2.1,had,s.2.2.2.2.2.2.2.2)
def putS (m:Z6) (s:Z5) (b:Int):Z5:=(s.1,b,s.2.2.1,s.2.2.2.1,s.2.2.2.2.1,s.2.2.2.2.2.1,s.2.2.2.2.2.2.1,Zh (V7 s) (Xw m s.2.1) (Xw m b),s.2.2.2.2.2.2.2.2)
def TD (s:Z5) (may:Int):Z5:=(s.1,s.2.1,s.2.2.1,may,s.2.2.2.2)
def IW (s:Z5) (lo hi:Int):Z5:=(s.1,s.2.1,s.2.2.1,s.2.2.2.1,s.2.2.2.2.1,lo,hi,s.2.2.2.2.2.2.2)
def Qv (s:Z5) (g:Int):Z5:=(s.1,s.2.1,s.2.2.1,s.2.2.2.1,g,s.2.2.2.2.2)
def Yu (rank may guild:Int):Z5:=(1,0,rank,may,guild,0,1024,0,0,0,0)
theorem Ww {m:Z6} (h:Loose m):m.desks.length<=8:=by
 have:=h.head
 unfold YG at this
 simp only [Bool.and_eq_true,decide_eq_true_eq] at this
 have h8:=(Zs this.1).2.2.2
 omega
theorem Fl {m:Z6} (h:Loose m):m.guilds.length<=6:=by
 have:=h.head
 unfold YG at this
 simp only [Bool.and_eq_true,decide_eq_true_eq] at this
 exact (VY this.2.1).2
theorem Loose.limits {m:Z6} (h:Loose m) {k:Nat} (hk:k<m.smiths.length) (hs:(Z8 m.smiths k).1 ≠ 0):YY (Z8 m.smiths k)=true/\(Z8 m.smiths k).2.2.2.2.1<m.guilds.length/\(Z8 m.smiths k).2.1<m.desks.length:=by
 rcases XF.1 (h.here k hk) with e | e
 ·rw [e] at hs;exact absurd rfl hs
 ·exact e
theorem FC {m:Z6} (h:Loose m) {k:Nat} (hk:k<m.smiths.length) (hp:ZP (Z8 m.smiths k)=true):Loose (setS m k (stS (Z8 m.smiths k) 1)):=
 h.setS hk (Kt (h.here k hk) hp (by omega) (by omega)) (Vf rfl)
theorem II {m:Z6} (h:Loose m) {k:Nat} (hk:k<m.smiths.length):Loose (setS m k VQ):=
 h.setS hk (XF.2 (.inl rfl)) (Vf rfl)
theorem FB {m:Z6} (h:Loose m) {k:Nat} (hk:k<m.smiths.length) {rank:Int} {s:Z5} (hr:Ya (Z8 m.smiths k) rank=(s,true)):Loose (setS m k s):=by
 unfold Ya at hr
 split at hr
 ·rename_i hp
  split at hr
  ·rename_i hrk
   obtain ⟨rfl,_⟩:=Prod.mk.inj hr
   have hne:(Z8 m.smiths k).1 ≠ 0:=by
    intro e
    rw [OU e] at hp
    cases hp
   obtain ⟨_,g1,b1⟩:=h.limits hk hne
   refine h.setS hk (XF.2 (.inr ⟨Rw hp hrk,g1,b1⟩)) ?_
   have:=h.seat k hk
   unfold XX at this ⊢
   exact this
  ·cases (Prod.mk.inj hr).2
 ·cases (Prod.mk.inj hr).2
theorem DR {m:Z6} (h:Loose m) {k:Nat} (hk:k<m.smiths.length) (hs:(Z8 m.smiths k).1 ≠ 0) {lo hi:Int} (hp:Yr lo hi=true):Loose (setS m k (IW (Z8 m.smiths k) lo hi)):=by
 obtain ⟨p,g1,b1⟩:=h.limits hk hs
 refine h.setS hk (XF.2 (.inr ⟨?_,g1,b1⟩)) ?_
 ·generalize Z8 m.smiths k=s at *
  obtain ⟨st,be,rk,my,gu,lo',hi',hd,ca,ut,wk⟩:=s
  obtain ⟨x0,x1,x2,x3,x4,x5,x6,x7,x8,x9⟩:=Zc p
  exact Uj x0 x1 x2 x3 x4 hp x6 x7 x8 x9
 ·have:=h.seat k hk
  unfold XX at this ⊢
  exact this
theorem Fz {m:Z6} (h:Loose m) {k:Nat} (hk:k<m.smiths.length) (hs:(Z8 m.smiths k).1 ≠ 0) {g:Int} (g0 : -1<=g) (g1:g<m.guilds.length):Loose (setS m k (Qv (Z8 m.smiths k) g)):=by
 obtain ⟨p,_,b1⟩:=h.limits hk hs
 have hg:=Fl h
 refine h.setS hk (XF.2 (.inr ⟨?_,g1,b1⟩)) ?_
 ·generalize Z8 m.smiths k=s at *
  obtain ⟨st,be,rk,my,gu,lo',hi',hd,ca,ut,wk⟩:=s
  obtain ⟨x0,x1,x2,x3,x4,x5,x6,x7,x8,x9⟩:=Zc p
  exact Uj x0 x1 x2 x3 ⟨g0,by omega⟩ x5 x6 x7 x8 x9
 ·have:=h.seat k hk
  unfold XX at this ⊢
  exact this
theorem DS {m:Z6} (h:Loose m) {k:Nat} (hk:k<m.smiths.length) (hs:(Z8 m.smiths k).1 ≠ 0) {may:Int} (m0:1<=may) (m1:may<=255) (hb:ZP (Z8 m.smiths k)=false\/Wu may (Z8 m.smiths k).2.1=true):Loose (setS m k (TD (Z8 m.smiths k) may)):=by
 obtain ⟨p,g1,b1⟩:=h.limits hk hs
 refine h.setS hk (XF.2 (.inr ⟨?_,g1,b1⟩)) ?_
 ·generalize Z8 m.smiths k=s at *
  obtain ⟨st,be,rk,my,gu,lo',hi',hd,ca,ut,wk⟩:=s
  obtain ⟨x0,x1,x2,x3,x4,x5,x6,x7,x8,x9⟩:=Zc p
  exact Uj x0 x1 x2 ⟨m0,m1⟩ x4 x5 x6 x7 x8 x9
 ·rcases hb with hb | hb
  ·exact Vf hb
  ·have:=h.seat k hk
   unfold XX at this
   cases hp:ZP (Z8 m.smiths k)
   ·exact Vf hp
   ·rw [hp] at this
    simp only [Bool.not_true,Bool.false_or,Bool.and_eq_true] at this
    exact Pw (s:=TD (Z8 m.smiths k) may) this.1 hb this.2.2
theorem DT {m:Z6} {s:Z5} {b:Nat} {had:Int} (h:Loose m) (hp:YY s=true) (hg:s.2.2.2.2.1<m.guilds.length) (hb:b<m.desks.length) (ho:(Z8 m.desks b).1=true) (hm:Wu s.2.2.2.1 b=true) (hd:WV had (Z8 m.desks b).2.2=true) :
  Yf m (O3 s b had)=true/\XX m (O3 s b had)=true:=by
 have h8:=Ww h
 obtain ⟨st,be,rk,my,gu,lo',hi',hd',ca,ut,wk⟩:=s
 obtain ⟨x0,x1,x2,x3,x4,x5,x6,x7,x8,x9⟩:=Zc hp
 obtain ⟨d0,d1,_⟩:=Rc hd
 refine ⟨XF.2 (.inr ⟨Uj (by omega) ⟨by omega,by omega⟩ x2 x3 x4 x5 ⟨d0,d1⟩ x7 x8 x9,hg,?_⟩),?_⟩
 ·show (b:Int)<_;omega
 ·exact Pw (m:=m) (s:=O3 (st,be,rk,my,gu,lo',hi',hd',ca,ut,wk) b had) (by show (Z8 m.desks ((b:Int)).toNat).1=true;simpa using ho) hm (by show WV had (Z8 m.desks ((b:Int)).toNat).2.2=true;simpa using hd)
theorem OE {m:Z6} (h:Loose m) {s:Z5} {b:Nat} (hp:YY s=true) (hpr:ZP s=true) (hg:s.2.2.2.2.1<m.guilds.length) (b0:0<=s.2.1) (b1:s.2.1<m.desks.length) (hband:WV (V7 s) (Xw m s.2.1)=true) (hb:b<m.desks.length) (ho:(Z8 m.desks b).1=true) (hm:Wu s.2.2.2.1 b=true) :
  Yf m (putS m s b)=true/\XX m (putS m s b)=true:=by
 have h8:=Ww h
 obtain ⟨k0,k1⟩:=Rj (h.desk s.2.1.toNat (by omega))
 obtain ⟨k2,k3⟩:=Rj (h.desk b hb)
 obtain ⟨a0,a1,a2,a3,a4,a5⟩:=Rc hband
 have hmk:Xw m (b:Int)=(Z8 m.desks b).2.2:=by unfold Xw;simp
 have hmv:Zh (V7 s) (Xw m s.2.1) (Xw m b)=V7 s-Xw m s.2.1+Xw m b:=D8 a0 a1 a2 a3 (by omega) (by omega)
 obtain ⟨st,be,rk,my,gu,lo',hi',hd',ca,ut,wk⟩:=s
 obtain ⟨x0,x1,x2,x3,x4,x5,x6,x7,x8,x9⟩:=Zc hp
 simp only at b0 b1 hmv a4 a5 k0 k1 hg hm
 refine ⟨XF.2 (.inr ⟨?_,hg,?_⟩),?_⟩
 ·unfold putS
  simp only
  rw [hmv]
  exact Uj x0 ⟨by omega,by omega⟩ x2 x3 x4 x5 ⟨by omega,by omega⟩ x7 x8 x9
 ·show (b:Int)<_;omega
 ·refine Pw (m:=m) (s:=putS m (st,be,rk,my,gu,lo',hi',hd',ca,ut,wk) b) (by show (Z8 m.desks ((b:Int)).toNat).1=true;simpa using ho) hm ?_
  show WV (Zh _ _ _) (Z8 m.desks ((b:Int)).toNat).2.2=true
  rw [hmv,show ((b:Int)).toNat=b by simp,<-hmk]
  exact L1 (by omega) (by omega) (by omega) (by omega) (by omega) (by omega)
def Ux (m:Z6) (r:Nat) (p:Int):Z6:={ m with paces:=m.paces.set r p }
theorem MZ {m:Z6} (h:Loose m) {r:Nat} (hr:r<m.rooms.length) {p:Int} (p0:0<=p) (p1:p<(ZU m.rooms r).2.length):Loose (Ux m r p):=by
 have hd:=h.head
 have hpl:m.paces.length=m.rooms.length:=by
  unfold YG at hd
  simp only [Bool.and_eq_true,decide_eq_true_eq] at hd
  exact hd.2.2.2.2.1
 refine ⟨?_,h.desk,?_,h.here,h.seat,h.openD⟩
 ·unfold YG at hd ⊢
  unfold Ux
  simpa using hd
 ·intro j hj
  have hj':j<m.paces.length:=by unfold Ux at hj;simpa using hj
  have:=h.pace j hj'
  unfold Wj at this ⊢
  unfold Ux
  simp only
  rw [ZF (by omega)]
  split
  ·rename_i e;subst e;exact Zq p0 (by omega)
  ·exact this
def Ys (m:Z6) (b:Nat) (o:Bool):Z6:={ m with desks:=m.desks.set b (o,(Z8 m.desks b).2) }
theorem FA {m:Z6} (h:Loose m) {b:Nat} (hb:b<m.desks.length):Loose (Ys m b true):=by
 have hat:∀ j,(Z8 (Ys m b true).desks j)=if j=b then (true,(Z8 m.desks b).2) else Z8 m.desks j:=fun j=>ZF hb j
 have hmk:∀ j,(Z8 (Ys m b true).desks j).2=(Z8 m.desks j).2:=fun j=>by
  rw [hat]
  by_cases e:j=b
  ·rw [if_pos e,e]
  ·rw [if_neg e]
 have hop:∀ j,(Z8 m.desks j).1=true->(Z8 (Ys m b true).desks j).1=true:=fun j e=>by
  rw [hat]
  by_cases e':j=b
  ·rw [if_pos e']
  ·rw [if_neg e'];exact e
 have hlen:(Ys m b true).desks.length=m.desks.length:=by unfold Ys;simp
 refine ⟨?_,?_,h.pace,?_,?_,?_⟩
 ·have:=h.head
  unfold YG at this ⊢
  rw [hlen]
  exact this
 ·intro j hj
  have:=h.desk j (by omega)
  unfold V6 at this ⊢
  rw [hmk]
  exact this
 ·intro i hi
  rw [WC (m:=m) (m':=Ys m b true) rfl hlen]
  exact h.here i hi
 ·intro i hi
  have:=h.seat i hi
  unfold XX at this ⊢
  show (!ZP (Z8 m.smiths i) || _)=true
  cases hp:ZP (Z8 m.smiths i)
  ·rfl
  ·rw [hp] at this
   simp only [Bool.not_true,Bool.false_or,Bool.and_eq_true] at this ⊢
   refine ⟨hop _ this.1,this.2.1,?_⟩
   show WV _ (Z8 (Ys m b true).desks (Z8 m.smiths i).2.1.toNat).2.2=true
   rw [hmk]
   exact this.2.2
 ·exact ⟨b,by omega,by rw [hat,if_pos rfl]⟩
def PacesAt (n₀:Nat) (w:World) (v:Value) (ps:List Z1):Prop:=w.ownsRow n₀ 144 2 v ps.length (Xa ps)
theorem PacesAt.lt {n₀:Nat} {w:World} {v:Value} {ps:List Z1} (h:PacesAt n₀ w v ps) {k:Nat} (hk:v.ownBlock=some k):n₀<=k/\k<w.heap.size:=World.ownsRow.lt h k hk
theorem PacesAt.paces {n₀:Nat} {w:World} {v:Value} {ps:List Z1} (h:PacesAt n₀ w v ps):IsPaces w v ps:=by
 have h':=h
 rcases h.2 with ⟨rfl,hz⟩ | ⟨g,cap,cur,rfl,hb,hg,hnc,hcm,r⟩
 ·exact ⟨none,0,by rw [hz],by omega,by omega,.inl (List.eq_nil_of_length_eq_zero hz)⟩
 ·refine ⟨_,cap,rfl,hnc,by unfold maxLen at hcm;omega,.inr ⟨g,0,rfl,(Array.getElem?_eq_some_iff.1 hg).1,fun k hk=> ?_⟩⟩
  have hp:=Ui (f:=fun p:Z1=>Value.int .i64 p.1) (g:=fun p:Z1=>Value.int .i64 p.2) ps k hk
  have hat:ZY ps k=ps[k]:=by unfold ZY;simp [List.getD,hk]
  rw [Nat.zero_add,hat]
  exact ⟨(World.ownsRow.cellAt h' (k*2) (by omega)).trans hp.1,(World.ownsRow.cellAt h' (k*2+1) (by omega)).trans hp.2⟩
structure OwnHall (n₀:Nat) (w:World) (v:Value) (qs:List (Z3 × Value)):Prop where
 row:w.ownsRow n₀ 140 2 v qs.length (OW qs)
 paces:∀ q ∈ qs,PacesAt n₀ w q.2 q.1.2
 off:∀ q ∈ qs,∀ b,q.2.ownBlock=some b->v.ownBlock ≠ some b
 apart:(qs.map (·.2)).Pairwise fun x y=> ∀ b,x.ownBlock=some b->y.ownBlock ≠ some b
theorem OwnHall.nil (n₀:Nat) (w:World):OwnHall n₀ w (.slice none 0 0) []:=
 ⟨World.ownsRow_nil w n₀ _ _,fun _ h=>(by cases h),fun _ h=>(by cases h),List.Pairwise.nil⟩
theorem OwnHall.lt {n₀:Nat} {w:World} {v:Value} {qs:List (Z3 × Value)} (h:OwnHall n₀ w v qs) {k:Nat} (hk:v.ownBlock=some k\/ ∃ q ∈ qs,q.2.ownBlock=some k):n₀<=k/\k<w.heap.size:=by
 rcases hk with hk | ⟨q,hq,hk⟩
 ·exact World.ownsRow.lt h.row k hk
 ·exact (h.paces q hq).lt hk
theorem OwnHall.same {n₀:Nat} {w w':World} {v:Value} {qs:List (Z3 × Value)} (h:OwnHall n₀ w v qs) (hs:∀ k,n₀<=k->k<w.heap.size->w'.heap[k]?=w.heap[k]?):OwnHall n₀ w' v qs:=
 ⟨XH h.row (fun k e=>hs k (h.lt (.inl e)).1 (h.lt (.inl e)).2),fun q hq=>XH (h.paces q hq) (fun k e=>hs k (h.lt (.inr ⟨q,hq,e⟩)).1 (h.lt (.inr ⟨q,hq,e⟩)).2),h.off,h.apart⟩
theorem OwnHall.later {n₀:Nat} {w w':World} {v:Value} {qs:List (Z3 × Value)} (h:OwnHall n₀ w v qs) (hb:Below w.heap.size w w'):OwnHall n₀ w' v qs:=h.same (fun k _ hk=>hb.block k hk)
theorem OwnHall.but {n₀ bc:Nat} {w w':World} {v:Value} {qs:List (Z3 × Value)} (h:OwnHall n₀ w v qs) (hb:But bc w w') (hbc:bc<n₀\/w.heap.size<=bc):OwnHall n₀ w' v qs:=h.same (fun k h0 hk=>hb.block k hk (by omega))
theorem OwnHall.mono {n₀ n₁:Nat} {w:World} {v:Value} {qs:List (Z3 × Value)} (h:OwnHall n₀ w v qs) (hn:n₁<=n₀):OwnHall n₁ w v qs:=
 ⟨Uf h.row hn,fun q hq=>Uf (h.paces q hq) hn,h.off,h.apart⟩
theorem OwnHall.rooms {n₀:Nat} {w:World} {v:Value} {qs:List (Z3 × Value)} (h:OwnHall n₀ w v qs):IsRooms w v (qs.map (·.1)):=by
 have h':=h.row
 have hlen:(qs.map (·.1)).length=qs.length:=by simp
 rcases h.row.2 with ⟨rfl,hz⟩ | ⟨g,cap,cur,rfl,hb,hg,hnc,hcm,r⟩
 ·exact ⟨none,0,by rw [hlen,hz],by omega,by omega,.inl (by rw [List.eq_nil_of_length_eq_zero hz];rfl)⟩
 ·refine ⟨_,cap,by rw [hlen],by rw [hlen];exact hnc,by unfold maxLen at hcm;omega,.inr ⟨g,0,rfl,(Array.getElem?_eq_some_iff.1 hg).1,fun k hk=> ?_⟩⟩
  rw [hlen] at hk
  have hp:=Ui (f:=fun q:Z3 × Value=>Value.int .i64 q.1.1) (g:=fun q:Z3 × Value=>q.2) qs k hk
  have hat:ZU (qs.map (·.1)) k=qs[k].1:=by unfold ZU;simp [List.getD,hk]
  rw [Nat.zero_add,hat]
  exact ⟨(World.ownsRow.cellAt h' (k*2) (by omega)).trans hp.1,qs[k].2,(World.ownsRow.cellAt h' (k*2+1) (by omega)).trans hp.2,(h.paces _ (List.getElem_mem hk)).paces⟩
theorem OwnHall.push {n₀:Nat} {w w1:World} {v v' pv:Value} {qs:List (Z3 × Value)} {rb:Int} {ps:List Z1} {o:Obj} (h:OwnHall n₀ w v qs) (hp:PacesAt n₀ w pv ps)
  (hoff:∀ b,pv.ownBlock=some b->v.ownBlock ≠ some b) (hap:∀ q ∈ qs,∀ b,q.2.ownBlock=some b->pv.ownBlock ≠ some b)
  (hown:w1.ownsRow n₀ 140 2 v' (qs.length+1) (OW qs++[.int .i64 rb,pv])) (hg:(w.alloc o).grownBy w1 v.ownBlock) (hat:v'.ownBlock=v.ownBlock\/v'.ownBlock=some (w.alloc o).heap.size) :
  OwnHall n₀ w1 v' (qs++[((rb,ps),pv)]):=by
 have hk:∀ k,k<w.heap.size->v.ownBlock ≠ some k->w1.heap[k]?=w.heap[k]?:=fun k hk hn=>(hg.block k (by simp;omega) (fun e=>hn e.symm)).trans (Below.heap_alloc w o k hk)
 have hv':∀ k,k<w.heap.size->v'.ownBlock=some k->v.ownBlock=some k:=fun k hk e=>by
  rcases hat with e' | e'
  ·rw [<-e'];exact e
  ·rw [e'] at e;simp at e;omega
 refine ⟨?_,fun q hq=> ?_,fun q hq b e=> ?_,?_⟩
 ·simpa [OW] using hown
 ·rcases List.mem_append.1 hq with hq | hq
  ·exact XH (h.paces q hq) (fun k e=>hk k (h.lt (.inr ⟨q,hq,e⟩)).2 (h.off q hq k e))
  ·obtain rfl:q=((rb,ps),pv):=by simpa using hq
   exact XH hp (fun k e=>hk k (hp.lt e).2 (hoff k e))
 ·rcases List.mem_append.1 hq with hq | hq
  ·exact fun e'=>h.off q hq b e (hv' b (h.lt (.inr ⟨q,hq,e⟩)).2 e')
  ·obtain rfl:q=((rb,ps),pv):=by simpa using hq
   exact fun e'=>hoff b e (hv' b (hp.lt e).2 e')
 ·rw [List.map_append,List.pairwise_append]
  refine ⟨h.apart,by simp,fun x hx y hy b e=> ?_⟩
  obtain ⟨q,hq,rfl⟩:=List.mem_map.1 hx
  obtain rfl:y=pv:=by simpa using hy
  exact hap q hq b e
theorem Fx:(Tryz.prog.info? 144).map (fun i=>(i.zero,i.size,i.bytes))=some (some (.agg #[.int .i64 0,.int .i64 0]),2,16):=by kernel_rfl
theorem MV:(Tryz.prog.info? 140).map (fun i=>(i.zero,i.size,i.bytes))=some (some (.agg #[.int .i64 0,.slice none 0 0]),2,32):=by kernel_rfl
theorem OwnHall.shape {n₀:Nat} {w:World} {v:Value} {qs:List (Z3 × Value)} (h:OwnHall n₀ w v qs):∃ a cap,v= .slice a qs.length cap:=by
 rcases h.row.2 with ⟨rfl,hz⟩ | ⟨g,cap,cur,rfl,_⟩
 ·exact ⟨none,0,by rw [hz]⟩
 ·exact ⟨_,cap,rfl⟩
theorem PacesAt.shape {n₀:Nat} {w:World} {v:Value} {ps:List Z1} (h:PacesAt n₀ w v ps):∃ a cap,v= .slice a ps.length cap:=by
 rcases h.2 with ⟨rfl,hz⟩ | ⟨g,cap,cur,rfl,_⟩
 ·exact ⟨none,0,by rw [hz]⟩
 ·exact ⟨_,cap,rfl⟩
theorem PacesAt.mono {n₀ n₁:Nat} {w:World} {v:Value} {ps:List Z1} (h:PacesAt n₀ w v ps) (hn:n₁<=n₀):PacesAt n₁ w v ps:=Uf h hn
def N1 (u v:Value):Prop:= ∀ b,u.ownBlock=some b->v.ownBlock ≠ some b
def Pr (u v:Value) (qs:List (Z3 × Value)):Prop:=N1 u v/\ ∀ q ∈ qs,N1 u q.2
structure FullSmy (n₀:Nat) (w:World) (v0 v1 v2 v3 v4:Value) (m:Z6) (qs:List (Z3 × Value)):Prop where
 hall:OwnHall n₀ w v0 qs
 rooms:qs.map (·.1)=m.rooms
 guilds:GuildsAt n₀ w v1 m.guilds
 smiths:SmithsAt n₀ w v2 m.smiths
 desks:DesksAt n₀ w v3 m.desks
 paces:NumsAt n₀ w v4 m.paces
 h1:Pr v1 v0 qs
 h2:Pr v2 v0 qs
 h3:Pr v3 v0 qs
 h4:Pr v4 v0 qs
 a12:N1 v1 v2
 a13:N1 v1 v3
 a14:N1 v1 v4
 a23:N1 v2 v3
 a24:N1 v2 v4
 a34:N1 v3 v4
theorem FullSmy.smy {n₀:Nat} {w:World} {v0 v1 v2 v3 v4:Value} {m:Z6} {qs:List (Z3 × Value)} (h:FullSmy n₀ w v0 v1 v2 v3 v4 m qs):Smy w v0 v1 v2 v3 v4 m:=
 ⟨by rw [<-h.rooms];exact h.hall.rooms,h.guilds.list,h.smiths.list,h.desks.list,h.paces.list⟩
theorem OwnHall.set_old {n₀:Nat} {w:World} {v:Value} {qs:List (Z3 × Value)} (h:OwnHall n₀ w v qs) (g o:Nat) (u:Value) (hg:g<n₀):OwnHall n₀ (w.setCell ⟨g,o,none⟩ u) v qs:=
 h.same fun k h0 hk=>heap_setCell_other w _ k u (by show k ≠ g;omega)
theorem FullSmy.below {n₀:Nat} {w w':World} {v0 v1 v2 v3 v4:Value} {m:Z6} {qs:List (Z3 × Value)} (h:FullSmy n₀ w v0 v1 v2 v3 v4 m qs) (hb:Below w.heap.size w w'):FullSmy n₀ w' v0 v1 v2 v3 v4 m qs:=
 ⟨h.hall.later hb,h.rooms,RecAt.later h.guilds hb,RecAt.later h.smiths hb,RecAt.later h.desks hb,RecAt.later h.paces hb,h.h1,h.h2,h.h3,h.h4,h.a12,h.a13,h.a14,h.a23,h.a24,h.a34⟩
theorem FullSmy.set {n₀:Nat} {w:World} {v0 v1 v2 v3 v4:Value} {m:Z6} {qs:List (Z3 × Value)} (h:FullSmy n₀ w v0 v1 v2 v3 v4 m qs) (g o:Nat) (u:Value) (hg:g<n₀):FullSmy n₀ (w.setCell ⟨g,o,none⟩ u) v0 v1 v2 v3 v4 m qs:=
 ⟨h.hall.set_old g o u hg,h.rooms,RecAt.set_old h.guilds g o u hg,RecAt.set_old h.smiths g o u hg,RecAt.set_old h.desks g o u hg,RecAt.set_old h.paces g o u hg,h.h1,h.h2,h.h3,h.h4,h.a12,h.a13,h.a14,h.a23,h.a24,h.a34⟩
theorem FullSmy.mono {n₀ n₁:Nat} {w:World} {v0 v1 v2 v3 v4:Value} {m:Z6} {qs:List (Z3 × Value)} (h:FullSmy n₀ w v0 v1 v2 v3 v4 m qs) (hn:n₁<=n₀):FullSmy n₁ w v0 v1 v2 v3 v4 m qs:=
 ⟨h.hall.mono hn,h.rooms,RecAt.mono h.guilds hn,RecAt.mono h.smiths hn,RecAt.mono h.desks hn,RecAt.mono h.paces hn,h.h1,h.h2,h.h3,h.h4,h.a12,h.a13,h.a14,h.a23,h.a24,h.a34⟩
section
variable {P : Program} {ops : Array Oper} {z : Oper} {Q : Exit → Act → World → Prop} {md : Region.Mode}
def Nt (P:Program) (full:Array Oper) (Q:Exit->Act->World->Prop) (n:Nat):Exit->Act->World->Prop
 | .normal,a,w=>wpOp P full Q n (fun a' w'=>Q .normal a' w') a w
 | e,a,w=>Q e a w
def R6 (md:Region.Mode) (ops:Array Oper) (z:Oper):Bool:=
 (List.range ops.size).all (fun i=>(ops[i]?).all fun o=>o.guard.isNone && o.after.all fun e=>decide (e.on<i)) && (List.range ops.size).all (fun i=>(z.after.any fun e=>Region.binds md e && decide (e.on=i)) || (List.range ops.size).any fun j=>decide (i<j) && (ops[j]?).any fun o=>o.after.any fun e=>Region.binds md e && decide (e.on=i)) && z.after.all fun e=>decide (e.on<ops.size)
theorem CQ {Q':Exit->Act->World->Prop} (hq:∀ e a w,e ≠ .normal->Q' e a w->Q e a w) {o:Oper} {a:Act} {w:World} {K:Act->World->Prop} (h:o.wp P a w K Q'):o.wp P a w K Q:=by
 have hl:LetsOut Q'->LetsOut Q:=fun ⟨a,w,h⟩=>⟨a,w,hq _ _ _ (by simp) h⟩
 unfold Oper.wp at *
 generalize (execOp a.eval o).run P w=r at *
 cases r with
 | ok n w'=>
  cases n<;>simp only [Oper.upon] at h ⊢ <;>
   first
    | exact h
    | exact Calls.mono h (fun e w'' he=>by cases e<;>first | exact he | exact hq _ _ _ (by simp) he | exact hl he)
 | halt x w'=>
  cases x<;>simp only [Oper.upon] at h ⊢<;>first | exact h | exact hq _ _ _ (by simp) h | exact hl h
theorem Qt (l:Array Bool) (d:Bool) (i:Nat):(l.push false).getD i d=if i=l.size then false else l.getD i d:=by
 simp only [Array.getD_eq_getD_getElem?,Array.getElem?_push]
 split<;>rfl
theorem OY (l:Array Bool) (hl:l.size=ops.size):Region.ready md (ops.push z) (l.push false)=Region.ready md ops l++(if (z.after.all fun e=> !Region.binds md e || l.getD e.on false)=true then [ops.size] else []):=by
 have hout:∀ j,(l.push false).getD j false=l.getD j false:=fun j=>by
  rw [Qt]
  split
  ·rename_i h;subst h;simp
  ·rfl
 unfold Region.ready
 rw [Array.size_push,List.range_succ,List.filter_append]
 congr 1
 ·refine List.filter_congr fun i hi=> ?_
  have hi:=List.mem_range.1 hi
  rw [Qt,if_neg (by omega),Array.getElem?_push,if_neg (by omega)]
  simp only [hout]
 ·simp only [List.filter_cons,List.filter_nil]
  rw [Qt,if_pos hl.symm,Array.getElem?_push,if_pos rfl]
  simp only [hout,Bool.not_false,Bool.true_and,Option.map_some,Option.getD_some]
theorem Ev (l:Array Bool) {i:Nat} (hi:i<l.size):(l.push false).setIfInBounds i true=(l.setIfInBounds i true).push false:=by
 apply Array.ext_getElem?
 intro j
 simp only [Array.getElem?_setIfInBounds,Array.getElem?_push,Array.size_push,Array.size_setIfInBounds]
 by_cases h1:i=j
 ·subst h1
  have h2:¬ i=l.size:=by omega
  have h3:i<l.size+1:=by omega
  simp [h2,h3,hi]
 ·simp [h1]
theorem QZ (h:R6 md ops z=true):(∀ (i:Nat) (o:Oper),ops[i]?=some o->o.guard=none/\ ∀ e ∈ o.after,e.on<i)/\(∀ i,i<ops.size->(∃ e ∈ z.after,Region.binds md e=true/\e.on=i)\/ ∃ (j:Nat) (o:Oper),i<j/\j<ops.size/\ops[j]?=some o/\ ∃ e ∈ o.after,Region.binds md e=true/\e.on=i)/\ ∀ e ∈ z.after,e.on<ops.size:=by
 unfold R6 at h
 simp only [Bool.and_eq_true,List.all_eq_true,List.mem_range] at h
 obtain ⟨⟨h1,h2⟩,h3⟩:=h
 refine ⟨fun i o ho=> ?_,fun i hi=> ?_,fun e he=> ?_⟩
 ·have hi:i<ops.size:=by
   rcases Nat.lt_or_ge i ops.size with h | h
   ·exact h
   ·rw [Array.getElem?_eq_none h] at ho;cases ho
  have:=h1 i hi
  rw [ho] at this
  simp only [Option.all_some,Bool.and_eq_true,Option.isNone_iff_eq_none,Array.all_eq_true_iff_forall_mem,decide_eq_true_eq] at this
  exact this
 ·have:=h2 i hi
  rw [Bool.or_eq_true] at this
  rcases this with this | this
  ·obtain ⟨k,hk,h9⟩:=Array.any_eq_true.1 this
   simp only [Bool.and_eq_true,decide_eq_true_eq] at h9
   exact .inl ⟨_,Array.getElem_mem hk,h9.1,h9.2⟩
  ·obtain ⟨j,hj,hja⟩:=List.any_eq_true.1 this
   have hj:=List.mem_range.1 hj
   rw [Bool.and_eq_true,decide_eq_true_eq] at hja
   have ho:ops[j]?=some ops[j]:=Array.getElem?_eq_getElem hj
   have h8:=hja.2
   rw [ho] at h8
   obtain ⟨k,hk,h9⟩:=Array.any_eq_true.1 h8
   simp only [Bool.and_eq_true,decide_eq_true_eq] at h9
   exact .inr ⟨j,_,hja.1,hj,ho,_,Array.getElem_mem hk,h9.1,h9.2⟩
 ·simp only [Array.all_eq_true_iff_forall_mem,decide_eq_true_eq] at h3
  exact h3 e he
theorem GC {l:Array Bool} {i:Nat} (hi:i<l.size) (h:l.getD i true=true):l.getD i false=true:=by
 simp only [Array.getD_eq_getD_getElem?,Array.getElem?_eq_getElem hi,Option.getD_some] at h ⊢
 exact h
theorem FY (hok:R6 md ops z=true) {l:Array Bool} (hl:l.size=ops.size) (hr:Region.ready md ops l=[]):∀ i,i<ops.size->l.getD i true=true:=by
 obtain ⟨h1,_,_⟩:=QZ hok
 intro i
 induction i using Nat.strongRecOn with
 | _ i ih=>
  intro hi
  cases hg:l.getD i true
  ·exfalso
   have ho:ops[i]?=some ops[i]:=Array.getElem?_eq_getElem hi
   obtain ⟨_,ha⟩:=h1 i _ ho
   have hm:i ∈ Region.ready md ops l:=by
    unfold Region.ready
    rw [List.mem_filter]
    refine ⟨List.mem_range.2 hi,?_⟩
    rw [hg,ho]
    simp only [Bool.not_false,Bool.true_and,Option.map_some,Option.getD_some,Array.all_eq_true_iff_forall_mem]
    intro e he
    have hlt:=ha e he
    rw [GC (by omega) (ih e.on hlt (by omega)),Bool.or_true]
   rw [hr] at hm
   exact List.not_mem_nil hm
  ·rfl
theorem Ja {l:Array Bool} (h:∀ i,i<ops.size->l.getD i true=true):Region.ready md ops l=[]:=by
 unfold Region.ready
 rw [List.filter_eq_nil_iff]
 intro i hi
 rw [h i (List.mem_range.1 hi)]
 simp
theorem Gp {l:Array Bool} {a:Act} {w:World} (hr:Region.ready md ops l=[]) (h:Q .normal a w):∀ fuel,wpAny P md ops Q fuel l a w
 | 0=>⟨hr,h⟩
 | _+1=>⟨fun _=>h,by rw [hr];simp⟩
def LL (md:Region.Mode) (ops:Array Oper) (l:Array Bool):Prop:= ∀ (i:Nat) (o:Oper),ops[i]?=some o->l.getD i false=true-> ∀ e ∈ o.after,Region.binds md e=true->l.getD e.on false=true
theorem Ij (hok:R6 md ops z=true) {l:Array Bool} (hcl:LL md ops l) (hz:(z.after.all fun e=> !Region.binds md e || l.getD e.on false)=true):∀ d i,i+d+1=ops.size->l.getD i false=true:=by
 obtain ⟨_,k2,_⟩:=QZ hok
 rw [Array.all_eq_true_iff_forall_mem] at hz
 intro d
 induction d using Nat.strongRecOn with
 | _ d ih=>
  intro i hi
  rcases k2 i (by omega) with ⟨e,he,hb,rfl⟩ | ⟨j,o,hij,hj,ho,e,he,hb,rfl⟩
  ·have:=hz e he
   rw [hb] at this
   simpa using this
  ·exact hcl j o ho (ih (ops.size-j-1) (by omega) j (by omega)) e he hb
theorem EJ (hok:R6 md ops z=true):∀ (fuel:Nat) (l:Array Bool) (a:Act) (w:World),l.size=ops.size->LL md ops l->wpAny P md ops (Nt P (ops.push z) Q ops.size) fuel l a w->wpAny P md (ops.push z) Q (fuel+1) (l.push false) a w:=by
 obtain ⟨k1,k2,k3⟩:=QZ hok
 have last:∀ (fuel:Nat) (l:Array Bool) (a:Act) (w:World),l.size=ops.size->Region.ready md ops l=[]->Nt P (ops.push z) Q ops.size .normal a w->wpAny P md (ops.push z) Q (fuel+1) (l.push false) a w:=by
  intro fuel l a w hl hr hq
  have hall:=FY hok hl hr
  have hz:(z.after.all fun e=> !Region.binds md e || l.getD e.on false)=true:=by
   rw [Array.all_eq_true_iff_forall_mem]
   intro e he
   rw [GC (by have:=k3 e he;omega) (hall e.on (k3 e he)),Bool.or_true]
  have hrf:=OY (ops:=ops) (z:=z) (md:=md) l hl
  rw [hr,if_pos hz,List.nil_append] at hrf
  refine ⟨fun h0=>(by rw [hrf] at h0;cases h0),fun i hi=> ?_⟩
  rw [hrf] at hi
  obtain rfl:i=ops.size:=by simpa using hi
  refine wpOp_mono (fun a' w' h=>Gp (Ja fun j hj=> ?_) h fuel) hq
  rw [Array.size_push] at hj
  simp only [Array.getD_eq_getD_getElem?,Array.getElem?_setIfInBounds,Array.getElem?_push,Array.size_push]
  by_cases hj2:ops.size=j
  ·subst hj2
   simp [hl]
  ·have h9:=hall j (by omega)
   rw [Array.getD_eq_getD_getElem?] at h9
   have h8:¬ j=l.size:=by omega
   simp only [hj2,h8,if_false]
   exact h9
 intro fuel
 induction fuel with
 | zero=>intro l a w hl hcl h;exact last 0 l a w hl h.1 h.2
 | succ fuel ih=>
  intro l a w hl hcl h
  by_cases hr:Region.ready md ops l=[]
  ·exact last (fuel+1) l a w hl hr (h.1 hr)
  ·obtain ⟨j,hj⟩:=List.exists_mem_of_ne_nil _ hr
   have hjm:=hj
   unfold Region.ready at hjm
   rw [List.mem_filter] at hjm
   have hjn:=List.mem_range.1 hjm.1
   have hjl:l.getD j true=false:=by
    have:=hjm.2
    simp only [Bool.and_eq_true,Bool.not_eq_true'] at this
    exact this.1
   have hz:¬ (z.after.all fun e=> !Region.binds md e || l.getD e.on false)=true:=by
    intro hall
    have:=Ij hok hcl hall (ops.size-j-1) j (by omega)
    simp only [Array.getD_eq_getD_getElem?,Array.getElem?_eq_getElem (show j<l.size by omega),Option.getD_some] at this hjl
    rw [this] at hjl
    cases hjl
   have hrf:=OY (ops:=ops) (z:=z) (md:=md) l hl
   rw [if_neg hz,List.append_nil] at hrf
   refine ⟨fun h0=>(by rw [hrf] at h0;exact absurd h0 hr),fun i hi=> ?_⟩
   rw [hrf] at hi
   have hin:i<ops.size:=by
    unfold Region.ready at hi
    exact List.mem_range.1 (List.mem_filter.1 hi).1
   have hop:=h.2 i hi
   have ho:ops[i]?=some ops[i]:=Array.getElem?_eq_getElem hin
   have hof:(ops.push z)[i]?=some ops[i]:=by rw [Array.getElem?_push,if_neg (by omega)];exact ho
   have hg:=(k1 i _ ho).1
   have w1:∀ (full:Array Oper),Region.wanted ops[i] (yielded full a.tmps)=true:=fun full=>by simp [Region.wanted,hg]
   have hq:∀ (e:Exit) (a:Act) (w:World),e ≠ .normal->Nt P (ops.push z) Q ops.size e a w->Q e a w:=fun e a w hne h=>by
    cases e<;>first | exact h | exact absurd rfl hne
   unfold wpOp at hop ⊢
   simp only [ho,w1,if_true] at hop
   simp only [hof,w1,if_true]
   rw [Ev l (by omega)]
   have hcl2:LL md ops (l.setIfInBounds i true):=by
    have hmono:∀ x,l.getD x false=true->(l.setIfInBounds i true).getD x false=true:=fun x hx=>by
     simp only [Array.getD_eq_getD_getElem?,Array.getElem?_setIfInBounds] at hx ⊢
     by_cases hxi:i=x
     ·subst hxi;simp [show i<l.size by omega]
     ·rw [if_neg hxi];exact hx
    intro x o' ho' hx e he hb
    by_cases hxi:i=x
    ·subst hxi
     apply hmono
     have hi9:=hi
     unfold Region.ready at hi9
     rw [List.mem_filter,ho'] at hi9
     have:=hi9.2
     simp only [Bool.and_eq_true,Option.map_some,Option.getD_some,Array.all_eq_true_iff_forall_mem] at this
     have h8:=this.2 e he
     rw [hb] at h8
     simpa using h8
    ·apply hmono
     refine hcl x o' ho' ?_ e he hb
     simp only [Array.getD_eq_getD_getElem?,Array.getElem?_setIfInBounds,if_neg hxi] at hx ⊢
     exact hx
   rcases hop with hop | ⟨has,a9,w9,hlo⟩
   ·exact .inl (CQ hq (Oper.wp_mono (fun a' w' h9=>ih _ a' w' (by simpa using hl) hcl2 h9) hop))
   ·exact .inr ⟨has,a9,w9,hq _ _ _ (by simp) hlo⟩
theorem Pq {id:Nat} {a:Act} {w:World} {S:World->Prop} (hm:P.follows .mixedOrders=true) (hok:R6 .any ops z=true) (hS:S w.drew)
  (h:S w.drew->wpAnyH P .any ops (Nt P (ops.push z) Q ops.size) S ops.size (Array.replicate ops.size false) a w.drew):(Code.region id (ops.push z) true).wp P Q a w:=by
 refine wp_region_any hm ?_
 have h9:=EJ (Q:=Q) hok ops.size (Array.replicate ops.size false) a w.drew (by simp) (fun i o ho hx=>by
  simp only [Array.getD_eq_getD_getElem?,Array.getElem?_replicate] at hx
  split at hx<;>simp at hx) (wpAny_of_held _ _ _ _ (h hS))
 rw [Array.size_push]
 have hrep:(Array.replicate ops.size false).push false=Array.replicate (ops.size+1) false:=by simp [Array.replicate_succ]
 rw [hrep] at h9
 exact h9
theorem ZM {full:Array Oper} {n:Nat} {o:Oper} {a:Act} {w:World} (ho:full[n]?=some o) (hg:o.guard=none) (h:o.wp P a w (fun a' w'=>Q .normal a' w') Q):Nt P full Q n .normal a w:=by
 show wpOp P full Q n _ a w
 unfold wpOp
 simp only [ho,show Region.wanted o (yielded full a.tmps)=true by simp [Region.wanted,hg],if_true]
 exact .inl h
theorem ZL {id:Nat} {full:List Oper} {a:Act} {w:World} {S:World->Prop} (hm:P.follows .mixedOrders=true) (hne:full ≠ []) (hok:R6 .any full.dropLast.toArray (full.getLast hne)=true) (hS:S w.drew)
  (h:S w.drew->wpAnyH P .any full.dropLast.toArray (Nt P full.toArray Q full.dropLast.length) S full.dropLast.length (Array.replicate full.dropLast.length false) a w.drew):(Code.region id full.toArray true).wp P Q a w:=by
 have e:full.toArray=full.dropLast.toArray.push (full.getLast hne):=by rw [List.push_toArray,List.dropLast_concat_getLast]
 rw [e]
 refine Pq hm hok hS ?_
 rw [<-e]
 simpa using h
end
theorem rd {P:Program} {ops:Array Oper} {Q:Exit->Act->World->Prop} {md:Region.Mode} {S:World->Prop} (i:Nat) {o:Oper} {fuel:Nat} {listed:Array Bool} {a:Act} {w:World} (ho:ops[i]?=some o)
  (h:∀ K':Act->World->Prop,Shut (∀ a w,S w->(S w->wpAnyH P md ops Q S fuel (listed.setIfInBounds i true) a w)->K' a w)->if Region.wanted o (yielded ops a.tmps)=true then Oper.wp P o a w K' Q else K' (a.put o.dst undef) w)
  (hr:Region.ready md ops listed=[i]:=by kernel_rfl):wpAnyH P md ops Q S (fuel+1) listed a w:=wpAnyH_ready hr (by simp) (AllReadyH.cons ho h AllReadyH.nil)
theorem tk {P:Program} {ops:Array Oper} {Q:Exit->Act->World->Prop} {md:Region.Mode} {S:World->Prop} (i:Nat) {oi:Oper} {v:Value} {fuel:Nat} {listed:Array Bool} {a:Act} {w:World} (hi:ops[i]?=some oi) (hS:S w)
  (h:wpAnyH P md ops Q S fuel (listed.setIfInBounds i true) (a.put oi.dst v) w) (hw:Region.wanted oi (yielded ops a.tmps)=true:=by rfl) (hv:∀ w,S w->(execOp a.eval oi).run P w= .ok (.value v) w:=by intro W9 hSw;(try dsimp only at hSw);go_simp;(try with_reducible rfl)) (hs:Region.noSelect ops=true:=by kernel_rfl) (hf:Region.free md ops listed i=true:=by kernel_rfl) (hr:(Region.ready md ops listed).contains i=true:=by kernel_rfl)
  (hQ:∀ c a w,Q (.panic c) (a.put oi.dst v) w->Q (.panic c) a w:=by exact fun _ _ _ h=>h):wpAnyH P md ops Q S (fuel+1) listed a w:=wpAnyH_take hi hs hf hr hQ (Or.inl ⟨hw,hv⟩) hS h
end Go.Proofs.YtaegckehjlkaaaaGreat
