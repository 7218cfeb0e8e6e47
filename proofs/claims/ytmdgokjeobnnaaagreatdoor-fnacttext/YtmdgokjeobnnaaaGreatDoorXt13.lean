/- Part 13 of what the proof rests on. No condition but those that a theorem names. -/
import Derived.Test.YtmdgokjeobnnaaaGreatDoorXt07
import Derived.Test.YtmdgokjeobnnaaaGreatDoorXt09
import Derived.Test.YtmdgokjeobnnaaaGreatDoorXt10
import Derived.Test.YtmdgokjeobnnaaaGreatDoorXt11
set_option maxHeartbeats 8000000
set_option maxRecDepth 100000
namespace Go.Proofs.YtmdgokjeobnnaaaGreatDoor
open Go.ChangeShapes Go.WideShapes Go.ChangeAt Go.RowKit Go.Sort
set_option linter.unusedVariables false
variable {w w' w0 w1 w2 w3 w₀ wr W W' X A B C : World} {v v0 v1 v2 v3 v4 u u0 u1 u2 u3 u4 : Value} {m : Z7}
def Ri (gs:List Zy) (s:Z6):Int:=min (max s.2.2.2.2.2.2.2.2.2.1 (Rv (bnd gs s.2.2.2.2.1) s.2.2.2.2.2.1 s.2.2.2.2.2.2.1).1) (Rv (bnd gs s.2.2.2.2.1) s.2.2.2.2.2.1 s.2.2.2.2.2.2.1).2
def Yn (m:Z7) (who:Int):Int:=Ri m.gd (Z8 m.sm who.toNat)
theorem Jy (gs:List Zy) (s:Z6):0<=Ri gs s/\Ri gs s<=1024:=by
 obtain ⟨b0,b1,b2⟩:=Gj gs s.2.2.2.2.1;obtain ⟨n0,n1,n2⟩:=Lh (lo:=s.2.2.2.2.2.1) (hi:=s.2.2.2.2.2.2.1) b0 b1 b2;unfold Ri;omega
theorem Om (m:Z7) (who:Int):0<=Yn m who/\Yn m who<=1024:=Jy _ _
def VB (m:Z7) (but:Int) (q:List Z1):Int:=q.foldl (fun n e=>if e.2=but then n else n+Yn m e.2) 0
theorem MF (m:Z7) (but:Int) (q:List Z1) (e:Z1):VB m but (q++[e])=if e.2=but then VB m but q else VB m but q+Yn m e.2:=by
 unfold VB;rw [List.foldl_append];rfl
theorem Oj (m:Z7) (but:Int):∀ (q:List Z1) (n:Int),0<=n->0<=q.foldl (fun n e=>if e.2=but then n else n+Yn m e.2) n/\q.foldl (fun n e=>if e.2=but then n else n+Yn m e.2) n<=n+1024*q.length
 | [],n,h=>⟨h,by simp⟩
 | e::q,n,h=>by
  have hw:=Om m e.2;have ih:=Oj m but q (if e.2=but then n else n+Yn m e.2) (by split<;>omega);refine ⟨ih.1,Int.le_trans ih.2 ?_⟩;simp only [Zn,Int.natCast_add,Int.natCast_one]
  split<;>omega
theorem Ok (m:Z7) (but:Int) (q:List Z1):0<=VB m but q/\VB m but q<=1024*q.length:=by
 have:=Oj m but q 0 (by omega);unfold VB;omega
def XJ (m:Z7) (b but:Int):Int:=VB m but (atV m.sm b m.sm.length)
theorem Ol (m:Z7) (b but:Int):0<=XJ m b but/\XJ m b but<=1024*m.sm.length:=by
 have h:=Ok m but (atV m.sm b m.sm.length);have hl:=SO m.sm b m.sm.length;unfold XJ;refine ⟨h.1,Int.le_trans h.2 ?_⟩;omega
def Zd (m:Z7) (room:Int):Nat->Int × Int
 | 0=>(0,0)
 | k+1=>if (WS m.rm k:Int)=room then ((if (Z8 m.dk k).1 then max (Zd m room k).1 (XJ m k (-1)) else (Zd m room k).1),(Zd m room k).2+XJ m k (-1)) else Zd m room k
theorem SI (m:Z7) (room:Int) (hl:m.sm.length<=12):∀ k:Nat,(0<=(Zd m room k).1/\(Zd m room k).1<=12288)/\0<=(Zd m room k).2/\(Zd m room k).2<=12288*k
 | 0=>by simp [Zd]
 | k+1=>by
  have ih:=SI m room hl k;have hu:=Ol m k (-1);unfold Zd
  split
  ·simp only
   constructor
   ·split<;>omega
   ·push_cast;omega
  ·push_cast;omega
def Sh (m:Z7) (room:Nat):Int:=OS (ZO m.rm room) (Zd m room m.dk.length).1 (Zd m room m.dk.length).2
def Vl (m:Z7):Nat->Int
 | 0=>0
 | k+1=>Vl m k+Sh m k
def OJ (m:Z7):Int:=Vl m m.rm.length
theorem Pc (m:Z7):∀ k:Nat,-(k:Int)<=Vl m k/\Vl m k<=1024000000*k
 | 0=>by simp [Vl]
 | k+1=>by
  have ih:=Pc m k;have hc:=M8 (ZO m.rm k) (XN (ZO m.rm k) (Zd m k m.dk.length).1) (Zd m k m.dk.length).2;unfold Vl Sh OS
  push_cast
  omega
def SN (s:Z6) (b:Int):Z6:=(2,b,s.2.2)
def Ut (m:Z7) (who b:Int):Z7:={ m with sm:=m.sm.set who.toNat (SN (Z8 m.sm who.toNat) b) }
def Yq (m:Z7) (who b:Int):Int:=OJ (Ut m who b)
def Yi (m:Z7) (who:Int) (b:Nat):Bool:=(Z8 m.dk b).1 && VI (Z8 m.sm who.toNat).2.2.2.1 b
def Pd (m:Z7) (who:Int) (b:Nat):Bool:=Yi m who b && Wb (Yn m who) (XJ m b who) (YP m.rm b)
def VJ (m:Z7) (who:Int):Nat->List Int
 | 0=>[]
 | k+1=>if Pd m who k then VJ m who k++[(k:Int)] else VJ m who k
def Yg (m:Z7) (who:Int):List Int:=VJ m who m.dk.length
theorem Sk (m:Z7) (who:Int):∀ k,(VJ m who k).length<=k
 | 0=>Z3 _
 | k+1=>by
  have:=Sk m who k;unfold VJ
  split
  ·simp;omega
  ·omega
theorem Pe (m:Z7) (who:Int) (x:Int):∀ k,x ∈ VJ m who k ↔ ∃ b:Nat,b<k/\x=(b:Int)/\Pd m who b=true
 | 0=>by simp [VJ]
 | k+1=>by
  have ih:=Pe m who x k;unfold VJ
  split
  ·rename_i hf
   rw [List.mem_append,ih];constructor
   ·rintro (⟨b,hb,e,h⟩ | h)
    ·exact ⟨b,by omega,e,h⟩
    ·exact ⟨k,by omega,by simpa using h,hf⟩
   ·rintro ⟨b,hb,e,h⟩
    by_cases hbk:b=k
    ·subst hbk;right;simp [e]
    ·left;exact ⟨b,by omega,e,h⟩
  ·rename_i hf
   rw [ih];constructor
   ·rintro ⟨b,hb,e,h⟩
    exact ⟨b,by omega,e,h⟩
   ·rintro ⟨b,hb,e,h⟩
    by_cases hbk:b=k
    ·subst hbk;exact absurd h hf
    ·exact ⟨b,by omega,e,h⟩
def SV (m:Z7) (b:Nat):Bool:=(Z8 m.dk b).1 && QB (XJ m b (-1)) (YP m.rm b)
def Wc (m:Z7):Bool:=(List.range m.dk.length).any (SV m)
def V2 (m:Z7) (who:Int) (a:Int × Int) (b:Int):Int × Int:=if Yq m who b<a.2\/(Yq m who b=a.2/\b=(Z8 m.sm who.toNat).2.1) then (b,Yq m who b) else a
def XK (m:Z7) (who:Int) (f:List Int) (k:Nat):Int × Int:=((f.take k).drop 1).foldl (V2 m who) (Z8 f 0,Yq m who (Z8 f 0))
def XQ (m:Z7) (who:Int):Nat->Int × Int
 | 0=>(-1,0)
 | k+1=>if Yi m who k && (decide ((XQ m who k).1<0) || decide ((XQ m who k).2<Vp (XJ m k who) (YP m.rm k))) then ((k:Int),Vp (XJ m k who) (YP m.rm k)) else XQ m who k
def Yz (m:Z7) (who:Int):Int:=if !Wc m && decide (0<(Yg m who).length) then (XK m who (Yg m who) (Yg m who).length).1 else (XQ m who m.dk.length).1
theorem MW (m:Z7) (who:Int) (P:Int->Prop):∀ (f:List Int) (a:Int × Int),P a.1->(∀ x ∈ f,P x)->P (f.foldl (V2 m who) a).1
 | [],a,h,_=>h
 | b::f,a,h,hf=>by
  refine MW m who P f (V2 m who a b) ?_ (fun x hx=>hf x (List.mem_cons_of_mem _ hx));unfold V2
  split
  ·exact hf b (by simp)
  ·exact h
theorem Lg (m:Z7) (who:Int):∀ k:Nat,((XQ m who k).1= -1/\ ∀ b,b<k->Yi m who b=false)\/ ∃ b:Nat,b<k/\(XQ m who k).1=(b:Int)/\Yi m who b=true
 | 0=> .inl ⟨rfl,fun b hb=>by omega⟩
 | k+1=>by
  have ih:=Lg m who k;unfold XQ
  split
  ·rename_i h
   simp only [ZR] at h;exact .inr ⟨k,by omega,rfl,h.1⟩
  ·rename_i h
   rcases ih with ⟨e,hn⟩ | ⟨b,hb,e,hm⟩
   ·refine .inl ⟨e,fun b hb=> ?_⟩
    by_cases hbk:b=k
    ·subst hbk
     cases hm:Yi m who b
     ·rfl
     ·exfalso
      apply h;rw [hm,e];rfl
    ·exact hn b (by omega)
   ·exact .inr ⟨b,by omega,e,hm⟩
theorem V3 (m:Z7) (who:Int):(Yz m who= -1/\ ∀ b,b<m.dk.length->Yi m who b=false)\/ ∃ b:Nat,b<m.dk.length/\Yz m who=(b:Int)/\Yi m who b=true:=by
 unfold Yz
 split
 ·rename_i h
  simp only [ZR,YV] at h;right
  have hin:∀ x ∈ Yg m who,∃ b:Nat,b<m.dk.length/\x=(b:Int)/\Yi m who b=true:=by
   intro x hx;obtain ⟨b,hb,e,hf⟩:=(Pe m who x m.dk.length).1 hx;unfold Pd at hf;simp only [ZR] at hf;exact ⟨b,hb,e,hf.1⟩
  unfold XK;exact MW m who (fun x=> ∃ b:Nat,b<m.dk.length/\x=(b:Int)/\Yi m who b=true) _ _ (hin _ (Sv h.2)) (fun x hx=>hin x (List.mem_of_mem_take (List.mem_of_mem_drop hx)))
 ·exact Lg m who m.dk.length
theorem Vd {st be rk my gu lo hi hd ca ut wk:Int} (h0:1<=st/\st<=3) (h1:0<=be/\be<=7) (h2:inB rk (-5) 5=true) (h3:1<=my/\my<=255) (h4 : -1<=gu/\gu<=5) (h5:Xd lo hi=true) (h6 : -1000000000000<=hd/\hd<=1000000000000) (h7:0<=ca/\ca<=Zf rk-1) (h8:0<=ut/\ut<=1024) (h9:0<=wk/\wk<=100000000000) :
  YX (st,be,rk,my,gu,lo,hi,hd,ca,ut,wk)=true:=by
 unfold YX;simp only [ZR];exact ⟨YJ h0.1 h0.2,YJ h1.1 h1.2,h2,YJ h3.1 h3.2,YJ h4.1 h4.2,h5,YJ h6.1 h6.2,YJ h7.1 h7.2,YJ h8.1 h8.2,YJ h9.1 h9.2⟩
theorem XZ {s:Z6} : Yh m s=true ↔ s=Vk\/(YX s=true/\s.2.2.2.2.1<m.gd.length/\s.2.1<m.dk.length):=by
 unfold Yh Zs;simp only [ZR,Bool.or_eq_true,YV];constructor
 ·rintro ⟨hg | hp,hr⟩
  ·exact .inl (U6 hg)
  ·right
   refine ⟨hp,?_⟩
   rcases hr with e | e
   ·have:s.1=0:=by simpa using e
    rw [QJ this] at hp;cases hp
   ·exact e
 ·rintro (rfl | ⟨hp,hr⟩)
  ·exact ⟨.inl LB,.inl rfl⟩
  ·exact ⟨.inr hp,.inr hr⟩
theorem V5 {s:Z6} (h:ZP s=false):Yb m s=true:=by unfold Yb;rw [h];rfl
theorem Rq {s:Z6} (h1:(Z8 m.dk s.2.1.toNat).1=true) (h2:VI s.2.2.2.1 s.2.1=true) (h3:Xo (WB s) (Z8 m.dk s.2.1.toNat).2.2=true):Yb m s=true:=by
 unfold Yb;rw [h1,h2,show s.2.2.2.2.2.2.2.1=WB s from rfl,h3];simp
theorem ZI (h:ZJ m=true):Loose m:=by
 unfold ZJ at h;simp only [ZR] at h;exact Qz h.1
def setS (m:Z7) (k:Nat) (s:Z6):Z7:={ m with sm:=m.sm.set k s }
theorem Loose.setS (h:Loose m) {k:Nat} (hk:k<m.sm.length) {s:Z6} (h1:Yh m s=true) (h2:Yb m s=true):Loose (setS m k s):=by
 refine ⟨?_,h.desk,h.pace,?_,?_,h.openD⟩
 ·have:=h.head
  unfold YI at this ⊢;unfold Go.Proofs.YtmdgokjeobnnaaaGreatDoor.setS;simpa using this
 ·intro i hi
  have hi':i<m.sm.length:=by unfold Go.Proofs.YtmdgokjeobnnaaaGreatDoor.setS at hi;simpa using hi
  show Yh (Go.Proofs.YtmdgokjeobnnaaaGreatDoor.setS m k s) (Z8 (m.sm.set k s) i)=true;rw [Xh (m:=m) (m':=Go.Proofs.YtmdgokjeobnnaaaGreatDoor.setS m k s) rfl rfl,ZC hk]
  split
  ·exact h1
  ·exact h.here i hi'
 ·intro i hi
  have hi':i<m.sm.length:=by unfold Go.Proofs.YtmdgokjeobnnaaaGreatDoor.setS at hi;simpa using hi
  show Yb m (Z8 (m.sm.set k s) i)=true;rw [ZC hk]
  split
  ·exact h2
  ·exact h.seat i hi'
theorem Wz {α:Type} [Inhabited α] (xs:List α) (x:α) (i:Nat):Z8 (xs++[x]) i=if i=xs.length then x else Z8 xs i:=by
 unfold Z8
 split
 ·rename_i h;subst h;simp [List.getD]
 ·rename_i h
  rcases Nat.lt_or_ge i xs.length with hi | hi
  ·simp [List.getD,List.getElem?_append_left hi]
  ·simp [List.getD,List.getElem?_append_right hi,List.getElem?_eq_none hi]
   rw [List.getElem?_eq_none (by simp;omega)];rfl
def pushS (m:Z7) (s:Z6):Z7:={ m with sm:=m.sm++[s] }
theorem Loose.pushS (h:Loose m) (hl:m.sm.length<12) {s:Z6} (h1:Yh m s=true) (h2:Yb m s=true):Loose (pushS m s):=by
 refine ⟨?_,h.desk,h.pace,?_,?_,h.openD⟩
 ·have:=h.head
  unfold YI at this ⊢;unfold Go.Proofs.YtmdgokjeobnnaaaGreatDoor.pushS;simp only [ZR,YV] at this ⊢;refine ⟨this.1,this.2.1,?_,this.2.2.2⟩;simp;omega
 ·intro i hi
  have hi':i<m.sm.length+1:=by unfold Go.Proofs.YtmdgokjeobnnaaaGreatDoor.pushS at hi;simpa using hi
  show Yh (Go.Proofs.YtmdgokjeobnnaaaGreatDoor.pushS m s) (Z8 (m.sm++[s]) i)=true;rw [Xh (m:=m) (m':=Go.Proofs.YtmdgokjeobnnaaaGreatDoor.pushS m s) rfl rfl,Wz]
  split
  ·exact h1
  ·exact h.here i (by omega)
 ·intro i hi
  have hi':i<m.sm.length+1:=by unfold Go.Proofs.YtmdgokjeobnnaaaGreatDoor.pushS at hi;simpa using hi
  show Yb m (Z8 (m.sm++[s]) i)=true;rw [Wz]
  split
  ·exact h2
  ·exact h.seat i (by omega)
def XP (m:Z7) (b:Int):Int:=(Z8 m.dk b.toNat).2.2
def O1 (s:Z6) (b had:Int):Z6:=(2,b,s.2.2.1,s.2.2.2.1,s.2.2.2.2.1,s.2.2.2.2.2.1,s.2.2.2.2.2.2.1,had,s.2.2.2.2.2.2.2.2)
def putS (m:Z7) (s:Z6) (b:Int):Z6:=(s.1,b,s.2.2.1,s.2.2.2.1,s.2.2.2.2.1,s.2.2.2.2.2.1,s.2.2.2.2.2.2.1,Zu (WB s) (XP m s.2.1) (XP m b),s.2.2.2.2.2.2.2.2)
def Ui (s:Z6) (may:Int):Z6:=(s.1,s.2.1,s.2.2.1,may,s.2.2.2.2)
def IJ (s:Z6) (lo hi:Int):Z6:=(s.1,s.2.1,s.2.2.1,s.2.2.2.1,s.2.2.2.2.1,lo,hi,s.2.2.2.2.2.2.2)
def OM (s:Z6) (g:Int):Z6:=(s.1,s.2.1,s.2.2.1,s.2.2.2.1,g,s.2.2.2.2.2)
def Yx (rank may guild:Int):Z6:=(1,0,rank,may,guild,0,1024,0,0,0,0)
theorem WY (h:Loose m):m.dk.length<=8:=by
 have:=h.head;unfold YI at this;simp only [ZR,YV] at this;have h8:=(Zo this.1).2.2.2;omega
theorem JI (h:Loose m):m.gd.length<=6:=by
 have:=h.head;unfold YI at this;simp only [ZR,YV] at this;exact (Xg this.2.1).2
theorem Loose.limits (h:Loose m) {k:Nat} (hk:k<m.sm.length) (hs:(Z8 m.sm k).1 ≠ 0):YX (Z8 m.sm k)=true/\(Z8 m.sm k).2.2.2.2.1<m.gd.length/\(Z8 m.sm k).2.1<m.dk.length:=by
 rcases XZ.1 (h.here k hk) with e | e
 ·rw [e] at hs;exact absurd rfl hs
 ·exact e
theorem JS (h:Loose m) {k:Nat} (hk:k<m.sm.length) (hp:ZP (Z8 m.sm k)=true):Loose (setS m k (stS (Z8 m.sm k) 1)):=
 h.setS hk (Ns (h.here k hk) hp (by omega) (by omega)) (V5 rfl)
theorem LI (h:Loose m) {k:Nat} (hk:k<m.sm.length):Loose (setS m k Vk):=
 h.setS hk (XZ.2 (.inl rfl)) (V5 rfl)
theorem JR (h:Loose m) {k:Nat} (hk:k<m.sm.length) {rank:Int} {s:Z6} (hr:Yr (Z8 m.sm k) rank=(s,true)):Loose (setS m k s):=by
 unfold Yr at hr
 split at hr
 ·rename_i hp
  split at hr
  ·rename_i hrk
   obtain ⟨rfl,_⟩:=Prod.mk.inj hr
   have hne:(Z8 m.sm k).1 ≠ 0:=by
    intro e;rw [QJ e] at hp;cases hp
   obtain ⟨_,g1,b1⟩:=h.limits hk hne;refine h.setS hk (XZ.2 (.inr ⟨Te hp hrk,g1,b1⟩)) ?_;have:=h.seat k hk;unfold Yb at this ⊢;exact this
  ·cases (Prod.mk.inj hr).2
 ·cases (Prod.mk.inj hr).2
theorem IE (h:Loose m) {k:Nat} (hk:k<m.sm.length) (hs:(Z8 m.sm k).1 ≠ 0) {lo hi:Int} (hp:Xd lo hi=true):Loose (setS m k (IJ (Z8 m.sm k) lo hi)):=by
 obtain ⟨p,g1,b1⟩:=h.limits hk hs;refine h.setS hk (XZ.2 (.inr ⟨?_,g1,b1⟩)) ?_
 ·generalize Z8 m.sm k=s at *
  obtain ⟨st,be,rk,my,gu,lo',hi',hd,ca,ut,wk⟩:=s;obtain ⟨x0,x1,x2,x3,x4,x5,x6,x7,x8,x9⟩:=Zj p;exact Vd x0 x1 x2 x3 x4 hp x6 x7 x8 x9
 ·have:=h.seat k hk
  unfold Yb at this ⊢;exact this
theorem JP (h:Loose m) {k:Nat} (hk:k<m.sm.length) (hs:(Z8 m.sm k).1 ≠ 0) {g:Int} (g0 : -1<=g) (g1:g<m.gd.length):Loose (setS m k (OM (Z8 m.sm k) g)):=by
 obtain ⟨p,_,b1⟩:=h.limits hk hs;have hg:=JI h;refine h.setS hk (XZ.2 (.inr ⟨?_,g1,b1⟩)) ?_
 ·generalize Z8 m.sm k=s at *
  obtain ⟨st,be,rk,my,gu,lo',hi',hd,ca,ut,wk⟩:=s;obtain ⟨x0,x1,x2,x3,x4,x5,x6,x7,x8,x9⟩:=Zj p;exact Vd x0 x1 x2 x3 ⟨g0,by omega⟩ x5 x6 x7 x8 x9
 ·have:=h.seat k hk
  unfold Yb at this ⊢;exact this
theorem IF (h:Loose m) {k:Nat} (hk:k<m.sm.length) (hs:(Z8 m.sm k).1 ≠ 0) {may:Int} (m0:1<=may) (m1:may<=255) (hb:ZP (Z8 m.sm k)=false\/VI may (Z8 m.sm k).2.1=true):Loose (setS m k (Ui (Z8 m.sm k) may)):=by
 obtain ⟨p,g1,b1⟩:=h.limits hk hs;refine h.setS hk (XZ.2 (.inr ⟨?_,g1,b1⟩)) ?_
 ·generalize Z8 m.sm k=s at *
  obtain ⟨st,be,rk,my,gu,lo',hi',hd,ca,ut,wk⟩:=s;obtain ⟨x0,x1,x2,x3,x4,x5,x6,x7,x8,x9⟩:=Zj p;exact Vd x0 x1 x2 ⟨m0,m1⟩ x4 x5 x6 x7 x8 x9
 ·rcases hb with hb | hb
  ·exact V5 hb
  ·have:=h.seat k hk
   unfold Yb at this;cases hp:ZP (Z8 m.sm k)
   ·exact V5 hp
   ·rw [hp] at this
    simp only [Bool.not_true,Bool.false_or,ZR] at this;exact Rq (s:=Ui (Z8 m.sm k) may) this.1 hb this.2.2
theorem IG {s:Z6} {b:Nat} {had:Int} (h:Loose m) (hp:YX s=true) (hg:s.2.2.2.2.1<m.gd.length) (hb:b<m.dk.length) (ho:(Z8 m.dk b).1=true) (hm:VI s.2.2.2.1 b=true) (hd:Xo had (Z8 m.dk b).2.2=true) :
  Yh m (O1 s b had)=true/\Yb m (O1 s b had)=true:=by
 have h8:=WY h;obtain ⟨st,be,rk,my,gu,lo',hi',hd',ca,ut,wk⟩:=s;obtain ⟨x0,x1,x2,x3,x4,x5,x6,x7,x8,x9⟩:=Zj hp;obtain ⟨d0,d1,_⟩:=SP hd;refine ⟨XZ.2 (.inr ⟨Vd (by omega) ⟨by omega,by omega⟩ x2 x3 x4 x5 ⟨d0,d1⟩ x7 x8 x9,hg,?_⟩),?_⟩
 ·show (b:Int)<_;omega
 ·exact Rq (m:=m) (s:=O1 (st,be,rk,my,gu,lo',hi',hd',ca,ut,wk) b had) (by show (Z8 m.dk ((b:Int)).toNat).1=true;simpa using ho) hm (by show Xo had (Z8 m.dk ((b:Int)).toNat).2.2=true;simpa using hd)
theorem Qo (h:Loose m) {s:Z6} {b:Nat} (hp:YX s=true) (hpr:ZP s=true) (hg:s.2.2.2.2.1<m.gd.length) (b0:0<=s.2.1) (b1:s.2.1<m.dk.length) (hband:Xo (WB s) (XP m s.2.1)=true) (hb:b<m.dk.length) (ho:(Z8 m.dk b).1=true) (hm:VI s.2.2.2.1 b=true) :
  Yh m (putS m s b)=true/\Yb m (putS m s b)=true:=by
 have h8:=WY h;obtain ⟨k0,k1⟩:=SX (h.desk s.2.1.toNat (by omega));obtain ⟨k2,k3⟩:=SX (h.desk b hb);obtain ⟨a0,a1,a2,a3,a4,a5⟩:=SP hband;have hmk:XP m (b:Int)=(Z8 m.dk b).2.2:=by unfold XP;simp
 have hmv:Zu (WB s) (XP m s.2.1) (XP m b)=WB s-XP m s.2.1+XP m b:=IP a0 a1 a2 a3 (by omega) (by omega);obtain ⟨st,be,rk,my,gu,lo',hi',hd',ca,ut,wk⟩:=s;obtain ⟨x0,x1,x2,x3,x4,x5,x6,x7,x8,x9⟩:=Zj hp;simp only at b0 b1 hmv a4 a5 k0 k1 hg hm;refine ⟨XZ.2 (.inr ⟨?_,hg,?_⟩),?_⟩
 ·unfold putS
  simp only;rw [hmv];exact Vd x0 ⟨by omega,by omega⟩ x2 x3 x4 x5 ⟨by omega,by omega⟩ x7 x8 x9
 ·show (b:Int)<_;omega
 ·refine Rq (m:=m) (s:=putS m (st,be,rk,my,gu,lo',hi',hd',ca,ut,wk) b) (by show (Z8 m.dk ((b:Int)).toNat).1=true;simpa using ho) hm ?_
  show Xo (Zu _ _ _) (Z8 m.dk ((b:Int)).toNat).2.2=true;rw [hmv,show ((b:Int)).toNat=b by simp,<-hmk];exact OB (by omega) (by omega) (by omega) (by omega) (by omega) (by omega)
def N7 (m:Z7) (r:Nat) (p:Int):Z7:={ m with pc:=m.pc.set r p }
theorem Pk (h:Loose m) {r:Nat} (hr:r<m.rm.length) {p:Int} (p0:0<=p) (p1:p<(ZO m.rm r).2.length):Loose (N7 m r p):=by
 have hd:=h.head
 have hpl:m.pc.length=m.rm.length:=by
  unfold YI at hd;simp only [ZR,YV] at hd;exact hd.2.2.2.2.1
 refine ⟨?_,h.desk,?_,h.here,h.seat,h.openD⟩
 ·unfold YI at hd ⊢
  unfold N7;simpa using hd
 ·intro j hj
  have hj':j<m.pc.length:=by unfold N7 at hj;simpa using hj
  have:=h.pace j hj';unfold Wr at this ⊢;unfold N7;simp only;rw [ZC (by omega)]
  split
  ·rename_i e;subst e;exact YJ p0 (by omega)
  ·exact this
def XW (m:Z7) (b:Nat) (o:Bool):Z7:={ m with dk:=m.dk.set b (o,(Z8 m.dk b).2) }
theorem JQ (h:Loose m) {b:Nat} (hb:b<m.dk.length):Loose (XW m b true):=by
 have hat:∀ j,(Z8 (XW m b true).dk j)=if j=b then (true,(Z8 m.dk b).2) else Z8 m.dk j:=fun j=>ZC hb j
 have hmk:∀ j,(Z8 (XW m b true).dk j).2=(Z8 m.dk j).2:=fun j=>by
  rw [hat];by_cases e:j=b
  ·rw [if_pos e,e]
  ·rw [if_neg e]
 have hop:∀ j,(Z8 m.dk j).1=true->(Z8 (XW m b true).dk j).1=true:=fun j e=>by
  rw [hat];by_cases e':j=b
  ·rw [if_pos e']
  ·rw [if_neg e'];exact e
 have hlen:(XW m b true).dk.length=m.dk.length:=by unfold XW;simp
 refine ⟨?_,?_,h.pace,?_,?_,?_⟩
 ·have:=h.head
  unfold YI at this ⊢;rw [hlen];exact this
 ·intro j hj
  have:=h.desk j (by omega);unfold SW at this ⊢;rw [hmk];exact this
 ·intro i hi
  rw [Xh (m:=m) (m':=XW m b true) rfl hlen];exact h.here i hi
 ·intro i hi
  have:=h.seat i hi;unfold Yb at this ⊢;show (!ZP (Z8 m.sm i) || _)=true;cases hp:ZP (Z8 m.sm i)
  ·rfl
  ·rw [hp] at this
   simp only [Bool.not_true,Bool.false_or,ZR] at this ⊢;refine ⟨hop _ this.1,this.2.1,?_⟩;show Xo _ (Z8 (XW m b true).dk (Z8 m.sm i).2.1.toNat).2.2=true;rw [hmk];exact this.2.2
 ·exact ⟨b,by omega,by rw [hat,if_pos rfl]⟩
def XG:Z7:=⟨[],[],[],[],[],0⟩
def Vq (m:Z7) (who:Int):Bool:=inB who 0 ((m.sm.length:Int)-1) && !((Z8 m.sm who.toNat).1 ==0)
theorem Xz {who:Int} (h:Vq m who=true):∃ k:Nat,who=(k:Int)/\k<m.sm.length/\(Z8 m.sm k).1 ≠ 0:=by
 unfold Vq at h;simp only [ZR,Bool.not_eq_true',beq_eq_false_iff_ne] at h;have h1:=ZS h.1;exact ⟨who.toNat,by omega,by omega,h.2⟩
theorem OK (h:Loose m):Few m:=by
 have hd:=h.head;unfold YI at hd;simp only [ZR,YV] at hd;obtain ⟨h1,h2,h3,h4,h5,_⟩:=hd;obtain ⟨r1,r2,r3,r4⟩:=Zo h1;have hg:=(Xg h2).2;refine ⟨by omega,fun r hr=> ?_,by omega,by omega,by omega,by omega⟩;have hrb:=List.all_eq_true.1 r3 r hr;unfold Zc at hrb;simp only [ZR] at hrb;have:=ZS hrb.2.1;omega
def Up (m:Z7) (who:Int):Z7 × Int:=
 if ZJ m then (if Vq m who then (if ZP (Z8 m.sm who.toNat) then (ZL (setS m who.toNat (stS (Z8 m.sm who.toNat) 1)),0) else (m,2)) else (m,1)) else (XG,3)
def Vm (m:Z7) (who:Int):Z7 × Int:=
 if ZJ m then (if Vq m who then (ZL (setS m who.toNat Vk),0) else (m,1)) else (XG,3)
def VR (m:Z7) (who lo hi:Int):Z7 × Int:=
 if ZJ m then (if Vq m who then (if Xd lo hi then (ZL (setS m who.toNat (IJ (Z8 m.sm who.toNat) lo hi)),0) else (m,3)) else (m,1)) else (XG,3)
def VW (m:Z7) (who rank:Int):Z7 × Int:=
 if ZJ m then (if Vq m who then (if (Yr (Z8 m.sm who.toNat) rank).2 then (ZL (setS m who.toNat (Yr (Z8 m.sm who.toNat) rank).1),0) else (m,3)) else (m,1)) else (XG,3)
theorem Me (h:ZJ m=true) (who:Int):ZJ (Up m who).1=true:=by
 unfold Up;rw [h];simp only [if_true]
 split
 ·rename_i hw
  obtain ⟨k,rfl,hk,hs⟩:=Xz hw;rw [show ((k:Int)).toNat=k by simp]
  split
  ·rename_i hp
   exact Y1 (JS (ZI h) hk hp)
  ·exact h
 ·exact h
theorem Nz (h:ZJ m=true) (who:Int):ZJ (Vm m who).1=true:=by
 unfold Vm;rw [h];simp only [if_true]
 split
 ·rename_i hw
  obtain ⟨k,rfl,hk,hs⟩:=Xz hw;rw [show ((k:Int)).toNat=k by simp];exact Y1 (LI (ZI h) hk)
 ·exact h
theorem ND (h:ZJ m=true) (who lo hi:Int):ZJ (VR m who lo hi).1=true:=by
 unfold VR;rw [h];simp only [if_true]
 split
 ·rename_i hw
  obtain ⟨k,rfl,hk,hs⟩:=Xz hw;rw [show ((k:Int)).toNat=k by simp]
  split
  ·rename_i hp
   exact Y1 (IE (ZI h) hk hs hp)
  ·exact h
 ·exact h
theorem Ma (h:ZJ m=true) (who rank:Int):ZJ (VW m who rank).1=true:=by
 unfold VW;rw [h];simp only [if_true]
 split
 ·rename_i hw
  obtain ⟨k,rfl,hk,hs⟩:=Xz hw;rw [show ((k:Int)).toNat=k by simp]
  split
  ·rename_i hp
   exact Y1 (JR (ZI h) hk (Prod.ext rfl hp))
  ·exact h
 ·exact h
theorem FullSmy.set_off {n₀:Nat}  {qs:List (Z5 × Value)} (h:FullSmy n₀ w v0 v1 v2 v3 v4 m qs) {g:Nat} (ho:∀ k,(v0.ownBlock=some k\/(∃ q ∈ qs,q.2.ownBlock=some k)\/v1.ownBlock=some k\/v2.ownBlock=some k\/v3.ownBlock=some k\/v4.ownBlock=some k)->k ≠ g) (o:Nat) (u:Value):FullSmy n₀ (w.setCell ⟨g,o,none⟩ u) v0 v1 v2 v3 v4 m qs:=by
 have hne:∀ k,k ≠ g->(w.setCell ⟨g,o,none⟩ u).heap[k]?=w.heap[k]?:=fun k hk=>heap_setCell_other w _ k u hk;exact ⟨h.hall.same2 fun k e=>hne k (ho k (by rcases e with e | e;exact .inl e;exact .inr (.inl e))),h.rm,RecAt.same h.gd fun k e=>hne k (ho k (.inr (.inr (.inl e)))),RecAt.same h.sm fun k e=>hne k (ho k (.inr (.inr (.inr (.inl e))))),RecAt.same h.dk fun k e=>hne k (ho k (.inr (.inr (.inr (.inr (.inl e)))))),RecAt.same h.pc fun k e=>hne k (ho k (.inr (.inr (.inr (.inr (.inr e)))))),h.h1,h.h2,h.h3,h.h4,h.a12,h.a13,h.a14,h.a23,h.a24,h.a34⟩
theorem TN (n₀:Nat) (w:World):FullSmy n₀ w (.slice none 0 0) (.slice none 0 0) (.slice none 0 0) (.slice none 0 0) (.slice none 0 0) XG []:=by
 have hz:P3 (.slice none 0 0) (.slice none 0 0):=fun b e=>by cases e
 exact ⟨OwnHall.nil _ _,rfl,World.ownsRow_nil _ _ _ _,World.ownsRow_nil _ _ _ _,World.ownsRow_nil _ _ _ _,World.ownsRow_nil _ _ _ _,⟨hz,fun q hq=>by cases hq⟩,⟨hz,fun q hq=>by cases hq⟩,⟨hz,fun q hq=>by cases hq⟩,⟨hz,fun q hq=>by cases hq⟩,hz,hz,hz,hz,hz,hz⟩
def Qc (m:Z7) (s:Z6):Int:=Yz (pushS m s) (m.sm.length:Int)
def U4 (m:Z7) (rank may guild:Int):Z7 × Int:=
 if ZJ m then (if Zs (Yx rank may guild) && decide (guild<m.gd.length) then (if m.sm.length=12 then (m,4) else (if Qc m (Yx rank may guild)<0 then (m,2) else
  (ZL (setS (pushS m (Yx rank may guild)) m.sm.length (O1 (Yx rank may guild) (Qc m (Yx rank may guild)) (XP m (Qc m (Yx rank may guild))))),0))) else (m,3)) else (XG,3)
theorem NK {rank may guild:Int} (h:Zs (Yx rank may guild)=true):YX (Yx rank may guild)=true:=by
 unfold Zs at h;rw [T6 (by show (1:Int) ≠ 0;omega),Bool.false_or] at h;exact h
theorem NJ (h:Loose m) {rank may guild:Int} (hs:Zs (Yx rank may guild)=true) (hg:guild<m.gd.length):Loose (pushS m (Yx rank may guild))\/m.sm.length>=12:=by
 by_cases hl:m.sm.length<12
 ·left
  obtain ⟨j,hj,_⟩:=h.openD;exact h.pushS hl (XZ.2 (.inr ⟨NK hs,hg,by show (0:Int)<_;omega⟩)) (V5 rfl)
 ·right;omega
theorem J0 (h:Loose m) {b:Nat} (hb:b<m.dk.length):Xo (XP m (b:Int)) (Z8 m.dk b).2.2=true:=by
 have hmk:XP m (b:Int)=(Z8 m.dk b).2.2:=by unfold XP;simp
 obtain ⟨k0,k1⟩:=SX (h.desk b hb);rw [hmk];exact OB (by omega) (by omega) (by omega) (by omega) (by omega) (by omega)
theorem YF (h:Loose m):m.sm.length<=12:=by
 have hd:=h.head;unfold YI at hd;simp only [ZR,YV] at hd;exact hd.2.2.1
theorem Lx (h:ZJ m=true) (rank may guild:Int):ZJ (U4 m rank may guild).1=true:=by
 unfold U4;rw [h];simp only [if_true]
 split
 ·rename_i hs
  simp only [ZR,YV] at hs
  split
  ·exact h
  ·rename_i hl
   split
   ·exact h
   ·rename_i hb
    have hlo:=ZI h;have h12:=YF hlo
    have hx:Loose (pushS m (Yx rank may guild)):=by
     rcases NJ hlo hs.1 hs.2 with e | e
     ·exact e
     ·omega
    rcases V3 (pushS m (Yx rank may guild)) (m.sm.length:Int) with ⟨e,_⟩ | ⟨b,hbl,e,hm⟩
    ·exact absurd (show Qc m (Yx rank may guild)<0 by unfold Qc;rw [e];omega) hb
    ·have ec:Qc m (Yx rank may guild)=(b:Int):=e
     rw [ec];unfold Yi at hm;simp only [ZR,Zl] at hm
     have hat:Z8 (pushS m (Yx rank may guild)).sm m.sm.length=Yx rank may guild:=by
      show Z8 (m.sm++[Yx rank may guild]) m.sm.length=_;rw [Wz,if_pos rfl]
     rw [hat] at hm;obtain ⟨k1,k2⟩:=IG (m:=pushS m (Yx rank may guild)) (s:=Yx rank may guild) (b:=b) (had:=XP m (b:Int)) hx (NK hs.1) hs.2 hbl hm.1 hm.2 (J0 hlo hbl);exact Y1 (hx.setS (by unfold pushS;simp) k1 k2)
 ·exact h
def Lp (m:Z7) (s:Z6) (b:Int):Int:=Y8 (Zu (WB s) (XP m s.2.1) (XP m b)) (XP m b)
def Se (m:Z7) (k:Nat) (b:Int):Z7:=setS m k (O1 (Z8 m.sm k) b (Lp m (Z8 m.sm k) b))
def Vi (m:Z7) (who:Int):Z7 × Int:=
 if ZJ m then (if Vq m who then (if (Z8 m.sm who.toNat).1=1 then (if Yz m who<0 then (m,2) else (if Yw (Se m who.toNat (Yz m who)) then (ZL (Se m who.toNat (Yz m who)),0) else (m,4))) else (m,2)) else (m,1)) else (XG,3)
theorem MK (h:ZJ m=true) (who:Int):ZJ (Vi m who).1=true:=by
 unfold Vi;rw [h];simp only [if_true]
 split
 ·split
  ·split
   ·exact h
   ·split
    ·rename_i hl
     exact Y1 (Qz hl)
    ·exact h
  ·exact h
 ·exact h
theorem PD (m:Z7) (k:Nat) (s t:Z6):setS (setS m k s) k t=setS m k t:=by unfold setS;simp
def Xi (m:Z7) (k:Nat) (may:Int):Z7:=setS m k (Ui (Z8 m.sm k) may)
def WH (m:Z7) (who may:Int):Z7 × Int:=
 if ZJ m then (if Vq m who then (if inB may 1 255 then (if ZP (Z8 m.sm who.toNat) && !VI may (Z8 m.sm who.toNat).2.1 then
  (if Yz (Xi m who.toNat may) who<0 then (m,2) else (ZL (setS (Xi m who.toNat may) who.toNat (putS (Xi m who.toNat may) (Ui (Z8 m.sm who.toNat) may) (Yz (Xi m who.toNat may) who))),0))
  else (ZL (Xi m who.toNat may),0)) else (m,3)) else (m,1)) else (XG,3)
theorem Pu {s:Z6} {may:Int} (h:YX s=true) (m0:1<=may) (m1:may<=255):YX (Ui s may)=true:=by
 obtain ⟨st,be,rk,my,gu,lo',hi',hd,ca,ut,wk⟩:=s;obtain ⟨x0,x1,x2,x3,x4,x5,x6,x7,x8,x9⟩:=Zj h;exact Vd x0 x1 x2 ⟨m0,m1⟩ x4 x5 x6 x7 x8 x9
theorem MQ (h:ZJ m=true) (who may:Int):ZJ (WH m who may).1=true:=by
 unfold WH;rw [h];simp only [if_true]
 split
 ·rename_i hw
  obtain ⟨k,rfl,hk,hs⟩:=Xz hw;rw [show ((k:Int)).toNat=k by simp];have hlo:=ZI h
  split
  ·rename_i hm
   obtain ⟨m0,m1⟩:=ZS hm
   split
   ·rename_i hp
    simp only [ZR,Bool.not_eq_true'] at hp
    split
    ·exact h
    ·rename_i hb
     rcases V3 (Xi m k may) (k:Int) with ⟨e,_⟩ | ⟨b,hbl,e,hma⟩
     ·exact absurd (show Yz (Xi m k may) (k:Int)<0 by rw [e];omega) hb
     ·rw [e]
      obtain ⟨p,g1,b1⟩:=hlo.limits hk hs;obtain ⟨a0,a1,a2,a3,a4⟩:=hlo.at hk hp.1;unfold Yi at hma;simp only [ZR,Zl] at hma
      have hat:Z8 (Xi m k may).sm k=Ui (Z8 m.sm k) may:=by
       show Z8 (m.sm.set k _) k=_;rw [ZC hk,if_pos rfl]
      rw [hat] at hma;have:=Qo (m:=m) hlo (s:=Ui (Z8 m.sm k) may) (b:=b) (Pu p m0 m1) hp.1 g1 a0 a1 a4 hbl hma.1 hma.2;unfold Xi;rw [PD];exact Y1 (hlo.setS hk this.1 this.2)
   ·rename_i hp
    refine Y1 (IF hlo hk hs m0 m1 ?_);cases h1:ZP (Z8 m.sm k)
    ·exact .inl rfl
    ·right
     cases h2:VI may (Z8 m.sm k).2.1
     ·rw [h1,h2] at hp;exact absurd rfl hp
     ·rfl
  ·exact h
 ·exact h
def TA (m:Z7) (who g:Int):Z7 × Int:=
 if Vq m who then (if inB g (-1) ((m.gd.length:Int)-1) then (ZL (setS m who.toNat (OM (Z8 m.sm who.toNat) g)),0) else (m,3)) else (m,1)
theorem LH (h:ZJ m=true) (who g:Int):ZJ (TA m who g).1=true:=by
 unfold TA
 split
 ·rename_i hw
  obtain ⟨k,rfl,hk,hs⟩:=Xz hw;rw [show ((k:Int)).toNat=k by simp]
  split
  ·rename_i hg
   have:=ZS hg;exact Y1 (JP (ZI h) hk hs this.1 (by omega))
  ·exact h
 ·exact h
def U1 (m:Z7) (r:Nat):Int:=XN (ZO m.rm r) (Zd m r m.dk.length).1
theorem KK (h:Loose m) {r:Nat} (hr:r<m.rm.length):0<=U1 m r/\U1 m r<(ZO m.rm r).2.length:=by
 have hd:=h.head;unfold YI at hd;simp only [ZR,YV] at hd;obtain ⟨r1,r2,r3,r4⟩:=Zo hd.1;have hmem:ZO m.rm r ∈ m.rm:=by unfold ZO;simp [List.getD,hr]
 have hrb:=List.all_eq_true.1 r3 _ hmem;have hu:=SI m r (YF h) m.dk.length
 have hlen:1<=(ZO m.rm r).2.length:=by
  have hx:=hrb;unfold Zc at hx;simp only [ZR] at hx;have:=ZS hx.2.1;omega
 have hn:=NW (Zd m r m.dk.length).1 (ZO m.rm r).2 hlen;unfold U1 XN;rw [hrb,YJ (by omega) (by omega)];simp only [Bool.and_self,if_true];omega
def SM (m:Z7):Nat->Z7
 | 0=>m
 | k+1=>N7 (SM m k) k (U1 m k)
theorem TJ (m:Z7):∀ k,(SM m k).rm=m.rm/\(SM m k).gd=m.gd/\(SM m k).sm=m.sm/\(SM m k).dk=m.dk/\(SM m k).now=m.now/\(SM m k).pc.length=m.pc.length
 | 0=>⟨rfl,rfl,rfl,rfl,rfl,rfl⟩
 | k+1=>by
  obtain ⟨a,b,c,d,e,f⟩:=TJ m k;refine ⟨a,b,c,d,e,?_⟩;show ((SM m k).pc.set k _).length=_;rw [VH,f]
theorem O8 (h:Loose m):∀ k,k<=m.pc.length->Loose (SM m k)
 | 0,_=>h
 | k+1,hk=>by
  have ih:=O8 h k (by omega);have hd:=h.head;unfold YI at hd;simp only [ZR,YV] at hd;have hr:k<m.rm.length:=by have:=hd.2.2.2.2.1;omega
  have hw:=KK h hr;have hs:=(TJ m k).1;exact Pk ih (by rw [hs];exact hr) hw.1 (by rw [hs];exact hw.2)
def Lt (m:Z7):Z7:=ZL (SM m m.pc.length)
theorem JA (h:ZJ m=true):ZJ (Lt m)=true:=Y1 (O8 (ZI h) _ (Z3 _))
def U5 (m:Z7) (b:Int):Int:=(ZY (ZO m.rm (WS m.rm b)).2 (Z8 m.pc (WS m.rm b)).toNat).1
def GJ (s:Z6) (u:Int):Z6:=(s.1,s.2.1,s.2.2.1,s.2.2.2.1,s.2.2.2.2.1,s.2.2.2.2.2.1,s.2.2.2.2.2.2.1,s.2.2.2.2.2.2.2.1,s.2.2.2.2.2.2.2.2.1,u,s.2.2.2.2.2.2.2.2.2.2)
def Jx (s:Z6):Int:=s.2.2.2.2.2.2.2.2.2.1
def To (m:Z7) (n:Int) (s:Z6):Option Z6:=
 if s.1=0 then some s else if s.1=3 then (if (XL s (n*U5 m s.2.1)).2 then some (GJ (XL s (n*U5 m s.2.1)).1 (ZQ (Jx (XL s (n*U5 m s.2.1)).1) (U5 m s.2.1) n)) else none) else some (GJ s (ZQ (Jx s) 0 n))
def Yc (m:Z7) (n:Int):Nat->Option (List Z6)
 | 0=>some m.sm
 | k+1=>match Yc m n k with
  | none=>none
  | some ss=>match To m n (Z8 m.sm k) with
   | none=>none
   | some t=>some (ss.set k t)
theorem Sb {n:Int} : ∀ {k:Nat} {ss:List Z6},Yc m n k=some ss->ss.length=m.sm.length/\ ∀ j,k<=j->Z8 ss j=Z8 m.sm j
 | 0,ss,h=>by cases h;exact ⟨rfl,fun _ _=>rfl⟩
 | k+1,ss,h=>by
  unfold Yc at h;cases ht:Yc m n k with
  | none=>rw [ht] at h;cases h
  | some s0=>
   rw [ht] at h;simp only at h;cases h1:To m n (Z8 m.sm k) with
   | none=>rw [h1] at h;cases h
   | some t=>
    rw [h1] at h;cases h;obtain ⟨e1,e2⟩:=Sb ht;refine ⟨by simpa using e1,fun j hj=> ?_⟩;rw [<-e2 j (by omega)];unfold Z8;simp [List.getD,List.getElem?_set_ne (show k ≠ j by omega)]
theorem Sa {n:Int} {k:Nat} : ∀ d,Yc m n k=none->Yc m n (k+d)=none
 | 0,h=>h
 | d+1,h=>by
  have:=Sa d h;show Yc m n (k+d+1)=none;unfold Yc;rw [this]
def UE (m:Z7) (n:Int) (ss:List Z6):Z7:={ m with sm:=ss,now:=m.now+n }
def UD (m:Z7) (n:Int):Z7 × Int:=
 if ZJ m then (if inB n 1 20 then (match Yc m n m.sm.length with
  | none=>(m,4)
  | some ss=>if Yw (UE m n ss) then (ZL (UE m n ss),0) else (m,4)) else (m,3)) else (XG,3)
theorem Mx (h:ZJ m=true) (n:Int):ZJ (UD m n).1=true:=by
 unfold UD;rw [h];simp only [if_true]
 split
 ·split
  ·exact h
  ·split
   ·rename_i hl
    exact Y1 (Qz hl)
   ·exact h
 ·exact h
def cnt (p:Nat->Bool):Nat->Nat
 | 0=>0
 | n+1=>cnt p n+(if p n then 1 else 0)
theorem In (p:Nat->Bool):∀ n,cnt p n<=n
 | 0=>Z3 _
 | n+1=>by
  have:=In p n;unfold cnt
  split<;>omega
theorem Qa {p q:Nat->Bool} : ∀ n,(∀ i,i<n->p i=true->q i=true)->cnt p n<=cnt q n
 | 0,_=>Z3 _
 | n+1,h=>by
  have ih:=Qa n (fun i hi=>h i (by omega));have hn:=h n (by omega);unfold cnt;cases hp:p n
  ·simp;omega
  ·rw [hn hp];simp;exact ih
theorem SU {p q:Nat->Bool} {x:Nat} (hp:p x=true) (hq:q x=false):∀ n,x<n->(∀ i,i<n->q i=true->p i=true)->cnt q n+1<=cnt p n
 | 0,hx,_=>by omega
 | n+1,hx,h=>by
  unfold cnt;by_cases e:x=n
  ·subst e
   have:=Qa (p:=q) (q:=p) x (fun i hi=>h i (by omega));rw [hp,hq];simp;exact this
  ·have ih:=SU hp hq n (by omega) (fun i hi=>h i (by omega))
   have hn:=h n (by omega);cases hqn:q n
   ·simp;omega
   ·rw [hn hqn];simp;exact ih
theorem KU (q:Nat->Bool) (y:Nat):∀ n,cnt q n<=cnt (fun i=>q i && !(i ==y)) n+1
 | 0=>by simp [cnt]
 | n+1=>by
  unfold cnt;by_cases e:n=y
  ·subst e
   have:=Qa (p:=q) (q:=fun i=>q i && !(i ==n)) n (fun i hi hqi=>by
    simp only [hqi,Bool.true_and,Bool.not_eq_true',beq_eq_false_iff_ne];omega)
   simp only [beq_self_eq_true,Bool.not_true,Bool.and_false]
   split<;>simp<;>omega
  ·have ih:=KU q y n
   have he:(n ==y)=false:=by simpa using e
   simp only [he,Bool.not_false,Bool.and_true];omega
theorem Io {p q:Nat->Bool} {x y n:Nat} (hx:x<n) (hp:p x=true) (hq:q x=false) (h:∀ i,i<n->i ≠ y->q i=true->p i=true):cnt q n<=cnt p n:=by
 have h1:=KU q y n
 have h2:=SU (p:=p) (q:=fun i=>q i && !(i ==y)) hp (by simp [hq]) n hx (fun i hi hqi=>by
  simp only [ZR,Bool.not_eq_true',beq_eq_false_iff_ne] at hqi
  exact h i hi hqi.2 hqi.1)
 omega
def WO (m:Z7) (b:Nat):Bool:=(Z8 m.dk b).1 && decide ((atV m.sm b m.sm.length).length=0)
def TH (m:Z7) (i:Nat):Bool:=ZP (Z8 m.sm i) && !Wb (Yn m (i:Int)) 0 (YP m.rm (Z8 m.sm i).2.1)
def Qi (m:Z7) (w b:Nat):Bool:=WO m b && (Yi m (w:Int) b && Wb (Yn m (w:Int)) 0 (YP m.rm (b:Int)))
def Wu (m:Z7) (w:Nat):Nat->Option Nat
 | 0=>none
 | k+1=>match Wu m w k with
  | some b=>some b
  | none=>if Qi m w k then some k else none
def Tb (m:Z7) (w:Nat):Option Nat:=if TH m w then Wu m w m.dk.length else none
def U8 (m:Z7):Nat->Option (Nat × Nat)
 | 0=>none
 | k+1=>match U8 m k with
  | some r=>some r
  | none=>(Tb m k).map fun b=>(k,b)
def V8 (m:Z7):Option (Nat × Nat):=if ZJ m then U8 m m.sm.length else none
def Sd (m:Z7) (w b:Nat):Bool:=(Z8 m.sm w).1 ==2 && Yi m (w:Int) b
def Wh (m:Z7) (b:Nat):Nat->Option Nat
 | 0=>none
 | k+1=>match Wh m b k with
  | some w=>some w
  | none=>if Sd m k b then some k else none
def SJ (m:Z7) (b:Nat):Option Nat:=if WO m b then Wh m b m.sm.length else none
def Xy (m:Z7):Nat->Option (Nat × Nat)
 | 0=>none
 | k+1=>match Xy m k with
  | some r=>some r
  | none=>(SJ m k).map fun w=>(w,k)
def Wm (m:Z7):Option (Nat × Nat):=if ZJ m then Xy m m.dk.length else none
def VS (m:Z7):Option (Nat × Nat):=match V8 m with
 | some r=>some r
 | none=>Wm m
theorem Pg {w b:Nat} : ∀ {k},Wu m w k=some b->b<k/\Qi m w b=true
 | 0,h=>by cases h
 | k+1,h=>by
  unfold Wu at h;cases hg:Wu m w k with
  | some b'=>
   rw [hg] at h;cases h;have:=Pg hg;exact ⟨by omega,this.2⟩
  | none=>
   rw [hg] at h;simp only at h
   split at h
   ·rename_i hh
    cases h;exact ⟨by omega,hh⟩
   ·cases h
theorem NH {w b:Nat} : ∀ {k},U8 m k=some (w,b)->w<k/\TH m w=true/\b<m.dk.length/\Qi m w b=true
 | 0,h=>by cases h
 | k+1,h=>by
  unfold U8 at h;cases hg:U8 m k with
  | some r=>
   rw [hg] at h;cases h;have:=NH hg;exact ⟨by omega,this.2⟩
  | none=>
   rw [hg] at h;simp only [Option.map_eq_some_iff,Prod.mk.injEq] at h;obtain ⟨b',hb',rfl,rfl⟩:=h;unfold Tb at hb'
   split at hb'
   ·rename_i hh
    have:=Pg hb';exact ⟨by omega,hh,this⟩
   ·cases hb'
theorem PJ {w b:Nat} : ∀ {k},Wh m b k=some w->w<k/\Sd m w b=true
 | 0,h=>by cases h
 | k+1,h=>by
  unfold Wh at h;cases hg:Wh m b k with
  | some w'=>
   rw [hg] at h;cases h;have:=PJ hg;exact ⟨by omega,this.2⟩
  | none=>
   rw [hg] at h;simp only at h
   split at h
   ·rename_i hh
    cases h;exact ⟨by omega,hh⟩
   ·cases h
theorem Rh {w b:Nat} : ∀ {k},Xy m k=some (w,b)->b<k/\WO m b=true/\w<m.sm.length/\Sd m w b=true
 | 0,h=>by cases h
 | k+1,h=>by
  unfold Xy at h;cases hg:Xy m k with
  | some r=>
   rw [hg] at h;cases h;have:=Rh hg;exact ⟨by omega,this.2⟩
  | none=>
   rw [hg] at h;simp only [Option.map_eq_some_iff,Prod.mk.injEq] at h;obtain ⟨b',hb',rfl,rfl⟩:=h;unfold SJ at hb'
   split at hb'
   ·rename_i hh
    have:=PJ hb';exact ⟨by omega,hh,this⟩
   ·cases hb'
def Vo (m:Z7) (w b:Nat):Z7:=setS m w (putS m (Z8 m.sm w) (b:Int))
def VT (m:Z7) (w b:Nat):Z7:=ZL (Vo m w b)
structure Moves (m:Z7) (w b:Nat):Prop where
 right:ZJ m=true
 who:w<m.sm.length
 bench:b<m.dk.length
 pres:ZP (Z8 m.sm w)=true
 may:Yi m (w:Int) b=true
 idle:WO m b=true
 why:(TH m w=true/\Wb (Yn m (w:Int)) 0 (YP m.rm (b:Int))=true)\/(Z8 m.sm w).1=2
theorem J4 {w b:Nat} (h:V8 m=some (w,b)):Moves m w b:=by
 unfold V8 at h
 split at h
 ·rename_i hr
  obtain ⟨h1,h2,h3,h4⟩:=NH h;unfold Qi at h4;simp only [ZR] at h4;have h2':=h2;unfold TH at h2';simp only [ZR] at h2';exact ⟨hr,h1,h3,h2'.1,h4.2.1,h4.1,.inl ⟨h2,h4.2.2⟩⟩
 ·cases h
theorem L4 {w b:Nat} (h:Wm m=some (w,b)):Moves m w b:=by
 unfold Wm at h
 split at h
 ·rename_i hr
  obtain ⟨h1,h2,h3,h4⟩:=Rh h;unfold Sd at h4;simp only [ZR,beq_iff_eq] at h4;exact ⟨hr,h3,h1,by unfold ZP;rw [h4.1];rfl,h4.2,h2,.inr h4.1⟩
 ·cases h
theorem Uj {w b:Nat} (h:VS m=some (w,b)):Moves m w b:=by
 unfold VS at h;cases hm:V8 m with
 | some r=>rw [hm] at h;cases h;exact J4 hm
 | none=>rw [hm] at h;exact L4 h
theorem Moves.loose {w b:Nat} (h:Moves m w b):Loose (Vo m w b):=by
 have hlo:=ZI h.right;obtain ⟨p,g1,b1⟩:=hlo.limits h.who (by intro e;have:=h.pres;unfold ZP at this;rw [e] at this;cases this);obtain ⟨a0,a1,a2,a3,a4⟩:=hlo.at h.who h.pres;have hm:=h.may;unfold Yi at hm;simp only [ZR,Zl] at hm;have:=Qo (m:=m) hlo (s:=Z8 m.sm w) (b:=b) p h.pres g1 a0 a1 a4 h.bench hm.1 hm.2;exact hlo.setS h.who this.1 this.2
theorem Moves.keeps {w b:Nat} (h:Moves m w b):ZJ (VT m w b)=true:=Y1 h.loose
theorem OA {ss:List Z6} {b:Int} {n:Nat} : (atV ss b n).length=0 ↔ ∀ i,i<n-> ¬ ((Z8 ss i).2.1=b/\ZP (Z8 ss i)=true):=by
 constructor
 ·intro h i hi hp
  have hm:(WB (Z8 ss i),(i:Int)) ∈ atV ss b n:=(XH ss b _ n).2 ⟨i,hi,hp.1,hp.2,rfl⟩;rw [List.length_eq_zero_iff.1 h] at hm;cases hm
 ·intro h
  rw [List.length_eq_zero_iff];refine List.eq_nil_iff_forall_not_mem.2 fun e he=> ?_;obtain ⟨i,hi,h1,h2,_⟩:=(XH ss b e n).1 he;exact h i hi ⟨h1,h2⟩
theorem Tf {w b:Nat} (hw:w<m.sm.length) (i:Nat):Z8 (Vo m w b).sm i=if i=w then putS m (Z8 m.sm w) (b:Int) else Z8 m.sm i:=ZC hw i
theorem VV (m:Z7) (w b:Nat):(Vo m w b).sm.length=m.sm.length:=by unfold Vo setS;simp
theorem PI {i:Nat} (hi:i<m.sm.length):(Z8 (ZL m).sm i).2=(Z8 m.sm i).2:=by
 unfold ZL;rw [Wk m hi]
 split<;>rfl
theorem KG {i:Nat} (hi:i<m.sm.length):ZP (Z8 (ZL m).sm i)=ZP (Z8 m.sm i):=(Xe m m.dk.length i hi).2.1
theorem KE (m:Z7) {b:Nat} (hb:b<m.dk.length):WO (ZL m) b=WO m b:=by
 unfold WO ZL;rw [SG,U0 m b _ (Nat.le_refl _),if_pos hb]
 congr 1
 unfold WU
 split<;>rfl
theorem Jw (m:Z7) {i:Nat} (hi:i<m.sm.length):TH (ZL m) i=TH m i:=by
 have h1:Yn (ZL m) (i:Int)=Yn m (i:Int):=by
  unfold Yn Ri;rw [Zl,PI hi,show (ZL m).gd=m.gd from (Zp m m.dk.length).2.1]
 unfold TH;rw [KG hi,h1,PI hi,show (ZL m).rm=m.rm from (Zp m m.dk.length).1]
def RU (m:Z7):Nat:=cnt (WO m) m.dk.length
def OU (m:Z7):Nat:=cnt (TH m) m.sm.length
def Uy (m:Z7):Nat:=13*RU m+OU m
theorem M7 {p q:Nat->Bool} (n:Nat) (h:∀ i,i<n->p i=q i):cnt p n=cnt q n:=
 Nat.le_antisymm (Qa n fun i hi hp=>by rw [<-h i hi];exact hp) (Qa n fun i hi hp=>by rw [h i hi];exact hp)
theorem MC (m:Z7):RU (ZL m)=RU m:=by
 unfold RU;rw [show (ZL m).dk.length=m.dk.length from (Zp m m.dk.length).2.2.2.2.2];exact M7 _ fun i hi=>KE m hi
theorem KF (m:Z7):OU (ZL m)=OU m:=by
 unfold OU;rw [show (ZL m).sm.length=m.sm.length from (Zp m m.dk.length).2.2.2.2.1];exact M7 _ fun i hi=>Jw m hi
theorem IZ {w b:Nat} (hw:w<m.sm.length) (hp:ZP (Z8 m.sm w)=true):WO (Vo m w b) b=false:=by
 unfold WO;rw [decide_eq_false,Bool.and_false];intro h;refine OA.1 h w (by rw [VV];exact hw) ?_;rw [Tf hw,if_pos rfl];exact ⟨rfl,hp⟩
theorem NY {w b j:Nat} (hw:w<m.sm.length) (hj:(Z8 m.sm w).2.1 ≠ (j:Int)) (h:WO (Vo m w b) j=true):WO m j=true:=by
 unfold WO at h ⊢;simp only [ZR,YV] at h ⊢;refine ⟨h.1,OA.2 fun i hi hp=> ?_⟩;have:=OA.1 h.2 i (by rw [VV];exact hi);rw [Tf hw] at this;by_cases e:i=w
 ·subst e;exact hj hp.1
 ·rw [if_neg e] at this;exact this hp
theorem G9 {w b i:Nat} (hw:w<m.sm.length) (hi:i ≠ w):TH (Vo m w b) i=TH m i:=by
 unfold TH Yn;rw [Zl,Tf hw,if_neg hi];rfl
theorem I0 {w b:Nat} (hw:w<m.sm.length) (h:Wb (Yn m (w:Int)) 0 (YP m.rm (b:Int))=true):TH (Vo m w b) w=false:=by
 unfold TH Yn;rw [Zl,Tf hw,if_pos rfl]
 have e:Ri (Vo m w b).gd (putS m (Z8 m.sm w) (b:Int))=Yn m (w:Int):=by
  unfold Yn;rw [Zl];rfl
 rw [e];show (_ && !Wb _ 0 (YP m.rm (b:Int)))=false;rw [h];simp
theorem MI (h:ZJ m=true) {w:Nat} (hw:w<m.sm.length) (h2:(Z8 m.sm w).1=2):∃ i,i<m.sm.length/\i ≠ w/\(Z8 m.sm i).2.1=(Z8 m.sm w).2.1/\ZP (Z8 m.sm i)=true:=by
 have hlo:=ZI h;have hp:ZP (Z8 m.sm w)=true:=by unfold ZP;rw [h2];rfl
 obtain ⟨a0,a1,_⟩:=hlo.at hw hp;obtain ⟨b,hb⟩:∃ b:Nat,(Z8 m.sm w).2.1=(b:Int):=⟨(Z8 m.sm w).2.1.toNat,by omega⟩
 have hbl:b<m.dk.length:=by omega
 have hok:Yu m b=true:=by
  unfold ZJ at h;simp only [ZR] at h;exact Ou h.2 hbl
 rw [<-KH] at hok;unfold MB at hok
 split at hok
 ·simp only [YV,List.length_eq_zero_iff] at hok
  have:(w:Int) ∈ Zr (atB (b:Int)) m.sm m.sm.length:=(Wn _ _ _ _).2 ⟨w,hw,rfl,by unfold atB;rw [h2,hb];simp⟩;rw [hok] at this;cases this
 ·simp only [ZR,YV] at hok
  have hx:Z8 (Zr (Yd (b:Int)) m.sm m.sm.length) 0 ∈ Zr (Yd (b:Int)) m.sm m.sm.length:=Sv (by omega);obtain ⟨i,hi,_,hwk⟩:=(Wn _ _ _ _).1 hx;unfold Yd at hwk;simp only [ZR,beq_iff_eq] at hwk;exact ⟨i,hi,fun e=>by subst e;omega,by rw [hb];exact hwk.2,by unfold ZP;rw [hwk.1];rfl⟩
theorem Moves.falls {w b:Nat} (h:Moves m w b):Uy (VT m w b)<Uy m:=by
 unfold Uy VT;rw [MC,KF];have hlo:=ZI h.right;have h12:=YF hlo;obtain ⟨a0,a1,_⟩:=hlo.at h.who h.pres;have hmb:=In (TH (Vo m w b)) m.sm.length;have hbusy:=IZ (b:=b) h.who h.pres
 rcases h.why with ⟨hmis,hfit⟩ | hwait
 ·have e1:RU (Vo m w b)<=RU m:=Io (y:=(Z8 m.sm w).2.1.toNat) h.bench h.idle hbusy fun i hi hne hq=>NY h.who (by omega) hq
  have e2:OU (Vo m w b)+1<=OU m:=by
   unfold OU;rw [VV];refine SU hmis (I0 h.who hfit) _ h.who fun i hi hq=> ?_;by_cases e:i=w
   ·subst e;exact hmis
   ·rw [G9 h.who e] at hq;exact hq
  omega
 ·have e1:RU (Vo m w b)+1<=RU m:=by
   refine SU h.idle hbusy _ h.bench fun j hj hq=> ?_;by_cases e:(Z8 m.sm w).2.1=(j:Int)
   ·exfalso
    obtain ⟨i,hi,hiw,hbe,hpr⟩:=MI h.right h.who hwait;unfold WO at hq;simp only [ZR,YV] at hq;have:=OA.1 hq.2 i (by rw [VV];exact hi);rw [Tf h.who,if_neg hiw] at this;exact this ⟨by rw [hbe,e],hpr⟩
   ·exact NY h.who e hq
  have e2:OU (Vo m w b)<=12:=by
   unfold OU;rw [VV];omega
  omega
def VQ:Nat->Z7->Z7
 | 0,m=>m
 | k+1,m=>match VS m with
  | none=>m
  | some (w,b)=>VQ k (VT m w b)
def Vn (m:Z7):Z7:=VQ (Uy m+1) m
theorem R1:∀ (j k:Nat) (m:Z7),Uy m<j->Uy m<k->VQ j m=VQ k m
 | 0,_,_,h,_=>by omega
 | _+1,0,_,_,h=>by omega
 | j+1,k+1,m,hj,hk=>by
  show (match VS m with | none=>m | some (w,b)=>VQ j (VT m w b))=(match VS m with | none=>m | some (w,b)=>VQ k (VT m w b))
  cases hm:VS m with
  | none=>rfl
  | some r=>
   obtain ⟨w,b⟩:=r;have hf:=(Uj hm).falls;exact R1 j k (VT m w b) (by omega) (by omega)
theorem NA (h:VS m=none):Vn m=m:=by
 unfold Vn VQ;rw [h]
theorem Pn {w b:Nat} (h:VS m=some (w,b)):Vn m=Vn (VT m w b):=by
 have hf:=(Uj h).falls
 have:Vn m=VQ (Uy m) (VT m w b):=by
  show (match VS m with | none=>m | some (w,b)=>VQ (Uy m) (VT m w b))=_;rw [h]
 rw [this];exact R1 _ _ _ (by omega) (by omega)
theorem Ta:∀ (k:Nat) (m:Z7),ZJ m=true->ZJ (VQ k m)=true
 | 0,m,h=>h
 | k+1,m,h=>by
  unfold VQ;cases hm:VS m with
  | none=>exact h
  | some r=>
   obtain ⟨w,b⟩:=r;exact Ta k (VT m w b) (Uj hm).keeps
theorem NB (h:ZJ m=true):ZJ (Vn m)=true:=Ta _ m h
def WZ (m:Z7):Z7:=if ZJ m then Vn m else XG
def KC:Option (Nat × Nat)->Value
 | none=> .tuple #[.int .i64 0,.int .i64 0,.bool false]
 | some (w,b)=> .tuple #[.int .i64 (w:Int),.int .i64 (b:Int),.bool true]
theorem KJ {b w:Nat} {k n:Nat} (h:Wh m b k=some w) (hn:k<=n):Wh m b n=some w:=by
 obtain ⟨d,rfl⟩:∃ d,n=k+d:=⟨n-k,by omega⟩
 clear hn
 induction d with
 | zero=>exact h
 | succ d ih=>
  show Wh m b (k+d+1)=some w;unfold Wh;rw [ih]
theorem MJ {w b:Nat} {k n:Nat} (h:Xy m k=some (w,b)) (hn:k<=n):Xy m n=some (w,b):=by
 obtain ⟨d,rfl⟩:∃ d,n=k+d:=⟨n-k,by omega⟩
 clear hn
 induction d with
 | zero=>exact h
 | succ d ih=>
  show Xy m (k+d+1)=some (w,b);unfold Xy;rw [ih]
theorem JG {w b:Nat} {k n:Nat} (h:Wu m w k=some b) (hn:k<=n):Wu m w n=some b:=by
 obtain ⟨d,rfl⟩:∃ d,n=k+d:=⟨n-k,by omega⟩
 clear hn
 induction d with
 | zero=>exact h
 | succ d ih=>
  show Wu m w (k+d+1)=some b;unfold Wu;rw [ih]
theorem IN {w b:Nat} {k n:Nat} (h:U8 m k=some (w,b)) (hn:k<=n):U8 m n=some (w,b):=by
 obtain ⟨d,rfl⟩:∃ d,n=k+d:=⟨n-k,by omega⟩
 clear hn
 induction d with
 | zero=>exact h
 | succ d ih=>
  show U8 m (k+d+1)=some (w,b);unfold U8;rw [ih]
open Go.ChangeShapes Go.WideShapes Go.ChangeAt Go.RowKit Go.Sort Go.Proofs.Tryz
def J7 (rs:List Z5):Z7:=if YB rs then VF rs else XG
def Gb (n₀:Nat) (M:Z7) (q:Bool) (e:Ending) (w':World):Prop:=
 ∃ u0 u1 u2 u3 u4 qs,e= .returned (.tuple #[.agg #[u0,u1,u2,u3,u4,.int .i64 M.now],.bool q])/\FullSmy n₀ w' u0 u1 u2 u3 u4 M qs
theorem Ln:∀ rs:List Z5,rs.all Zc=true->0<=ZV rs
 | [],_=>by simp [ZV]
 | r::rs,h=>by
  simp only [List.all_cons,ZR] at h;have ih:=Ln rs h.2;have h1:=h.1;unfold Zc at h1;simp only [ZR] at h1;have:=ZS h1.1;simp only [ZV,List.map_cons,List.sum_cons] at ih ⊢;omega
theorem Sf {rs:List Z5} (h:YB rs=true):1<=ZV rs:=by
 obtain ⟨r1,r2,r3,r4⟩:=Zo h
 match rs,r1,r3 with
 | r::rs,_,h3=>
  simp only [List.all_cons,ZR] at h3;have ih:=Ln rs h3.2;have h1:=h3.1;unfold Zc at h1;simp only [ZR] at h1;have:=ZS h1.1;simp only [ZV,List.map_cons,List.sum_cons] at ih ⊢;omega
theorem JZ {B n:Nat} (hg:B<=w.heap.size) (hn:n<=1000):NumsAt B (w.alloc (.cells (madeCells #[.int .i64 0] n) 2)) (.slice (some ⟨w.heap.size,0,none⟩) n n) (List.replicate n 0):=by
 have hl:(madeCells #[Value.int .i64 0] n).toList=VK UG (List.replicate n 0):=by
  have:=JY Yo (by omega) (0:Int) #[Value.int .i64 0] rfl n;rw [Nat.mul_one] at this;exact this
 have hsz:(madeCells #[Value.int .i64 0] n).size=n:=by simp [madeCells]
 show (w.alloc _).ownsRow B 2 1 _ (List.replicate n (0:Int)).length _;rw [List.length_replicate];refine ⟨by rw [WN Yo,List.length_replicate],.inr ⟨_,n,madeCells #[.int .i64 0] n,rfl,hg,heap_alloc_new w _,Z3 _,(by unfold maxLen;omega),(by simp [hsz]),?_⟩⟩;rw [<-hl,Nat.mul_one];exact List.take_of_length_le (by rw [Array.length_toList,hsz];exact Z3 _)
theorem I7 (B:Nat) (w:World):DesksAt B w (.slice none 0 0) []:=World.ownsRow_nil _ _ _ _
structure NewOff (n₀:Nat) (rs:List Z5) (w:World) (R:Nat) (v0 v4 v3:Value) (qs:List (Z5 × Value)):Prop where
 hall:OwnHall (n₀+2) w v0 qs
 rm:qs.map (·.1)=rs
 nums:NumsAt (n₀+2) w v4 (List.replicate rs.length 0)
 rlo:n₀+2<=R
 rh:∀ k,(v0.ownBlock=some k\/ ∃ q ∈ qs,q.2.ownBlock=some k)->k ≠ R
 rp:v4.ownBlock ≠ some R
 rd:v3.ownBlock ≠ some R
 hp:∀ k,(v0.ownBlock=some k\/ ∃ q ∈ qs,q.2.ownBlock=some k)->v4.ownBlock ≠ some k
 hd:∀ k,(v0.ownBlock=some k\/ ∃ q ∈ qs,q.2.ownBlock=some k)->v3.ownBlock ≠ some k
 pd:∀ k,v4.ownBlock=some k->v3.ownBlock ≠ some k
 rlt:R<w.heap.size
structure NewCut (n₀:Nat) (w:World) (a:Option Addr) (rs:List Z5) (cap:Nat) (wc:World) (R:Nat) (hv pv:Value) (qs:List (Z5 × Value)):Prop where
 off:NewOff n₀ rs wc R hv pv (.slice none 0 0) qs
 km:Blk wc R 40 #[hv,.slice none 0 0,.slice none 0 0,.slice none 0 0,pv,.int .i64 0]
 kb:Blk wc n₀ 34 #[.slice a rs.length cap]
 kr:Blk wc (n₀+1) 40 E6
 bel:Below w.heap.size w wc
 hshape:∃ ua uc,hv= .slice ua rs.length uc
 pshape:∃ pa pc,pv= .slice pa rs.length pc
theorem NewOff.below {n₀:Nat} {rs:List Z5} {R:Nat} {qs:List (Z5 × Value)} (h:NewOff n₀ rs w R v0 v4 v3 qs) (hb:Below w.heap.size w w'):NewOff n₀ rs w' R v0 v4 v3 qs:=
 ⟨h.hall.later hb,h.rm,RecAt.later h.nums hb,h.rlo,h.rh,h.rp,h.rd,h.hp,h.hd,h.pd,YH h.rlt hb.size⟩
theorem NewCut.below {n₀:Nat} {a:Option Addr} {rs:List Z5} {cap:Nat} {wc w':World} {R:Nat} {hv pv:Value} {qs:List (Z5 × Value)} (h:NewCut n₀ w a rs cap wc R hv pv qs) (hb:Below wc.heap.size wc w'):NewCut n₀ w a rs cap w' R hv pv qs:=
 ⟨h.off.below hb,h.km.below hb h.km.lt,h.kb.below hb h.kb.lt,h.kr.below hb h.kr.lt,h.bel.trans (hb.mono h.bel.size),h.hshape,h.pshape⟩
theorem NewOff.set_R {n₀:Nat} {rs:List Z5} {R:Nat} {qs:List (Z5 × Value)} (h:NewOff n₀ rs w R v0 v4 v3 qs) (o:Nat) (u:Value):NewOff n₀ rs (w.setCell ⟨R,o,none⟩ u) R v0 v4 v3 qs:=
 ⟨h.hall.same2 fun k e=>heap_setCell_other _ _ _ _ (h.rh k e),h.rm,RecAt.same h.nums fun k e=>heap_setCell_other _ _ _ _ (fun e'=>h.rp (by rw [e];exact congrArg some e')),h.rlo,h.rh,h.rp,h.rd,h.hp,h.hd,h.pd,by simpa using h.rlt⟩
theorem NewOff.grow {n₀:Nat} {rs:List Z5} {R:Nat} {v0 v4 v3 v':Value} {qs:List (Z5 × Value)} {o:Obj} (h:NewOff n₀ rs w R v0 v4 v3 qs) (hg:(w.alloc o).grownBy w' v3.ownBlock) (hat:v'.ownBlock=v3.ownBlock\/v'.ownBlock=some (w.alloc o).heap.size):NewOff n₀ rs w' R v0 v4 v' qs:=by
 have hk:∀ k,k<w.heap.size->v3.ownBlock ≠ some k->w'.heap[k]?=w.heap[k]?:=fun k hk hn=>(hg.block k (by simp;omega) (fun e=>hn e.symm)).trans (Below.heap_alloc w o k hk)
 have hv:∀ k,k<w.heap.size->v3.ownBlock ≠ some k->v'.ownBlock ≠ some k:=fun k hlt hn e=>by
  rcases hat with e' | e'
  ·exact hn (by rw [<-e'];exact e)
  ·rw [e'] at e
   simp at e;omega
 have hs:w.heap.size<=w'.heap.size:=by have:=hg.size;simp at this;omega
 refine ⟨h.hall.same2 fun k e=>hk k (h.hall.lt e).2 (h.hd k e),h.rm,RecAt.same h.nums fun k e=>hk k (RecAt.lt h.nums e).2 (h.pd k e),h.rlo,h.rh,h.rp,hv R h.rlt h.rd,h.hp,fun k e=>hv k (h.hall.lt e).2 (h.hd k e),fun k e=>hv k (RecAt.lt h.nums e).2 (h.pd k e),by have:=h.rlt;omega⟩
theorem NewOff.full {n₀:Nat} {rs:List Z5} {R:Nat} {qs:List (Z5 × Value)} {ds:List WC} (h:NewOff n₀ rs w R v0 v4 v3 qs) (hd:DesksAt (n₀+2) w v3 ds):FullSmy (n₀+2) w v0 (.slice none 0 0) (.slice none 0 0) v3 v4 ⟨rs,[],[],ds,List.replicate rs.length 0,0⟩ qs:=by
 have hz:∀ u:Value,P3 (.slice none 0 0) u:=fun u b e=>by cases e
 have hz2:∀ u:Value,P3 u (.slice none 0 0):=fun u b e e'=>by cases e'
 exact ⟨h.hall,h.rm,World.ownsRow_nil _ _ _ _,World.ownsRow_nil _ _ _ _,hd,h.nums,⟨hz _,fun q hq=>hz _⟩,⟨hz _,fun q hq=>hz _⟩,⟨fun b e e'=>h.hd b (.inl e') e,fun q hq b e e'=>h.hd b (.inr ⟨q,hq,e'⟩) e⟩,⟨fun b e e'=>h.hp b (.inl e') e,fun q hq b e e'=>h.hp b (.inr ⟨q,hq,e'⟩) e⟩,hz _,hz _,hz _,hz _,hz _,fun b e e'=>h.pd b e' e⟩
theorem G5 {a:Option Addr} {rs:List Z5} {cap R g uc:Nat} {ua:Option Addr} {qs:List (Z5 × Value)} (hlo:w.heap.size+2<=R) (bel:Below w.heap.size w X) (kb:Blk X w.heap.size 34 #[.slice a rs.length cap]) (kr:Blk X (w.heap.size+1) 40 E6)
  (hh:OwnHall (w.heap.size+2) X (.slice ua rs.length uc) qs) (hn:NumsAt (w.heap.size+2) X (.slice (some ⟨g,0,none⟩) rs.length rs.length) (List.replicate rs.length 0)) (km:Blk X R 40 E6) (hgl:w.heap.size+2<=g)
  (h15:∀ k,((Value.slice ua rs.length uc).ownBlock=some k\/ ∃ q ∈ qs,q.2.ownBlock=some k)->k ≠ g) (h17:∀ k,((Value.slice ua rs.length uc).ownBlock=some k\/ ∃ q ∈ qs,q.2.ownBlock=some k)->k ≠ R) (h57:R ≠ g) (hq:qs.map (·.1)=rs) :
  ∃ R' hv pv qs',Value.pointer (some ⟨R,0,none⟩)= .pointer (some ⟨R',0,none⟩)/\NewCut w.heap.size w a rs cap ((((((X.setCell ⟨R,0,none⟩ (.slice ua rs.length uc)).setCell ⟨R,1,none⟩ (.slice none 0 0)).setCell ⟨R,2,none⟩ (.slice none 0 0)).setCell ⟨R,3,none⟩ (.slice none 0 0)).setCell ⟨R,4,none⟩ (.slice (some ⟨g,0,none⟩) rs.length rs.length)).setCell ⟨R,5,none⟩ (.int .i64 0)) R' hv pv qs':=by
 refine ⟨R,.slice ua rs.length uc,.slice (some ⟨g,0,none⟩) rs.length rs.length,qs,rfl,?_⟩;have ho:NewOff w.heap.size rs X R (.slice ua rs.length uc) (.slice (some ⟨g,0,none⟩) rs.length rs.length) (.slice none 0 0) qs:=⟨hh,hq,hn,hlo,h17,fun e=>(by cases e;exact h57 rfl),fun e=>(by cases e),fun k e e'=>(by cases e';exact h15 _ e rfl),fun k e e'=>(by cases e'),fun k e e'=>(by cases e'),km.lt⟩
 have k1:=((((((km.set 0 (.slice ua rs.length uc)).set 1 (.slice none 0 0)).set 2 (.slice none 0 0)).set 3 (.slice none 0 0)).set 4 (.slice (some ⟨g,0,none⟩) rs.length rs.length)).set 5 (.int .i64 0))
 refine ⟨(((((ho.set_R _ _).set_R _ _).set_R _ _).set_R _ _).set_R _ _).set_R _ _,k1,?_,?_,?_,⟨_,_,rfl⟩,⟨_,_,rfl⟩⟩
 ·iterate 6 (refine Blk.other ?_ (by show w.heap.size ≠ R;omega) _)
  exact kb
 ·iterate 6 (refine Blk.other ?_ (by show w.heap.size+1 ≠ R;omega) _)
  exact kr
 ·iterate 6 (refine YU ?_ (by show _<=R;omega) _)
  exact bel
theorem Tp {ops:Array Oper} {rest:List Oper} {o:Oper} {a:Act} {Q:Exit->Act->World->Prop} (hgd:o.guard=none) (s x:Operand) (t:TypeId)
  (ho:o.op= .call { callee:= .builtin .append,args:=#[s,x],argTypes:=#[t,t] }) {v u v':Value} {w':World} (hs:a.eval s=v) (hx:a.eval x=u) (hrun:(Builtin.append_ #[t,t] o.type #[v,u]).run prog w= .ok v' w')
  (h:wpList prog ops Q rest (a.put o.dst v') w'):wpList prog ops Q (o::rest) a w:=by
 refine wpList_plain hgd fun K hK=> ?_;unfold Oper.wp execOp;simp only [ho,resolve,invoke,builtin,Sem.run_bind,Sem.run_pure,Result.andThen_ok,List.map_toArray,List.map_cons,List.map_nil,hs,hx,hrun];exact hK _ _ h
open Draw (St Off Row Cur)
theorem Nj {ps:List Zy} {ab low hi:Int} (h:YD ps=true) (hl:ps.length<=5) (a0:0<=ab) (a1:ab<(ps.length:Int)+1) (l0:0<=low) (l1:low<=hi) (h1:hi<=1024):YD (ps++[(ab-1,low,hi)])=true:=by
 obtain ⟨hu,_⟩:=Xg h;unfold YD;rw [List.length_append];show (Vh _ (ps.length+1) && decide (ps.length+1<=6))=true;rw [decide_eq_true (by omega),Bool.and_true,Rg]
 have hsame:Vh (ps++[(ab-1,low,hi)]) ps.length=true:=by
  unfold Vh;refine List.all_eq_true.2 fun j hj=> ?_;have hj':=List.mem_range.1 hj;rw [Wz,if_neg (by omega)];exact Oi hu hj'
 rw [hsame,Wz,if_pos rfl,Bool.true_and];unfold UJ Xd;simp only [ZR,YV];exact ⟨YJ (by omega) (by omega),⟨YJ l0 (by omega),YJ (by omega) h1⟩,l1⟩
theorem OR (a:Option Addr) (len cap bc:Nat) (w:World) (hs:St a len cap bc w) :
  Calls prog 56 #[.pointer (some ⟨bc,0,none⟩)] w fun e w'=> ∃ v ps,e= .returned v/\YD ps=true/\Gbox a len cap bc w w' v ps:=by
 have Hs:=Z9 hs;have hbc:=Xs hs;clear hs;go_enter func56,ntmps56;go_wp2_with fail;have HE:Hid (GuildsAt w.heap.size (w.alloc (.cells #[] 106)) (.slice (some ⟨w.heap.size,0,none⟩) 0 0) []):=Z9 (XE rfl (Z3 _));refine (Draw.below_any a len cap bc 5 (by omega) (by omega) _ ((uh Hs).alloc _)).mono ?_;rintro e w1 ⟨n,rfl,n0,n1,s1,o1⟩;have HG1:Hid (Gbox a len cap bc w w1 (.slice (some ⟨w.heap.size,0,none⟩) 0 0) []):=Z9 (Gbox.step ⟨(uh Hs).alloc _,(Off.refl _ _).alloc _,hbc,uh HE⟩ s1 o1);clear s1 o1 HE;go_wp2_with fail
 go_loopw [3,4] (fun s i wr=> ∃ (k:Nat) (ps:List Zy),ps.length+k<=4/\YD ps=true/\i= .int .i64 k/\Gbox a len cap bc w wr s ps) (fun _ i _=>(intOf i).toNat)
 case atStart=>exact ⟨n.toNat,[],by simp;omega,rfl,by rw [show ((n.toNat:Nat):Int)=n by omega],uh HG1⟩
 case round=>
  obtain ⟨k,ps,hk,hgs,rfl,hG⟩:=hrel;have Hgs:=Z9 hgs;clear hgs;obtain ⟨ra,rcap,rfl⟩:=RecAt.shape hG.row;have HG:=Z9 hG;clear hG;by_cases hk0:0<k
  ·go_wp2_with fail
   refine (Draw.below_any a len cap bc 600 (by omega) (by omega) _ (uh HG).st).mono ?_;rintro e w2 ⟨low,rfl,l0,l1,s2,o2⟩;have HG2:=Z9 ((uh HG).step s2 o2);clear s2 o2 HG;go_wp2_with fail;refine (Draw.below_any a len cap bc _ (by omega) (by omega) _ (uh HG2).st).mono ?_;rintro e w3 ⟨ab,rfl,a0,a1,s3,o3⟩;have HG3:=Z9 ((uh HG2).step s3 o3);clear s3 o3 HG2;go_wp2_with fail;refine (Draw.from_any a len cap bc low 1024 (by omega) (by omega) (by omega) _ (uh HG3).st).mono ?_;rintro e w4 ⟨hi,rfl,h0,h1,s4,o4⟩;have HG4:=Z9 ((uh HG3).step s4 o4);have hsz:=(uh HG4).off.size;clear s4 o4 HG3;go_wp2_with (at_builtin;refine Zm Lo rfl (.tmp 15) (.tmp 27) 35 underlying35 rfl w.heap.size _ _ ps [(ab-1,low,hi)] rfl rfl ((uh HG4).alloc _).row (Qj _ _ _ rfl (Z3 _) (by omega)) (by simp;omega) (by simp;omega) ?_;intro v' w5 hown hgrow hat)
   have HG5:=Z9 (((uh HG4).alloc _).grown hgrow hown);clear hown hgrow hat;go_wp2_with fail;go_roundw
   case rel=>exact ⟨k-1,ps++[(ab-1,low,hi)],by simp;omega,Nj (uh Hgs) (by omega) (by omega) (by omega) (by omega) (by omega) (by omega),by rw [show ((k:Int)-1)=((k-1:Nat):Int) by omega],uh HG5⟩
   case measure=>exact ms
  ·obtain rfl:k=0:=by omega
   go_wp2_with fail;go_ret;exact ⟨_,ps,rfl,uh Hgs,uh HG⟩
theorem Pz {α:Type} [Inhabited α] {n j:Nat} (x:α) (h:j<n):Z8 (List.replicate n x) j=x:=by
 unfold Z8;simp [List.getD,h]
theorem J8 {rs:List Z5} (h:YB rs=true):((VF rs).dk.length:Int)=ZV rs:=by
 have:=Sf h;show (((List.replicate (ZV rs).toNat ((true,-1,0):WC)).length:Nat):Int)=_;rw [List.length_replicate];omega
theorem NI {rs:List Z5} (gs:List Zy) (h:YB rs=true) (hg:YD gs=true):ZJ { VF rs with gd:=gs }=true:=by
 have hb:=Sf h;have hd:=J8 h;obtain ⟨r1,r2,r3,r4⟩:=Zo h
 have hdk:∀ j,j<(VF rs).dk.length->Z8 (VF rs).dk j=(true,-1,0):=fun j hj=>Pz _ (by
  have:(VF rs).dk.length=(ZV rs).toNat:=by show (List.replicate _ _).length=_;rw [List.length_replicate]
  omega)
 have hlo:Loose { VF rs with gd:=gs }:=by
  refine ⟨?_,?_,?_,fun i hi=>absurd hi (Nat.not_lt_zero _),fun i hi=>absurd hi (Nat.not_lt_zero _),0,?_,?_⟩
  ·unfold YI
   simp only [ZR,YV];exact ⟨h,hg,Zi _,hd,by show (List.replicate _ _).length=_;rw [List.length_replicate];rfl,rfl⟩
  ·intro j hj
   show SW (Z8 (VF rs).dk j)=true;rw [hdk j hj];rfl
  ·intro j hj
   have hj':j<rs.length:=by
    have:(List.replicate rs.length (0:Int)).length=rs.length:=List.length_replicate ..;have hj2:j<(List.replicate rs.length (0:Int)).length:=hj;omega
   show inB (Z8 (List.replicate rs.length (0:Int)) j) 0 (((ZO rs j).2.length:Int)-1)=true;rw [Pz _ hj'];have hmem:ZO rs j ∈ rs:=by unfold ZO;simp [List.getD,hj']
   have hrb:=List.all_eq_true.1 r3 _ hmem;unfold Zc at hrb;simp only [ZR] at hrb;have:=ZS hrb.2.1;exact YJ (by omega) (by omega)
  ·show 0<(VF rs).dk.length
   omega
  ·show (Z8 (VF rs).dk 0).1=true
   rw [hdk 0 (by omega)]
 unfold ZJ;rw [hlo.mk',Bool.true_and];refine List.all_eq_true.2 fun b hb2=> ?_;have hb3:b<(VF rs).dk.length:=List.mem_range.1 hb2;unfold Yu;show (match Yk [] (b:Int) 0 with | none=>false | some (wk,wt)=>(Z8 (VF rs).dk b).2.1 ==wk && !(wt && decide (wk<0)))=true;rw [hdk b hb3];rfl
open Go.Lib (digitVal decFrom decDigits itoa join joinTail)
theorem Jv (m:Nat):Int.tmod (-(m:Int)) 10= -((m%10:Nat):Int):=by rw [Int.neg_tmod];rfl
theorem Jt (m:Nat):Int.tdiv (-(m:Int)) 10= -((m / 10:Nat):Int):=by rw [Int.neg_tdiv];rfl
theorem JW (N:Nat) (h0:0<N) (h1:N<=9223372036854775808) (w:World) :
  cB 28 #[.int .i64 (-(N:Int))] w (.string (bs (45::decDigits N))):=by
 have hneg : -(N:Int)<0:=by omega
 have HL:Hid ((decDigits N).length<=20):=Z9 (by rw [Go.Lib.decDigits_length];exact Go.Lib.nDigits_le20 N (by omega));go_enter func28,ntmps28;go_wp2_with fail
 go_loopw [0,3] (fun v s wr=> ∃ (m:Nat) (b:ByteArray),v= .int .i64 (-(m:Int))/\s= .string b/\m<=N/\((b=⟨#[]⟩/\m=N)\/(∃ x t,b.data.toList=x::t/\decDigits N=Rf m++x::t))/\Below w.heap.size w wr) (fun v s _=>(-(intOf v)).toNat+Sj s)
 case atStart=>exact ⟨N,⟨#[]⟩,rfl,rfl,Z3 _,.inl ⟨rfl,rfl⟩,Z2 _ _⟩
 case round=>
  obtain ⟨m,b,rfl,rfl,hm,hcase,hb⟩:=hrel;have Hb:=Z9 hb;have Hs:=Z9 hb.size;clear hb;have ht:=Jv m;have hd:=Jt m;by_cases hp:0<(m:Int)%10
  ·have hcv:=Ip wr (48+(m:Int)%10)
   have hy:(48+(m:Int)%10)=48+(m:Int)%10:=by omega
   have hs1:=strOfNums_size [48+(m:Int)%10];simp only [Zn,Y2,Nat.zero_add] at hs1;have Hs1:=Z9 hs1;clear hs1
   rcases hcase with ⟨rfl,rfl⟩ | ⟨x,t,hbt,hdec⟩
   ·have Hd:Hid ((strOfNums [48+(m:Int)%10]++⟨#[]⟩).data.toList=UInt8.ofNat (48+m%10)::[]):=Z9 (by rw [hy,WJ,U9];rfl)
    have hsz:(strOfNums [48+(m:Int)%10]).size+(⟨#[]⟩:ByteArray).size<=9223372036854775807:=by rw [uh Hs1];decide
    clear hy;go_wp2_with fail;go_roundw
    case rel=>exact ⟨m / 10,_,by go_num,rfl,by omega,.inr ⟨_,[],uh Hd,XY m⟩,(uh Hb).alloc (uh Hs) _⟩
    case measure=>rw [Ye (uh Hd)];simp [intOf,Sj,ByteArray.size];omega
   ·have he:=Sn hbt
    have hbs:b.size<=20:=by
     have h2:b.data.toList.length=b.size:=by simp
     have h3:=uh HL;rw [hdec,List.length_append,<-hbt,h2] at h3;omega
    have Hbt:=Z9 hbt;have Hdec:=Z9 hdec;clear hbt hdec;by_cases hz:m=0
    ·subst hz
     exact absurd hp (by decide)
    ·have Hd:Hid ((strOfNums [48+(m:Int)%10]++b).data.toList=UInt8.ofNat (48+m%10)::x::t):=Z9 (by rw [hy,WJ,U9,uh Hbt];rfl)
     have hsz:(strOfNums [48+(m:Int)%10]).size+b.size<=9223372036854775807:=by rw [uh Hs1];omega
     have Hn:Hid (decDigits N=Rf (m / 10)++UInt8.ofNat (48+m%10)::x::t):=Z9 (by rw [uh Hdec,Rf,if_neg hz,XY m];simp);clear hy;go_wp2_with fail;go_roundw
     case rel=>exact ⟨m / 10,_,by go_num,rfl,by omega,.inr ⟨_,_,uh Hd,uh Hn⟩,(uh Hb).alloc (uh Hs) _⟩
     case measure=>rw [Ye (uh Hd),Ye (uh Hbt)];simp [intOf];omega
  ·have hcv:=Ip wr (48 + -((m:Int)%10))
   have hy:(48 + -((m:Int)%10))=48+(m:Int)%10:=by omega
   have hs1:=strOfNums_size [48 + -((m:Int)%10)];simp only [Zn,Y2,Nat.zero_add] at hs1;have Hs1:=Z9 hs1;clear hs1
   rcases hcase with ⟨rfl,rfl⟩ | ⟨x,t,hbt,hdec⟩
   ·have Hd:Hid ((strOfNums [48 + -((m:Int)%10)]++⟨#[]⟩).data.toList=UInt8.ofNat (48+m%10)::[]):=Z9 (by rw [hy,WJ,U9];rfl)
    have hsz:(strOfNums [48 + -((m:Int)%10)]).size+(⟨#[]⟩:ByteArray).size<=9223372036854775807:=by rw [uh Hs1];decide
    clear hy;go_wp2_with fail;go_roundw
    case rel=>exact ⟨m / 10,_,by go_num,rfl,by omega,.inr ⟨_,[],uh Hd,XY m⟩,(uh Hb).alloc (uh Hs) _⟩
    case measure=>rw [Ye (uh Hd)];simp [intOf,Sj,ByteArray.size];omega
   ·have he:=Sn hbt
    have hbs:b.size<=20:=by
     have h2:b.data.toList.length=b.size:=by simp
     have h3:=uh HL;rw [hdec,List.length_append,<-hbt,h2] at h3;omega
    have Hbt:=Z9 hbt;have Hdec:=Z9 hdec;clear hbt hdec;by_cases hz:m=0
    ·subst hz
     have hsz:(⟨#[45]⟩:ByteArray).size+b.size<=9223372036854775807:=by have:(⟨#[45]⟩:ByteArray).size=1:=rfl;omega
     clear hy;go_wp2_with fail;go_ret;exact ⟨Lk (Il (by rw [WJ,uh Hbt,uh Hdec];rfl)),uh Hb⟩
    ·have Hd:Hid ((strOfNums [48 + -((m:Int)%10)]++b).data.toList=UInt8.ofNat (48+m%10)::x::t):=Z9 (by rw [hy,WJ,U9,uh Hbt];rfl)
     have hsz:(strOfNums [48 + -((m:Int)%10)]).size+b.size<=9223372036854775807:=by rw [uh Hs1];omega
     have Hn:Hid (decDigits N=Rf (m / 10)++UInt8.ofNat (48+m%10)::x::t):=Z9 (by rw [uh Hdec,Rf,if_neg hz,XY m];simp);clear hy;go_wp2_with fail;go_roundw
     case rel=>exact ⟨m / 10,_,by go_num,rfl,by omega,.inr ⟨_,_,uh Hd,uh Hn⟩,(uh Hb).alloc (uh Hs) _⟩
     case measure=>rw [Ye (uh Hd),Ye (uh Hbt)];simp [intOf];omega
theorem GY (n:Int) (h0 : -9223372036854775808<=n) (h1:n<=9223372036854775807) (w:World) :
  cB 28 #[.int .i64 n] w (.string (bs (itoa n))):=by
 by_cases hn:0<=n
 ·exact JU n hn h1 w
 obtain ⟨N,rfl⟩:∃ N:Nat,n= -(N:Int):=⟨n.natAbs,by omega⟩
 have hi:itoa (-(N:Int))=45::decDigits N:=by unfold itoa;rw [if_pos (by omega)];simp
 rw [hi];exact JW N (by omega) (by omega) w
end Go.Proofs.YtmdgokjeobnnaaaGreatDoor
