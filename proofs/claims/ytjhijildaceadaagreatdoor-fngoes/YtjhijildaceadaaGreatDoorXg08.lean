/- Part 8 of what the proof rests on. No condition but those that a theorem names. -/
import Derived.Test.YtjhijildaceadaaGreatDoorXg07
import Derived.Shelf.RegionOpen
namespace Go.Proofs.YtjhijildaceadaaGreatDoor
open Go.ChangeShapes Go.WideShapes Go.ChangeAt Go.RowKit Go.Sort
set_option linter.unusedVariables false
def PL (gs:List ZF) (s:Z3):Int:=min (max s.2.2.2.2.2.2.2.2.2.1 (P6 (bnd gs s.2.2.2.2.1) s.2.2.2.2.2.1 s.2.2.2.2.2.2.1).1) (P6 (bnd gs s.2.2.2.2.1) s.2.2.2.2.2.1 s.2.2.2.2.2.2.1).2
def Yr (m:Z4) (who:Int):Int:=PL m.guilds (Z8 m.smiths who.toNat)
theorem Fs (gs:List ZF) (s:Z3):0<=PL gs s/\PL gs s<=1024:=by
 obtain ⟨b0,b1,b2⟩:=CD gs s.2.2.2.2.1
 obtain ⟨n0,n1,n2⟩:=H8 (lo:=s.2.2.2.2.2.1) (hi:=s.2.2.2.2.2.2.1) b0 b1 b2
 unfold PL
 omega
theorem LW (m:Z4) (who:Int):0<=Yr m who/\Yr m who<=1024:=Fs _ _
def Vg (m:Z4) (but:Int) (q:List Z6):Int:=q.foldl (fun n e=>if e.2=but then n else n+Yr m e.2) 0
theorem JD (m:Z4) (but:Int) (q:List Z6) (e:Z6):Vg m but (q++[e])=if e.2=but then Vg m but q else Vg m but q+Yr m e.2:=by
 unfold Vg;rw [List.foldl_append];rfl
theorem LR (m:Z4) (but:Int):∀ (q:List Z6) (n:Int),0<=n->0<=q.foldl (fun n e=>if e.2=but then n else n+Yr m e.2) n/\q.foldl (fun n e=>if e.2=but then n else n+Yr m e.2) n<=n+1024*q.length
 | [],n,h=>⟨h,by simp⟩
 | e::q,n,h=>by
  have hw:=LW m e.2
  have ih:=LR m but q (if e.2=but then n else n+Yr m e.2) (by split<;>omega)
  refine ⟨ih.1,Int.le_trans ih.2 ?_⟩
  simp only [List.length_cons,Int.natCast_add,Int.natCast_one]
  split<;>omega
theorem LS (m:Z4) (but:Int) (q:List Z6):0<=Vg m but q/\Vg m but q<=1024*q.length:=by
 have:=LR m but q 0 (by omega)
 unfold Vg;omega
def XF (m:Z4) (b but:Int):Int:=Vg m but (atV m.smiths b m.smiths.length)
theorem LU (m:Z4) (b but:Int):0<=XF m b but/\XF m b but<=1024*m.smiths.length:=by
 have h:=LS m but (atV m.smiths b m.smiths.length)
 have hl:=TY m.smiths b m.smiths.length
 unfold XF
 refine ⟨h.1,Int.le_trans h.2 ?_⟩
 omega
def Zc (m:Z4) (room:Int):Nat->Int × Int
 | 0=>(0,0)
 | k+1=>if (WL m.rooms k:Int)=room then ((if (Z8 m.desks k).1 then max (Zc m room k).1 (XF m k (-1)) else (Zc m room k).1),(Zc m room k).2+XF m k (-1)) else Zc m room k
theorem Rv (m:Z4) (room:Int) (hl:m.smiths.length<=12):∀ k:Nat,(0<=(Zc m room k).1/\(Zc m room k).1<=12288)/\0<=(Zc m room k).2/\(Zc m room k).2<=12288*k
 | 0=>by simp [Zc]
 | k+1=>by
  have ih:=Rv m room hl k
  have hu:=LU m k (-1)
  unfold Zc
  split
  ·simp only
   constructor
   ·split<;>omega
   ·push_cast;omega
  ·push_cast;omega
def Q2 (m:Z4) (room:Nat):Int:=MC (ZW m.rooms room) (Zc m room m.desks.length).1 (Zc m room m.desks.length).2
def UZ (m:Z4):Nat->Int
 | 0=>0
 | k+1=>UZ m k+Q2 m k
def Mm (m:Z4):Int:=UZ m m.rooms.length
theorem M6 (m:Z4):∀ k:Nat,-(k:Int)<=UZ m k/\UZ m k<=1024000000*k
 | 0=>by simp [UZ]
 | k+1=>by
  have ih:=M6 m k
  have hc:=J2 (ZW m.rooms k) (XN (ZW m.rooms k) (Zc m k m.desks.length).1) (Zc m k m.desks.length).2
  unfold UZ Q2 MC
  push_cast
  omega
def RA (s:Z3) (b:Int):Z3:=(2,b,s.2.2)
def TN (m:Z4) (who b:Int):Z4:={ m with smiths:=m.smiths.set who.toNat (RA (Z8 m.smiths who.toNat) b) }
def Yu (m:Z4) (who b:Int):Int:=Mm (TN m who b)
def Ym (m:Z4) (who:Int) (b:Nat):Bool:=(Z8 m.desks b).1 && Wl (Z8 m.smiths who.toNat).2.2.2.1 b
def M7 (m:Z4) (who:Int) (b:Nat):Bool:=Ym m who b && VV (Yr m who) (XF m b who) (YV m.rooms b)
def Vk (m:Z4) (who:Int):Nat->List Int
 | 0=>[]
 | k+1=>if M7 m who k then Vk m who k++[(k:Int)] else Vk m who k
def Yl (m:Z4) (who:Int):List Int:=Vk m who m.desks.length
theorem Q6 (m:Z4) (who:Int):∀ k,(Vk m who k).length<=k
 | 0=>Nat.le_refl _
 | k+1=>by
  have:=Q6 m who k
  unfold Vk
  split
  ·simp;omega
  ·omega
theorem M8 (m:Z4) (who:Int) (x:Int):∀ k,x ∈ Vk m who k ↔ ∃ b:Nat,b<k/\x=(b:Int)/\M7 m who b=true
 | 0=>by simp [Vk]
 | k+1=>by
  have ih:=M8 m who x k
  unfold Vk
  split
  ·rename_i hf
   rw [List.mem_append,ih]
   constructor
   ·rintro (⟨b,hb,e,h⟩ | h)
    ·exact ⟨b,by omega,e,h⟩
    ·exact ⟨k,by omega,by simpa using h,hf⟩
   ·rintro ⟨b,hb,e,h⟩
    by_cases hbk:b=k
    ·subst hbk;right;simp [e]
    ·left;exact ⟨b,by omega,e,h⟩
  ·rename_i hf
   rw [ih]
   constructor
   ·rintro ⟨b,hb,e,h⟩
    exact ⟨b,by omega,e,h⟩
   ·rintro ⟨b,hb,e,h⟩
    by_cases hbk:b=k
    ·subst hbk;exact absurd h hf
    ·exact ⟨b,by omega,e,h⟩
def RH (m:Z4) (b:Nat):Bool:=(Z8 m.desks b).1 && O7 (XF m b (-1)) (YV m.rooms b)
def VX (m:Z4):Bool:=(List.range m.desks.length).any (RH m)
def VG (m:Z4) (who:Int) (a:Int × Int) (b:Int):Int × Int:=if Yu m who b<a.2\/(Yu m who b=a.2/\b=(Z8 m.smiths who.toNat).2.1) then (b,Yu m who b) else a
def XG (m:Z4) (who:Int) (f:List Int) (k:Nat):Int × Int:=((f.take k).drop 1).foldl (VG m who) (Z8 f 0,Yu m who (Z8 f 0))
def XQ (m:Z4) (who:Int):Nat->Int × Int
 | 0=>(-1,0)
 | k+1=>if Ym m who k && (decide ((XQ m who k).1<0) || decide ((XQ m who k).2<U5 (XF m k who) (YV m.rooms k))) then ((k:Int),U5 (XF m k who) (YV m.rooms k)) else XQ m who k
def YE (m:Z4) (who:Int):Int:=if !VX m && decide (0<(Yl m who).length) then (XG m who (Yl m who) (Yl m who).length).1 else (XQ m who m.desks.length).1
theorem JV (m:Z4) (who:Int) (P:Int->Prop):∀ (f:List Int) (a:Int × Int),P a.1->(∀ x ∈ f,P x)->P (f.foldl (VG m who) a).1
 | [],a,h,_=>h
 | b::f,a,h,hf=>by
  refine JV m who P f (VG m who a b) ?_ (fun x hx=>hf x (List.mem_cons_of_mem _ hx))
  unfold VG
  split
  ·exact hf b (by simp)
  ·exact h
theorem H7 (m:Z4) (who:Int):∀ k:Nat,((XQ m who k).1= -1/\ ∀ b,b<k->Ym m who b=false)\/ ∃ b:Nat,b<k/\(XQ m who k).1=(b:Int)/\Ym m who b=true
 | 0=> .inl ⟨rfl,fun b hb=>by omega⟩
 | k+1=>by
  have ih:=H7 m who k
  unfold XQ
  split
  ·rename_i h
   simp only [Bool.and_eq_true] at h
   exact .inr ⟨k,by omega,rfl,h.1⟩
  ·rename_i h
   rcases ih with ⟨e,hn⟩ | ⟨b,hb,e,hm⟩
   ·refine .inl ⟨e,fun b hb=> ?_⟩
    by_cases hbk:b=k
    ·subst hbk
     cases hm:Ym m who b
     ·rfl
     ·exfalso
      apply h
      rw [hm,e]
      rfl
    ·exact hn b (by omega)
   ·exact .inr ⟨b,by omega,e,hm⟩
theorem VK (m:Z4) (who:Int):(YE m who= -1/\ ∀ b,b<m.desks.length->Ym m who b=false)\/ ∃ b:Nat,b<m.desks.length/\YE m who=(b:Int)/\Ym m who b=true:=by
 unfold YE
 split
 ·rename_i h
  simp only [Bool.and_eq_true,decide_eq_true_eq] at h
  right
  have hin:∀ x ∈ Yl m who,∃ b:Nat,b<m.desks.length/\x=(b:Int)/\Ym m who b=true:=by
   intro x hx
   obtain ⟨b,hb,e,hf⟩:=(M8 m who x m.desks.length).1 hx
   unfold M7 at hf
   simp only [Bool.and_eq_true] at hf
   exact ⟨b,hb,e,hf.1⟩
  unfold XG
  exact JV m who (fun x=> ∃ b:Nat,b<m.desks.length/\x=(b:Int)/\Ym m who b=true) _ _ (hin _ (Ta h.2)) (fun x hx=>hin x (List.mem_of_mem_take (List.mem_of_mem_drop hx)))
 ·exact H7 m who m.desks.length
theorem UO {st be rk my gu lo hi hd ca ut wk:Int} (h0:1<=st/\st<=3) (h1:0<=be/\be<=7) (h2:inB rk (-5) 5=true) (h3:1<=my/\my<=255) (h4 : -1<=gu/\gu<=5) (h5:Yq lo hi=true) (h6 : -1000000000000<=hd/\hd<=1000000000000) (h7:0<=ca/\ca<=Zx rk-1) (h8:0<=ut/\ut<=1024) (h9:0<=wk/\wk<=100000000000) :
  Zj (st,be,rk,my,gu,lo,hi,hd,ca,ut,wk)=true:=by
 unfold Zj
 simp only [Bool.and_eq_true]
 exact ⟨Zm h0.1 h0.2,Zm h1.1 h1.2,h2,Zm h3.1 h3.2,Zm h4.1 h4.2,h5,Zm h6.1 h6.2,Zm h7.1 h7.2,Zm h8.1 h8.2,Zm h9.1 h9.2⟩
theorem XY {m:Z4} {s:Z3} : YA m s=true ↔ s=XC\/(Zj s=true/\s.2.2.2.2.1<m.guilds.length/\s.2.1<m.desks.length):=by
 unfold YA ZG
 simp only [Bool.and_eq_true,Bool.or_eq_true,decide_eq_true_eq]
 constructor
 ·rintro ⟨hg | hp,hr⟩
  ·exact .inl (V6 hg)
  ·right
   refine ⟨hp,?_⟩
   rcases hr with e | e
   ·have:s.1=0:=by simpa using e
    rw [Pg this] at hp
    cases hp
   ·exact e
 ·rintro (rfl | ⟨hp,hr⟩)
  ·exact ⟨.inl IB,.inl rfl⟩
  ·exact ⟨.inr hp,.inr hr⟩
theorem VN {m:Z4} {s:Z3} (h:ZT s=false):Yt m s=true:=by unfold Yt;rw [h];rfl
theorem PV {m:Z4} {s:Z3} (h1:(Z8 m.desks s.2.1.toNat).1=true) (h2:Wl s.2.2.2.1 s.2.1=true) (h3:XD (XM s) (Z8 m.desks s.2.1.toNat).2.2=true):Yt m s=true:=by
 unfold Yt
 rw [h1,h2,show s.2.2.2.2.2.2.2.1=XM s from rfl,h3]
 simp
theorem ZU {m:Z4} (h:ZP m=true):Loose m:=by
 unfold ZP at h
 simp only [Bool.and_eq_true] at h
 exact RS h.1
def setS (m:Z4) (k:Nat) (s:Z3):Z4:={ m with smiths:=m.smiths.set k s }
theorem Loose.setS {m:Z4} (h:Loose m) {k:Nat} (hk:k<m.smiths.length) {s:Z3} (h1:YA m s=true) (h2:Yt m s=true):Loose (setS m k s):=by
 refine ⟨?_,h.desk,h.pace,?_,?_,h.openD⟩
 ·have:=h.head
  unfold YW at this ⊢
  unfold Go.Proofs.YtjhijildaceadaaGreatDoor.setS
  simpa using this
 ·intro i hi
  have hi':i<m.smiths.length:=by unfold Go.Proofs.YtjhijildaceadaaGreatDoor.setS at hi;simpa using hi
  show YA (Go.Proofs.YtjhijildaceadaaGreatDoor.setS m k s) (Z8 (m.smiths.set k s) i)=true
  rw [Xx (m:=m) (m':=Go.Proofs.YtjhijildaceadaaGreatDoor.setS m k s) rfl rfl,ZJ hk]
  split
  ·exact h1
  ·exact h.here i hi'
 ·intro i hi
  have hi':i<m.smiths.length:=by unfold Go.Proofs.YtjhijildaceadaaGreatDoor.setS at hi;simpa using hi
  show Yt m (Z8 (m.smiths.set k s) i)=true
  rw [ZJ hk]
  split
  ·exact h2
  ·exact h.seat i hi'
theorem Ww {α:Type} [Inhabited α] (xs:List α) (x:α) (i:Nat):Z8 (xs++[x]) i=if i=xs.length then x else Z8 xs i:=by
 unfold Z8
 split
 ·rename_i h;subst h;simp [List.getD]
 ·rename_i h
  rcases Nat.lt_or_ge i xs.length with hi | hi
  ·simp [List.getD,List.getElem?_append_left hi]
  ·simp [List.getD,List.getElem?_append_right hi,List.getElem?_eq_none hi]
   rw [List.getElem?_eq_none (by simp;omega)]
   rfl
def pushS (m:Z4) (s:Z3):Z4:={ m with smiths:=m.smiths++[s] }
theorem Loose.pushS {m:Z4} (h:Loose m) (hl:m.smiths.length<12) {s:Z3} (h1:YA m s=true) (h2:Yt m s=true):Loose (pushS m s):=by
 refine ⟨?_,h.desk,h.pace,?_,?_,h.openD⟩
 ·have:=h.head
  unfold YW at this ⊢
  unfold Go.Proofs.YtjhijildaceadaaGreatDoor.pushS
  simp only [Bool.and_eq_true,decide_eq_true_eq] at this ⊢
  refine ⟨this.1,this.2.1,?_,this.2.2.2⟩
  simp
  omega
 ·intro i hi
  have hi':i<m.smiths.length+1:=by unfold Go.Proofs.YtjhijildaceadaaGreatDoor.pushS at hi;simpa using hi
  show YA (Go.Proofs.YtjhijildaceadaaGreatDoor.pushS m s) (Z8 (m.smiths++[s]) i)=true
  rw [Xx (m:=m) (m':=Go.Proofs.YtjhijildaceadaaGreatDoor.pushS m s) rfl rfl,Ww]
  split
  ·exact h1
  ·exact h.here i (by omega)
 ·intro i hi
  have hi':i<m.smiths.length+1:=by unfold Go.Proofs.YtjhijildaceadaaGreatDoor.pushS at hi;simpa using hi
  show Yt m (Z8 (m.smiths++[s]) i)=true
  rw [Ww]
  split
  ·exact h2
  ·exact h.seat i (by omega)
def XP (m:Z4) (b:Int):Int:=(Z8 m.desks b.toNat).2.2
def Ps (s:Z3) (b had:Int):Z3:=(2,b,s.2.2.1,s.2.2.2.1,s.2.2.2.2.1,s.2.2.2.2.2.1,s.2.2.2.2.2.2.1,had,s.2.2.2.2.2.2.2.2)
def putS (m:Z4) (s:Z3) (b:Int):Z3:=(s.1,b,s.2.2.1,s.2.2.2.1,s.2.2.2.2.1,s.2.2.2.2.2.1,s.2.2.2.2.2.2.1,Zv (XM s) (XP m s.2.1) (XP m b),s.2.2.2.2.2.2.2.2)
def Uj (s:Z3) (may:Int):Z3:=(s.1,s.2.1,s.2.2.1,may,s.2.2.2.2)
def IY (s:Z3) (lo hi:Int):Z3:=(s.1,s.2.1,s.2.2.1,s.2.2.2.1,s.2.2.2.2.1,lo,hi,s.2.2.2.2.2.2.2)
def Q9 (s:Z3) (g:Int):Z3:=(s.1,s.2.1,s.2.2.1,s.2.2.2.1,g,s.2.2.2.2.2)
def YO (rank may guild:Int):Z3:=(1,0,rank,may,guild,0,1024,0,0,0,0)
theorem WT {m:Z4} (h:Loose m):m.desks.length<=8:=by
 have:=h.head
 unfold YW at this
 simp only [Bool.and_eq_true,decide_eq_true_eq] at this
 have h8:=(Zi this.1).2.2.2
 omega
theorem FK {m:Z4} (h:Loose m):m.guilds.length<=6:=by
 have:=h.head
 unfold YW at this
 simp only [Bool.and_eq_true,decide_eq_true_eq] at this
 exact (Wr this.2.1).2
theorem Loose.limits {m:Z4} (h:Loose m) {k:Nat} (hk:k<m.smiths.length) (hs:(Z8 m.smiths k).1 ≠ 0):Zj (Z8 m.smiths k)=true/\(Z8 m.smiths k).2.2.2.2.1<m.guilds.length/\(Z8 m.smiths k).2.1<m.desks.length:=by
 rcases XY.1 (h.here k hk) with e | e
 ·rw [e] at hs;exact absurd rfl hs
 ·exact e
theorem Nh {m:Z4} (h:Loose m) {k:Nat} (hk:k<m.smiths.length) (hp:ZT (Z8 m.smiths k)=true):Loose (setS m k (stS (Z8 m.smiths k) 1)):=
 h.setS hk (ON (h.here k hk) hp (by omega) (by omega)) (VN rfl)
theorem OV {m:Z4} (h:Loose m) {k:Nat} (hk:k<m.smiths.length):Loose (setS m k XC):=
 h.setS hk (XY.2 (.inl rfl)) (VN rfl)
theorem FU {m:Z4} (h:Loose m) {k:Nat} (hk:k<m.smiths.length) {rank:Int} {s:Z3} (hr:Yv (Z8 m.smiths k) rank=(s,true)):Loose (setS m k s):=by
 unfold Yv at hr
 split at hr
 ·rename_i hp
  split at hr
  ·rename_i hrk
   obtain ⟨rfl,_⟩:=Prod.mk.inj hr
   have hne:(Z8 m.smiths k).1 ≠ 0:=by
    intro e
    rw [Pg e] at hp
    cases hp
   obtain ⟨_,g1,b1⟩:=h.limits hk hne
   refine h.setS hk (XY.2 (.inr ⟨RX hp hrk,g1,b1⟩)) ?_
   have:=h.seat k hk
   unfold Yt at this ⊢
   exact this
  ·cases (Prod.mk.inj hr).2
 ·cases (Prod.mk.inj hr).2
theorem Eo {m:Z4} (h:Loose m) {k:Nat} (hk:k<m.smiths.length) (hs:(Z8 m.smiths k).1 ≠ 0) {lo hi:Int} (hp:Yq lo hi=true):Loose (setS m k (IY (Z8 m.smiths k) lo hi)):=by
 obtain ⟨p,g1,b1⟩:=h.limits hk hs
 refine h.setS hk (XY.2 (.inr ⟨?_,g1,b1⟩)) ?_
 ·generalize Z8 m.smiths k=s at *
  obtain ⟨st,be,rk,my,gu,lo',hi',hd,ca,ut,wk⟩:=s
  obtain ⟨x0,x1,x2,x3,x4,x5,x6,x7,x8,x9⟩:=Zn p
  exact UO x0 x1 x2 x3 x4 hp x6 x7 x8 x9
 ·have:=h.seat k hk
  unfold Yt at this ⊢
  exact this
theorem FR {m:Z4} (h:Loose m) {k:Nat} (hk:k<m.smiths.length) (hs:(Z8 m.smiths k).1 ≠ 0) {g:Int} (g0 : -1<=g) (g1:g<m.guilds.length):Loose (setS m k (Q9 (Z8 m.smiths k) g)):=by
 obtain ⟨p,_,b1⟩:=h.limits hk hs
 have hg:=FK h
 refine h.setS hk (XY.2 (.inr ⟨?_,g1,b1⟩)) ?_
 ·generalize Z8 m.smiths k=s at *
  obtain ⟨st,be,rk,my,gu,lo',hi',hd,ca,ut,wk⟩:=s
  obtain ⟨x0,x1,x2,x3,x4,x5,x6,x7,x8,x9⟩:=Zn p
  exact UO x0 x1 x2 x3 ⟨g0,by omega⟩ x5 x6 x7 x8 x9
 ·have:=h.seat k hk
  unfold Yt at this ⊢
  exact this
theorem Ep {m:Z4} (h:Loose m) {k:Nat} (hk:k<m.smiths.length) (hs:(Z8 m.smiths k).1 ≠ 0) {may:Int} (m0:1<=may) (m1:may<=255) (hb:ZT (Z8 m.smiths k)=false\/Wl may (Z8 m.smiths k).2.1=true):Loose (setS m k (Uj (Z8 m.smiths k) may)):=by
 obtain ⟨p,g1,b1⟩:=h.limits hk hs
 refine h.setS hk (XY.2 (.inr ⟨?_,g1,b1⟩)) ?_
 ·generalize Z8 m.smiths k=s at *
  obtain ⟨st,be,rk,my,gu,lo',hi',hd,ca,ut,wk⟩:=s
  obtain ⟨x0,x1,x2,x3,x4,x5,x6,x7,x8,x9⟩:=Zn p
  exact UO x0 x1 x2 ⟨m0,m1⟩ x4 x5 x6 x7 x8 x9
 ·rcases hb with hb | hb
  ·exact VN hb
  ·have:=h.seat k hk
   unfold Yt at this
   cases hp:ZT (Z8 m.smiths k)
   ·exact VN hp
   ·rw [hp] at this
    simp only [Bool.not_true,Bool.false_or,Bool.and_eq_true] at this
    exact PV (s:=Uj (Z8 m.smiths k) may) this.1 hb this.2.2
theorem Er {m:Z4} {s:Z3} {b:Nat} {had:Int} (h:Loose m) (hp:Zj s=true) (hg:s.2.2.2.2.1<m.guilds.length) (hb:b<m.desks.length) (ho:(Z8 m.desks b).1=true) (hm:Wl s.2.2.2.1 b=true) (hd:XD had (Z8 m.desks b).2.2=true) :
  YA m (Ps s b had)=true/\Yt m (Ps s b had)=true:=by
 have h8:=WT h
 obtain ⟨st,be,rk,my,gu,lo',hi',hd',ca,ut,wk⟩:=s
 obtain ⟨x0,x1,x2,x3,x4,x5,x6,x7,x8,x9⟩:=Zn hp
 obtain ⟨d0,d1,_⟩:=Vj hd
 refine ⟨XY.2 (.inr ⟨UO (by omega) ⟨by omega,by omega⟩ x2 x3 x4 x5 ⟨d0,d1⟩ x7 x8 x9,hg,?_⟩),?_⟩
 ·show (b:Int)<_;omega
 ·exact PV (m:=m) (s:=Ps (st,be,rk,my,gu,lo',hi',hd',ca,ut,wk) b had) (by show (Z8 m.desks ((b:Int)).toNat).1=true;simpa using ho) hm (by show XD had (Z8 m.desks ((b:Int)).toNat).2.2=true;simpa using hd)
theorem OW {m:Z4} (h:Loose m) {s:Z3} {b:Nat} (hp:Zj s=true) (hpr:ZT s=true) (hg:s.2.2.2.2.1<m.guilds.length) (b0:0<=s.2.1) (b1:s.2.1<m.desks.length) (hband:XD (XM s) (XP m s.2.1)=true) (hb:b<m.desks.length) (ho:(Z8 m.desks b).1=true) (hm:Wl s.2.2.2.1 b=true) :
  YA m (putS m s b)=true/\Yt m (putS m s b)=true:=by
 have h8:=WT h
 obtain ⟨k0,k1⟩:=Ti (h.desk s.2.1.toNat (by omega))
 obtain ⟨k2,k3⟩:=Ti (h.desk b hb)
 obtain ⟨a0,a1,a2,a3,a4,a5⟩:=Vj hband
 have hmk:XP m (b:Int)=(Z8 m.desks b).2.2:=by unfold XP;simp
 have hmv:Zv (XM s) (XP m s.2.1) (XP m b)=XM s-XP m s.2.1+XP m b:=EB a0 a1 a2 a3 (by omega) (by omega)
 obtain ⟨st,be,rk,my,gu,lo',hi',hd',ca,ut,wk⟩:=s
 obtain ⟨x0,x1,x2,x3,x4,x5,x6,x7,x8,x9⟩:=Zn hp
 simp only at b0 b1 hmv a4 a5 k0 k1 hg hm
 refine ⟨XY.2 (.inr ⟨?_,hg,?_⟩),?_⟩
 ·unfold putS
  simp only
  rw [hmv]
  exact UO x0 ⟨by omega,by omega⟩ x2 x3 x4 x5 ⟨by omega,by omega⟩ x7 x8 x9
 ·show (b:Int)<_;omega
 ·refine PV (m:=m) (s:=putS m (st,be,rk,my,gu,lo',hi',hd',ca,ut,wk) b) (by show (Z8 m.desks ((b:Int)).toNat).1=true;simpa using ho) hm ?_
  show XD (Zv _ _ _) (Z8 m.desks ((b:Int)).toNat).2.2=true
  rw [hmv,show ((b:Int)).toNat=b by simp,<-hmk]
  exact PS (by omega) (by omega) (by omega) (by omega) (by omega) (by omega)
def U4 (m:Z4) (r:Nat) (p:Int):Z4:={ m with paces:=m.paces.set r p }
theorem Ng {m:Z4} (h:Loose m) {r:Nat} (hr:r<m.rooms.length) {p:Int} (p0:0<=p) (p1:p<(ZW m.rooms r).2.length):Loose (U4 m r p):=by
 have hd:=h.head
 have hpl:m.paces.length=m.rooms.length:=by
  unfold YW at hd
  simp only [Bool.and_eq_true,decide_eq_true_eq] at hd
  exact hd.2.2.2.2.1
 refine ⟨?_,h.desk,?_,h.here,h.seat,h.openD⟩
 ·unfold YW at hd ⊢
  unfold U4
  simpa using hd
 ·intro j hj
  have hj':j<m.paces.length:=by unfold U4 at hj;simpa using hj
  have:=h.pace j hj'
  unfold Xf at this ⊢
  unfold U4
  simp only
  rw [ZJ (by omega)]
  split
  ·rename_i e;subst e;exact Zm p0 (by omega)
  ·exact this
def YJ (m:Z4) (b:Nat) (o:Bool):Z4:={ m with desks:=m.desks.set b (o,(Z8 m.desks b).2) }
theorem FT {m:Z4} (h:Loose m) {b:Nat} (hb:b<m.desks.length):Loose (YJ m b true):=by
 have hat:∀ j,(Z8 (YJ m b true).desks j)=if j=b then (true,(Z8 m.desks b).2) else Z8 m.desks j:=fun j=>ZJ hb j
 have hmk:∀ j,(Z8 (YJ m b true).desks j).2=(Z8 m.desks j).2:=fun j=>by
  rw [hat]
  by_cases e:j=b
  ·rw [if_pos e,e]
  ·rw [if_neg e]
 have hop:∀ j,(Z8 m.desks j).1=true->(Z8 (YJ m b true).desks j).1=true:=fun j e=>by
  rw [hat]
  by_cases e':j=b
  ·rw [if_pos e']
  ·rw [if_neg e'];exact e
 have hlen:(YJ m b true).desks.length=m.desks.length:=by unfold YJ;simp
 refine ⟨?_,?_,h.pace,?_,?_,?_⟩
 ·have:=h.head
  unfold YW at this ⊢
  rw [hlen]
  exact this
 ·intro j hj
  have:=h.desk j (by omega)
  unfold Wy at this ⊢
  rw [hmk]
  exact this
 ·intro i hi
  rw [Xx (m:=m) (m':=YJ m b true) rfl hlen]
  exact h.here i hi
 ·intro i hi
  have:=h.seat i hi
  unfold Yt at this ⊢
  show (!ZT (Z8 m.smiths i) || _)=true
  cases hp:ZT (Z8 m.smiths i)
  ·rfl
  ·rw [hp] at this
   simp only [Bool.not_true,Bool.false_or,Bool.and_eq_true] at this ⊢
   refine ⟨hop _ this.1,this.2.1,?_⟩
   show XD _ (Z8 (YJ m b true).desks (Z8 m.smiths i).2.1.toNat).2.2=true
   rw [hmk]
   exact this.2.2
 ·exact ⟨b,by omega,by rw [hat,if_pos rfl]⟩
def YM:Z4:=⟨[],[],[],[],[],0⟩
def Xl (m:Z4) (who:Int):Bool:=inB who 0 ((m.smiths.length:Int)-1) && !((Z8 m.smiths who.toNat).1 ==0)
theorem Yz {m:Z4} {who:Int} (h:Xl m who=true):∃ k:Nat,who=(k:Int)/\k<m.smiths.length/\(Z8 m.smiths k).1 ≠ 0:=by
 unfold Xl at h
 simp only [Bool.and_eq_true,Bool.not_eq_true',beq_eq_false_iff_ne] at h
 have h1:=ZR h.1
 exact ⟨who.toNat,by omega,by omega,h.2⟩
theorem XO {m:Z4} (h:Loose m):Few m:=by
 have hd:=h.head
 unfold YW at hd
 simp only [Bool.and_eq_true,decide_eq_true_eq] at hd
 obtain ⟨h1,h2,h3,h4,h5,_⟩:=hd
 obtain ⟨r1,r2,r3,r4⟩:=Zi h1
 have hg:=(Wr h2).2
 refine ⟨by omega,fun r hr=> ?_,by omega,by omega,by omega,by omega⟩
 have hrb:=List.all_eq_true.1 r3 r hr
 unfold Zu at hrb
 simp only [Bool.and_eq_true] at hrb
 have:=ZR hrb.2.1
 omega
def Xn (m:Z4) (who:Int):Z4 × Int:=
 if ZP m then (if Xl m who then (if ZT (Z8 m.smiths who.toNat) then (ZV (setS m who.toNat (stS (Z8 m.smiths who.toNat) 1)),0) else (m,2)) else (m,1)) else (YM,3)
def Yf (m:Z4) (who:Int):Z4 × Int:=
 if ZP m then (if Xl m who then (ZV (setS m who.toNat XC),0) else (m,1)) else (YM,3)
def Vw (m:Z4) (who lo hi:Int):Z4 × Int:=
 if ZP m then (if Xl m who then (if Yq lo hi then (ZV (setS m who.toNat (IY (Z8 m.smiths who.toNat) lo hi)),0) else (m,3)) else (m,1)) else (YM,3)
def VA (m:Z4) (who rank:Int):Z4 × Int:=
 if ZP m then (if Xl m who then (if (Yv (Z8 m.smiths who.toNat) rank).2 then (ZV (setS m who.toNat (Yv (Z8 m.smiths who.toNat) rank).1),0) else (m,3)) else (m,1)) else (YM,3)
theorem Pn {m:Z4} (h:ZP m=true) (who:Int):ZP (Xn m who).1=true:=by
 unfold Xn
 rw [h]
 simp only [if_true]
 split
 ·rename_i hw
  obtain ⟨k,rfl,hk,hs⟩:=Yz hw
  rw [show ((k:Int)).toNat=k by simp]
  split
  ·rename_i hp
   exact Y4 (Nh (ZU h) hk hp)
  ·exact h
 ·exact h
theorem QE {m:Z4} (h:ZP m=true) (who:Int):ZP (Yf m who).1=true:=by
 unfold Yf
 rw [h]
 simp only [if_true]
 split
 ·rename_i hw
  obtain ⟨k,rfl,hk,hs⟩:=Yz hw
  rw [show ((k:Int)).toNat=k by simp]
  exact Y4 (OV (ZU h) hk)
 ·exact h
theorem KP {m:Z4} (h:ZP m=true) (who lo hi:Int):ZP (Vw m who lo hi).1=true:=by
 unfold Vw
 rw [h]
 simp only [if_true]
 split
 ·rename_i hw
  obtain ⟨k,rfl,hk,hs⟩:=Yz hw
  rw [show ((k:Int)).toNat=k by simp]
  split
  ·rename_i hp
   exact Y4 (Eo (ZU h) hk hs hp)
  ·exact h
 ·exact h
theorem Jg {m:Z4} (h:ZP m=true) (who rank:Int):ZP (VA m who rank).1=true:=by
 unfold VA
 rw [h]
 simp only [if_true]
 split
 ·rename_i hw
  obtain ⟨k,rfl,hk,hs⟩:=Yz hw
  rw [show ((k:Int)).toNat=k by simp]
  split
  ·rename_i hp
   exact Y4 (FU (ZU h) hk (Prod.ext rfl hp))
  ·exact h
 ·exact h
open Go.ChangeShapes Go.WideShapes Go.ChangeAt Go.RowKit
set_option maxHeartbeats 400000 in
theorem Ve (u x n:Int) (w:World):Calls Tryz.prog 346 #[.int .i64 u,.int .i64 x,.int .i64 n] w fun e w'=>e= .returned (.int .i64 (ZN u x n))/\w'=w:=by
 refine Dk u x n 0 1024 0 1024 0 1000 ?_ ?_ ?_ ?_
 ·intro ha
  have hv:ZN u x n= -1:=by simp [ZN,ha]
  rw [hv];clear hv
  go_enter Tryz.func346,Tryz.ntmps346
  go_wp2_with (first | (go_at_call 163;refine (Va _ _).mono ?_;rintro e w' ⟨rfl,rfl⟩) | (go_at_call 76;refine (Z1 _ _ _ _).mono ?_;rintro e w' ⟨rfl,rfl⟩))
  go_ret
  exact ⟨rfl,rfl⟩
 ·intro ha hb
  have hv:ZN u x n= -1:=by simp [ZN,hb]
  rw [hv];clear hv
  go_enter Tryz.func346,Tryz.ntmps346
  go_wp2_with (first | (go_at_call 163;refine (Va _ _).mono ?_;rintro e w' ⟨rfl,rfl⟩) | (go_at_call 76;refine (Z1 _ _ _ _).mono ?_;rintro e w' ⟨rfl,rfl⟩))
  go_ret
  exact ⟨rfl,rfl⟩
 ·intro ha hb hc
  have hv:ZN u x n= -1:=by simp [ZN,hc]
  rw [hv];clear hv
  go_enter Tryz.func346,Tryz.ntmps346
  go_wp2_with (first | (go_at_call 163;refine (Va _ _).mono ?_;rintro e w' ⟨rfl,rfl⟩) | (go_at_call 76;refine (Z1 _ _ _ _).mono ?_;rintro e w' ⟨rfl,rfl⟩))
  go_ret
  exact ⟨rfl,rfl⟩
 ·intro ha hb hc
  have hv:ZN u x n=RM x n.toNat u:=by simp [ZN,ha,hb,hc]
  rw [hv];clear hv
  obtain ⟨a0,a1⟩:=ZR ha
  obtain ⟨b0,b1⟩:=ZR hb
  obtain ⟨c0,c1⟩:=ZR hc
  obtain ⟨m,rfl⟩:=Int.eq_ofNat_of_zero_le c0
  rw [Int.toNat_natCast]
  go_enter Tryz.func346,Tryz.ntmps346
  go_wp2_with (first | (go_at_call 163;refine (Va _ _).mono ?_;rintro e w' ⟨rfl,rfl⟩) | (go_at_call 76;refine (Z1 _ _ _ _).mono ?_;rintro e w' ⟨rfl,rfl⟩))
  go_loop [0,2] (fun s i=> ∃ k:Nat,k<=m/\i= .int .i64 ((m:Int)-k)/\s= .int .i64 (RM x k u)) (fun _ i=>(intOf i).toNat)
  case atStart=>exact ⟨0,Nat.zero_le _,by simp,rfl⟩
  case round=>
   obtain ⟨k,hk,rfl,rfl⟩:=hrel
   obtain ⟨f1,f2⟩:=Kd x b0 b1 k u a0 a1
   have Hs:=Z9 (OF x k u)
   generalize hz:RM x k u=z at *
   have Hz:=Z9 hz
   clear hz
   by_cases hlt:k<m
   ·go_wp2_with fail
    go_round
    case rel=>exact ⟨k+1,by omega,by go_num,by rw [uh Hs]⟩
    case measure=>simp [intOf];omega
   ·go_wp2_with fail
    go_ret
    exact ⟨Zy (by rw [<-uh Hz,show k=m from by omega]),rfl⟩
def Oy (m:Z4) (s:Z3):Int:=YE (pushS m s) (m.smiths.length:Int)
def Uz (m:Z4) (rank may guild:Int):Z4 × Int:=
 if ZP m then (if ZG (YO rank may guild) && decide (guild<m.guilds.length) then (if m.smiths.length=12 then (m,4) else (if Oy m (YO rank may guild)<0 then (m,2) else
  (ZV (setS (pushS m (YO rank may guild)) m.smiths.length (Ps (YO rank may guild) (Oy m (YO rank may guild)) (XP m (Oy m (YO rank may guild))))),0))) else (m,3)) else (YM,3)
theorem KZ {rank may guild:Int} (h:ZG (YO rank may guild)=true):Zj (YO rank may guild)=true:=by
 unfold ZG at h
 rw [Tm (by show (1:Int) ≠ 0;omega),Bool.false_or] at h
 exact h
theorem KY {m:Z4} (h:Loose m) {rank may guild:Int} (hs:ZG (YO rank may guild)=true) (hg:guild<m.guilds.length):Loose (pushS m (YO rank may guild))\/m.smiths.length>=12:=by
 by_cases hl:m.smiths.length<12
 ·left
  obtain ⟨j,hj,_⟩:=h.openD
  exact h.pushS hl (XY.2 (.inr ⟨KZ hs,hg,by show (0:Int)<_;omega⟩)) (VN rfl)
 ·right;omega
theorem FY {m:Z4} (h:Loose m) {b:Nat} (hb:b<m.desks.length):XD (XP m (b:Int)) (Z8 m.desks b).2.2=true:=by
 have hmk:XP m (b:Int)=(Z8 m.desks b).2.2:=by unfold XP;simp
 obtain ⟨k0,k1⟩:=Ti (h.desk b hb)
 rw [hmk]
 exact PS (by omega) (by omega) (by omega) (by omega) (by omega) (by omega)
theorem Y3 {m:Z4} (h:Loose m):m.smiths.length<=12:=by
 have hd:=h.head
 unfold YW at hd
 simp only [Bool.and_eq_true,decide_eq_true_eq] at hd
 exact hd.2.2.1
theorem Iv {m:Z4} (h:ZP m=true) (rank may guild:Int):ZP (Uz m rank may guild).1=true:=by
 unfold Uz
 rw [h]
 simp only [if_true]
 split
 ·rename_i hs
  simp only [Bool.and_eq_true,decide_eq_true_eq] at hs
  split
  ·exact h
  ·rename_i hl
   split
   ·exact h
   ·rename_i hb
    have hlo:=ZU h
    have h12:=Y3 hlo
    have hx:Loose (pushS m (YO rank may guild)):=by
     rcases KY hlo hs.1 hs.2 with e | e
     ·exact e
     ·omega
    rcases VK (pushS m (YO rank may guild)) (m.smiths.length:Int) with ⟨e,_⟩ | ⟨b,hbl,e,hm⟩
    ·exact absurd (show Oy m (YO rank may guild)<0 by unfold Oy;rw [e];omega) hb
    ·have ec:Oy m (YO rank may guild)=(b:Int):=e
     rw [ec]
     unfold Ym at hm
     simp only [Bool.and_eq_true,Int.toNat_natCast] at hm
     have hat:Z8 (pushS m (YO rank may guild)).smiths m.smiths.length=YO rank may guild:=by
      show Z8 (m.smiths++[YO rank may guild]) m.smiths.length=_
      rw [Ww,if_pos rfl]
     rw [hat] at hm
     obtain ⟨k1,k2⟩:=Er (m:=pushS m (YO rank may guild)) (s:=YO rank may guild) (b:=b) (had:=XP m (b:Int)) hx (KZ hs.1) hs.2 hbl hm.1 hm.2 (FY hlo hbl)
     exact Y4 (hx.setS (by unfold pushS;simp) k1 k2)
 ·exact h
def Im (m:Z4) (s:Z3) (b:Int):Int:=Y8 (Zv (XM s) (XP m s.2.1) (XP m b)) (XP m b)
def TM (m:Z4) (k:Nat) (b:Int):Z4:=setS m k (Ps (Z8 m.smiths k) b (Im m (Z8 m.smiths k) b))
def UU (m:Z4) (who:Int):Z4 × Int:=
 if ZP m then (if Xl m who then (if (Z8 m.smiths who.toNat).1=1 then (if YE m who<0 then (m,2) else (if YY (TM m who.toNat (YE m who)) then (ZV (TM m who.toNat (YE m who)),0) else (m,4))) else (m,2)) else (m,1)) else (YM,3)
theorem JH {m:Z4} (h:ZP m=true) (who:Int):ZP (UU m who).1=true:=by
 unfold UU
 rw [h]
 simp only [if_true]
 split
 ·split
  ·split
   ·exact h
   ·split
    ·rename_i hl
     exact Y4 (RS hl)
    ·exact h
  ·exact h
 ·exact h
theorem Nz (m:Z4) (k:Nat) (s t:Z3):setS (setS m k s) k t=setS m k t:=by unfold setS;simp
def Yd (m:Z4) (k:Nat) (may:Int):Z4:=setS m k (Uj (Z8 m.smiths k) may)
def WC (m:Z4) (who may:Int):Z4 × Int:=
 if ZP m then (if Xl m who then (if inB may 1 255 then (if ZT (Z8 m.smiths who.toNat) && !Wl may (Z8 m.smiths who.toNat).2.1 then
  (if YE (Yd m who.toNat may) who<0 then (m,2) else (ZV (setS (Yd m who.toNat may) who.toNat (putS (Yd m who.toNat may) (Uj (Z8 m.smiths who.toNat) may) (YE (Yd m who.toNat may) who))),0))
  else (ZV (Yd m who.toNat may),0)) else (m,3)) else (m,1)) else (YM,3)
theorem Ns {s:Z3} {may:Int} (h:Zj s=true) (m0:1<=may) (m1:may<=255):Zj (Uj s may)=true:=by
 obtain ⟨st,be,rk,my,gu,lo',hi',hd,ca,ut,wk⟩:=s
 obtain ⟨x0,x1,x2,x3,x4,x5,x6,x7,x8,x9⟩:=Zn h
 exact UO x0 x1 x2 ⟨m0,m1⟩ x4 x5 x6 x7 x8 x9
theorem JO {m:Z4} (h:ZP m=true) (who may:Int):ZP (WC m who may).1=true:=by
 unfold WC
 rw [h]
 simp only [if_true]
 split
 ·rename_i hw
  obtain ⟨k,rfl,hk,hs⟩:=Yz hw
  rw [show ((k:Int)).toNat=k by simp]
  have hlo:=ZU h
  split
  ·rename_i hm
   obtain ⟨m0,m1⟩:=ZR hm
   split
   ·rename_i hp
    simp only [Bool.and_eq_true,Bool.not_eq_true'] at hp
    split
    ·exact h
    ·rename_i hb
     rcases VK (Yd m k may) (k:Int) with ⟨e,_⟩ | ⟨b,hbl,e,hma⟩
     ·exact absurd (show YE (Yd m k may) (k:Int)<0 by rw [e];omega) hb
     ·rw [e]
      obtain ⟨p,g1,b1⟩:=hlo.limits hk hs
      obtain ⟨a0,a1,a2,a3,a4⟩:=hlo.at hk hp.1
      unfold Ym at hma
      simp only [Bool.and_eq_true,Int.toNat_natCast] at hma
      have hat:Z8 (Yd m k may).smiths k=Uj (Z8 m.smiths k) may:=by
       show Z8 (m.smiths.set k _) k=_
       rw [ZJ hk,if_pos rfl]
      rw [hat] at hma
      have:=OW (m:=m) hlo (s:=Uj (Z8 m.smiths k) may) (b:=b) (Ns p m0 m1) hp.1 g1 a0 a1 a4 hbl hma.1 hma.2
      unfold Yd
      rw [Nz]
      exact Y4 (hlo.setS hk this.1 this.2)
   ·rename_i hp
    refine Y4 (Ep hlo hk hs m0 m1 ?_)
    cases h1:ZT (Z8 m.smiths k)
    ·exact .inl rfl
    ·right
     cases h2:Wl may (Z8 m.smiths k).2.1
     ·rw [h1,h2] at hp;exact absurd rfl hp
     ·rfl
  ·exact h
 ·exact h
def SJ (m:Z4) (who g:Int):Z4 × Int:=
 if Xl m who then (if inB g (-1) ((m.guilds.length:Int)-1) then (ZV (setS m who.toNat (Q9 (Z8 m.smiths who.toNat) g)),0) else (m,3)) else (m,1)
theorem II {m:Z4} (h:ZP m=true) (who g:Int):ZP (SJ m who g).1=true:=by
 unfold SJ
 split
 ·rename_i hw
  obtain ⟨k,rfl,hk,hs⟩:=Yz hw
  rw [show ((k:Int)).toNat=k by simp]
  split
  ·rename_i hg
   have:=ZR hg
   exact Y4 (FR (ZU h) hk hs this.1 (by omega))
  ·exact h
 ·exact h
def Uw (m:Z4) (r:Nat):Int:=XN (ZW m.rooms r) (Zc m r m.desks.length).1
theorem GF {m:Z4} (h:Loose m) {r:Nat} (hr:r<m.rooms.length):0<=Uw m r/\Uw m r<(ZW m.rooms r).2.length:=by
 have hd:=h.head
 unfold YW at hd
 simp only [Bool.and_eq_true,decide_eq_true_eq] at hd
 obtain ⟨r1,r2,r3,r4⟩:=Zi hd.1
 have hmem:ZW m.rooms r ∈ m.rooms:=by unfold ZW;simp [List.getD,hr]
 have hrb:=List.all_eq_true.1 r3 _ hmem
 have hu:=Rv m r (Y3 h) m.desks.length
 have hlen:1<=(ZW m.rooms r).2.length:=by
  have hx:=hrb
  unfold Zu at hx
  simp only [Bool.and_eq_true] at hx
  have:=ZR hx.2.1
  omega
 have hn:=Lg (Zc m r m.desks.length).1 (ZW m.rooms r).2 hlen
 unfold Uw XN
 rw [hrb,Zm (by omega) (by omega)]
 simp only [Bool.and_self,if_true]
 omega
def Rz (m:Z4):Nat->Z4
 | 0=>m
 | k+1=>U4 (Rz m k) k (Uw m k)
theorem SR (m:Z4):∀ k,(Rz m k).rooms=m.rooms/\(Rz m k).guilds=m.guilds/\(Rz m k).smiths=m.smiths/\(Rz m k).desks=m.desks/\(Rz m k).now=m.now/\(Rz m k).paces.length=m.paces.length
 | 0=>⟨rfl,rfl,rfl,rfl,rfl,rfl⟩
 | k+1=>by
  obtain ⟨a,b,c,d,e,f⟩:=SR m k
  refine ⟨a,b,c,d,e,?_⟩
  show ((Rz m k).paces.set k _).length=_
  rw [List.length_set,f]
theorem MX {m:Z4} (h:Loose m):∀ k,k<=m.paces.length->Loose (Rz m k)
 | 0,_=>h
 | k+1,hk=>by
  have ih:=MX h k (by omega)
  have hd:=h.head
  unfold YW at hd
  simp only [Bool.and_eq_true,decide_eq_true_eq] at hd
  have hr:k<m.rooms.length:=by have:=hd.2.2.2.2.1;omega
  have hw:=GF h hr
  have hs:=(SR m k).1
  exact Ng ih (by rw [hs];exact hr) hw.1 (by rw [hs];exact hw.2)
def Io (m:Z4):Z4:=ZV (Rz m m.paces.length)
theorem Fx {m:Z4} (h:ZP m=true):ZP (Io m)=true:=Y4 (MX (ZU h) _ (Nat.le_refl _))
def UA (m:Z4) (b:Int):Int:=(Z7 (ZW m.rooms (WL m.rooms b)).2 (Z8 m.paces (WL m.rooms b)).toNat).1
def Di (s:Z3) (u:Int):Z3:=(s.1,s.2.1,s.2.2.1,s.2.2.2.1,s.2.2.2.2.1,s.2.2.2.2.2.1,s.2.2.2.2.2.2.1,s.2.2.2.2.2.2.2.1,s.2.2.2.2.2.2.2.2.1,u,s.2.2.2.2.2.2.2.2.2.2)
def Fp (s:Z3):Int:=s.2.2.2.2.2.2.2.2.2.1
def Sf (m:Z4) (n:Int) (s:Z3):Option Z3:=
 if s.1=0 then some s else if s.1=3 then (if (XK s (n*UA m s.2.1)).2 then some (Di (XK s (n*UA m s.2.1)).1 (ZN (Fp (XK s (n*UA m s.2.1)).1) (UA m s.2.1) n)) else none) else some (Di s (ZN (Fp s) 0 n))
def Yh (m:Z4) (n:Int):Nat->Option (List Z3)
 | 0=>some m.smiths
 | k+1=>match Yh m n k with
  | none=>none
  | some ss=>match Sf m n (Z8 m.smiths k) with
   | none=>none
   | some t=>some (ss.set k t)
theorem QN {m:Z4} {n:Int} : ∀ {k:Nat} {ss:List Z3},Yh m n k=some ss->ss.length=m.smiths.length/\ ∀ j,k<=j->Z8 ss j=Z8 m.smiths j
 | 0,ss,h=>by cases h;exact ⟨rfl,fun _ _=>rfl⟩
 | k+1,ss,h=>by
  unfold Yh at h
  cases ht:Yh m n k with
  | none=>rw [ht] at h;cases h
  | some s0=>
   rw [ht] at h
   simp only at h
   cases h1:Sf m n (Z8 m.smiths k) with
   | none=>rw [h1] at h;cases h
   | some t=>
    rw [h1] at h
    cases h
    obtain ⟨e1,e2⟩:=QN ht
    refine ⟨by simpa using e1,fun j hj=> ?_⟩
    rw [<-e2 j (by omega)]
    unfold Z8
    simp [List.getD,List.getElem?_set_ne (show k ≠ j by omega)]
theorem QM {m:Z4} {n:Int} {k:Nat} : ∀ d,Yh m n k=none->Yh m n (k+d)=none
 | 0,h=>h
 | d+1,h=>by
  have:=QM d h
  show Yh m n (k+d+1)=none
  unfold Yh
  rw [this]
def TW (m:Z4) (n:Int) (ss:List Z3):Z4:={ m with smiths:=ss,now:=m.now+n }
def TV (m:Z4) (n:Int):Z4 × Int:=
 if ZP m then (if inB n 1 20 then (match Yh m n m.smiths.length with
  | none=>(m,4)
  | some ss=>if YY (TW m n ss) then (ZV (TW m n ss),0) else (m,4)) else (m,3)) else (YM,3)
theorem Jt {m:Z4} (h:ZP m=true) (n:Int):ZP (TV m n).1=true:=by
 unfold TV
 rw [h]
 simp only [if_true]
 split
 ·split
  ·exact h
  ·split
   ·rename_i hl
    exact Y4 (RS hl)
   ·exact h
 ·exact h
def YG (v0 v1 v2 v3 v4:Value) (qs:List (Z2 × Value)) (k:Nat):Prop:=v0.ownBlock=some k\/(∃ q ∈ qs,q.2.ownBlock=some k)\/v1.ownBlock=some k\/v2.ownBlock=some k\/v3.ownBlock=some k\/v4.ownBlock=some k
section
variable {n₀ : Nat} {w w' : World} {v0 v1 v2 v3 v4 : Value} {m : Z4} {qs : List (Z2 × Value)}
theorem FullSmy.own (h:FullSmy n₀ w v0 v1 v2 v3 v4 m qs) {k:Nat} (e:YG v0 v1 v2 v3 v4 qs k):n₀<=k/\k<w.heap.size:=by
 rcases e with e | e | e | e | e | e
 ·exact h.hall.lt (.inl e)
 ·exact h.hall.lt (.inr e)
 ·exact RecAt.lt h.guilds e
 ·exact RecAt.lt h.smiths e
 ·exact RecAt.lt h.desks e
 ·exact RecAt.lt h.paces e
theorem FullSmy.keep (h:FullSmy n₀ w v0 v1 v2 v3 v4 m qs) (hs:∀ k,YG v0 v1 v2 v3 v4 qs k->w'.heap[k]?=w.heap[k]?):FullSmy n₀ w' v0 v1 v2 v3 v4 m qs:=
 ⟨⟨X8 h.hall.row (fun k e=>hs k (.inl e)),fun q hq=>X8 (h.hall.paces q hq) (fun k e=>hs k (.inr (.inl ⟨q,hq,e⟩))),h.hall.off,h.hall.apart⟩,h.rooms,RecAt.same h.guilds fun k e=>hs k (.inr (.inr (.inl e))),RecAt.same h.smiths fun k e=>hs k (.inr (.inr (.inr (.inl e)))),RecAt.same h.desks fun k e=>hs k (.inr (.inr (.inr (.inr (.inl e))))),RecAt.same h.paces fun k e=>hs k (.inr (.inr (.inr (.inr (.inr e))))),h.h1,h.h2,h.h3,h.h4,h.a12,h.a13,h.a14,h.a23,h.a24,h.a34⟩
end
end Go.Proofs.YtjhijildaceadaaGreatDoor
namespace Go.Proofs.YtjhijildaceadaaGreatDoor
open Go.ChangeShapes Go.WideShapes Go.ChangeAt Go.RowKit Go.Sort Go.Shelf
set_option linter.unusedVariables false
set_option linter.unusedSimpArgs false
set_option maxRecDepth 100000
structure Nx (w W:World) (R:Nat) (v0 v1 v2 v3 v4:Value) (m:Z4) (qs:List (Z2 × Value)):Prop where
 full:FullSmy w.heap.size W v0 v1 v2 v3 v4 m qs
 blk:Blk W R 32 #[v0,v1,v2,v3,v4,.int .i64 m.now]
 own:∀ k,YG v0 v1 v2 v3 v4 qs k->k ≠ R
 bb:Below w.heap.size w W
 hR:w.heap.size<=R
section
variable {w W X : World} {R : Nat} {v0 v1 v2 v3 v4 : Value} {m : Z4} {qs : List (Z2 × Value)}
theorem Nx.next (h:Nx w W R v0 v1 v2 v3 v4 m qs) (hb:Below W.heap.size W X):Nx w X R v0 v1 v2 v3 v4 m qs:=⟨h.full.below hb,h.blk.below hb h.blk.lt,h.own,h.bb.trans (hb.mono h.bb.size),h.hR⟩
theorem Nx.cells (h:Nx w W R v0 v1 v2 v3 v4 m qs):W.cell? ⟨R,0,none⟩=some v0/\W.cell? ⟨R,1,none⟩=some v1/\W.cell? ⟨R,2,none⟩=some v2/\W.cell? ⟨R,3,none⟩=some v3/\W.cell? ⟨R,4,none⟩=some v4/\W.cell? ⟨R,5,none⟩=some (.int .i64 m.now):=h.blk.c6
theorem Nx.putS {g n cap:Nat} (h:Nx w W R v0 v1 (.slice (some ⟨g,0,none⟩) n cap) v3 v4 m qs) (hn:n=m.smiths.length) {j i:Nat} (hj:j<m.smiths.length) (hi:i<11) (u:Value) (x:Z3) (hx:Z0 x=(Z0 (Z8 m.smiths j)).set i u):Nx w (W.setCell ⟨g,j*11+i,none⟩ u) R v0 v1 (.slice (some ⟨g,0,none⟩) n cap) v3 v4 (setS m j x) qs:=by
 have hg:=h.full.own (k:=g) (.inr (.inr (.inr (.inl rfl))))
 have hgR:=h.own g (.inr (.inr (.inr (.inl rfl))))
 exact ⟨h.full.putS hn hj hi u x hx,h.blk.other (a:=⟨g,j*11+i,none⟩) (fun e=>hgR e.symm) u,h.own,h.bb.setCell (p:=⟨g,j*11+i,none⟩) hg.1 u,h.hR⟩
theorem Nx.putW {g n cap:Nat} (h:Nx w W R v0 v1 (.slice (some ⟨g,0,none⟩) n cap) v3 v4 m qs) (hn:n=m.smiths.length) {j:Nat} (hj:j<m.smiths.length) (x:Z3):Nx w (Ob W g (j*11) (Z0 x)) R v0 v1 (.slice (some ⟨g,0,none⟩) n cap) v3 v4 (setS m j x) qs:=by
 have hg:=h.full.own (k:=g) (.inr (.inr (.inr (.inl rfl))))
 have hgR:=h.own g (.inr (.inr (.inr (.inl rfl))))
 obtain ⟨_,hgr⟩:=RecAt.put ZZ (by omega) h.full.smiths hn hj x
 exact ⟨h.full.putW hn hj x,h.blk.same (hgr.block R h.blk.lt (fun e=>hgR (by cases e;rfl))),h.own,h.bb.grown hgr h.bb.size (fun k e=>by cases e;exact hg.1),h.hR⟩
end
def Chg (w:World) (R:Nat) (q:Int->Addr) (X:Z4) (c:Int) (e:Ending) (W':World):Prop:=
 Below w.heap.size w W'/\((c=0/\e= .returned .nilIface/\ ∃ u0 u1 u2 u3 u4 rs,Nx w W' R u0 u1 u2 u3 u4 X rs)\/((c=1\/c=2\/c=3\/c=4\/c=5)/\e= .returned (XW (q c))))
theorem Chg.no {w W':World} {R:Nat} {q:Int->Addr} {X:Z4} {c d:Int} (h:Below w.heap.size w W') (e:c=d) (hd:d=1\/d=2\/d=3\/d=4\/d=5):Chg w R q X c (.returned (XW (q d))) W':=by
 subst e
 exact ⟨h,.inr ⟨hd,rfl⟩⟩
theorem Chg.yes {w W':World} {R:Nat} {q:Int->Addr} {X Y:Z4} {c:Int} {u0 u1 u2 u3 u4:Value} {rs:List (Z2 × Value)} (h:Nx w W' R u0 u1 u2 u3 u4 Y rs) (e:c=0) (hX:X=Y):Chg w R q X c (.returned .nilIface) W':=by
 subst e hX
 exact ⟨h.bb,.inl ⟨rfl,rfl,_,_,_,_,_,_,h⟩⟩
end Go.Proofs.YtjhijildaceadaaGreatDoor
