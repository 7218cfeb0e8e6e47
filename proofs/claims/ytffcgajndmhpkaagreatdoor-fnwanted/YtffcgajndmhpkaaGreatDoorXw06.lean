/- Part 6 of what the proof rests on. No condition but those that a theorem names. -/
import Derived.Test.YtffcgajndmhpkaaGreatDoorXw05
namespace Go.Proofs.YtffcgajndmhpkaaGreatDoor
open Go.ChangeShapes Go.WideShapes Go.ChangeAt Go.RowKit Go.Sort
set_option linter.unusedVariables false
def RH (gs:List ZF) (s:Z3):Int:=min (max s.2.2.2.2.2.2.2.2.2.1 (VE (bnd gs s.2.2.2.2.1) s.2.2.2.2.2.1 s.2.2.2.2.2.2.1).1) (VE (bnd gs s.2.2.2.2.1) s.2.2.2.2.2.1 s.2.2.2.2.2.2.1).2
def Zo (m:Z4) (who:Int):Int:=RH m.guilds (Z8 m.smiths who.toNat)
theorem En (gs:List ZF) (s:Z3):0<=RH gs s/\RH gs s<=1024:=by
 obtain ⟨b0,b1,b2⟩:=Bt gs s.2.2.2.2.1
 obtain ⟨n0,n1,n2⟩:=Ga (lo:=s.2.2.2.2.2.1) (hi:=s.2.2.2.2.2.2.1) b0 b1 b2
 unfold RH
 omega
theorem RI (m:Z4) (who:Int):0<=Zo m who/\Zo m who<=1024:=En _ _
def Vs (m:Z4) (but:Int) (q:List Z6):Int:=q.foldl (fun n e=>if e.2=but then n else n+Zo m e.2) 0
theorem IM (m:Z4) (but:Int) (q:List Z6) (e:Z6):Vs m but (q++[e])=if e.2=but then Vs m but q else Vs m but q+Zo m e.2:=by
 unfold Vs;rw [List.foldl_append];rfl
theorem KQ (m:Z4) (but:Int):∀ (q:List Z6) (n:Int),0<=n->0<=q.foldl (fun n e=>if e.2=but then n else n+Zo m e.2) n/\q.foldl (fun n e=>if e.2=but then n else n+Zo m e.2) n<=n+1024*q.length
 | [],n,h=>⟨h,by simp⟩
 | e::q,n,h=>by
  have hw:=RI m e.2
  have ih:=KQ m but q (if e.2=but then n else n+Zo m e.2) (by split<;>omega)
  refine ⟨ih.1,Int.le_trans ih.2 ?_⟩
  simp only [List.length_cons,Int.natCast_add,Int.natCast_one]
  split<;>omega
theorem KR (m:Z4) (but:Int) (q:List Z6):0<=Vs m but q/\Vs m but q<=1024*q.length:=by
 have:=KQ m but q 0 (by omega)
 unfold Vs;omega
def Ze (m:Z4) (b but:Int):Int:=Vs m but (atV m.smiths b m.smiths.length)
theorem Tn (m:Z4) (b but:Int):0<=Ze m b but/\Ze m b but<=1024*m.smiths.length:=by
 have h:=KR m but (atV m.smiths b m.smiths.length)
 have hl:=TD m.smiths b m.smiths.length
 unfold Ze
 refine ⟨h.1,Int.le_trans h.2 ?_⟩
 omega
def ZJ (m:Z4) (room:Int):Nat->Int × Int
 | 0=>(0,0)
 | k+1=>if (Yw m.rooms k:Int)=room then ((if (Z8 m.desks k).1 then max (ZJ m room k).1 (Ze m k (-1)) else (ZJ m room k).1),(ZJ m room k).2+Ze m k (-1)) else ZJ m room k
theorem Wo (m:Z4) (room:Int) (hl:m.smiths.length<=12):∀ k:Nat,(0<=(ZJ m room k).1/\(ZJ m room k).1<=12288)/\0<=(ZJ m room k).2/\(ZJ m room k).2<=12288*k
 | 0=>by simp [ZJ]
 | k+1=>by
  have ih:=Wo m room hl k
  have hu:=Tn m k (-1)
  unfold ZJ
  split
  ·simp only
   constructor
   ·split<;>omega
   ·push_cast;omega
  ·push_cast;omega
def Qm (m:Z4) (room:Nat):Int:=LJ (Z0 m.rooms room) (ZJ m room m.desks.length).1 (ZJ m room m.desks.length).2
def UH (m:Z4):Nat->Int
 | 0=>0
 | k+1=>UH m k+Qm m k
def Lr (m:Z4):Int:=UH m m.rooms.length
theorem Mg (m:Z4):∀ k:Nat,-(k:Int)<=UH m k/\UH m k<=1024000000*k
 | 0=>by simp [UH]
 | k+1=>by
  have ih:=Mg m k
  have hc:=Jf (Z0 m.rooms k) (Yi (Z0 m.rooms k) (ZJ m k m.desks.length).1) (ZJ m k m.desks.length).2
  unfold UH Qm LJ
  push_cast
  omega
def Q6 (s:Z3) (b:Int):Z3:=(2,b,s.2.2)
def Tq (m:Z4) (who b:Int):Z4:={ m with smiths:=m.smiths.set who.toNat (Q6 (Z8 m.smiths who.toNat) b) }
def Ym (m:Z4) (who b:Int):Int:=Lr (Tq m who b)
def Yb (m:Z4) (who:Int) (b:Nat):Bool:=(Z8 m.desks b).1 && We (Z8 m.smiths who.toNat).2.2.2.1 b
def Mh (m:Z4) (who:Int) (b:Nat):Bool:=Yb m who b && VM (Zo m who) (Ze m b who) (YU m.rooms b)
def U3 (m:Z4) (who:Int):Nat->List Int
 | 0=>[]
 | k+1=>if Mh m who k then U3 m who k++[(k:Int)] else U3 m who k
def X8 (m:Z4) (who:Int):List Int:=U3 m who m.desks.length
theorem Qo (m:Z4) (who:Int):∀ k,(U3 m who k).length<=k
 | 0=>Nat.le_refl _
 | k+1=>by
  have:=Qo m who k
  unfold U3
  split
  ·simp;omega
  ·omega
theorem Mi (m:Z4) (who:Int) (x:Int):∀ k,x ∈ U3 m who k ↔ ∃ b:Nat,b<k/\x=(b:Int)/\Mh m who b=true
 | 0=>by simp [U3]
 | k+1=>by
  have ih:=Mi m who x k
  unfold U3
  split
  ·rename_i hf
   rw [List.mem_append,ih]
   constructor
   ·rintro (⟨b,hb,e,h⟩ | h)
    ·exact ⟨b,by omega,e,h⟩
    ·exact ⟨k,by omega,by simpa using h,hf⟩
   ·rintro ⟨b,hb,e,h⟩
    by_cases hbk:b=k
    ·subst hbk;right;simp [e]
    ·left;exact ⟨b,by omega,e,h⟩
  ·rename_i hf
   rw [ih]
   constructor
   ·rintro ⟨b,hb,e,h⟩
    exact ⟨b,by omega,e,h⟩
   ·rintro ⟨b,hb,e,h⟩
    by_cases hbk:b=k
    ·subst hbk;exact absurd h hf
    ·exact ⟨b,by omega,e,h⟩
def Rc (m:Z4) (b:Nat):Bool:=(Z8 m.desks b).1 && Ot (Ze m b (-1)) (YU m.rooms b)
def VO (m:Z4):Bool:=(List.range m.desks.length).any (Rc m)
def Vo (m:Z4) (who:Int) (a:Int × Int) (b:Int):Int × Int:=if Ym m who b<a.2\/(Ym m who b=a.2/\b=(Z8 m.smiths who.toNat).2.1) then (b,Ym m who b) else a
def Xz (m:Z4) (who:Int) (f:List Int) (k:Nat):Int × Int:=((f.take k).drop 1).foldl (Vo m who) (Z8 f 0,Ym m who (Z8 f 0))
def XL (m:Z4) (who:Int):Nat->Int × Int
 | 0=>(-1,0)
 | k+1=>if Yb m who k && (decide ((XL m who k).1<0) || decide ((XL m who k).2<UN (Ze m k who) (YU m.rooms k))) then ((k:Int),UN (Ze m k who) (YU m.rooms k)) else XL m who k
def YA (m:Z4) (who:Int):Int:=if !VO m && decide (0<(X8 m who).length) then (Xz m who (X8 m who) (X8 m who).length).1 else (XL m who m.desks.length).1
theorem I7 (m:Z4) (who:Int) (P:Int->Prop):∀ (f:List Int) (a:Int × Int),P a.1->(∀ x ∈ f,P x)->P (f.foldl (Vo m who) a).1
 | [],a,h,_=>h
 | b::f,a,h,hf=>by
  refine I7 m who P f (Vo m who a b) ?_ (fun x hx=>hf x (List.mem_cons_of_mem _ hx))
  unfold Vo
  split
  ·exact hf b (by simp)
  ·exact h
theorem F8 (m:Z4) (who:Int):∀ k:Nat,((XL m who k).1= -1/\ ∀ b,b<k->Yb m who b=false)\/ ∃ b:Nat,b<k/\(XL m who k).1=(b:Int)/\Yb m who b=true
 | 0=> .inl ⟨rfl,fun b hb=>by omega⟩
 | k+1=>by
  have ih:=F8 m who k
  unfold XL
  split
  ·rename_i h
   simp only [Bool.and_eq_true] at h
   exact .inr ⟨k,by omega,rfl,h.1⟩
  ·rename_i h
   rcases ih with ⟨e,hn⟩ | ⟨b,hb,e,hm⟩
   ·refine .inl ⟨e,fun b hb=> ?_⟩
    by_cases hbk:b=k
    ·subst hbk
     cases hm:Yb m who b
     ·rfl
     ·exfalso
      apply h
      rw [hm,e]
      rfl
    ·exact hn b (by omega)
   ·exact .inr ⟨b,by omega,e,hm⟩
theorem Vt (m:Z4) (who:Int):(YA m who= -1/\ ∀ b,b<m.desks.length->Yb m who b=false)\/ ∃ b:Nat,b<m.desks.length/\YA m who=(b:Int)/\Yb m who b=true:=by
 unfold YA
 split
 ·rename_i h
  simp only [Bool.and_eq_true,decide_eq_true_eq] at h
  right
  have hin:∀ x ∈ X8 m who,∃ b:Nat,b<m.desks.length/\x=(b:Int)/\Yb m who b=true:=by
   intro x hx
   obtain ⟨b,hb,e,hf⟩:=(Mi m who x m.desks.length).1 hx
   unfold Mh at hf
   simp only [Bool.and_eq_true] at hf
   exact ⟨b,hb,e,hf.1⟩
  unfold Xz
  exact I7 m who (fun x=> ∃ b:Nat,b<m.desks.length/\x=(b:Int)/\Yb m who b=true) _ _ (hin _ (Uu h.2)) (fun x hx=>hin x (List.mem_of_mem_take (List.mem_of_mem_drop hx)))
 ·exact F8 m who m.desks.length
theorem Ut {st be rk my gu lo hi hd ca ut wk:Int} (h0:1<=st/\st<=3) (h1:0<=be/\be<=7) (h2:inB rk (-5) 5=true) (h3:1<=my/\my<=255) (h4 : -1<=gu/\gu<=5) (h5:YG lo hi=true) (h6 : -1000000000000<=hd/\hd<=1000000000000) (h7:0<=ca/\ca<=Zx rk-1) (h8:0<=ut/\ut<=1024) (h9:0<=wk/\wk<=100000000000) :
  Zf (st,be,rk,my,gu,lo,hi,hd,ca,ut,wk)=true:=by
 unfold Zf
 simp only [Bool.and_eq_true]
 exact ⟨Zv h0.1 h0.2,Zv h1.1 h1.2,h2,Zv h3.1 h3.2,Zv h4.1 h4.2,h5,Zv h6.1 h6.2,Zv h7.1 h7.2,Zv h8.1 h8.2,Zv h9.1 h9.2⟩
theorem XR {m:Z4} {s:Z3} : Yv m s=true ↔ s=V8\/(Zf s=true/\s.2.2.2.2.1<m.guilds.length/\s.2.1<m.desks.length):=by
 unfold Yv ZE
 simp only [Bool.and_eq_true,Bool.or_eq_true,decide_eq_true_eq]
 constructor
 ·rintro ⟨hg | hp,hr⟩
  ·exact .inl (VY hg)
  ·right
   refine ⟨hp,?_⟩
   rcases hr with e | e
   ·have:s.1=0:=by simpa using e
    rw [OD this] at hp
    cases hp
   ·exact e
 ·rintro (rfl | ⟨hp,hr⟩)
  ·exact ⟨.inl GF,.inl rfl⟩
  ·exact ⟨.inr hp,.inr hr⟩
theorem Vw {m:Z4} {s:Z3} (h:ZR s=false):Yj m s=true:=by unfold Yj;rw [h];rfl
theorem Pl {m:Z4} {s:Z3} (h1:(Z8 m.desks s.2.1.toNat).1=true) (h2:We s.2.2.2.1 s.2.1=true) (h3:Xw (XG s) (Z8 m.desks s.2.1.toNat).2.2=true):Yj m s=true:=by
 unfold Yj
 rw [h1,h2,show s.2.2.2.2.2.2.2.1=XG s from rfl,h3]
 simp
theorem ZY {m:Z4} (h:ZP m=true):Loose m:=by
 unfold ZP at h
 simp only [Bool.and_eq_true] at h
 exact S7 h.1
def setS (m:Z4) (k:Nat) (s:Z3):Z4:={ m with smiths:=m.smiths.set k s }
theorem Loose.setS {m:Z4} (h:Loose m) {k:Nat} (hk:k<m.smiths.length) {s:Z3} (h1:Yv m s=true) (h2:Yj m s=true):Loose (setS m k s):=by
 refine ⟨?_,h.desk,h.pace,?_,?_,h.openD⟩
 ·have:=h.head
  unfold Y2 at this ⊢
  unfold Go.Proofs.YtffcgajndmhpkaaGreatDoor.setS
  simpa using this
 ·intro i hi
  have hi':i<m.smiths.length:=by unfold Go.Proofs.YtffcgajndmhpkaaGreatDoor.setS at hi;simpa using hi
  show Yv (Go.Proofs.YtffcgajndmhpkaaGreatDoor.setS m k s) (Z8 (m.smiths.set k s) i)=true
  rw [Xm (m:=m) (m':=Go.Proofs.YtffcgajndmhpkaaGreatDoor.setS m k s) rfl rfl,ZK hk]
  split
  ·exact h1
  ·exact h.here i hi'
 ·intro i hi
  have hi':i<m.smiths.length:=by unfold Go.Proofs.YtffcgajndmhpkaaGreatDoor.setS at hi;simpa using hi
  show Yj m (Z8 (m.smiths.set k s) i)=true
  rw [ZK hk]
  split
  ·exact h2
  ·exact h.seat i hi'
theorem Wn {α:Type} [Inhabited α] (xs:List α) (x:α) (i:Nat):Z8 (xs++[x]) i=if i=xs.length then x else Z8 xs i:=by
 unfold Z8
 split
 ·rename_i h;subst h;simp [List.getD]
 ·rename_i h
  rcases Nat.lt_or_ge i xs.length with hi | hi
  ·simp [List.getD,List.getElem?_append_left hi]
  ·simp [List.getD,List.getElem?_append_right hi,List.getElem?_eq_none hi]
   rw [List.getElem?_eq_none (by simp;omega)]
   rfl
def pushS (m:Z4) (s:Z3):Z4:={ m with smiths:=m.smiths++[s] }
theorem Loose.pushS {m:Z4} (h:Loose m) (hl:m.smiths.length<12) {s:Z3} (h1:Yv m s=true) (h2:Yj m s=true):Loose (pushS m s):=by
 refine ⟨?_,h.desk,h.pace,?_,?_,h.openD⟩
 ·have:=h.head
  unfold Y2 at this ⊢
  unfold Go.Proofs.YtffcgajndmhpkaaGreatDoor.pushS
  simp only [Bool.and_eq_true,decide_eq_true_eq] at this ⊢
  refine ⟨this.1,this.2.1,?_,this.2.2.2⟩
  simp
  omega
 ·intro i hi
  have hi':i<m.smiths.length+1:=by unfold Go.Proofs.YtffcgajndmhpkaaGreatDoor.pushS at hi;simpa using hi
  show Yv (Go.Proofs.YtffcgajndmhpkaaGreatDoor.pushS m s) (Z8 (m.smiths++[s]) i)=true
  rw [Xm (m:=m) (m':=Go.Proofs.YtffcgajndmhpkaaGreatDoor.pushS m s) rfl rfl,Wn]
  split
  ·exact h1
  ·exact h.here i (by omega)
 ·intro i hi
  have hi':i<m.smiths.length+1:=by unfold Go.Proofs.YtffcgajndmhpkaaGreatDoor.pushS at hi;simpa using hi
  show Yj m (Z8 (m.smiths++[s]) i)=true
  rw [Wn]
  split
  ·exact h2
  ·exact h.seat i (by omega)
def XK (m:Z4) (b:Int):Int:=(Z8 m.desks b.toNat).2.2
def OM (s:Z3) (b had:Int):Z3:=(2,b,s.2.2.1,s.2.2.2.1,s.2.2.2.2.1,s.2.2.2.2.2.1,s.2.2.2.2.2.2.1,had,s.2.2.2.2.2.2.2.2)
def putS (m:Z4) (s:Z3) (b:Int):Z3:=(s.1,b,s.2.2.1,s.2.2.2.1,s.2.2.2.2.1,s.2.2.2.2.2.1,s.2.2.2.2.2.2.1,Zq (XG s) (XK m s.2.1) (XK m b),s.2.2.2.2.2.2.2.2)
def TQ (s:Z3) (may:Int):Z3:=(s.1,s.2.1,s.2.2.1,may,s.2.2.2.2)
def G8 (s:Z3) (lo hi:Int):Z3:=(s.1,s.2.1,s.2.2.1,s.2.2.2.1,s.2.2.2.2.1,lo,hi,s.2.2.2.2.2.2.2)
def Qr (s:Z3) (g:Int):Z3:=(s.1,s.2.1,s.2.2.1,s.2.2.2.1,g,s.2.2.2.2.2)
def YK (rank may guild:Int):Z3:=(1,0,rank,may,guild,0,1024,0,0,0,0)
theorem WG {m:Z4} (h:Loose m):m.desks.length<=8:=by
 have:=h.head
 unfold Y2 at this
 simp only [Bool.and_eq_true,decide_eq_true_eq] at this
 have h8:=(Zy this.1).2.2.2
 omega
theorem EB {m:Z4} (h:Loose m):m.guilds.length<=6:=by
 have:=h.head
 unfold Y2 at this
 simp only [Bool.and_eq_true,decide_eq_true_eq] at this
 exact (Wj this.2.1).2
theorem Loose.limits {m:Z4} (h:Loose m) {k:Nat} (hk:k<m.smiths.length) (hs:(Z8 m.smiths k).1 ≠ 0):Zf (Z8 m.smiths k)=true/\(Z8 m.smiths k).2.2.2.2.1<m.guilds.length/\(Z8 m.smiths k).2.1<m.desks.length:=by
 rcases XR.1 (h.here k hk) with e | e
 ·rw [e] at hs;exact absurd rfl hs
 ·exact e
theorem EL {m:Z4} (h:Loose m) {k:Nat} (hk:k<m.smiths.length) (hp:ZR (Z8 m.smiths k)=true):Loose (setS m k (stS (Z8 m.smiths k) 1)):=
 h.setS hk (N9 (h.here k hk) hp (by omega) (by omega)) (Vw rfl)
theorem GR {m:Z4} (h:Loose m) {k:Nat} (hk:k<m.smiths.length):Loose (setS m k V8):=
 h.setS hk (XR.2 (.inl rfl)) (Vw rfl)
theorem EK {m:Z4} (h:Loose m) {k:Nat} (hk:k<m.smiths.length) {rank:Int} {s:Z3} (hr:Yn (Z8 m.smiths k) rank=(s,true)):Loose (setS m k s):=by
 unfold Yn at hr
 split at hr
 ·rename_i hp
  split at hr
  ·rename_i hrk
   obtain ⟨rfl,_⟩:=Prod.mk.inj hr
   have hne:(Z8 m.smiths k).1 ≠ 0:=by
    intro e
    rw [OD e] at hp
    cases hp
   obtain ⟨_,g1,b1⟩:=h.limits hk hne
   refine h.setS hk (XR.2 (.inr ⟨Rr hp hrk,g1,b1⟩)) ?_
   have:=h.seat k hk
   unfold Yj at this ⊢
   exact this
  ·cases (Prod.mk.inj hr).2
 ·cases (Prod.mk.inj hr).2
theorem Dk {m:Z4} (h:Loose m) {k:Nat} (hk:k<m.smiths.length) (hs:(Z8 m.smiths k).1 ≠ 0) {lo hi:Int} (hp:YG lo hi=true):Loose (setS m k (G8 (Z8 m.smiths k) lo hi)):=by
 obtain ⟨p,g1,b1⟩:=h.limits hk hs
 refine h.setS hk (XR.2 (.inr ⟨?_,g1,b1⟩)) ?_
 ·generalize Z8 m.smiths k=s at *
  obtain ⟨st,be,rk,my,gu,lo',hi',hd,ca,ut,wk⟩:=s
  obtain ⟨x0,x1,x2,x3,x4,x5,x6,x7,x8,x9⟩:=Zi p
  exact Ut x0 x1 x2 x3 x4 hp x6 x7 x8 x9
 ·have:=h.seat k hk
  unfold Yj at this ⊢
  exact this
theorem EI {m:Z4} (h:Loose m) {k:Nat} (hk:k<m.smiths.length) (hs:(Z8 m.smiths k).1 ≠ 0) {g:Int} (g0 : -1<=g) (g1:g<m.guilds.length):Loose (setS m k (Qr (Z8 m.smiths k) g)):=by
 obtain ⟨p,_,b1⟩:=h.limits hk hs
 have hg:=EB h
 refine h.setS hk (XR.2 (.inr ⟨?_,g1,b1⟩)) ?_
 ·generalize Z8 m.smiths k=s at *
  obtain ⟨st,be,rk,my,gu,lo',hi',hd,ca,ut,wk⟩:=s
  obtain ⟨x0,x1,x2,x3,x4,x5,x6,x7,x8,x9⟩:=Zi p
  exact Ut x0 x1 x2 x3 ⟨g0,by omega⟩ x5 x6 x7 x8 x9
 ·have:=h.seat k hk
  unfold Yj at this ⊢
  exact this
theorem Dl {m:Z4} (h:Loose m) {k:Nat} (hk:k<m.smiths.length) (hs:(Z8 m.smiths k).1 ≠ 0) {may:Int} (m0:1<=may) (m1:may<=255) (hb:ZR (Z8 m.smiths k)=false\/We may (Z8 m.smiths k).2.1=true):Loose (setS m k (TQ (Z8 m.smiths k) may)):=by
 obtain ⟨p,g1,b1⟩:=h.limits hk hs
 refine h.setS hk (XR.2 (.inr ⟨?_,g1,b1⟩)) ?_
 ·generalize Z8 m.smiths k=s at *
  obtain ⟨st,be,rk,my,gu,lo',hi',hd,ca,ut,wk⟩:=s
  obtain ⟨x0,x1,x2,x3,x4,x5,x6,x7,x8,x9⟩:=Zi p
  exact Ut x0 x1 x2 ⟨m0,m1⟩ x4 x5 x6 x7 x8 x9
 ·rcases hb with hb | hb
  ·exact Vw hb
  ·have:=h.seat k hk
   unfold Yj at this
   cases hp:ZR (Z8 m.smiths k)
   ·exact Vw hp
   ·rw [hp] at this
    simp only [Bool.not_true,Bool.false_or,Bool.and_eq_true] at this
    exact Pl (s:=TQ (Z8 m.smiths k) may) this.1 hb this.2.2
theorem Dm {m:Z4} {s:Z3} {b:Nat} {had:Int} (h:Loose m) (hp:Zf s=true) (hg:s.2.2.2.2.1<m.guilds.length) (hb:b<m.desks.length) (ho:(Z8 m.desks b).1=true) (hm:We s.2.2.2.1 b=true) (hd:Xw had (Z8 m.desks b).2.2=true) :
  Yv m (OM s b had)=true/\Yj m (OM s b had)=true:=by
 have h8:=WG h
 obtain ⟨st,be,rk,my,gu,lo',hi',hd',ca,ut,wk⟩:=s
 obtain ⟨x0,x1,x2,x3,x4,x5,x6,x7,x8,x9⟩:=Zi hp
 obtain ⟨d0,d1,_⟩:=U1 hd
 refine ⟨XR.2 (.inr ⟨Ut (by omega) ⟨by omega,by omega⟩ x2 x3 x4 x5 ⟨d0,d1⟩ x7 x8 x9,hg,?_⟩),?_⟩
 ·show (b:Int)<_;omega
 ·exact Pl (m:=m) (s:=OM (st,be,rk,my,gu,lo',hi',hd',ca,ut,wk) b had) (by show (Z8 m.desks ((b:Int)).toNat).1=true;simpa using ho) hm (by show Xw had (Z8 m.desks ((b:Int)).toNat).2.2=true;simpa using hd)
theorem Oj {m:Z4} (h:Loose m) {s:Z3} {b:Nat} (hp:Zf s=true) (hpr:ZR s=true) (hg:s.2.2.2.2.1<m.guilds.length) (b0:0<=s.2.1) (b1:s.2.1<m.desks.length) (hband:Xw (XG s) (XK m s.2.1)=true) (hb:b<m.desks.length) (ho:(Z8 m.desks b).1=true) (hm:We s.2.2.2.1 b=true) :
  Yv m (putS m s b)=true/\Yj m (putS m s b)=true:=by
 have h8:=WG h
 obtain ⟨k0,k1⟩:=SI (h.desk s.2.1.toNat (by omega))
 obtain ⟨k2,k3⟩:=SI (h.desk b hb)
 obtain ⟨a0,a1,a2,a3,a4,a5⟩:=U1 hband
 have hmk:XK m (b:Int)=(Z8 m.desks b).2.2:=by unfold XK;simp
 have hmv:Zq (XG s) (XK m s.2.1) (XK m b)=XG s-XK m s.2.1+XK m b:=Dw a0 a1 a2 a3 (by omega) (by omega)
 obtain ⟨st,be,rk,my,gu,lo',hi',hd',ca,ut,wk⟩:=s
 obtain ⟨x0,x1,x2,x3,x4,x5,x6,x7,x8,x9⟩:=Zi hp
 simp only at b0 b1 hmv a4 a5 k0 k1 hg hm
 refine ⟨XR.2 (.inr ⟨?_,hg,?_⟩),?_⟩
 ·unfold putS
  simp only
  rw [hmv]
  exact Ut x0 ⟨by omega,by omega⟩ x2 x3 x4 x5 ⟨by omega,by omega⟩ x7 x8 x9
 ·show (b:Int)<_;omega
 ·refine Pl (m:=m) (s:=putS m (st,be,rk,my,gu,lo',hi',hd',ca,ut,wk) b) (by show (Z8 m.desks ((b:Int)).toNat).1=true;simpa using ho) hm ?_
  show Xw (Zq _ _ _) (Z8 m.desks ((b:Int)).toNat).2.2=true
  rw [hmv,show ((b:Int)).toNat=b by simp,<-hmk]
  exact Pj (by omega) (by omega) (by omega) (by omega) (by omega) (by omega)
def Xq (m:Z4) (r:Nat) (p:Int):Z4:={ m with paces:=m.paces.set r p }
theorem Qw {m:Z4} (h:Loose m) {r:Nat} (hr:r<m.rooms.length) {p:Int} (p0:0<=p) (p1:p<(Z0 m.rooms r).2.length):Loose (Xq m r p):=by
 have hd:=h.head
 have hpl:m.paces.length=m.rooms.length:=by
  unfold Y2 at hd
  simp only [Bool.and_eq_true,decide_eq_true_eq] at hd
  exact hd.2.2.2.2.1
 refine ⟨?_,h.desk,?_,h.here,h.seat,h.openD⟩
 ·unfold Y2 at hd ⊢
  unfold Xq
  simpa using hd
 ·intro j hj
  have hj':j<m.paces.length:=by unfold Xq at hj;simpa using hj
  have:=h.pace j hj'
  unfold WS at this ⊢
  unfold Xq
  simp only
  rw [ZK (by omega)]
  split
  ·rename_i e;subst e;exact Zv p0 (by omega)
  ·exact this
def YH (m:Z4) (b:Nat) (o:Bool):Z4:={ m with desks:=m.desks.set b (o,(Z8 m.desks b).2) }
theorem EJ {m:Z4} (h:Loose m) {b:Nat} (hb:b<m.desks.length):Loose (YH m b true):=by
 have hat:∀ j,(Z8 (YH m b true).desks j)=if j=b then (true,(Z8 m.desks b).2) else Z8 m.desks j:=fun j=>ZK hb j
 have hmk:∀ j,(Z8 (YH m b true).desks j).2=(Z8 m.desks j).2:=fun j=>by
  rw [hat]
  by_cases e:j=b
  ·rw [if_pos e,e]
  ·rw [if_neg e]
 have hop:∀ j,(Z8 m.desks j).1=true->(Z8 (YH m b true).desks j).1=true:=fun j e=>by
  rw [hat]
  by_cases e':j=b
  ·rw [if_pos e']
  ·rw [if_neg e'];exact e
 have hlen:(YH m b true).desks.length=m.desks.length:=by unfold YH;simp
 refine ⟨?_,?_,h.pace,?_,?_,?_⟩
 ·have:=h.head
  unfold Y2 at this ⊢
  rw [hlen]
  exact this
 ·intro j hj
  have:=h.desk j (by omega)
  unfold Ws at this ⊢
  rw [hmk]
  exact this
 ·intro i hi
  rw [Xm (m:=m) (m':=YH m b true) rfl hlen]
  exact h.here i hi
 ·intro i hi
  have:=h.seat i hi
  unfold Yj at this ⊢
  show (!ZR (Z8 m.smiths i) || _)=true
  cases hp:ZR (Z8 m.smiths i)
  ·rfl
  ·rw [hp] at this
   simp only [Bool.not_true,Bool.false_or,Bool.and_eq_true] at this ⊢
   refine ⟨hop _ this.1,this.2.1,?_⟩
   show Xw _ (Z8 (YH m b true).desks (Z8 m.smiths i).2.1.toNat).2.2=true
   rw [hmk]
   exact this.2.2
 ·exact ⟨b,by omega,by rw [hat,if_pos rfl]⟩
def PacesAt (n₀:Nat) (w:World) (v:Value) (ps:List Z6):Prop:=w.ownsRow n₀ 42 2 v ps.length (Zj ps)
theorem PacesAt.lt {n₀:Nat} {w:World} {v:Value} {ps:List Z6} (h:PacesAt n₀ w v ps) {k:Nat} (hk:v.ownBlock=some k):n₀<=k/\k<w.heap.size:=World.ownsRow.lt h k hk
theorem PacesAt.paces {n₀:Nat} {w:World} {v:Value} {ps:List Z6} (h:PacesAt n₀ w v ps):IsPaces w v ps:=by
 have h':=h
 rcases h.2 with ⟨rfl,hz⟩ | ⟨g,cap,cur,rfl,hb,hg,hnc,hcm,r⟩
 ·exact ⟨none,0,by rw [hz],by omega,by omega,.inl (List.eq_nil_of_length_eq_zero hz)⟩
 ·refine ⟨_,cap,rfl,hnc,by unfold maxLen at hcm;omega,.inr ⟨g,0,rfl,(Array.getElem?_eq_some_iff.1 hg).1,fun k hk=> ?_⟩⟩
  have hp:=Vv (f:=fun p:Z6=>Value.int .i64 p.1) (g:=fun p:Z6=>Value.int .i64 p.2) ps k hk
  have hat:Z7 ps k=ps[k]:=by unfold Z7;simp [List.getD,hk]
  rw [Nat.zero_add,hat]
  exact ⟨(World.ownsRow.cellAt h' (k*2) (by omega)).trans hp.1,(World.ownsRow.cellAt h' (k*2+1) (by omega)).trans hp.2⟩
structure OwnHall (n₀:Nat) (w:World) (v:Value) (qs:List (Z2 × Value)):Prop where
 row:w.ownsRow n₀ 45 2 v qs.length (Tf qs)
 paces:∀ q ∈ qs,PacesAt n₀ w q.2 q.1.2
 off:∀ q ∈ qs,∀ b,q.2.ownBlock=some b->v.ownBlock ≠ some b
 apart:(qs.map (·.2)).Pairwise fun x y=> ∀ b,x.ownBlock=some b->y.ownBlock ≠ some b
theorem OwnHall.nil (n₀:Nat) (w:World):OwnHall n₀ w (.slice none 0 0) []:=
 ⟨World.ownsRow_nil w n₀ _ _,fun _ h=>(by cases h),fun _ h=>(by cases h),List.Pairwise.nil⟩
theorem OwnHall.lt {n₀:Nat} {w:World} {v:Value} {qs:List (Z2 × Value)} (h:OwnHall n₀ w v qs) {k:Nat} (hk:v.ownBlock=some k\/ ∃ q ∈ qs,q.2.ownBlock=some k):n₀<=k/\k<w.heap.size:=by
 rcases hk with hk | ⟨q,hq,hk⟩
 ·exact World.ownsRow.lt h.row k hk
 ·exact (h.paces q hq).lt hk
theorem OwnHall.same {n₀:Nat} {w w':World} {v:Value} {qs:List (Z2 × Value)} (h:OwnHall n₀ w v qs) (hs:∀ k,n₀<=k->k<w.heap.size->w'.heap[k]?=w.heap[k]?):OwnHall n₀ w' v qs:=
 ⟨XS h.row (fun k e=>hs k (h.lt (.inl e)).1 (h.lt (.inl e)).2),fun q hq=>XS (h.paces q hq) (fun k e=>hs k (h.lt (.inr ⟨q,hq,e⟩)).1 (h.lt (.inr ⟨q,hq,e⟩)).2),h.off,h.apart⟩
theorem OwnHall.later {n₀:Nat} {w w':World} {v:Value} {qs:List (Z2 × Value)} (h:OwnHall n₀ w v qs) (hb:Below w.heap.size w w'):OwnHall n₀ w' v qs:=h.same (fun k _ hk=>hb.block k hk)
theorem OwnHall.but {n₀ bc:Nat} {w w':World} {v:Value} {qs:List (Z2 × Value)} (h:OwnHall n₀ w v qs) (hb:But bc w w') (hbc:bc<n₀\/w.heap.size<=bc):OwnHall n₀ w' v qs:=h.same (fun k h0 hk=>hb.block k hk (by omega))
theorem OwnHall.mono {n₀ n₁:Nat} {w:World} {v:Value} {qs:List (Z2 × Value)} (h:OwnHall n₀ w v qs) (hn:n₁<=n₀):OwnHall n₁ w v qs:=
 ⟨Up h.row hn,fun q hq=>Up (h.paces q hq) hn,h.off,h.apart⟩
theorem OwnHall.rooms {n₀:Nat} {w:World} {v:Value} {qs:List (Z2 × Value)} (h:OwnHall n₀ w v qs):IsRooms w v (qs.map (·.1)):=by
 have h':=h.row
 have hlen:(qs.map (·.1)).length=qs.length:=by simp
 rcases h.row.2 with ⟨rfl,hz⟩ | ⟨g,cap,cur,rfl,hb,hg,hnc,hcm,r⟩
 ·exact ⟨none,0,by rw [hlen,hz],by omega,by omega,.inl (by rw [List.eq_nil_of_length_eq_zero hz];rfl)⟩
 ·refine ⟨_,cap,by rw [hlen],by rw [hlen];exact hnc,by unfold maxLen at hcm;omega,.inr ⟨g,0,rfl,(Array.getElem?_eq_some_iff.1 hg).1,fun k hk=> ?_⟩⟩
  rw [hlen] at hk
  have hp:=Vv (f:=fun q:Z2 × Value=>Value.int .i64 q.1.1) (g:=fun q:Z2 × Value=>q.2) qs k hk
  have hat:Z0 (qs.map (·.1)) k=qs[k].1:=by unfold Z0;simp [List.getD,hk]
  rw [Nat.zero_add,hat]
  exact ⟨(World.ownsRow.cellAt h' (k*2) (by omega)).trans hp.1,qs[k].2,(World.ownsRow.cellAt h' (k*2+1) (by omega)).trans hp.2,(h.paces _ (List.getElem_mem hk)).paces⟩
theorem OwnHall.push {n₀:Nat} {w w1:World} {v v' pv:Value} {qs:List (Z2 × Value)} {rb:Int} {ps:List Z6} {o:Obj} (h:OwnHall n₀ w v qs) (hp:PacesAt n₀ w pv ps)
  (hoff:∀ b,pv.ownBlock=some b->v.ownBlock ≠ some b) (hap:∀ q ∈ qs,∀ b,q.2.ownBlock=some b->pv.ownBlock ≠ some b)
  (hown:w1.ownsRow n₀ 45 2 v' (qs.length+1) (Tf qs++[.int .i64 rb,pv])) (hg:(w.alloc o).grownBy w1 v.ownBlock) (hat:v'.ownBlock=v.ownBlock\/v'.ownBlock=some (w.alloc o).heap.size) :
  OwnHall n₀ w1 v' (qs++[((rb,ps),pv)]):=by
 have hk:∀ k,k<w.heap.size->v.ownBlock ≠ some k->w1.heap[k]?=w.heap[k]?:=fun k hk hn=>(hg.block k (by simp;omega) (fun e=>hn e.symm)).trans (Below.heap_alloc w o k hk)
 have hv':∀ k,k<w.heap.size->v'.ownBlock=some k->v.ownBlock=some k:=fun k hk e=>by
  rcases hat with e' | e'
  ·rw [<-e'];exact e
  ·rw [e'] at e;simp at e;omega
 refine ⟨?_,fun q hq=> ?_,fun q hq b e=> ?_,?_⟩
 ·simpa [Tf] using hown
 ·rcases List.mem_append.1 hq with hq | hq
  ·exact XS (h.paces q hq) (fun k e=>hk k (h.lt (.inr ⟨q,hq,e⟩)).2 (h.off q hq k e))
  ·obtain rfl:q=((rb,ps),pv):=by simpa using hq
   exact XS hp (fun k e=>hk k (hp.lt e).2 (hoff k e))
 ·rcases List.mem_append.1 hq with hq | hq
  ·exact fun e'=>h.off q hq b e (hv' b (h.lt (.inr ⟨q,hq,e⟩)).2 e')
  ·obtain rfl:q=((rb,ps),pv):=by simpa using hq
   exact fun e'=>hoff b e (hv' b (hp.lt e).2 e')
 ·rw [List.map_append,List.pairwise_append]
  refine ⟨h.apart,by simp,fun x hx y hy b e=> ?_⟩
  obtain ⟨q,hq,rfl⟩:=List.mem_map.1 hx
  obtain rfl:y=pv:=by simpa using hy
  exact hap q hq b e
theorem EE:(Tryz.prog.info? 42).map (fun i=>(i.zero,i.size,i.bytes))=some (some (.agg #[.int .i64 0,.int .i64 0]),2,16):=by kernel_rfl
theorem Ml:(Tryz.prog.info? 45).map (fun i=>(i.zero,i.size,i.bytes))=some (some (.agg #[.int .i64 0,.slice none 0 0]),2,32):=by kernel_rfl
theorem OwnHall.shape {n₀:Nat} {w:World} {v:Value} {qs:List (Z2 × Value)} (h:OwnHall n₀ w v qs):∃ a cap,v= .slice a qs.length cap:=by
 rcases h.row.2 with ⟨rfl,hz⟩ | ⟨g,cap,cur,rfl,_⟩
 ·exact ⟨none,0,by rw [hz]⟩
 ·exact ⟨_,cap,rfl⟩
theorem PacesAt.shape {n₀:Nat} {w:World} {v:Value} {ps:List Z6} (h:PacesAt n₀ w v ps):∃ a cap,v= .slice a ps.length cap:=by
 rcases h.2 with ⟨rfl,hz⟩ | ⟨g,cap,cur,rfl,_⟩
 ·exact ⟨none,0,by rw [hz]⟩
 ·exact ⟨_,cap,rfl⟩
theorem PacesAt.mono {n₀ n₁:Nat} {w:World} {v:Value} {ps:List Z6} (h:PacesAt n₀ w v ps) (hn:n₁<=n₀):PacesAt n₁ w v ps:=Up h hn
def NA (u v:Value):Prop:= ∀ b,u.ownBlock=some b->v.ownBlock ≠ some b
def Pg (u v:Value) (qs:List (Z2 × Value)):Prop:=NA u v/\ ∀ q ∈ qs,NA u q.2
structure FullSmy (n₀:Nat) (w:World) (v0 v1 v2 v3 v4:Value) (m:Z4) (qs:List (Z2 × Value)):Prop where
 hall:OwnHall n₀ w v0 qs
 rooms:qs.map (·.1)=m.rooms
 guilds:GuildsAt n₀ w v1 m.guilds
 smiths:SmithsAt n₀ w v2 m.smiths
 desks:DesksAt n₀ w v3 m.desks
 paces:NumsAt n₀ w v4 m.paces
 h1:Pg v1 v0 qs
 h2:Pg v2 v0 qs
 h3:Pg v3 v0 qs
 h4:Pg v4 v0 qs
 a12:NA v1 v2
 a13:NA v1 v3
 a14:NA v1 v4
 a23:NA v2 v3
 a24:NA v2 v4
 a34:NA v3 v4
theorem FullSmy.smy {n₀:Nat} {w:World} {v0 v1 v2 v3 v4:Value} {m:Z4} {qs:List (Z2 × Value)} (h:FullSmy n₀ w v0 v1 v2 v3 v4 m qs):Smy w v0 v1 v2 v3 v4 m:=
 ⟨by rw [<-h.rooms];exact h.hall.rooms,h.guilds.list,h.smiths.list,h.desks.list,h.paces.list⟩
theorem OwnHall.set_old {n₀:Nat} {w:World} {v:Value} {qs:List (Z2 × Value)} (h:OwnHall n₀ w v qs) (g o:Nat) (u:Value) (hg:g<n₀):OwnHall n₀ (w.setCell ⟨g,o,none⟩ u) v qs:=
 h.same fun k h0 hk=>heap_setCell_other w _ k u (by show k ≠ g;omega)
theorem FullSmy.below {n₀:Nat} {w w':World} {v0 v1 v2 v3 v4:Value} {m:Z4} {qs:List (Z2 × Value)} (h:FullSmy n₀ w v0 v1 v2 v3 v4 m qs) (hb:Below w.heap.size w w'):FullSmy n₀ w' v0 v1 v2 v3 v4 m qs:=
 ⟨h.hall.later hb,h.rooms,RecAt.later h.guilds hb,RecAt.later h.smiths hb,RecAt.later h.desks hb,RecAt.later h.paces hb,h.h1,h.h2,h.h3,h.h4,h.a12,h.a13,h.a14,h.a23,h.a24,h.a34⟩
theorem FullSmy.set {n₀:Nat} {w:World} {v0 v1 v2 v3 v4:Value} {m:Z4} {qs:List (Z2 × Value)} (h:FullSmy n₀ w v0 v1 v2 v3 v4 m qs) (g o:Nat) (u:Value) (hg:g<n₀):FullSmy n₀ (w.setCell ⟨g,o,none⟩ u) v0 v1 v2 v3 v4 m qs:=
 ⟨h.hall.set_old g o u hg,h.rooms,RecAt.set_old h.guilds g o u hg,RecAt.set_old h.smiths g o u hg,RecAt.set_old h.desks g o u hg,RecAt.set_old h.paces g o u hg,h.h1,h.h2,h.h3,h.h4,h.a12,h.a13,h.a14,h.a23,h.a24,h.a34⟩
theorem FullSmy.mono {n₀ n₁:Nat} {w:World} {v0 v1 v2 v3 v4:Value} {m:Z4} {qs:List (Z2 × Value)} (h:FullSmy n₀ w v0 v1 v2 v3 v4 m qs) (hn:n₁<=n₀):FullSmy n₁ w v0 v1 v2 v3 v4 m qs:=
 ⟨h.hall.mono hn,h.rooms,RecAt.mono h.guilds hn,RecAt.mono h.smiths hn,RecAt.mono h.desks hn,RecAt.mono h.paces hn,h.h1,h.h2,h.h3,h.h4,h.a12,h.a13,h.a14,h.a23,h.a24,h.a34⟩
theorem Lc (g o i:Nat):(⟨g,o,none⟩:Addr).add i=⟨g,o+i,none⟩:=by unfold Addr.add;split<;>simp_all
theorem Ki {e k bytes:Nat} {z:Value} (h:(Tryz.prog.info? e).map (fun i=>(i.zero,i.size,i.bytes))=some (some z,k,bytes)):∃ i,Tryz.prog.info? e=some i/\i.zero=some z/\i.size=k/\i.bytes=bytes:=by
 cases hi:Tryz.prog.info? e with
 | none=>rw [hi] at h;cases h
 | some i=>
  rw [hi] at h
  simp only [Option.map_some,Option.some.injEq,Prod.mk.injEq] at h
  exact ⟨i,rfl,h.1,h.2.1,h.2.2⟩
theorem Py {w:World} {base t ty e size n:Nat} {i:TypeInfo} (ht:Tryz.prog.underlying t=some (.slice e)) (hi:Tryz.prog.info? e=some i) {v:Value} {xs:List Value} (hown:w.ownsRow base e size v n xs) (a:Option Addr) (c:Nat) :
  (Builtin.append_ #[t,t] ty #[v,.slice a 0 c]).run Tryz.prog w= .ok v w:=by
 rcases hown.2 with ⟨rfl,rfl⟩ | ⟨g,cap,cur,rfl,_,_,hnc,_⟩
 ·cases a<;>simp [Builtin.append_,run_underlying ht,sizeOf,typeInfo,hi,Builtin.lenOf,Builtin.firstCells,loadCells,loadCellsFrom]
 ·cases a<;>simp [Builtin.append_,run_underlying ht,sizeOf,typeInfo,hi,Builtin.lenOf,Builtin.firstCells,hnc,storeCells,loadCells,loadCellsFrom]
structure PI {α:Type} (e k:Nat) (z:Value) (enc:α->List Value):Prop where
 info:(Tryz.prog.info? e).map (fun i=>(i.zero,i.size,i.bytes))=some (some z,k,8*k)
 zero:z.cells.size=k
 len:∀ x,(enc x).length=k
 pos:0<k
 few:k<=100
 one:∀ x,∀ u ∈ enc x,u.oneCell'=true
section
variable {α : Type} {e k : Nat} {enc : α → List Value}
theorem Da (hone:∀ x:α,∀ u ∈ enc x,u.oneCell'=true) (qs:List α):∀ u ∈ U4 enc qs,u.oneCell'=true:=fun u hu=>by
 unfold U4 at hu
 obtain ⟨p,_,hp⟩:=List.mem_flatMap.1 hu
 exact hone p u hp
theorem Zd {B g:Nat} {w:World} (hg:g=w.heap.size) (hB:B<=g):RecAt e k enc B (w.alloc (.cells #[] e)) (.slice (some ⟨g,0,none⟩) 0 0) []:=by
 subst hg
 exact ⟨by simp [U4],.inr ⟨_,0,#[],rfl,hB,heap_alloc_new w _,Nat.le_refl _,Nat.zero_le _,by simp,by simp [U4]⟩⟩
end
section
variable {α : Type} [Inhabited α] {e k : Nat} {enc : α → List Value} {z : Value}
theorem Fd (hk:∀ x,(enc x).length=k) (h0:0<k) {w:World} {b off:Nat} {qs:List α} (h:∀ j,j<qs.length-> ∀ i u,(enc (Z8 qs j))[i]?=some u->w.cell? ⟨b,off+j*k+i,none⟩=some u) :
  ∀ (j:Nat) (u:Value),(U4 enc qs)[j]?=some u->w.cell? ((⟨b,off,none⟩:Addr).add j)=some u:=fun j u hj=>by
 have hlt:j<qs.length*k:=by
  rcases Nat.lt_or_ge j (qs.length*k) with h | h
  ·exact h
  ·rw [List.getElem?_eq_none (by rw [Wz hk];exact h)] at hj;cases hj
 have hd:j / k<qs.length:=(Nat.div_lt_iff_lt_mul h0).2 hlt
 have hr:j%k<k:=Nat.mod_lt _ h0
 have he:j=j / k*k+j%k:=by rw [Nat.mul_comm];exact (Nat.div_add_mod j k).symm
 rw [Lc]
 rw [he,Wy hk qs (j / k) hd (j%k) hr] at hj
 have:=h (j / k) hd (j%k) u hj
 rw [Nat.add_assoc,<-he] at this
 exact this
theorem WT (T:PI e k z enc) {w:World} {base t ty:Nat} (ht:Tryz.prog.underlying t=some (.slice e)) {v x:Value} {ps qs:List α} (hown:RecAt e k enc base w v ps) (hx:IsRec k enc w x qs) (hb:ps.length+qs.length<=4000) (hbase:base<=w.heap.size) :
  ∃ v' w',(Builtin.append_ #[t,t] ty #[v,x]).run Tryz.prog w= .ok v' w'/\RecAt e k enc base w' v' (ps++qs)/\w.grownBy w' v.ownBlock/\(v'.ownBlock=v.ownBlock\/v'.ownBlock=some w.heap.size):=by
 obtain ⟨i0,hi,hz0,hz1,hz2⟩:=Ki T.info
 obtain ⟨a,c,rfl,hc,hm,hr⟩:=hx
 by_cases h0:qs=[]
 ·subst h0
  refine ⟨v,w,Py ht hi hown a c,by simpa using hown,RO _ _,.inl rfl⟩
 ·rcases hr with hr | ⟨b,off,rfl,hlt,hcl⟩
  ·exact absurd hr h0
  ·have hk:=T.few
   have hmul:(ps.length+qs.length)*(8*k)<=4000*800:=Nat.mul_le_mul hb (by omega)
   obtain ⟨v',w',hr,h2,h3,_,h5⟩:=run_append_own_at (P:=Tryz.prog) w base t ty e i0 z k (8*k) ht hi hz0 hz1 hz2 T.zero T.pos v ps.length _ hown ⟨b,off,none⟩ qs.length c (U4 enc qs) (Wz T.len qs)
    (Fd T.len T.pos hcl) (Da T.one qs) (by simp only [maxLen];omega) (by omega) hbase
   refine ⟨v',w',hr,?_,h3,h5⟩
   unfold RecAt
   rw [Jq,List.length_append]
   exact h2
theorem ZO (T:PI e k z enc) {w:World} {ops:Array Oper} {rest:List Oper} {o:Oper} {a:Act} {Q:Exit->Act->World->Prop} (hgd:o.guard=none) (s x:Operand) (t:TypeId) (ht:Tryz.prog.underlying t=some (.slice e))
  (ho:o.op= .call { callee:= .builtin .append,args:=#[s,x],argTypes:=#[t,t] }) (base:Nat) (v u:Value) (ps qs:List α) (hs:a.eval s=v) (hx:a.eval x=u) (hown:RecAt e k enc base w v ps) (hr:IsRec k enc w u qs)
  (hb:ps.length+qs.length<=4000) (hbase:base<=w.heap.size)
  (h:∀ v' w',RecAt e k enc base w' v' (ps++qs)->w.grownBy w' v.ownBlock->(v'.ownBlock=v.ownBlock\/v'.ownBlock=some w.heap.size)->wpList Tryz.prog ops Q rest (a.put o.dst v') w') :
  wpList Tryz.prog ops Q (o::rest) a w:=by
 refine wpList_plain hgd fun K hK=> ?_
 obtain ⟨v',w',hrun,h2,h3,h5⟩:=WT T (ty:=o.type) ht hown hr hb hbase
 unfold Oper.wp execOp
 simp only [ho,resolve,invoke,builtin,Sem.run_bind,Sem.run_pure,Result.andThen_ok,List.map_toArray,List.map_cons,List.map_nil,hs,hx,hrun]
 exact hK _ _ (h v' w' h2 h3 h5)
theorem V6 {w:World} (x:α) {g c:Nat} (hg:g=w.heap.size) (hc:1<=c) (hc2:c<=4000):IsRec k enc (w.alloc (.cells (enc x).toArray e)) (.slice (some ⟨g,0,none⟩) 1 c) [x]:=by
 subst hg
 refine ⟨_,c,rfl,hc,by omega,.inr ⟨_,0,rfl,by simp,fun j hj i u hu=> ?_⟩⟩
 obtain rfl:j=0:=by simpa using hj
 rw [Nat.zero_mul,Nat.zero_add,World.cell?_alloc_at _ _ _ _ rfl]
 have hr:Z8 [x] 0=x:=rfl
 rw [hr] at hu
 simpa using hu
theorem Ez (hk:∀ x,(enc x).length=k) (h0:0<k) (xs:List α) {j i:Nat} (hj:j<xs.length) (hi:i<k) (u:Value) (x:α) (hx:enc x=(enc (Z8 xs j)).set i u):(U4 enc xs).set (j*k+i) u=U4 enc (xs.set j x):=by
 have hl:=Wz hk xs
 have hjk:j*k+k<=xs.length*k:=by rw [<-Nat.succ_mul];exact Nat.mul_le_mul_right k hj
 apply List.ext_getElem?
 intro m
 by_cases hm:m<xs.length*k
 ·have hd:m / k<xs.length:=(Nat.div_lt_iff_lt_mul h0).2 hm
  have hr:m%k<k:=Nat.mod_lt _ h0
  have he:m=m / k*k+m%k:=by rw [Nat.mul_comm];exact (Nat.div_add_mod m k).symm
  have hg:=Wy hk (xs.set j x) (m / k) (by simpa using hd) (m%k) hr
  have hg0:=Wy hk xs (m / k) hd (m%k) hr
  rw [<-he] at hg hg0
  rw [hg,ZK hj]
  by_cases e:m / k=j
  ·rw [if_pos e,hx]
   by_cases ei:m%k=i
   ·have hmi:m=j*k+i:=by rw [<-e,<-ei];exact he
    rw [ei,hmi,List.getElem?_set_self (by rw [hl];omega),List.getElem?_set_self (by rw [hk];exact hi)]
   ·have hmi:j*k+i ≠ m:=by rw [<-e];omega
    rw [List.getElem?_set_ne hmi,List.getElem?_set_ne (Ne.symm ei),hg0,e]
  ·rw [if_neg e,List.getElem?_set_ne,hg0]
   intro h
   apply e
   rw [<-h]
   exact Nat.div_eq_of_lt_le (Nat.le_add_right _ _) (by rw [Nat.succ_mul];omega)
 ·rw [List.getElem?_eq_none (by simp;omega),List.getElem?_eq_none (by rw [Wz hk];simp;omega)]
theorem RecAt.put1 (hk:∀ x,(enc x).length=k) (h0:0<k) {t n₀ n cap g:Nat} {w:World} {xs:List α} (h:RecAt t k enc n₀ w (.slice (some ⟨g,0,none⟩) n cap) xs) (hn:n=xs.length) {j i:Nat} (hj:j<xs.length) (hi:i<k) (u:Value) (x:α) (hx:enc x=(enc (Z8 xs j)).set i u) :
  RecAt t k enc n₀ (w.setCell ⟨g,j*k+i,none⟩ u) (.slice (some ⟨g,0,none⟩) n cap) (xs.set j x)/\w.grownBy (w.setCell ⟨g,j*k+i,none⟩ u) (some g):=by
 subst hn
 obtain ⟨h1,h2⟩:=World.ownsRow.stored h (j*k+i) u
 rw [Ez hk h0 xs hj hi u x hx] at h1
 refine ⟨?_,h2⟩
 unfold RecAt
 rw [List.length_set]
 exact h1
end
end Go.Proofs.YtffcgajndmhpkaaGreatDoor
