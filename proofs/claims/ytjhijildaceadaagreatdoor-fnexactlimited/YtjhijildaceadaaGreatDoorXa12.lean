/- Part 12 of what the proof rests on. No condition but those that a theorem names. -/
import Derived.Test.YtjhijildaceadaaGreatDoorXa04
import Derived.Test.YtjhijildaceadaaGreatDoorXa11
namespace Go.Proofs.YtjhijildaceadaaGreatDoor
open Go.ChangeShapes Go.WideShapes Go.ChangeAt Go.RowKit Go.Sort
set_option linter.unusedVariables false
variable {m : Z4}
def ZW (s:Z2):Bool:=s.1 ==2 || s.1 ==3
def Xe (had Xb:Int):Bool:=inB had (-1000000000000) 1000000000000 && (inB Xb (-1000000000000) 1000000000000 && inB (had-Xb) (-20000) 63000)
def Vw (d:YG):Bool:=inB d.2.2 (-900000000000) 900000000000
def Wl (m:Z4) (j:Nat):Bool:=inB (Z8 m.paces j) 0 (((ZY m.rooms j).2.length:Int)-1)
def YJ (m:Z4) (s:Z2):Bool:=Zu s && (s.1 ==0 || (decide (s.2.2.2.2.1<m.guilds.length) && decide (s.2.1<m.desks.length)))
def Ye (m:Z4) (s:Z2):Bool:= !ZW s || ((Z8 m.desks s.2.1.toNat).1 && (Xp s.2.2.2.1 s.2.1 && Xe s.2.2.2.2.2.2.2.1 (Z8 m.desks s.2.1.toNat).2.2))
def Yc (m:Z4):Bool:=YN m.rooms && (Zd m.guilds && (decide (m.smiths.length<=12) && (decide ((m.desks.length:Int)=Z0 m.rooms) && (decide (m.paces.length=m.rooms.length) && inB m.now 0 1000000))))
def VP (m:Z4) (k:Nat):Bool:=(List.range k).all fun j=>Vw (Z8 m.desks j)
def UF (m:Z4) (k:Nat):Bool:=(List.range k).any fun j=>(Z8 m.desks j).1
def Wo (m:Z4) (k:Nat):Bool:=(List.range k).all fun j=>Wl m j
def Wp (m:Z4) (k:Nat):Bool:=(List.range k).all fun j=>YJ m (Z8 m.smiths j) && Ye m (Z8 m.smiths j)
def YF (m:Z4):Bool:=Yc m && (VP m m.desks.length && (Wo m m.paces.length && (Wp m m.smiths.length && UF m m.desks.length)))
theorem UA {p:Nat->Bool} (k:Nat):(List.range (k+1)).all p=((List.range k).all p && p k):=by rw [List.range_succ,List.all_append];simp
theorem Cw {p:Nat->Bool} (k:Nat):(List.range (k+1)).any p=((List.range k).any p || p k):=by rw [List.range_succ,List.any_append];simp
theorem Rx {p:Nat->Bool} {k n:Nat} (hk:k<n) (h:p k=false):(List.range n).all p=false:=by
 rw [List.all_eq_false]
 exact ⟨k,List.mem_range.2 hk,by simp [h]⟩
theorem FJ {p:Nat->Bool} {k n:Nat} (h:(List.range n).all p=true) (hk:k<n):p k=true:=List.all_eq_true.1 h k (List.mem_range.2 hk)
theorem Wu (h:Yc m=false):YF m=false:=by unfold YF;rw [h];rfl
theorem Jp {k:Nat} (hk:k<m.desks.length) (h:Vw (Z8 m.desks k)=false):YF m=false:=by
 unfold YF VP
 rw [Rx hk h];simp
theorem Jq {k:Nat} (hk:k<m.paces.length) (h:Wl m k=false):YF m=false:=by
 unfold YF Wo
 rw [Rx (p:=fun j=>Wl m j) hk h];simp
theorem Li {k:Nat} (hk:k<m.smiths.length) (h:(YJ m (Z8 m.smiths k) && Ye m (Z8 m.smiths k))=false):YF m=false:=by
 unfold YF Wp
 rw [Rx (p:=fun j=>YJ m (Z8 m.smiths j) && Ye m (Z8 m.smiths j)) hk h];simp
theorem Gu (h1:Yc m=true) (h2:VP m m.desks.length=true) (h3:Wo m m.paces.length=true) (h4:Wp m m.smiths.length=true):YF m=UF m m.desks.length:=by
 unfold YF;rw [h1,h2,h3,h4];rfl
theorem I5 {s:Z2} (h:YJ m s=true) (hp:ZW s=true):0<=s.2.1/\s.2.1<m.desks.length/\s.2.1<=7/\1<=s.2.2.2.1/\s.2.2.2.1<=255/\s.2.2.2.2.1<m.guilds.length:=by
 obtain ⟨st,be,rk,my,gu,lo,hi,hd,ca,ut,wk⟩:=s
 have hst:st ≠ 0:=by
  intro e
  subst e
  cases hp
 unfold YJ at h
 simp only [Bool.and_eq_true,Bool.or_eq_true,decide_eq_true_eq] at h
 obtain ⟨h1,h2⟩:=h
 rcases h2 with h2 | ⟨h2,h3⟩
 ·exact absurd (by simpa using h2) hst
 ·have hs:Zu (st,be,rk,my,gu,lo,hi,hd,ca,ut,wk)=Zg (st,be,rk,my,gu,lo,hi,hd,ca,ut,wk):=by unfold Zu;rw [Ns hst,Bool.false_or]
  rw [hs] at h1
  obtain ⟨_,⟨b0,b1⟩,_,⟨m0,m1⟩,_⟩:=Zk h1
  exact ⟨b0,h3,b1,m0,m1,h2⟩
def XX (ss:List Z2) (b:Int):Nat->Option (Int × Bool)
 | 0=>some (-1,false)
 | k+1=>match XX ss b k with
  | none=>none
  | some (wk,wt)=>if (Z8 ss k).2.1=b/\ZW (Z8 ss k)=true then (if (Z8 ss k).1=2 then some (wk,true) else if 0<=wk then none else some ((k:Int),wt)) else some (wk,wt)
def Yn (m:Z4) (b:Nat):Bool:=match XX m.smiths b m.smiths.length with
 | none=>false
 | some (wk,wt)=>(Z8 m.desks b).2.1 ==wk && !(wt && decide (wk<0))
def Zo (m:Z4):Bool:=YF m && (List.range m.desks.length).all (Yn m)
def ltB (a b:Z6):Bool:=decide (a.1<b.1\/(a.1=b.1/\a.2<b.2))
theorem C9 {a b:Z6} : ltB a b=true ↔ (a.1<b.1\/(a.1=b.1/\a.2<b.2)):=by unfold ltB;exact decide_eq_true_iff
theorem Mc {a b:Z6} : ltB a b=false ↔ ¬ (a.1<b.1\/(a.1=b.1/\a.2<b.2)):=by unfold ltB;exact decide_eq_false_iff_not
theorem Q2 (a:Z6):ltB a a=false:=by rw [Mc];omega
theorem So {a b:Z6} (h:ltB a b=true):ltB b a=false:=by rw [C9] at h;rw [Mc];omega
theorem TO {a b c:Z6} (h:ltB b a=false) (k:ltB c b=false):ltB c a=false:=by rw [Mc] at *;omega
theorem Bm {a b c:Z6} (h:ltB a b=true) (k:ltB b c=true):ltB a c=true:=by rw [C9] at *;omega
theorem Bl {a b:Z6} (h:ltB b a=false) (k:ltB a b=false):a=b:=by
  rw [Mc] at *;obtain ⟨a1,a2⟩:=a;obtain ⟨b1,b2⟩:=b;simp only at h k;rw [show a1=b1 by omega,show a2=b2 by omega]
def swp (ps:List Z6) (i j:Nat):List Z6:=(ps.set i (Z7 ps j)).set j (Z7 ps i)
theorem Cr (ps:List Z6) (i j:Nat):(swp ps i j).length=ps.length:=by simp [swp]
theorem Oh {ps:List Z6} {i:Nat} {x:Z6} (h:i<ps.length) (k:Nat):Z7 (ps.set i x) k=if k=i then x else Z7 ps k:=by
  unfold Z7
  by_cases e:k=i
  · subst e;simp [List.getD,h]
  · rw [if_neg e];simp [List.getD,Ne.symm e]
theorem Tf {ps:List Z6} {i j:Nat} (hi:i<ps.length) (hj:j<ps.length) (k:Nat):Z7 (swp ps i j) k=if k=j then Z7 ps i else if k=i then Z7 ps j else Z7 ps k:=by
  unfold swp
  rw [Oh (by simpa using hj),Oh hi]
theorem Tg {ps:List Z6} {i j:Nat} (hi:i<ps.length) (hj:j<ps.length):(swp ps i j).Perm ps:=by
  have:=List.set_set_perm hi hj
  unfold swp Z7
  simpa [List.getD,hi,hj] using this
def HeapTo (ps:List Z6) (n:Nat):Prop:= ∀ k,0<k->k<n->ltB (Z7 ps k) (Z7 ps ((k-1) / 2))=false
def UpTo (ps:List Z6) (n j:Nat):Prop:=
  (∀ k,0<k->k<n->k ≠ j->ltB (Z7 ps k) (Z7 ps ((k-1) / 2))=false)/\
  (∀ k,0<k->k<n->(k-1) / 2=j->0<j->ltB (Z7 ps k) (Z7 ps ((j-1) / 2))=false)
def DnTo (ps:List Z6) (n i0 i:Nat):Prop:=
  (∀ k,0<k->k<n->(k-1) / 2 ≠ i->(k ≠ i0\/i ≠ i0)->ltB (Z7 ps k) (Z7 ps ((k-1) / 2))=false)/\
  (∀ k,0<k->k<n->(k-1) / 2=i->0<i->ltB (Z7 ps k) (Z7 ps ((i-1) / 2))=false)
theorem UpTo.done {ps:List Z6} {n j:Nat} (h:UpTo ps n j) (hd:j=0\/ltB (Z7 ps j) (Z7 ps ((j-1) / 2))=false):HeapTo ps n:=fun k h0 hn=>by
  by_cases e:k=j
  · subst e
    rcases hd with hd | hd
    · omega
    · exact hd
  · exact h.1 k h0 hn e
theorem UpTo.step {ps:List Z6} {n j:Nat} (h:UpTo ps n j) (hj0:0<j) (hj:j<n) (hn:n<=ps.length) (hl:ltB (Z7 ps j) (Z7 ps ((j-1) / 2))=true):UpTo (swp ps ((j-1) / 2) j) n ((j-1) / 2):=by
  have hi:(j-1) / 2<j:=by omega
  have at':=fun k=>Tf (ps:=ps) (i:=(j-1) / 2) (j:=j) (by omega) (by omega) k
  generalize hi':(j-1) / 2=i at *
  have hp:ltB (Z7 ps i) (Z7 ps j)=false:=So hl
  refine ⟨fun k k0 kn kne=> ?_,fun k k0 kn kp i0=> ?_⟩
  · rw [at' k,at' ((k-1) / 2)]
    by_cases e1:k=j
    · subst e1
      rw [if_pos rfl,hi',if_neg (by omega),if_pos rfl]
      exact hp
    · rw [if_neg e1,if_neg kne]
      by_cases e2:(k-1) / 2=j
      · rw [if_pos e2]
        have:=h.2 k k0 kn e2 hj0
        rwa [hi'] at this
      · rw [if_neg e2]
        by_cases e3:(k-1) / 2=i
        · rw [if_pos e3]
          have:=h.1 k k0 kn e1
          rw [e3] at this
          exact TO hp this
        · rw [if_neg e3]
          exact h.1 k k0 kn e1
  · rw [at' k,at' ((i-1) / 2),if_neg (by omega:(i-1) / 2 ≠ j),if_neg (by omega:(i-1) / 2 ≠ i)]
    by_cases e1:k=j
    · rw [if_pos e1]
      exact h.1 i i0 (by omega) (by omega)
    · rw [if_neg e1,if_neg (by omega)]
      have h1:=h.1 k k0 kn e1
      rw [kp] at h1
      exact TO (h.1 i i0 (by omega) (by omega)) h1
theorem DnTo.still {ps:List Z6} {n i:Nat} (h:DnTo ps n i i) (hd:∀ k,0<k->k<n->(k-1) / 2=i->ltB (Z7 ps k) (Z7 ps i)=false):UpTo ps n i:=
  ⟨fun k k0 kn kne=>by
    by_cases e:(k-1) / 2=i
    · rw [e];exact hd k k0 kn e
    · exact h.1 k k0 kn e (.inl kne),h.2⟩
theorem DnTo.moved {ps:List Z6} {n i0 i:Nat} (h:DnTo ps n i0 i) (hm:i ≠ i0) (hd:∀ k,0<k->k<n->(k-1) / 2=i->ltB (Z7 ps k) (Z7 ps i)=false):HeapTo ps n:=fun k k0 kn=>by
  by_cases e:(k-1) / 2=i
  · rw [e];exact hd k k0 kn e
  · exact h.1 k k0 kn e (.inr hm)
theorem DnTo.step {ps : List Z6} {n i0 i j : Nat} (h : DnTo ps n i0 i) (hi0 : i0 ≤ i) (hj0 : 0 < j) (hji : (j - 1) / 2 = i) (hj : j < n) (hn : n ≤ ps.length) (hl : ltB (Z7 ps j) (Z7 ps i) = true)
    (hm : ∀ k, 0 < k → k < n → (k - 1) / 2 = i → ltB (Z7 ps k) (Z7 ps j) = false) : DnTo (swp ps i j) n i0 j := by
  have at' := fun k => Tf (ps := ps) (i := i) (j := j) (by omega) (by omega) k
  have hp : ltB (Z7 ps i) (Z7 ps j) = false := So hl
  refine ⟨fun k k0 kn kne _ => ?_, fun k k0 kn kp _ => ?_⟩
  · rw [at' k, at' ((k - 1) / 2), if_neg kne]
    by_cases e1 : k = j
    · subst e1
      rw [if_pos rfl, if_pos hji]
      exact hp
    · rw [if_neg e1]
      by_cases e2 : k = i
      · subst e2
        rw [if_pos rfl, if_neg (by omega)]
        exact h.2 j hj0 hj hji k0
      · rw [if_neg e2]
        by_cases e3 : (k - 1) / 2 = i
        · rw [if_pos e3]
          exact hm k k0 kn e3
        · rw [if_neg e3]
          exact h.1 k k0 kn e3 (by omega)
  · rw [at' k, at' ((j - 1) / 2), hji, if_neg (by omega : k ≠ j), if_neg (by omega : k ≠ i), if_neg (by omega : i ≠ j), if_pos rfl]
    have := h.1 k k0 kn (by omega) (by omega)
    rwa [kp] at this
theorem HeapTo.least {ps:List Z6} {n:Nat} (h:HeapTo ps n):∀ k,k<n->ltB (Z7 ps k) (Z7 ps 0)=false:=by
  intro k
  induction k using Nat.strongRecOn with
  | ind k ih=>
    intro hk
    by_cases e:k=0
    · subst e;exact Q2 _
    · exact TO (ih ((k-1) / 2) (by omega) (by omega)) (h k (by omega) hk)
theorem R1 {ps qs:List Z6} {k:Nat} (h:k<ps.length):Z7 (ps++qs) k=Z7 ps k:=by unfold Z7;simp [List.getD,List.getElem?_append_left h]
theorem VG {ps:List Z6} {n k:Nat} (h:k<n):Z7 (ps.take n) k=Z7 ps k:=by unfold Z7;simp [List.getD,h]
theorem HeapTo.push {ps:List Z6} (e:Z6) (h:HeapTo ps ps.length):UpTo (ps++[e]) (ps.length+1) ps.length:=
  ⟨fun k k0 kn kne=>by rw [R1 (by omega),R1 (by omega)];exact h k k0 (by omega),fun k k0 kn kp h0=>by omega⟩
theorem HeapTo.swap {ps:List Z6} {n i:Nat} (h:HeapTo ps (n+1)) (hl:ps.length=n+1) (hi:i<n):DnTo (swp ps i n) n i i:=by
  have at':=fun k=>Tf (ps:=ps) (i:=i) (j:=n) (by omega) (by omega) k
  refine ⟨fun k k0 kn kne kd=> ?_,fun k k0 kn kp i0=> ?_⟩
  · rw [at' k,at' ((k-1) / 2),if_neg (by omega),if_neg (by omega),if_neg (by omega),if_neg kne]
    exact h k k0 (by omega)
  · rw [at' k,at' ((i-1) / 2),if_neg (by omega),if_neg (by omega),if_neg (by omega),if_neg (by omega)]
    have h1:=h k k0 (by omega)
    rw [kp] at h1
    exact TO (h i i0 (by omega)) h1
abbrev Ris (ps:List Z6):Prop:=ps.Pairwise fun a b=>ltB b a=false
theorem Bv {ps qs:List Z6} (h:Ris ps) (k:Ris qs) (hp:ps.Perm qs):ps=qs:=
  hp.eq_of_pairwise (le:=fun a b=>ltB b a=false) (fun _ _ _ _ h1 h2=>Bl h1 h2) h k
theorem Du {ps:List Z6} (h:Ris ps):HeapTo ps ps.length:=fun k k0 kn=>by
  have hk:(k-1) / 2<k:=by omega
  have:=List.pairwise_iff_getElem.1 h ((k-1) / 2) k (by omega) kn hk
  unfold Z7
  simpa [List.getD,kn,(by omega:(k-1) / 2<ps.length)] using this
theorem Dv {ps : List Z6} {x : Z6} (h : Ris ps) (hx : ∀ y ∈ ps, ltB x y = false) : Ris (ps ++ [x]) := by
  unfold Ris; rw [List.pairwise_append]
  exact ⟨h, by simp, fun a ha b hb => by obtain rfl : b = x := by simpa using hb
                                         exact hx a ha⟩
theorem ON {ps:List Z6} {n:Nat} (h:ps.length=n+1):ps.take n++[Z7 ps n]=ps:=by
  have e:Z7 ps n=ps[n]:=by unfold Z7;simp [List.getD,h]
  rw [e,<-List.take_succ_eq_append_getElem (by omega),List.take_of_length_le (by omega)]
theorem Ys {ps:List Z6} {k:Nat} (h:k<ps.length):Z7 ps k ∈ ps:=by unfold Z7;simp [List.getD,h]
theorem TQ {ps:List Z6} {x:Z6} (h:x ∈ ps):∃ k,k<ps.length/\Z7 ps k=x:=by
  obtain ⟨k,hk,rfl⟩:=List.getElem_of_mem h
  exact ⟨k,hk,by unfold Z7;simp [List.getD,hk]⟩
def Nn (p:Z6):Bool:=inB p.1 (-1000000000000) 1000000000000 && inB p.2 0 99
def Wc (ps:List Z6) (who:Int):Int:=match ps.findIdx? (fun p=>p.2 ==who) with
  | some k=>k
  | none=> -1
def V8 (ps:List Z6) (k:Nat):Bool:=Nn (Z7 ps k) && ((k ==0 || ltB (Z7 ps (k-1)) (Z7 ps k)) && decide (Wc (ps.take k) (Z7 ps k).2<0))
def YS (ps:List Z6):Bool:=decide (ps.length<=100) && (List.range ps.length).all (V8 ps)
def Yq (e:Z6):List Z6->Nat
  | []=>0
  | p::ps=>if ltB p e then Yq e ps+1 else 0
def VH (ps:List Z6) (e:Z6):List Z6:=ps.take (Yq e ps)++e::ps.drop (Yq e ps)
def TZ (ps:List Z6) (e:Z6):List Z6 × Bool:=if YS ps then if YS (VH ps e) then (VH ps e,true) else (ps,false) else ([],false)
def TK (ps:List Z6):Z6 × Bool:=if YS ps && decide (0<ps.length) then (Z7 ps 0,true) else ((0,0),false)
theorem Nq {ps:List Z6} {who:Int} (h:∀ j,j<ps.length->(Z7 ps j).2 ≠ who):Wc ps who= -1:=by
  unfold Wc
  rw [List.findIdx?_eq_none_iff.2]
  intro p hp
  obtain ⟨k,hk,rfl⟩:=TQ hp
  simpa using h k hk
theorem Ge {ps:List Z6} {who:Int} {k:Nat} (hk:k<ps.length) (h:(Z7 ps k).2=who) (hn:∀ j,j<k->(Z7 ps j).2 ≠ who):Wc ps who=k:=by
  have e:∀ j (hj:j<ps.length),Z7 ps j=ps[j]:=fun j hj=>by unfold Z7;simp [List.getD,hj]
  unfold Wc
  rw [List.findIdx?_eq_some_iff_getElem.2 ⟨hk,by rw [<-e k hk];simpa using h,fun j hj=>by rw [<-e j (by omega)];simpa using hn j hj⟩]
theorem Pv (ps:List Z6) (who:Int):(Wc ps who= -1/\ ∀ j,j<ps.length->(Z7 ps j).2 ≠ who)\/ ∃ k:Nat,Wc ps who=k/\k<ps.length/\(Z7 ps k).2=who/\ ∀ j,j<k->(Z7 ps j).2 ≠ who:=by
  have e:∀ j (hj:j<ps.length),Z7 ps j=ps[j]:=fun j hj=>by unfold Z7;simp [List.getD,hj]
  cases hf:ps.findIdx? (fun p=>p.2 ==who) with
  | none=>
    left
    refine ⟨by unfold Wc;rw [hf],fun j hj=> ?_⟩
    have:=List.findIdx?_eq_none_iff.1 hf _ (Ys hj)
    simpa using this
  | some k=>
    right
    obtain ⟨hk,h1,h2⟩:=List.findIdx?_eq_some_iff_getElem.1 hf
    refine ⟨k,by unfold Wc;rw [hf],hk,by rw [e k hk];simpa using h1,fun j hj=> ?_⟩
    have:=h2 j hj
    rw [e j (by omega)];simpa using this
theorem CM (ps:List Z6) (who:Int) : -1<=Wc ps who/\Wc ps who<ps.length:=by
  rcases Pv ps who with ⟨h,_⟩ | ⟨k,h,hk,_⟩<;>omega
theorem JO {ps:List Z6} (hl:ps.length<=100) (h:∀ j,j<ps.length->V8 ps j=true):YS ps=true:=by
  unfold YS;simp only [Bool.and_eq_true,decide_eq_true_eq,List.all_eq_true];exact ⟨hl,fun j hj=>h j (List.mem_range.1 hj)⟩
theorem On {ps:List Z6} {j:Nat} (hj:j<ps.length) (h:V8 ps j=false):YS ps=false:=by
  unfold YS;rw [Bool.and_eq_false_iff];right;rw [List.all_eq_false];exact ⟨j,List.mem_range.2 hj,by simp [h]⟩
theorem GO {ps:List Z6} (hl:100<ps.length):YS ps=false:=by
  unfold YS;rw [Bool.and_eq_false_iff];left;exact decide_eq_false (by omega)
theorem EJ {ps:List Z6} (h:YS ps=true):ps.length<=100/\ ∀ j,j<ps.length->V8 ps j=true:=by
  unfold YS at h;simp only [Bool.and_eq_true,decide_eq_true_eq,List.all_eq_true] at h;exact ⟨h.1,fun j hj=>h.2 j (List.mem_range.2 hj)⟩
theorem OK {ps : List Z6} {k : Nat} (h : V8 ps k = true) : Nn (Z7 ps k) = true ∧ (0 < k → ltB (Z7 ps (k - 1)) (Z7 ps k) = true) ∧ Wc (ps.take k) (Z7 ps k).2 < 0 := by
  unfold V8 at h; simp only [Bool.and_eq_true, Bool.or_eq_true, decide_eq_true_eq, beq_iff_eq] at h
  exact ⟨h.1, fun h0 => by rcases h.2.1 with e | e; · omega
                           · exact e, h.2.2⟩
structure IsQ (ps:List Z6):Prop where
  len:ps.length<=100
  ent:∀ p ∈ ps,Nn p=true
  ord:ps.Pairwise fun a b=>ltB a b=true
  who:ps.Pairwise fun a b=>a.2 ≠ b.2
theorem Bu {ps:List Z6} (h:∀ k,0<k->k<ps.length->ltB (Z7 ps (k-1)) (Z7 ps k)=true):∀ i j,i<j->j<ps.length->ltB (Z7 ps i) (Z7 ps j)=true:=by
  intro i j
  induction j with
  | zero=>intro h;omega
  | succ j ih=>
    intro hij hj
    have h1:=h (j+1) (by omega) hj
    by_cases e:i=j
    · subst e;simpa using h1
    · exact Bm (ih (by omega) (by omega)) (by simpa using h1)
theorem Bj {ps:List Z6} (h:YS ps=true):IsQ ps:=by
  obtain ⟨hl,hs⟩:=EJ h
  have e:∀ j (hj:j<ps.length),Z7 ps j=ps[j]:=fun j hj=>by unfold Z7;simp [List.getD,hj]
  refine ⟨hl,fun p hp=> ?_,?_,?_⟩
  · obtain ⟨k,hk,rfl⟩:=TQ hp
    exact (OK (hs k hk)).1
  · rw [List.pairwise_iff_getElem]
    intro i j hi hj hij
    rw [<-e i hi,<-e j hj]
    exact Bu (fun k k0 kn=>(OK (hs k kn)).2.1 k0) i j hij hj
  · rw [List.pairwise_iff_getElem]
    intro i j hi hj hij
    rw [<-e i hi,<-e j hj]
    have h3:=(OK (hs j hj)).2.2
    rcases Pv (ps.take j) (Z7 ps j).2 with ⟨_,h4⟩ | ⟨k,h4,_⟩
    · have:=h4 i (by simp;omega)
      rwa [VG hij] at this
    · omega
theorem GP {ps:List Z6} (h:IsQ ps):YS ps=true:=by
  have e:∀ j (hj:j<ps.length),Z7 ps j=ps[j]:=fun j hj=>by unfold Z7;simp [List.getD,hj]
  refine JO h.len fun j hj=> ?_
  unfold V8
  simp only [Bool.and_eq_true,Bool.or_eq_true,decide_eq_true_eq,beq_iff_eq]
  refine ⟨h.ent _ (Ys hj),?_,?_⟩
  · by_cases h0:j=0
    · exact .inl h0
    · right
      rw [e j hj,e (j-1) (by omega)]
      exact List.pairwise_iff_getElem.1 h.ord (j-1) j (by omega) hj (by omega)
  · rw [Nq (fun i hi=> ?_)]
    · omega
    · have hi':i<j:=by simp at hi;omega
      rw [VG hi',e i (by omega),e j hj]
      exact List.pairwise_iff_getElem.1 h.who i j (by omega) hj hi'
theorem IsQ.ris {ps:List Z6} (h:IsQ ps):Ris ps:=h.ord.imp fun hab=>So hab
theorem N7 (e:Z6):∀ ps:List Z6,Yq e ps<=ps.length
  | []=>Nat.le_refl _
  | p::ps=>by have:=N7 e ps;unfold Yq;split<;>simp<;>omega
theorem N8 (e:Z6):∀ (ps:List Z6) (k:Nat),k<Yq e ps->ltB (Z7 ps k) e=true
  | [],k,h=>by simp [Yq] at h
  | p::ps,k,h=>by
    unfold Yq at h
    split at h
    · cases k with
      | zero=>simpa [Z7] using ‹ltB p e=true›
      | succ k=>
        have:=N8 e ps k (by omega)
        simpa [Z7] using this
    · omega
theorem N6 (e:Z6):∀ (ps:List Z6),Yq e ps<ps.length->ltB (Z7 ps (Yq e ps)) e=false
  | [],h=>by simp at h
  | p::ps,h=>by
    unfold Yq at h ⊢
    by_cases hp:ltB p e=true
    · rw [if_pos hp] at h ⊢
      have:=N6 e ps (by simpa using h)
      simpa [Z7] using this
    · rw [if_neg hp] at h ⊢
      simpa [Z7] using hp
theorem C5 {e:Z6} {ps:List Z6} {k:Nat} (hk:k<=ps.length) (h:∀ j,j<k->ltB (Z7 ps j) e=true) (hn:k=ps.length\/ltB (Z7 ps k) e=false):Yq e ps=k:=by
  rcases Nat.lt_trichotomy (Yq e ps) k with h1 | h1 | h1
  · have h2:=N6 e ps (by omega)
    rw [h _ h1] at h2;cases h2
  · exact h1
  · rcases hn with hn | hn
    · have:=N7 e ps;omega
    · have:=N8 e ps k h1
      rw [hn] at this;cases this
theorem Sw (ps:List Z6) (e:Z6):(VH ps e).Perm (ps++[e]):=by
  unfold VH
  have h1:(ps.take (Yq e ps)++e::ps.drop (Yq e ps)).Perm (e::(ps.take (Yq e ps)++ps.drop (Yq e ps))):=List.perm_middle
  rw [List.take_append_drop] at h1
  exact h1.trans (List.perm_append_comm (l₁:=[e]) (l₂:=ps))
theorem Dr (ps:List Z6) (e:Z6):(VH ps e).length=ps.length+1:=by have:=(Sw ps e).length_eq;simpa using this
theorem JL {ps:List Z6} (h:Ris ps) (e:Z6):Ris (VH ps e):=by
  have hle:=N7 e ps
  have hdr:∀ y ∈ ps.drop (Yq e ps),ltB y e=false:=fun y hy=>by
    obtain ⟨k,hk,rfl⟩:=List.getElem_of_mem hy
    have hk':Yq e ps+k<ps.length:=by simp at hk;omega
    rw [List.getElem_drop]
    have h0:=N6 e ps (by omega)
    have e0:Z7 ps (Yq e ps)=ps[Yq e ps]'(by omega):=by unfold Z7;simp [List.getD,(by omega:Yq e ps<ps.length)]
    rw [e0] at h0
    by_cases hz:k=0
    · subst hz;simpa using h0
    · have h1:=List.pairwise_iff_getElem.1 h (Yq e ps) (Yq e ps+k) (by omega) hk' (by omega)
      exact TO h0 h1
  have hta:∀ y ∈ ps.take (Yq e ps),ltB y e=true:=fun y hy=>by
    obtain ⟨k,hk,rfl⟩:=List.getElem_of_mem hy
    have hk':k<Yq e ps:=by simp at hk;omega
    have:=N8 e ps k hk'
    rw [List.getElem_take]
    unfold Z7 at this
    simpa [List.getD,(by omega:k<ps.length)] using this
  unfold VH Ris
  rw [List.pairwise_append,List.pairwise_cons]
  refine ⟨h.sublist (List.take_sublist _ _),⟨fun y hy=>hdr y hy,h.sublist (List.drop_sublist _ _)⟩,fun a ha b hb=> ?_⟩
  rcases List.mem_cons.1 hb with rfl | hb
  · exact So (hta a ha)
  · exact TO (So (hta a ha)) (hdr b hb)
theorem G9 {ps qs:List Z6} {e:Z6} (h:IsQ ps) (hq:Ris qs) (hp:qs.Perm (ps++[e])):qs=VH ps e:=
  Bv hq (JL h.ris e) (hp.trans (Sw ps e).symm)
def atV (ss:List Z2) (b:Int):Nat->List Z6
 | 0=>[]
 | k+1=>if (Z8 ss k).2.1=b/\ZW (Z8 ss k)=true then VH (atV ss b k) ((Z8 ss k).2.2.2.2.2.2.2.1,(k:Int)) else atV ss b k
theorem UG (ss:List Z2) (b:Int):∀ k,(atV ss b k).length<=k
 | 0=>Nat.le_refl _
 | k+1=>by
  have:=UG ss b k
  unfold atV
  split
  ·rw [Dr];omega
  ·omega
theorem UB {ss:List Z2} {b:Int} {k:Nat} (h:¬ ((Z8 ss k).2.1=b/\ZW (Z8 ss k)=true)):atV ss b (k+1)=atV ss b k:=by rw [atV,if_neg h]
theorem Ve {ss:List Z2} {b:Int} {k:Nat} (h1:(Z8 ss k).2.1=b) (h2:ZW (Z8 ss k)=true):atV ss b (k+1)=VH (atV ss b k) ((Z8 ss k).2.2.2.2.2.2.2.1,(k:Int)):=by rw [atV,if_pos ⟨h1,h2⟩]
def Yp (m:Z4) (b:Int):Bool:=inB b 0 ((m.desks.length:Int)-1)
def XS (s:Z2):Int:=s.2.2.2.2.2.2.2.1
theorem Ds {ps:List Z6} {x e:Z6} : e ∈ VH ps x ↔ e ∈ ps\/e=x:=by
 rw [(Sw ps x).mem_iff];simp
theorem Yl (ss:List Z2) (b:Int) (e:Z6):∀ k,e ∈ atV ss b k ↔ ∃ i:Nat,i<k/\(Z8 ss i).2.1=b/\ZW (Z8 ss i)=true/\e=(XS (Z8 ss i),(i:Int))
 | 0=>by simp [atV]
 | k+1=>by
  have ih:=Yl ss b e k
  by_cases h:(Z8 ss k).2.1=b/\ZW (Z8 ss k)=true
  ·rw [Ve h.1 h.2,Ds,ih]
   constructor
   ·rintro (⟨i,hi,h1,h2,h3⟩ | h3)
    ·exact ⟨i,by omega,h1,h2,h3⟩
    ·exact ⟨k,by omega,h.1,h.2,h3⟩
   ·rintro ⟨i,hi,h1,h2,h3⟩
    by_cases hik:i=k
    ·subst hik;exact .inr h3
    ·exact .inl ⟨i,by omega,h1,h2,h3⟩
  ·rw [UB h,ih]
   constructor
   ·rintro ⟨i,hi,h1,h2,h3⟩
    exact ⟨i,by omega,h1,h2,h3⟩
   ·rintro ⟨i,hi,h1,h2,h3⟩
    by_cases hik:i=k
    ·subst hik;exact absurd ⟨h1,h2⟩ h
    ·exact ⟨i,by omega,h1,h2,h3⟩
theorem OX (ss:List Z2) (b:Int):∀ k,Ris (atV ss b k)
 | 0=>List.Pairwise.nil
 | k+1=>by
  by_cases h:(Z8 ss k).2.1=b/\ZW (Z8 ss k)=true
  ·rw [Ve h.1 h.2];exact JL (OX ss b k) _
  ·rw [UB h];exact OX ss b k
theorem Ub (ss:List Z2) (b:Int):∀ k,(atV ss b k).Pairwise fun x y=>x.2 ≠ y.2
 | 0=>List.Pairwise.nil
 | k+1=>by
  by_cases h:(Z8 ss k).2.1=b/\ZW (Z8 ss k)=true
  ·rw [Ve h.1 h.2]
   refine (Sw (atV ss b k) _).symm.pairwise ?_ (fun h=>Ne.symm h)
   rw [List.pairwise_append]
   refine ⟨Ub ss b k,by simp,fun x hx y hy=> ?_⟩
   obtain rfl:y=_:=by simpa using hy
   obtain ⟨i,hi,_,_,rfl⟩:=(Yl ss b x k).1 hx
   show (i:Int) ≠ (k:Int)
   omega
  ·rw [UB h];exact Ub ss b k
def Alike (ss ss':List Z2) (k:Nat):Prop:= ∀ i,i<k->(Z8 ss' i).2.1=(Z8 ss i).2.1/\ZW (Z8 ss' i)=ZW (Z8 ss i)/\XS (Z8 ss' i)=XS (Z8 ss i)
theorem Se {ss ss':List Z2} (b:Int):∀ k,Alike ss ss' k->atV ss' b k=atV ss b k
 | 0,_=>rfl
 | k+1,h=>by
  have ih:=Se b k (fun i hi=>h i (by omega))
  obtain ⟨h1,h2,h3⟩:=h k (by omega)
  unfold atV
  rw [h1,h2,ih,show (Z8 ss' k).2.2.2.2.2.2.2.1=(Z8 ss k).2.2.2.2.2.2.2.1 from h3]
def Xz (ss:List Z2) (b:Int):Int:=match atV ss b ss.length with
 | []=> -1
 | h::_=>h.2
theorem TJ {ss:List Z2} {b:Int} {e:Z6} {t:List Z6} (h:atV ss b ss.length=e::t):Xz ss b=e.2/\ ∃ i:Nat,i<ss.length/\(Z8 ss i).2.1=b/\ZW (Z8 ss i)=true/\e=(XS (Z8 ss i),(i:Int)):=by
 refine ⟨by unfold Xz;rw [h],?_⟩
 exact (Yl ss b e ss.length).1 (by rw [h];simp)
theorem Pw {ss:List Z2} {b:Int} {e:Z6} {t:List Z6} (h:atV ss b ss.length=e::t) {i:Nat} (hi:i<ss.length) (h1:(Z8 ss i).2.1=b) (h2:ZW (Z8 ss i)=true):e.1<=XS (Z8 ss i):=by
 have hm:(XS (Z8 ss i),(i:Int)) ∈ atV ss b ss.length:=(Yl ss b _ ss.length).2 ⟨i,hi,h1,h2,rfl⟩
 have hr:=OX ss b ss.length
 rw [h] at hm hr
 rcases List.mem_cons.1 hm with he | ht
 ·rw [<-he];exact Int.le_refl _
 ·have:=(List.pairwise_cons.1 hr).1 _ ht
  rw [Mc] at this
  simp only at this
  omega
def WC (x:Int):Bool:=inB x (-1000000000000) 1000000000000
def VN (h m:Int):Bool:=(WC h && WC m) && inB (h-m) (-20000) 63000
def YR (h f t:Int):Int:=if WC h && (WC f && WC t) then h-f+t else h
def ZM (m f:Int):Int:=if WC m && WC f then min (max m f) 900000000000 else m
theorem RD {x:Int} (h:WC x=true) : -1000000000000<=x/\x<=1000000000000:=ZP h
theorem Fk (x y:Int):([x,y].all fun z=>inB z (-1000000000000) 1000000000000)=(WC x && WC y):=by simp [WC]
theorem BF (x y z:Int):([x,y,z].all fun z=>inB z (-1000000000000) 1000000000000)=(WC x && (WC y && WC z)):=by simp [WC]
theorem BY (h m:Int):([h].all fun z=>inB z (m-20000) (m+63000))=inB (h-m) (-20000) 63000:=by
 simp only [List.all_cons,List.all_nil,Bool.and_true]
 unfold inB
 congr 1
 exact propext ⟨fun h=>by omega,fun h=>by omega⟩
theorem Nt {x:Int} (h0 : -1000000000000<=x) (h1:x<=1000000000000):WC x=true:=Zj h0 h1
theorem Df {h f t:Int} (h0 : -1000000000000<=h) (h1:h<=1000000000000) (f0 : -1000000000000<=f) (f1:f<=1000000000000) (t0 : -1000000000000<=t) (t1:t<=1000000000000):YR h f t=h-f+t:=by
 unfold YR;rw [Nt h0 h1,Nt f0 f1,Nt t0 t1];rfl
theorem Md {m f:Int} (m0 : -1000000000000<=m) (m1:m<=1000000000000) (f0 : -1000000000000<=f) (f1:f<=1000000000000):ZM m f=min (max m f) 900000000000:=by
 unfold ZM;rw [Nt m0 m1,Nt f0 f1];rfl
end Go.Proofs.YtjhijildaceadaaGreatDoor
