/- Part 4 of what the proof rests on. No condition but those that a theorem names. -/
import Derived.Test.YtffcgajndmhpkaaGreatDoorXt03
namespace Go.Proofs.YtffcgajndmhpkaaGreatDoor
set_option linter.unusedVariables false
def ltB (a b:Z4):Bool:=decide (a.1<b.1\/(a.1=b.1/\a.2<b.2))
theorem DL {a b:Z4} : ltB a b=true ↔ (a.1<b.1\/(a.1=b.1/\a.2<b.2)):=by unfold ltB;exact decide_eq_true_iff
theorem MG {a b:Z4} : ltB a b=false ↔ ¬ (a.1<b.1\/(a.1=b.1/\a.2<b.2)):=by unfold ltB;exact decide_eq_false_iff_not
theorem RC (a:Z4):ltB a a=false:=by rw [MG];omega
theorem SK {a b:Z4} (h:ltB a b=true):ltB b a=false:=by rw [DL] at h;rw [MG];omega
theorem TX {a b c:Z4} (h:ltB b a=false) (k:ltB c b=false):ltB c a=false:=by rw [MG] at *;omega
theorem BY {a b c:Z4} (h:ltB a b=true) (k:ltB b c=true):ltB a c=true:=by rw [DL] at *;omega
theorem BX {a b:Z4} (h:ltB b a=false) (k:ltB a b=false):a=b:=by
  rw [MG] at *;obtain ⟨a1,a2⟩:=a;obtain ⟨b1,b2⟩:=b;simp only at h k;rw [show a1=b1 by omega,show a2=b2 by omega]
def swp (ps:List Z4) (i j:Nat):List Z4:=(ps.set i (Z7 ps j)).set j (Z7 ps i)
theorem C9 (ps:List Z4) (i j:Nat):(swp ps i j).length=ps.length:=by simp [swp]
theorem OL {ps:List Z4} {i:Nat} {x:Z4} (h:i<ps.length) (k:Nat):Z7 (ps.set i x) k=if k=i then x else Z7 ps k:=by
  unfold Z7
  by_cases e:k=i
  · subst e;simp [List.getD,h]
  · rw [if_neg e];simp [List.getD,Ne.symm e]
theorem Tu {ps:List Z4} {i j:Nat} (hi:i<ps.length) (hj:j<ps.length) (k:Nat):Z7 (swp ps i j) k=if k=j then Z7 ps i else if k=i then Z7 ps j else Z7 ps k:=by
  unfold swp
  rw [OL (by simpa using hj),OL hi]
theorem Tv {ps:List Z4} {i j:Nat} (hi:i<ps.length) (hj:j<ps.length):(swp ps i j).Perm ps:=by
  have:=List.set_set_perm hi hj
  unfold swp Z7
  simpa [List.getD,hi,hj] using this
def HeapTo (ps:List Z4) (n:Nat):Prop:= ∀ k,0<k->k<n->ltB (Z7 ps k) (Z7 ps ((k-1) / 2))=false
def UpTo (ps:List Z4) (n j:Nat):Prop:=
  (∀ k,0<k->k<n->k ≠ j->ltB (Z7 ps k) (Z7 ps ((k-1) / 2))=false)/\
  (∀ k,0<k->k<n->(k-1) / 2=j->0<j->ltB (Z7 ps k) (Z7 ps ((j-1) / 2))=false)
def DnTo (ps:List Z4) (n i0 i:Nat):Prop:=
  (∀ k,0<k->k<n->(k-1) / 2 ≠ i->(k ≠ i0\/i ≠ i0)->ltB (Z7 ps k) (Z7 ps ((k-1) / 2))=false)/\
  (∀ k,0<k->k<n->(k-1) / 2=i->0<i->ltB (Z7 ps k) (Z7 ps ((i-1) / 2))=false)
theorem UpTo.done {ps:List Z4} {n j:Nat} (h:UpTo ps n j) (hd:j=0\/ltB (Z7 ps j) (Z7 ps ((j-1) / 2))=false):HeapTo ps n:=fun k h0 hn=>by
  by_cases e:k=j
  · subst e
    rcases hd with hd | hd
    · omega
    · exact hd
  · exact h.1 k h0 hn e
theorem UpTo.step {ps:List Z4} {n j:Nat} (h:UpTo ps n j) (hj0:0<j) (hj:j<n) (hn:n<=ps.length) (hl:ltB (Z7 ps j) (Z7 ps ((j-1) / 2))=true):UpTo (swp ps ((j-1) / 2) j) n ((j-1) / 2):=by
  have hi:(j-1) / 2<j:=by omega
  have at':=fun k=>Tu (ps:=ps) (i:=(j-1) / 2) (j:=j) (by omega) (by omega) k
  generalize hi':(j-1) / 2=i at *
  have hp:ltB (Z7 ps i) (Z7 ps j)=false:=SK hl
  refine ⟨fun k k0 kn kne=> ?_,fun k k0 kn kp i0=> ?_⟩
  · rw [at' k,at' ((k-1) / 2)]
    by_cases e1:k=j
    · subst e1
      rw [if_pos rfl,hi',if_neg (by omega),if_pos rfl]
      exact hp
    · rw [if_neg e1,if_neg kne]
      by_cases e2:(k-1) / 2=j
      · rw [if_pos e2]
        have:=h.2 k k0 kn e2 hj0
        rwa [hi'] at this
      · rw [if_neg e2]
        by_cases e3:(k-1) / 2=i
        · rw [if_pos e3]
          have:=h.1 k k0 kn e1
          rw [e3] at this
          exact TX hp this
        · rw [if_neg e3]
          exact h.1 k k0 kn e1
  · rw [at' k,at' ((i-1) / 2),if_neg (by omega:(i-1) / 2 ≠ j),if_neg (by omega:(i-1) / 2 ≠ i)]
    by_cases e1:k=j
    · rw [if_pos e1]
      exact h.1 i i0 (by omega) (by omega)
    · rw [if_neg e1,if_neg (by omega)]
      have h1:=h.1 k k0 kn e1
      rw [kp] at h1
      exact TX (h.1 i i0 (by omega) (by omega)) h1
theorem DnTo.still {ps:List Z4} {n i:Nat} (h:DnTo ps n i i) (hd:∀ k,0<k->k<n->(k-1) / 2=i->ltB (Z7 ps k) (Z7 ps i)=false):UpTo ps n i:=
  ⟨fun k k0 kn kne=>by
    by_cases e:(k-1) / 2=i
    · rw [e];exact hd k k0 kn e
    · exact h.1 k k0 kn e (.inl kne),h.2⟩
theorem DnTo.moved {ps:List Z4} {n i0 i:Nat} (h:DnTo ps n i0 i) (hm:i ≠ i0) (hd:∀ k,0<k->k<n->(k-1) / 2=i->ltB (Z7 ps k) (Z7 ps i)=false):HeapTo ps n:=fun k k0 kn=>by
  by_cases e:(k-1) / 2=i
  · rw [e];exact hd k k0 kn e
  · exact h.1 k k0 kn e (.inr hm)
theorem DnTo.step {ps : List Z4} {n i0 i j : Nat} (h : DnTo ps n i0 i) (hi0 : i0 ≤ i) (hj0 : 0 < j) (hji : (j - 1) / 2 = i) (hj : j < n) (hn : n ≤ ps.length) (hl : ltB (Z7 ps j) (Z7 ps i) = true)
    (hm : ∀ k, 0 < k → k < n → (k - 1) / 2 = i → ltB (Z7 ps k) (Z7 ps j) = false) : DnTo (swp ps i j) n i0 j := by
  have at' := fun k => Tu (ps := ps) (i := i) (j := j) (by omega) (by omega) k
  have hp : ltB (Z7 ps i) (Z7 ps j) = false := SK hl
  refine ⟨fun k k0 kn kne _ => ?_, fun k k0 kn kp _ => ?_⟩
  · rw [at' k, at' ((k - 1) / 2), if_neg kne]
    by_cases e1 : k = j
    · subst e1
      rw [if_pos rfl, if_pos hji]
      exact hp
    · rw [if_neg e1]
      by_cases e2 : k = i
      · subst e2
        rw [if_pos rfl, if_neg (by omega)]
        exact h.2 j hj0 hj hji k0
      · rw [if_neg e2]
        by_cases e3 : (k - 1) / 2 = i
        · rw [if_pos e3]
          exact hm k k0 kn e3
        · rw [if_neg e3]
          exact h.1 k k0 kn e3 (by omega)
  · rw [at' k, at' ((j - 1) / 2), hji, if_neg (by omega : k ≠ j), if_neg (by omega : k ≠ i), if_neg (by omega : i ≠ j), if_pos rfl]
    have := h.1 k k0 kn (by omega) (by omega)
    rwa [kp] at this
theorem HeapTo.least {ps:List Z4} {n:Nat} (h:HeapTo ps n):∀ k,k<n->ltB (Z7 ps k) (Z7 ps 0)=false:=by
  intro k
  induction k using Nat.strongRecOn with
  | ind k ih=>
    intro hk
    by_cases e:k=0
    · subst e;exact RC _
    · exact TX (ih ((k-1) / 2) (by omega) (by omega)) (h k (by omega) hk)
theorem Sr {ps qs:List Z4} {k:Nat} (h:k<ps.length):Z7 (ps++qs) k=Z7 ps k:=by unfold Z7;simp [List.getD,List.getElem?_append_left h]
theorem V7 {ps:List Z4} {n k:Nat} (h:k<n):Z7 (ps.take n) k=Z7 ps k:=by unfold Z7;simp [List.getD,h]
theorem HeapTo.push {ps:List Z4} (e:Z4) (h:HeapTo ps ps.length):UpTo (ps++[e]) (ps.length+1) ps.length:=
  ⟨fun k k0 kn kne=>by rw [Sr (by omega),Sr (by omega)];exact h k k0 (by omega),fun k k0 kn kp h0=>by omega⟩
theorem HeapTo.swap {ps:List Z4} {n i:Nat} (h:HeapTo ps (n+1)) (hl:ps.length=n+1) (hi:i<n):DnTo (swp ps i n) n i i:=by
  have at':=fun k=>Tu (ps:=ps) (i:=i) (j:=n) (by omega) (by omega) k
  refine ⟨fun k k0 kn kne kd=> ?_,fun k k0 kn kp i0=> ?_⟩
  · rw [at' k,at' ((k-1) / 2),if_neg (by omega),if_neg (by omega),if_neg (by omega),if_neg kne]
    exact h k k0 (by omega)
  · rw [at' k,at' ((i-1) / 2),if_neg (by omega),if_neg (by omega),if_neg (by omega),if_neg (by omega)]
    have h1:=h k k0 (by omega)
    rw [kp] at h1
    exact TX (h i i0 (by omega)) h1
abbrev Ris (ps:List Z4):Prop:=ps.Pairwise fun a b=>ltB b a=false
theorem Ci {ps qs:List Z4} (h:Ris ps) (k:Ris qs) (hp:ps.Perm qs):ps=qs:=
  hp.eq_of_pairwise (le:=fun a b=>ltB b a=false) (fun _ _ _ _ h1 h2=>BX h1 h2) h k
theorem D8 {ps:List Z4} (h:Ris ps):HeapTo ps ps.length:=fun k k0 kn=>by
  have hk:(k-1) / 2<k:=by omega
  have:=List.pairwise_iff_getElem.1 h ((k-1) / 2) k (by omega) kn hk
  unfold Z7
  simpa [List.getD,kn,(by omega:(k-1) / 2<ps.length)] using this
theorem D9 {ps : List Z4} {x : Z4} (h : Ris ps) (hx : ∀ y ∈ ps, ltB x y = false) : Ris (ps ++ [x]) := by
  unfold Ris; rw [List.pairwise_append]
  exact ⟨h, by simp, fun a ha b hb => by obtain rfl : b = x := by simpa using hb
                                         exact hx a ha⟩
theorem Pg {ps:List Z4} {n:Nat} (h:ps.length=n+1):ps.take n++[Z7 ps n]=ps:=by
  have e:Z7 ps n=ps[n]:=by unfold Z7;simp [List.getD,h]
  rw [e,<-List.take_succ_eq_append_getElem (by omega),List.take_of_length_le (by omega)]
theorem XQ {ps:List Z4} {k:Nat} (h:k<ps.length):Z7 ps k ∈ ps:=by unfold Z7;simp [List.getD,h]
theorem TZ {ps:List Z4} {x:Z4} (h:x ∈ ps):∃ k,k<ps.length/\Z7 ps k=x:=by
  obtain ⟨k,hk,rfl⟩:=List.getElem_of_mem h
  exact ⟨k,hk,by unfold Z7;simp [List.getD,hk]⟩
def N9 (p:Z4):Bool:=inB p.1 (-1000000000000) 1000000000000 && inB p.2 0 99
def WA (ps:List Z4) (who:Int):Int:=match ps.findIdx? (fun p=>p.2 ==who) with
  | some k=>k
  | none=> -1
def Wv (ps:List Z4) (k:Nat):Bool:=N9 (Z7 ps k) && ((k ==0 || ltB (Z7 ps (k-1)) (Z7 ps k)) && decide (WA (ps.take k) (Z7 ps k).2<0))
def YJ (ps:List Z4):Bool:=decide (ps.length<=100) && (List.range ps.length).all (Wv ps)
def XW (e:Z4):List Z4->Nat
  | []=>0
  | p::ps=>if ltB p e then XW e ps+1 else 0
def U5 (ps:List Z4) (e:Z4):List Z4:=ps.take (XW e ps)++e::ps.drop (XW e ps)
def Ub (ps:List Z4) (e:Z4):List Z4 × Bool:=if YJ ps then if YJ (U5 ps e) then (U5 ps e,true) else (ps,false) else ([],false)
def TM (ps:List Z4):Z4 × Bool:=if YJ ps && decide (0<ps.length) then (Z7 ps 0,true) else ((0,0),false)
theorem Ob {ps:List Z4} {who:Int} (h:∀ j,j<ps.length->(Z7 ps j).2 ≠ who):WA ps who= -1:=by
  unfold WA
  rw [List.findIdx?_eq_none_iff.2]
  intro p hp
  obtain ⟨k,hk,rfl⟩:=TZ hp
  simpa using h k hk
theorem GS {ps:List Z4} {who:Int} {k:Nat} (hk:k<ps.length) (h:(Z7 ps k).2=who) (hn:∀ j,j<k->(Z7 ps j).2 ≠ who):WA ps who=k:=by
  have e:∀ j (hj:j<ps.length),Z7 ps j=ps[j]:=fun j hj=>by unfold Z7;simp [List.getD,hj]
  unfold WA
  rw [List.findIdx?_eq_some_iff_getElem.2 ⟨hk,by rw [<-e k hk];simpa using h,fun j hj=>by rw [<-e j (by omega)];simpa using hn j hj⟩]
theorem P8 (ps:List Z4) (who:Int):(WA ps who= -1/\ ∀ j,j<ps.length->(Z7 ps j).2 ≠ who)\/ ∃ k:Nat,WA ps who=k/\k<ps.length/\(Z7 ps k).2=who/\ ∀ j,j<k->(Z7 ps j).2 ≠ who:=by
  have e:∀ j (hj:j<ps.length),Z7 ps j=ps[j]:=fun j hj=>by unfold Z7;simp [List.getD,hj]
  cases hf:ps.findIdx? (fun p=>p.2 ==who) with
  | none=>
    left
    refine ⟨by unfold WA;rw [hf],fun j hj=> ?_⟩
    have:=List.findIdx?_eq_none_iff.1 hf _ (XQ hj)
    simpa using this
  | some k=>
    right
    obtain ⟨hk,h1,h2⟩:=List.findIdx?_eq_some_iff_getElem.1 hf
    refine ⟨k,by unfold WA;rw [hf],hk,by rw [e k hk];simpa using h1,fun j hj=> ?_⟩
    have:=h2 j hj
    rw [e j (by omega)];simpa using this
theorem Du (ps:List Z4) (who:Int) : -1<=WA ps who/\WA ps who<ps.length:=by
  rcases P8 ps who with ⟨h,_⟩ | ⟨k,h,hk,_⟩<;>omega
theorem Kz {ps:List Z4} (hl:ps.length<=100) (h:∀ j,j<ps.length->Wv ps j=true):YJ ps=true:=by
  unfold YJ;simp only [Bool.and_eq_true,decide_eq_true_eq,List.all_eq_true];exact ⟨hl,fun j hj=>h j (List.mem_range.1 hj)⟩
theorem OP {ps:List Z4} {j:Nat} (hj:j<ps.length) (h:Wv ps j=false):YJ ps=false:=by
  unfold YJ;rw [Bool.and_eq_false_iff];right;rw [List.all_eq_false];exact ⟨j,List.mem_range.2 hj,by simp [h]⟩
theorem Iw {ps:List Z4} (hl:100<ps.length):YJ ps=false:=by
  unfold YJ;rw [Bool.and_eq_false_iff];left;exact decide_eq_false (by omega)
theorem Ft {ps:List Z4} (h:YJ ps=true):ps.length<=100/\ ∀ j,j<ps.length->Wv ps j=true:=by
  unfold YJ at h;simp only [Bool.and_eq_true,decide_eq_true_eq,List.all_eq_true] at h;exact ⟨h.1,fun j hj=>h.2 j (List.mem_range.2 hj)⟩
theorem Pf {ps : List Z4} {k : Nat} (h : Wv ps k = true) : N9 (Z7 ps k) = true ∧ (0 < k → ltB (Z7 ps (k - 1)) (Z7 ps k) = true) ∧ WA (ps.take k) (Z7 ps k).2 < 0 := by
  unfold Wv at h; simp only [Bool.and_eq_true, Bool.or_eq_true, decide_eq_true_eq, beq_iff_eq] at h
  exact ⟨h.1, fun h0 => by rcases h.2.1 with e | e; · omega
                           · exact e, h.2.2⟩
structure IsQ (ps:List Z4):Prop where
  len:ps.length<=100
  ent:∀ p ∈ ps,N9 p=true
  ord:ps.Pairwise fun a b=>ltB a b=true
  who:ps.Pairwise fun a b=>a.2 ≠ b.2
theorem Cf {ps:List Z4} (h:∀ k,0<k->k<ps.length->ltB (Z7 ps (k-1)) (Z7 ps k)=true):∀ i j,i<j->j<ps.length->ltB (Z7 ps i) (Z7 ps j)=true:=by
  intro i j
  induction j with
  | zero=>intro h;omega
  | succ j ih=>
    intro hij hj
    have h1:=h (j+1) (by omega) hj
    by_cases e:i=j
    · subst e;simpa using h1
    · exact BY (ih (by omega) (by omega)) (by simpa using h1)
theorem BS {ps:List Z4} (h:YJ ps=true):IsQ ps:=by
  obtain ⟨hl,hs⟩:=Ft h
  have e:∀ j (hj:j<ps.length),Z7 ps j=ps[j]:=fun j hj=>by unfold Z7;simp [List.getD,hj]
  refine ⟨hl,fun p hp=> ?_,?_,?_⟩
  · obtain ⟨k,hk,rfl⟩:=TZ hp
    exact (Pf (hs k hk)).1
  · rw [List.pairwise_iff_getElem]
    intro i j hi hj hij
    rw [<-e i hi,<-e j hj]
    exact Cf (fun k k0 kn=>(Pf (hs k kn)).2.1 k0) i j hij hj
  · rw [List.pairwise_iff_getElem]
    intro i j hi hj hij
    rw [<-e i hi,<-e j hj]
    have h3:=(Pf (hs j hj)).2.2
    rcases P8 (ps.take j) (Z7 ps j).2 with ⟨_,h4⟩ | ⟨k,h4,_⟩
    · have:=h4 i (by simp;omega)
      rwa [V7 hij] at this
    · omega
theorem Ix {ps:List Z4} (h:IsQ ps):YJ ps=true:=by
  have e:∀ j (hj:j<ps.length),Z7 ps j=ps[j]:=fun j hj=>by unfold Z7;simp [List.getD,hj]
  refine Kz h.len fun j hj=> ?_
  unfold Wv
  simp only [Bool.and_eq_true,Bool.or_eq_true,decide_eq_true_eq,beq_iff_eq]
  refine ⟨h.ent _ (XQ hj),?_,?_⟩
  · by_cases h0:j=0
    · exact .inl h0
    · right
      rw [e j hj,e (j-1) (by omega)]
      exact List.pairwise_iff_getElem.1 h.ord (j-1) j (by omega) hj (by omega)
  · rw [Ob (fun i hi=> ?_)]
    · omega
    · have hi':i<j:=by simp at hi;omega
      rw [V7 hi',e i (by omega),e j hj]
      exact List.pairwise_iff_getElem.1 h.who i j (by omega) hj hi'
theorem IsQ.ris {ps:List Z4} (h:IsQ ps):Ris ps:=h.ord.imp fun hab=>SK hab
theorem OE (e:Z4):∀ ps:List Z4,XW e ps<=ps.length
  | []=>Nat.le_refl _
  | p::ps=>by have:=OE e ps;unfold XW;split<;>simp<;>omega
theorem OF (e:Z4):∀ (ps:List Z4) (k:Nat),k<XW e ps->ltB (Z7 ps k) e=true
  | [],k,h=>by simp [XW] at h
  | p::ps,k,h=>by
    unfold XW at h
    split at h
    · cases k with
      | zero=>simpa [Z7] using ‹ltB p e=true›
      | succ k=>
        have:=OF e ps k (by omega)
        simpa [Z7] using this
    · omega
theorem OD (e:Z4):∀ (ps:List Z4),XW e ps<ps.length->ltB (Z7 ps (XW e ps)) e=false
  | [],h=>by simp at h
  | p::ps,h=>by
    unfold XW at h ⊢
    by_cases hp:ltB p e=true
    · rw [if_pos hp] at h ⊢
      have:=OD e ps (by simpa using h)
      simpa [Z7] using this
    · rw [if_neg hp] at h ⊢
      simpa [Z7] using hp
theorem DJ {e:Z4} {ps:List Z4} {k:Nat} (hk:k<=ps.length) (h:∀ j,j<k->ltB (Z7 ps j) e=true) (hn:k=ps.length\/ltB (Z7 ps k) e=false):XW e ps=k:=by
  rcases Nat.lt_trichotomy (XW e ps) k with h1 | h1 | h1
  · have h2:=OD e ps (by omega)
    rw [h _ h1] at h2;cases h2
  · exact h1
  · rcases hn with hn | hn
    · have:=OE e ps;omega
    · have:=OF e ps k h1
      rw [hn] at this;cases this
theorem SM (ps:List Z4) (e:Z4):(U5 ps e).Perm (ps++[e]):=by
  unfold U5
  have h1:(ps.take (XW e ps)++e::ps.drop (XW e ps)).Perm (e::(ps.take (XW e ps)++ps.drop (XW e ps))):=List.perm_middle
  rw [List.take_append_drop] at h1
  exact h1.trans (List.perm_append_comm (l₁:=[e]) (l₂:=ps))
theorem DY (ps:List Z4) (e:Z4):(U5 ps e).length=ps.length+1:=by have:=(SM ps e).length_eq;simpa using this
theorem Kw {ps:List Z4} (h:Ris ps) (e:Z4):Ris (U5 ps e):=by
  have hle:=OE e ps
  have hdr:∀ y ∈ ps.drop (XW e ps),ltB y e=false:=fun y hy=>by
    obtain ⟨k,hk,rfl⟩:=List.getElem_of_mem hy
    have hk':XW e ps+k<ps.length:=by simp at hk;omega
    rw [List.getElem_drop]
    have h0:=OD e ps (by omega)
    have e0:Z7 ps (XW e ps)=ps[XW e ps]'(by omega):=by unfold Z7;simp [List.getD,(by omega:XW e ps<ps.length)]
    rw [e0] at h0
    by_cases hz:k=0
    · subst hz;simpa using h0
    · have h1:=List.pairwise_iff_getElem.1 h (XW e ps) (XW e ps+k) (by omega) hk' (by omega)
      exact TX h0 h1
  have hta:∀ y ∈ ps.take (XW e ps),ltB y e=true:=fun y hy=>by
    obtain ⟨k,hk,rfl⟩:=List.getElem_of_mem hy
    have hk':k<XW e ps:=by simp at hk;omega
    have:=OF e ps k hk'
    rw [List.getElem_take]
    unfold Z7 at this
    simpa [List.getD,(by omega:k<ps.length)] using this
  unfold U5 Ris
  rw [List.pairwise_append,List.pairwise_cons]
  refine ⟨h.sublist (List.take_sublist _ _),⟨fun y hy=>hdr y hy,h.sublist (List.drop_sublist _ _)⟩,fun a ha b hb=> ?_⟩
  rcases List.mem_cons.1 hb with rfl | hb
  · exact SK (hta a ha)
  · exact TX (SK (hta a ha)) (hdr b hb)
theorem IH {ps qs:List Z4} {e:Z4} (h:IsQ ps) (hq:Ris qs) (hp:qs.Perm (ps++[e])):qs=U5 ps e:=
  Ci hq (Kw h.ris e) (hp.trans (SM ps e).symm)
open Go.ChangeShapes Go.WideShapes Go.ChangeAt Go.RowKit Go.Sort
def atV (ss:List Z3) (b:Int):Nat->List Z4
 | 0=>[]
 | k+1=>if (Z8 ss k).2.1=b/\ZP (Z8 ss k)=true then U5 (atV ss b k) ((Z8 ss k).2.2.2.2.2.2.2.1,(k:Int)) else atV ss b k
theorem TI (ss:List Z3) (b:Int):∀ k,(atV ss b k).length<=k
 | 0=>Nat.le_refl _
 | k+1=>by
  have:=TI ss b k
  unfold atV
  split
  ·rw [DY];omega
  ·omega
theorem NO {ss:List Z3} {b:Int} {k:Nat} (h:¬ ((Z8 ss k).2.1=b/\ZP (Z8 ss k)=true)):atV ss b (k+1)=atV ss b k:=by rw [atV,if_neg h]
theorem Rn {ss:List Z3} {b:Int} {k:Nat} (h1:(Z8 ss k).2.1=b) (h2:ZP (Z8 ss k)=true):atV ss b (k+1)=U5 (atV ss b k) ((Z8 ss k).2.2.2.2.2.2.2.1,(k:Int)):=by rw [atV,if_pos ⟨h1,h2⟩]
def Vj (m:Z6) (b:Int):Bool:=inB b 0 ((m.desks.length:Int)-1)
def XL (s:Z3):Int:=s.2.2.2.2.2.2.2.1
theorem DZ {ps:List Z4} {x e:Z4} : e ∈ U5 ps x ↔ e ∈ ps\/e=x:=by
 rw [(SM ps x).mem_iff];simp
theorem Yc (ss:List Z3) (b:Int) (e:Z4):∀ k,e ∈ atV ss b k ↔ ∃ i:Nat,i<k/\(Z8 ss i).2.1=b/\ZP (Z8 ss i)=true/\e=(XL (Z8 ss i),(i:Int))
 | 0=>by simp [atV]
 | k+1=>by
  have ih:=Yc ss b e k
  by_cases h:(Z8 ss k).2.1=b/\ZP (Z8 ss k)=true
  ·rw [Rn h.1 h.2,DZ,ih]
   constructor
   ·rintro (⟨i,hi,h1,h2,h3⟩ | h3)
    ·exact ⟨i,by omega,h1,h2,h3⟩
    ·exact ⟨k,by omega,h.1,h.2,h3⟩
   ·rintro ⟨i,hi,h1,h2,h3⟩
    by_cases hik:i=k
    ·subst hik;exact .inr h3
    ·exact .inl ⟨i,by omega,h1,h2,h3⟩
  ·rw [NO h,ih]
   constructor
   ·rintro ⟨i,hi,h1,h2,h3⟩
    exact ⟨i,by omega,h1,h2,h3⟩
   ·rintro ⟨i,hi,h1,h2,h3⟩
    by_cases hik:i=k
    ·subst hik;exact absurd ⟨h1,h2⟩ h
    ·exact ⟨i,by omega,h1,h2,h3⟩
theorem Ps (ss:List Z3) (b:Int):∀ k,Ris (atV ss b k)
 | 0=>List.Pairwise.nil
 | k+1=>by
  by_cases h:(Z8 ss k).2.1=b/\ZP (Z8 ss k)=true
  ·rw [Rn h.1 h.2];exact Kw (Ps ss b k) _
  ·rw [NO h];exact Ps ss b k
theorem Uj (ss:List Z3) (b:Int):∀ k,(atV ss b k).Pairwise fun x y=>x.2 ≠ y.2
 | 0=>List.Pairwise.nil
 | k+1=>by
  by_cases h:(Z8 ss k).2.1=b/\ZP (Z8 ss k)=true
  ·rw [Rn h.1 h.2]
   refine (SM (atV ss b k) _).symm.pairwise ?_ (fun h=>Ne.symm h)
   rw [List.pairwise_append]
   refine ⟨Uj ss b k,by simp,fun x hx y hy=> ?_⟩
   obtain rfl:y=_:=by simpa using hy
   obtain ⟨i,hi,_,_,rfl⟩:=(Yc ss b x k).1 hx
   show (i:Int) ≠ (k:Int)
   omega
  ·rw [NO h];exact Uj ss b k
def Alike (ss ss':List Z3) (k:Nat):Prop:= ∀ i,i<k->(Z8 ss' i).2.1=(Z8 ss i).2.1/\ZP (Z8 ss' i)=ZP (Z8 ss i)/\XL (Z8 ss' i)=XL (Z8 ss i)
theorem Mo {ss ss':List Z3} (b:Int):∀ k,Alike ss ss' k->atV ss' b k=atV ss b k
 | 0,_=>rfl
 | k+1,h=>by
  have ih:=Mo b k (fun i hi=>h i (by omega))
  obtain ⟨h1,h2,h3⟩:=h k (by omega)
  unfold atV
  rw [h1,h2,ih,show (Z8 ss' k).2.2.2.2.2.2.2.1=(Z8 ss k).2.2.2.2.2.2.2.1 from h3]
def WX (ss:List Z3) (b:Int):Int:=match atV ss b ss.length with
 | []=> -1
 | h::_=>h.2
theorem TL {ss:List Z3} {b:Int} {e:Z4} {t:List Z4} (h:atV ss b ss.length=e::t):WX ss b=e.2/\ ∃ i:Nat,i<ss.length/\(Z8 ss i).2.1=b/\ZP (Z8 ss i)=true/\e=(XL (Z8 ss i),(i:Int)):=by
 refine ⟨by unfold WX;rw [h],?_⟩
 exact (Yc ss b e ss.length).1 (by rw [h];simp)
theorem P9 {ss:List Z3} {b:Int} {e:Z4} {t:List Z4} (h:atV ss b ss.length=e::t) {i:Nat} (hi:i<ss.length) (h1:(Z8 ss i).2.1=b) (h2:ZP (Z8 ss i)=true):e.1<=XL (Z8 ss i):=by
 have hm:(XL (Z8 ss i),(i:Int)) ∈ atV ss b ss.length:=(Yc ss b _ ss.length).2 ⟨i,hi,h1,h2,rfl⟩
 have hr:=Ps ss b ss.length
 rw [h] at hm hr
 rcases List.mem_cons.1 hm with he | ht
 ·rw [<-he];exact Int.le_refl _
 ·have:=(List.pairwise_cons.1 hr).1 _ ht
  rw [MG] at this
  simp only at this
  omega
def V2 (x:Int):Bool:=inB x (-1000000000000) 1000000000000
def Wc (h m:Int):Bool:=(V2 h && V2 m) && inB (h-m) (-20000) 63000
def Y1 (h m:Int):Int:=if V2 m then max h (m-20000) else h
def Zq (h f t:Int):Int:=if V2 h && (V2 f && V2 t) then h-f+t else h
def ZG (m f:Int):Int:=if V2 m && V2 f then min (max m f) 900000000000 else m
theorem Oh {x:Int} (h:V2 x=true) : -1000000000000<=x/\x<=1000000000000:=ZU h
theorem Ga (x y:Int):([x,y].all fun z=>inB z (-1000000000000) 1000000000000)=(V2 x && V2 y):=by simp [V2]
theorem CF (h m:Int):([h].all fun z=>inB z (m-20000) (m+63000))=inB (h-m) (-20000) 63000:=by
 simp only [List.all_cons,List.all_nil,Bool.and_true]
 unfold inB
 congr 1
 exact propext ⟨fun h=>by omega,fun h=>by omega⟩
theorem Og {x:Int} (h0 : -1000000000000<=x) (h1:x<=1000000000000):V2 x=true:=Zp h0 h1
theorem DQ {h f t:Int} (h0 : -1000000000000<=h) (h1:h<=1000000000000) (f0 : -1000000000000<=f) (f1:f<=1000000000000) (t0 : -1000000000000<=t) (t1:t<=1000000000000):Zq h f t=h-f+t:=by
 unfold Zq;rw [Og h0 h1,Og f0 f1,Og t0 t1];rfl
theorem MI {m f:Int} (m0 : -1000000000000<=m) (m1:m<=1000000000000) (f0 : -1000000000000<=f) (f1:f<=1000000000000):ZG m f=min (max m f) 900000000000:=by
 unfold ZG;rw [Og m0 m1,Og f0 f1];rfl
end Go.Proofs.YtffcgajndmhpkaaGreatDoor
