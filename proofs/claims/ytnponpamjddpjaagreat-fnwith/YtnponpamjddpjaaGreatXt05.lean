/- Part 5 of what the proof rests on. No condition but those that a theorem names. -/
import Derived.Test.YtnponpamjddpjaaGreatXt01
import Derived.Deep.RegionHeld3
import Derived.Deep.DrawnRows
import Derived.BigRegion
import Derived.Deep.RegionLawGrows
set_option maxHeartbeats 8000000
set_option maxRecDepth 100000
namespace Go.Proofs.YtnponpamjddpjaaGreat
set_option linter.unusedVariables false
variable {w w' w0 w1 w2 w3 w₀ wr W W' X A B C : World} {v v0 v1 v2 v3 v4 u u0 u1 u2 u3 u4 : Value}
def ltB (a b:Z6):Bool:=decide (a.1<b.1\/(a.1=b.1/\a.2<b.2))
theorem F5 {a b:Z6} : ltB a b=true ↔ (a.1<b.1\/(a.1=b.1/\a.2<b.2)):=by unfold ltB;exact decide_eq_true_iff
theorem Oa {a b:Z6} : ltB a b=false ↔ ¬ (a.1<b.1\/(a.1=b.1/\a.2<b.2)):=by unfold ltB;exact decide_eq_false_iff_not
theorem Sn (a:Z6):ltB a a=false:=by rw [Oa];omega
theorem Tl {a b:Z6} (h:ltB a b=true):ltB b a=false:=by rw [F5] at h;rw [Oa];omega
theorem Ur {a b c:Z6} (h:ltB b a=false) (k:ltB c b=false):ltB c a=false:=by rw [Oa] at *;omega
theorem EK {a b c:Z6} (h:ltB a b=true) (k:ltB b c=true):ltB a c=true:=by rw [F5] at *;omega
theorem EJ {a b:Z6} (h:ltB b a=false) (k:ltB a b=false):a=b:=by
  rw [Oa] at *;obtain ⟨a1,a2⟩:=a;obtain ⟨b1,b2⟩:=b;simp only at h k;rw [show a1=b1 by omega,show a2=b2 by omega]
def swp (ps:List Z6) (i j:Nat):List Z6:=(ps.set i (Z7 ps j)).set j (Z7 ps i)
theorem Fv (ps:List Z6) (i j:Nat):(swp ps i j).length=ps.length:=by simp [swp]
theorem PK {ps:List Z6} {i:Nat} {x:Z6} (h:i<ps.length) (k:Nat):Z7 (ps.set i x) k=if k=i then x else Z7 ps k:=by
  unfold Z7
  by_cases e:k=i
  · subst e;simp [List.getD,h]
  · rw [if_neg e];simp [List.getD,Ne.symm e]
theorem TX {ps:List Z6} {i j:Nat} (hi:i<ps.length) (hj:j<ps.length) (k:Nat):Z7 (swp ps i j) k=if k=j then Z7 ps i else if k=i then Z7 ps j else Z7 ps k:=by
  unfold swp
  rw [PK (by simpa using hj),PK hi]
theorem TY {ps:List Z6} {i j:Nat} (hi:i<ps.length) (hj:j<ps.length):(swp ps i j).Perm ps:=by
  have:=List.set_set_perm hi hj
  unfold swp Z7
  simpa [List.getD,hi,hj] using this
def HeapTo (ps:List Z6) (n:Nat):Prop:= ∀ k,0<k->k<n->ltB (Z7 ps k) (Z7 ps ((k-1) / 2))=false
def UpTo (ps:List Z6) (n j:Nat):Prop:=
  (∀ k,0<k->k<n->k ≠ j->ltB (Z7 ps k) (Z7 ps ((k-1) / 2))=false)/\
  (∀ k,0<k->k<n->(k-1) / 2=j->0<j->ltB (Z7 ps k) (Z7 ps ((j-1) / 2))=false)
def DnTo (ps:List Z6) (n i0 i:Nat):Prop:=
  (∀ k,0<k->k<n->(k-1) / 2 ≠ i->(k ≠ i0\/i ≠ i0)->ltB (Z7 ps k) (Z7 ps ((k-1) / 2))=false)/\
  (∀ k,0<k->k<n->(k-1) / 2=i->0<i->ltB (Z7 ps k) (Z7 ps ((i-1) / 2))=false)
theorem UpTo.done {ps:List Z6} {n j:Nat} (h:UpTo ps n j) (hd:j=0\/ltB (Z7 ps j) (Z7 ps ((j-1) / 2))=false):HeapTo ps n:=fun k h0 hn=>by
  by_cases e:k=j
  · subst e
    rcases hd with hd | hd
    · omega
    · exact hd
  · exact h.1 k h0 hn e
theorem UpTo.step {ps:List Z6} {n j:Nat} (h:UpTo ps n j) (hj0:0<j) (hj:j<n) (hn:n<=ps.length) (hl:ltB (Z7 ps j) (Z7 ps ((j-1) / 2))=true):UpTo (swp ps ((j-1) / 2) j) n ((j-1) / 2):=by
  have hi:(j-1) / 2<j:=by omega
  have at':=fun k=>TX (ps:=ps) (i:=(j-1) / 2) (j:=j) (by omega) (by omega) k
  generalize hi':(j-1) / 2=i at *
  have hp:ltB (Z7 ps i) (Z7 ps j)=false:=Tl hl
  refine ⟨fun k k0 kn kne=> ?_,fun k k0 kn kp i0=> ?_⟩
  · rw [at' k,at' ((k-1) / 2)]
    by_cases e1:k=j
    · subst e1
      rw [if_pos rfl,hi',if_neg (by omega),if_pos rfl]
      exact hp
    · rw [if_neg e1,if_neg kne]
      by_cases e2:(k-1) / 2=j
      · rw [if_pos e2]
        have:=h.2 k k0 kn e2 hj0
        rwa [hi'] at this
      · rw [if_neg e2]
        by_cases e3:(k-1) / 2=i
        · rw [if_pos e3]
          have:=h.1 k k0 kn e1
          rw [e3] at this
          exact Ur hp this
        · rw [if_neg e3]
          exact h.1 k k0 kn e1
  · rw [at' k,at' ((i-1) / 2),if_neg (by omega:(i-1) / 2 ≠ j),if_neg (by omega:(i-1) / 2 ≠ i)]
    by_cases e1:k=j
    · rw [if_pos e1]
      exact h.1 i i0 (by omega) (by omega)
    · rw [if_neg e1,if_neg (by omega)]
      have h1:=h.1 k k0 kn e1
      rw [kp] at h1
      exact Ur (h.1 i i0 (by omega) (by omega)) h1
theorem DnTo.still {ps:List Z6} {n i:Nat} (h:DnTo ps n i i) (hd:∀ k,0<k->k<n->(k-1) / 2=i->ltB (Z7 ps k) (Z7 ps i)=false):UpTo ps n i:=
  ⟨fun k k0 kn kne=>by
    by_cases e:(k-1) / 2=i
    · rw [e];exact hd k k0 kn e
    · exact h.1 k k0 kn e (.inl kne),h.2⟩
theorem DnTo.moved {ps:List Z6} {n i0 i:Nat} (h:DnTo ps n i0 i) (hm:i ≠ i0) (hd:∀ k,0<k->k<n->(k-1) / 2=i->ltB (Z7 ps k) (Z7 ps i)=false):HeapTo ps n:=fun k k0 kn=>by
  by_cases e:(k-1) / 2=i
  · rw [e];exact hd k k0 kn e
  · exact h.1 k k0 kn e (.inr hm)
theorem DnTo.step {ps : List Z6} {n i0 i j : Nat} (h : DnTo ps n i0 i) (hi0 : i0 ≤ i) (hj0 : 0 < j) (hji : (j - 1) / 2 = i) (hj : j < n) (hn : n ≤ ps.length) (hl : ltB (Z7 ps j) (Z7 ps i) = true)
    (hm : ∀ k, 0 < k → k < n → (k - 1) / 2 = i → ltB (Z7 ps k) (Z7 ps j) = false) : DnTo (swp ps i j) n i0 j := by
  have at' := fun k => TX (ps := ps) (i := i) (j := j) (by omega) (by omega) k
  have hp : ltB (Z7 ps i) (Z7 ps j) = false := Tl hl
  refine ⟨fun k k0 kn kne _ => ?_, fun k k0 kn kp _ => ?_⟩
  · rw [at' k, at' ((k - 1) / 2), if_neg kne]
    by_cases e1 : k = j
    · subst e1
      rw [if_pos rfl, if_pos hji]
      exact hp
    · rw [if_neg e1]
      by_cases e2 : k = i
      · subst e2
        rw [if_pos rfl, if_neg (by omega)]
        exact h.2 j hj0 hj hji k0
      · rw [if_neg e2]
        by_cases e3 : (k - 1) / 2 = i
        · rw [if_pos e3]
          exact hm k k0 kn e3
        · rw [if_neg e3]
          exact h.1 k k0 kn e3 (by omega)
  · rw [at' k, at' ((j - 1) / 2), hji, if_neg (by omega : k ≠ j), if_neg (by omega : k ≠ i), if_neg (by omega : i ≠ j), if_pos rfl]
    have := h.1 k k0 kn (by omega) (by omega)
    rwa [kp] at this
theorem HeapTo.least {ps:List Z6} {n:Nat} (h:HeapTo ps n):∀ k,k<n->ltB (Z7 ps k) (Z7 ps 0)=false:=by
  intro k
  induction k using Nat.strongRecOn with
  | ind k ih=>
    intro hk
    by_cases e:k=0
    · subst e;exact Sn _
    · exact Ur (ih ((k-1) / 2) (by omega) (by omega)) (h k (by omega) hk)
theorem S5 {ps qs:List Z6} {k:Nat} (h:k<ps.length):Z7 (ps++qs) k=Z7 ps k:=by unfold Z7;simp [List.getD,List.getElem?_append_left h]
theorem Wi {ps:List Z6} {n k:Nat} (h:k<n):Z7 (ps.take n) k=Z7 ps k:=by unfold Z7;simp [List.getD,h]
theorem HeapTo.push {ps:List Z6} (e:Z6) (h:HeapTo ps ps.length):UpTo (ps++[e]) (ps.length+1) ps.length:=
  ⟨fun k k0 kn kne=>by rw [S5 (by omega),S5 (by omega)];exact h k k0 (by omega),fun k k0 kn kp h0=>by omega⟩
theorem HeapTo.swap {ps:List Z6} {n i:Nat} (h:HeapTo ps (n+1)) (hl:ps.length=n+1) (hi:i<n):DnTo (swp ps i n) n i i:=by
  have at':=fun k=>TX (ps:=ps) (i:=i) (j:=n) (by omega) (by omega) k
  refine ⟨fun k k0 kn kne kd=> ?_,fun k k0 kn kp i0=> ?_⟩
  · rw [at' k,at' ((k-1) / 2),if_neg (by omega),if_neg (by omega),if_neg (by omega),if_neg kne]
    exact h k k0 (by omega)
  · rw [at' k,at' ((i-1) / 2),if_neg (by omega),if_neg (by omega),if_neg (by omega),if_neg (by omega)]
    have h1:=h k k0 (by omega)
    rw [kp] at h1
    exact Ur (h i i0 (by omega)) h1
abbrev Ris (ps:List Z6):Prop:=ps.Pairwise fun a b=>ltB b a=false
theorem ET {ps qs:List Z6} (h:Ris ps) (k:Ris qs) (hp:ps.Perm qs):ps=qs:=
  hp.eq_of_pairwise (le:=fun a b=>ltB b a=false) (fun _ _ _ _ h1 h2=>EJ h1 h2) h k
theorem Gp {ps:List Z6} (h:Ris ps):HeapTo ps ps.length:=fun k k0 kn=>by
  have hk:(k-1) / 2<k:=by omega
  have:=List.pairwise_iff_getElem.1 h ((k-1) / 2) k (by omega) kn hk
  unfold Z7
  simpa [List.getD,kn,(by omega:(k-1) / 2<ps.length)] using this
theorem Gq {ps : List Z6} {x : Z6} (h : Ris ps) (hx : ∀ y ∈ ps, ltB x y = false) : Ris (ps ++ [x]) := by
  unfold Ris; rw [List.pairwise_append]
  exact ⟨h, by simp, fun a ha b hb => by obtain rfl : b = x := by simpa using hb
                                         exact hx a ha⟩
theorem Qe {ps:List Z6} {n:Nat} (h:ps.length=n+1):ps.take n++[Z7 ps n]=ps:=by
  have e:Z7 ps n=ps[n]:=by unfold Z7;simp [List.getD,h]
  rw [e,<-List.take_succ_eq_append_getElem (by omega),List.take_of_length_le (by omega)]
theorem XQ {ps:List Z6} {k:Nat} (h:k<ps.length):Z7 ps k ∈ ps:=by unfold Z7;simp [List.getD,h]
theorem Ut {ps:List Z6} {x:Z6} (h:x ∈ ps):∃ k,k<ps.length/\Z7 ps k=x:=by
  obtain ⟨k,hk,rfl⟩:=List.getElem_of_mem h
  exact ⟨k,hk,by unfold Z7;simp [List.getD,hk]⟩
def Pj (p:Z6):Bool:=inB p.1 (-1000000000000) 1000000000000 && inB p.2 0 99
def WL (ps:List Z6) (who:Int):Int:=match ps.findIdx? (fun p=>p.2 ==who) with
  | some k=>k
  | none=> -1
def WI (ps:List Z6) (k:Nat):Bool:=Pj (Z7 ps k) && ((k ==0 || ltB (Z7 ps (k-1)) (Z7 ps k)) && decide (WL (ps.take k) (Z7 ps k).2<0))
def YF (ps:List Z6):Bool:=decide (ps.length<=100) && (List.range ps.length).all (WI ps)
def XV (e:Z6):List Z6->Nat
  | []=>0
  | p::ps=>if ltB p e then XV e ps+1 else 0
def Vq (ps:List Z6) (e:Z6):List Z6:=ps.take (XV e ps)++e::ps.drop (XV e ps)
def Ux (ps:List Z6) (e:Z6):List Z6 × Bool:=if YF ps then if YF (Vq ps e) then (Vq ps e,true) else (ps,false) else ([],false)
def Ul (ps:List Z6):Z6 × Bool:=if YF ps && decide (0<ps.length) then (Z7 ps 0,true) else ((0,0),false)
theorem Pl {ps:List Z6} {who:Int} (h:∀ j,j<ps.length->(Z7 ps j).2 ≠ who):WL ps who= -1:=by
  unfold WL
  rw [List.findIdx?_eq_none_iff.2]
  intro p hp
  obtain ⟨k,hk,rfl⟩:=Ut hp
  simpa using h k hk
theorem JH {ps:List Z6} {who:Int} {k:Nat} (hk:k<ps.length) (h:(Z7 ps k).2=who) (hn:∀ j,j<k->(Z7 ps j).2 ≠ who):WL ps who=k:=by
  have e:∀ j (hj:j<ps.length),Z7 ps j=ps[j]:=fun j hj=>by unfold Z7;simp [List.getD,hj]
  unfold WL
  rw [List.findIdx?_eq_some_iff_getElem.2 ⟨hk,by rw [<-e k hk];simpa using h,fun j hj=>by rw [<-e j (by omega)];simpa using hn j hj⟩]
theorem Q2 (ps:List Z6) (who:Int):(WL ps who= -1/\ ∀ j,j<ps.length->(Z7 ps j).2 ≠ who)\/ ∃ k:Nat,WL ps who=k/\k<ps.length/\(Z7 ps k).2=who/\ ∀ j,j<k->(Z7 ps j).2 ≠ who:=by
  have e:∀ j (hj:j<ps.length),Z7 ps j=ps[j]:=fun j hj=>by unfold Z7;simp [List.getD,hj]
  cases hf:ps.findIdx? (fun p=>p.2 ==who) with
  | none=>
    left
    refine ⟨by unfold WL;rw [hf],fun j hj=> ?_⟩
    have:=List.findIdx?_eq_none_iff.1 hf _ (XQ hj)
    simpa using this
  | some k=>
    right
    obtain ⟨hk,h1,h2⟩:=List.findIdx?_eq_some_iff_getElem.1 hf
    refine ⟨k,by unfold WL;rw [hf],hk,by rw [e k hk];simpa using h1,fun j hj=> ?_⟩
    have:=h2 j hj
    rw [e j (by omega)];simpa using this
theorem FL (ps:List Z6) (who:Int) : -1<=WL ps who/\WL ps who<ps.length:=by
  rcases Q2 ps who with ⟨h,_⟩ | ⟨k,h,hk,_⟩<;>omega
theorem Mt {ps:List Z6} (hl:ps.length<=100) (h:∀ j,j<ps.length->WI ps j=true):YF ps=true:=by
  unfold YF;simp only [Bool.and_eq_true,decide_eq_true_eq,List.all_eq_true];exact ⟨hl,fun j hj=>h j (List.mem_range.1 hj)⟩
theorem PP {ps:List Z6} {j:Nat} (hj:j<ps.length) (h:WI ps j=false):YF ps=false:=by
  unfold YF;rw [Bool.and_eq_false_iff];right;rw [List.all_eq_false];exact ⟨j,List.mem_range.2 hj,by simp [h]⟩
theorem Kn {ps:List Z6} (hl:100<ps.length):YF ps=false:=by
  unfold YF;rw [Bool.and_eq_false_iff];left;exact decide_eq_false (by omega)
theorem IB {ps:List Z6} (h:YF ps=true):ps.length<=100/\ ∀ j,j<ps.length->WI ps j=true:=by
  unfold YF at h;simp only [Bool.and_eq_true,decide_eq_true_eq,List.all_eq_true] at h;exact ⟨h.1,fun j hj=>h.2 j (List.mem_range.2 hj)⟩
theorem Qd {ps : List Z6} {k : Nat} (h : WI ps k = true) : Pj (Z7 ps k) = true ∧ (0 < k → ltB (Z7 ps (k - 1)) (Z7 ps k) = true) ∧ WL (ps.take k) (Z7 ps k).2 < 0 := by
  unfold WI at h; simp only [Bool.and_eq_true, Bool.or_eq_true, decide_eq_true_eq, beq_iff_eq] at h
  exact ⟨h.1, fun h0 => by rcases h.2.1 with e | e; · omega
                           · exact e, h.2.2⟩
structure IsQ (ps:List Z6):Prop where
  len:ps.length<=100
  ent:∀ p ∈ ps,Pj p=true
  ord:ps.Pairwise fun a b=>ltB a b=true
  who:ps.Pairwise fun a b=>a.2 ≠ b.2
theorem ER {ps:List Z6} (h:∀ k,0<k->k<ps.length->ltB (Z7 ps (k-1)) (Z7 ps k)=true):∀ i j,i<j->j<ps.length->ltB (Z7 ps i) (Z7 ps j)=true:=by
  intro i j
  induction j with
  | zero=>intro h;omega
  | succ j ih=>
    intro hij hj
    have h1:=h (j+1) (by omega) hj
    by_cases e:i=j
    · subst e;simpa using h1
    · exact EK (ih (by omega) (by omega)) (by simpa using h1)
theorem EH {ps:List Z6} (h:YF ps=true):IsQ ps:=by
  obtain ⟨hl,hs⟩:=IB h
  have e:∀ j (hj:j<ps.length),Z7 ps j=ps[j]:=fun j hj=>by unfold Z7;simp [List.getD,hj]
  refine ⟨hl,fun p hp=> ?_,?_,?_⟩
  · obtain ⟨k,hk,rfl⟩:=Ut hp
    exact (Qd (hs k hk)).1
  · rw [List.pairwise_iff_getElem]
    intro i j hi hj hij
    rw [<-e i hi,<-e j hj]
    exact ER (fun k k0 kn=>(Qd (hs k kn)).2.1 k0) i j hij hj
  · rw [List.pairwise_iff_getElem]
    intro i j hi hj hij
    rw [<-e i hi,<-e j hj]
    have h3:=(Qd (hs j hj)).2.2
    rcases Q2 (ps.take j) (Z7 ps j).2 with ⟨_,h4⟩ | ⟨k,h4,_⟩
    · have:=h4 i (by simp;omega)
      rwa [Wi hij] at this
    · omega
theorem Kp {ps:List Z6} (h:IsQ ps):YF ps=true:=by
  have e:∀ j (hj:j<ps.length),Z7 ps j=ps[j]:=fun j hj=>by unfold Z7;simp [List.getD,hj]
  refine Mt h.len fun j hj=> ?_
  unfold WI
  simp only [Bool.and_eq_true,Bool.or_eq_true,decide_eq_true_eq,beq_iff_eq]
  refine ⟨h.ent _ (XQ hj),?_,?_⟩
  · by_cases h0:j=0
    · exact .inl h0
    · right
      rw [e j hj,e (j-1) (by omega)]
      exact List.pairwise_iff_getElem.1 h.ord (j-1) j (by omega) hj (by omega)
  · rw [Pl (fun i hi=> ?_)]
    · omega
    · have hi':i<j:=by simp at hi;omega
      rw [Wi hi',e i (by omega),e j hj]
      exact List.pairwise_iff_getElem.1 h.who i j (by omega) hj hi'
theorem IsQ.ris {ps:List Z6} (h:IsQ ps):Ris ps:=h.ord.imp fun hab=>Tl hab
theorem PE (e:Z6):∀ ps:List Z6,XV e ps<=ps.length
  | []=>Nat.le_refl _
  | p::ps=>by have:=PE e ps;unfold XV;split<;>simp<;>omega
theorem PF (e:Z6):∀ (ps:List Z6) (k:Nat),k<XV e ps->ltB (Z7 ps k) e=true
  | [],k,h=>by simp [XV] at h
  | p::ps,k,h=>by
    unfold XV at h
    split at h
    · cases k with
      | zero=>simpa [Z7] using ‹ltB p e=true›
      | succ k=>
        have:=PF e ps k (by omega)
        simpa [Z7] using this
    · omega
theorem PD (e:Z6):∀ (ps:List Z6),XV e ps<ps.length->ltB (Z7 ps (XV e ps)) e=false
  | [],h=>by simp at h
  | p::ps,h=>by
    unfold XV at h ⊢
    by_cases hp:ltB p e=true
    · rw [if_pos hp] at h ⊢
      have:=PD e ps (by simpa using h)
      simpa [Z7] using this
    · rw [if_neg hp] at h ⊢
      simpa [Z7] using hp
theorem F0 {e:Z6} {ps:List Z6} {k:Nat} (hk:k<=ps.length) (h:∀ j,j<k->ltB (Z7 ps j) e=true) (hn:k=ps.length\/ltB (Z7 ps k) e=false):XV e ps=k:=by
  rcases Nat.lt_trichotomy (XV e ps) k with h1 | h1 | h1
  · have h2:=PD e ps (by omega)
    rw [h _ h1] at h2;cases h2
  · exact h1
  · rcases hn with hn | hn
    · have:=PE e ps;omega
    · have:=PF e ps k h1
      rw [hn] at this;cases this
theorem Tp (ps:List Z6) (e:Z6):(Vq ps e).Perm (ps++[e]):=by
  unfold Vq
  have h1:(ps.take (XV e ps)++e::ps.drop (XV e ps)).Perm (e::(ps.take (XV e ps)++ps.drop (XV e ps))):=List.perm_middle
  rw [List.take_append_drop] at h1
  exact h1.trans (List.perm_append_comm (l₁:=[e]) (l₂:=ps))
theorem Gh (ps:List Z6) (e:Z6):(Vq ps e).length=ps.length+1:=by have:=(Tp ps e).length_eq;simpa using this
theorem Mq {ps:List Z6} (h:Ris ps) (e:Z6):Ris (Vq ps e):=by
  have hle:=PE e ps
  have hdr:∀ y ∈ ps.drop (XV e ps),ltB y e=false:=fun y hy=>by
    obtain ⟨k,hk,rfl⟩:=List.getElem_of_mem hy
    have hk':XV e ps+k<ps.length:=by simp at hk;omega
    rw [List.getElem_drop]
    have h0:=PD e ps (by omega)
    have e0:Z7 ps (XV e ps)=ps[XV e ps]'(by omega):=by unfold Z7;simp [List.getD,(by omega:XV e ps<ps.length)]
    rw [e0] at h0
    by_cases hz:k=0
    · subst hz;simpa using h0
    · have h1:=List.pairwise_iff_getElem.1 h (XV e ps) (XV e ps+k) (by omega) hk' (by omega)
      exact Ur h0 h1
  have hta:∀ y ∈ ps.take (XV e ps),ltB y e=true:=fun y hy=>by
    obtain ⟨k,hk,rfl⟩:=List.getElem_of_mem hy
    have hk':k<XV e ps:=by simp at hk;omega
    have:=PF e ps k hk'
    rw [List.getElem_take]
    unfold Z7 at this
    simpa [List.getD,(by omega:k<ps.length)] using this
  unfold Vq Ris
  rw [List.pairwise_append,List.pairwise_cons]
  refine ⟨h.sublist (List.take_sublist _ _),⟨fun y hy=>hdr y hy,h.sublist (List.drop_sublist _ _)⟩,fun a ha b hb=> ?_⟩
  rcases List.mem_cons.1 hb with rfl | hb
  · exact Tl (hta a ha)
  · exact Ur (Tl (hta a ha)) (hdr b hb)
theorem KA {ps qs:List Z6} {e:Z6} (h:IsQ ps) (hq:Ris qs) (hp:qs.Perm (ps++[e])):qs=Vq ps e:=
  ET hq (Mq h.ris e) (hp.trans (Tp ps e).symm)
open Go.ChangeShapes Go.WideShapes Go.ChangeAt Go.RowKit Go.Sort
theorem Wz:(Tryz.prog.info? 45).map (fun i=>(i.zero,i.size,i.bytes))=some (some (.agg #[.int .i64 0,.int .i64 0]),2,16):=by kernel_rfl
theorem Uw (ps:List Z6):(Zm ps).length=ps.length*2:=by unfold Zm;exact Oe ps
theorem S7 (ps qs:List Z6):Zm (ps++qs)=Zm ps++Zm qs:=by unfold Zm;rw [List.flatMap_append]
theorem Rg:∀ (ps:List Z6) (n:Nat),Zm (ps.take n)=(Zm ps).take (n*2)
 | [],n=>by simp [Zm]
 | p::ps,0=>by simp [Zm]
 | p::ps,n+1=>by
  have ih:=Rg ps n
  unfold Zm at ih ⊢
  rw [show (n+1)*2=n*2+2 by omega]
  simpa using ih
def EntsAt (n₀:Nat) (w:World) (v:Value) (ps:List Z6):Prop:=w.ownsRow n₀ 45 2 v ps.length (Zm ps)
theorem EntsAt.lt {n₀:Nat}  {ps:List Z6} (h:EntsAt n₀ w v ps) {k:Nat} (hk:v.ownBlock=some k):n₀<=k/\k<w.heap.size:=World.ownsRow.lt h k hk
theorem EntsAt.mono {n₀ n₁:Nat}  {ps:List Z6} (h:EntsAt n₀ w v ps) (hn:n₁<=n₀):EntsAt n₁ w v ps:=UP h hn
theorem EntsAt.same {n₀:Nat}  {ps:List Z6} (h:EntsAt n₀ w v ps) (hs:∀ k,v.ownBlock=some k->w'.heap[k]?=w.heap[k]?):EntsAt n₀ w' v ps:=XX h hs
theorem EntsAt.later {n₀:Nat}  {ps:List Z6} (h:EntsAt n₀ w v ps) (hb:Below w.heap.size w w'):EntsAt n₀ w' v ps:=h.same fun k hk=>hb.block k (h.lt hk).2
theorem EntsAt.paces {n₀:Nat}  {ps:List Z6} (h:EntsAt n₀ w v ps):IsPaces w v ps:=by
 have h':=h
 rcases h.2 with ⟨rfl,hz⟩ | ⟨g,cap,cur,rfl,hb,hg,hnc,hcm,r⟩
 ·exact ⟨none,0,by rw [hz],by omega,by omega,.inl (List.eq_nil_of_length_eq_zero hz)⟩
 ·refine ⟨_,cap,rfl,hnc,by unfold maxLen at hcm;omega,.inr ⟨g,0,rfl,(Array.getElem?_eq_some_iff.1 hg).1,fun k hk=> ?_⟩⟩
  have hp:=VL (f:=fun p:Z6=>Value.int .i64 p.1) (g:=fun p:Z6=>Value.int .i64 p.2) ps k hk
  have hat:Z7 ps k=ps[k]:=by unfold Z7;simp [List.getD,hk]
  rw [Nat.zero_add,hat]
  exact ⟨(World.ownsRow.cellAt h' (k*2) (by omega)).trans hp.1,(World.ownsRow.cellAt h' (k*2+1) (by omega)).trans hp.2⟩
theorem EntsAt.shape {n₀:Nat}  {ps:List Z6} (h:EntsAt n₀ w v ps):∃ a cap,v= .slice a ps.length cap:=by
 rcases h.2 with ⟨rfl,hz⟩ | ⟨g,cap,cur,rfl,_⟩
 ·exact ⟨none,0,by rw [hz]⟩
 ·exact ⟨_,cap,rfl⟩
theorem EntsAt.cut {n₀:Nat} {a:Option Addr} {len cap:Nat} {ps:List Z6} (h:EntsAt n₀ w (.slice a len cap) ps) {n:Nat} (hn:n<=ps.length) (ha:a ≠ none):EntsAt n₀ w (.slice a n cap) (ps.take n):=by
 have hl:(ps.take n).length=n:=by simp;omega
 unfold EntsAt
 rw [hl,Rg]
 rcases h.2 with ⟨hv,hz⟩ | ⟨g,cap',cur,hv,hb,hg,hnc,hcm,hs,ht⟩
 ·cases hv;exact absurd rfl ha
 ·cases hv
  refine ⟨by rw [List.length_take,Uw];omega,.inr ⟨g,cap,cur,rfl,hb,hg,by omega,hcm,hs,?_⟩⟩
  rw [<-ht,List.take_take];congr 1;omega
theorem IsPaces.cut {a:Option Addr} {len cap:Nat} {ps:List Z6} (h:IsPaces w (.slice a len cap) ps) {n:Nat} (hn:n<=ps.length):IsPaces w (.slice a n cap) (ps.take n):=by
 obtain ⟨a',cap',he,hc,hm,hr⟩:=h
 cases he
 have hl:(ps.take n).length=n:=by simp;omega
 refine ⟨a,cap,by rw [hl],by omega,hm,?_⟩
 rcases hr with hr | ⟨b,off,rfl,hlt,hcl⟩
 ·exact .inl (by rw [hr];simp)
 ·refine .inr ⟨b,off,rfl,hlt,fun k hk=> ?_⟩
  rw [Wi (by omega)]
  exact hcl k (by omega)
theorem Ji {a b c d:Int} (h:a ≠ c):ltB (a,b) (c,d)=decide (a<c):=by unfold ltB;simp;omega
theorem Jj {a b d:Int} : ltB (a,b) (a,d)=decide (b<d):=by unfold ltB;simp
theorem UD (a b c d:Int) (w:World):Calls Tryz.prog 77 #[.agg #[.int .i64 a,.int .i64 b],.agg #[.int .i64 c,.int .i64 d]] w fun e w'=>e= .returned (.bool (ltB (a,b) (c,d)))/\Below w.heap.size w w':=by
 by_cases h:a=c
 ·subst h
  rw [Jj]
  go_enter Tryz.func77,Tryz.ntmps77
  go_wp2_with fail
  go_ret
  exact ⟨rfl,((Below.refl _ _).alloc (Nat.le_refl _) _).alloc (by simp) _⟩
 ·rw [Ji h]
  have h':(a ==c)=false:=by simpa using h
  have h2:(a !=c)=true:=by simpa using h
  clear h
  go_enter Tryz.func77,Tryz.ntmps77
  go_wp2_with fail
  go_ret
  exact ⟨rfl,((Below.refl _ _).alloc (Nat.le_refl _) _).alloc (by simp) _⟩
theorem Xl (a b c d:Int) (w:World):Calls Tryz.prog 223 #[.agg #[.int .i64 a,.int .i64 b],.agg #[.int .i64 c,.int .i64 d]] w fun e w'=>e= .returned (.bool (ltB (a,b) (c,d)))/\Below w.heap.size w w':=by
 by_cases h:a=c
 ·subst h
  rw [Jj]
  go_enter Tryz.func223,Tryz.ntmps223
  go_wp2_with fail
  go_ret
  exact ⟨rfl,((Below.refl _ _).alloc (Nat.le_refl _) _).alloc (by simp) _⟩
 ·rw [Ji h]
  have h':(a ==c)=false:=by simpa using h
  have h2:(a !=c)=true:=by simpa using h
  clear h
  go_enter Tryz.func223,Tryz.ntmps223
  go_wp2_with fail
  go_ret
  exact ⟨rfl,((Below.refl _ _).alloc (Nat.le_refl _) _).alloc (by simp) _⟩
theorem NZ (n:Int) (w:World):Calls Tryz.prog 269 #[.int .i64 n] w fun e w'=>e= .returned (.bool (inB n (-1000000000000) 1000000000000))/\w'=w:=by
 go_enter Tryz.func269,Tryz.ntmps269
 go_wp2_with (go_at_call 201;refine (ZX _ _ _ _).mono ?_;rintro e w' ⟨rfl,rfl⟩)
 go_ret
 exact ⟨rfl,rfl⟩
theorem Wf (f c:Int) (w:World):Calls Tryz.prog 222 #[.agg #[.int .i64 f,.int .i64 c]] w fun e w'=>e= .returned (.bool (Pj (f,c)))/\Below w.heap.size w w':=by
 cases h1:inB f (-1000000000000) 1000000000000
 ·go_enter Tryz.func222,Tryz.ntmps222
  go_wp2_with fail
  refine (NZ _ _).mono ?_
  rintro e w' ⟨rfl,rfl⟩
  go_wp2_with fail
  go_ret
  exact ⟨Z5 (by unfold Pj;simp [h1]),(Below.refl _ _).alloc (Nat.le_refl _) _⟩
 ·go_enter Tryz.func222,Tryz.ntmps222
  go_wp2_with fail
  refine (NZ _ _).mono ?_
  rintro e w' ⟨rfl,rfl⟩
  go_wp2_with fail
  refine (ZX _ _ _ _).mono ?_
  rintro e w' ⟨rfl,rfl⟩
  go_wp2_with fail
  go_ret
  exact ⟨Z5 (by unfold Pj;simp [h1]),(Below.refl _ _).alloc (Nat.le_refl _) _⟩
theorem N5 (f c who:Int) (B:Nat) (w:World) (hc:w.cell? ⟨B,0,none⟩=some (.int .i64 who)) (hB:B<w.heap.size) :
  Calls Tryz.prog 271 #[.agg #[.int .i64 f,.int .i64 c],.pointer (some ⟨B,0,none⟩)] w fun e w'=>e= .returned (.bool (c ==who))/\Below w.heap.size w w':=by
 have hne:B ≠ w.heap.size:=Nat.ne_of_lt hB
 go_enter Tryz.func271,Tryz.ntmps271
 go_wp2_with fail
 go_ret
 exact ⟨rfl,(Below.refl _ _).alloc (Nat.le_refl _) _⟩
theorem LI  {ps:List Z6} (who:Int) (B:Nat) (h:IsPaces w v ps) (hc:w.cell? ⟨B,0,none⟩=some (.int .i64 who)) (hB:B<w.heap.size) :
  Calls Tryz.prog 270 #[v,.func (Fn.func 271) #[] #[.pointer (some ⟨B,0,none⟩)]] w fun e w'=>e= .returned (.int .i64 (WL ps who))/\Below w.heap.size w w':=by
 obtain ⟨a,cap,rfl,hcc,hm,hr⟩:=h
 have Hr:=Z9 hr
 have Hc:=Z9 hc
 clear hr hc
 go_enter Tryz.func270,Tryz.ntmps270
 go_wp2_with fail
 go_loopw [5,8] (fun _ i wr=> ∃ k:Nat,k<=ps.length/\i= .int .i64 k/\Hid (∀ j,j<k->(Z7 ps j).2 ≠ who)/\Below w.heap.size w wr) (fun _ i _=>ps.length-(intOf i).toNat)
 case atStart=>exact ⟨0,Nat.zero_le _,rfl,Z9 (fun j hj=>by omega),Below.refl _ _⟩
 case round=>
  obtain ⟨k,hk,rfl,hno,hb⟩:=hrel
  have Hb:=Z9 hb
  by_cases hlt:k<ps.length
  ·rcases uh Hr with h0 | ⟨b,off,rfl,hbw,hcl⟩
   ·rw [h0] at hlt;simp at hlt
   obtain ⟨c0,c1⟩:=hcl k hlt
   rw [<-hb.cell (p:=⟨b,off+k*2,none⟩) hbw] at c0
   rw [<-hb.cell (p:=⟨b,off+k*2+1,none⟩) hbw] at c1
   generalize hz:Z7 ps k=p at *
   obtain ⟨f,z⟩:=p
   simp only at c0 c1
   have hcb:=(hb.cell (p:=⟨B,0,none⟩) hB).trans (uh Hc)
   have hBr:B<wr.heap.size:=Nat.lt_of_lt_of_le hB hb.size
   have Hz:=Z9 hz
   have Hcb:=Z9 hcb
   clear hz hcl hb hcb
   by_cases hx:z=who
   ·subst hx
    go_wp2_with fail
    refine (N5 _ _ _ _ _ (uh Hcb) hBr).mono ?_
    rintro e w1 ⟨rfl,hb1⟩
    have Hb1:=Z9 hb1
    clear hb1
    go_wp2_with fail
    go_ret
    exact ⟨Zv (JH hlt (by rw [uh Hz]) (uh hno)).symm,(uh Hb).trans ((uh Hb1).mono (uh Hb).size)⟩
   ·have hx':(z ==who)=false:=by simpa using hx
    have Hx:=Z9 hx
    clear hx
    go_wp2_with fail
    refine (N5 _ _ _ _ _ (uh Hcb) hBr).mono ?_
    rw [hx']
    rintro e w1 ⟨rfl,hb1⟩
    have Hb1:=Z9 hb1
    clear hb1
    go_wp2_with fail
    go_roundw
    case rel=>exact ⟨k+1,by omega,by go_num,Z9 (Yn (uh hno) (by rw [uh Hz];exact uh Hx)),(uh Hb).trans ((uh Hb1).mono (uh Hb).size)⟩
    case measure=>simp [intOf];omega
  ·obtain rfl:k=ps.length:=by omega
   go_wp2_with fail
   go_ret
   exact ⟨Zv (Pl (uh hno)).symm,hb⟩
theorem Mo  {ps:List Z6} (who:Int) (h:IsPaces w v ps) :
  Calls Tryz.prog 224 #[v,.int .i64 who] w fun e w'=>e= .returned (.int .i64 (WL ps who))/\Below w.heap.size w w':=by
 have Hv:=Z9 h
 obtain ⟨a,cap,rfl,hcc,hm,hr⟩:=h
 clear hr
 go_enter Tryz.func224,Tryz.ntmps224
 go_wp2_with fail
 refine (LI who w.heap.size ((uh Hv).below ((Below.refl _ _).alloc (Nat.le_refl _) _)) (by simp) (by simp)).mono ?_
 rintro e w1 ⟨rfl,hb⟩
 have Hb:=Z9 hb
 clear hb
 go_wp2_with fail
 go_ret
 exact ⟨rfl,((Below.refl _ _).alloc (Nat.le_refl _) _).trans ((uh Hb).mono (by simp))⟩
structure Fr (bx:Nat) (r:Option Nat) (w w':World):Prop where
 os:w'.os=w.os
 tape:w'.tape=w.tape
 output:w'.output=w.output
 size:w.heap.size<=w'.heap.size
 block:∀ k,k<w.heap.size->k ≠ bx->r ≠ some k->w'.heap[k]?=w.heap[k]?
theorem Fr.refl (bx:Nat) (r:Option Nat) (w:World):Fr bx r w w:=⟨rfl,rfl,rfl,Nat.le_refl _,fun _ _ _ _=>rfl⟩
theorem Fr.trans {bx:Nat} {r:Option Nat} {a b c:World} (h:Fr bx r a b) (k:Fr bx r b c):Fr bx r a c:=
 ⟨k.os.trans h.os,k.tape.trans h.tape,k.output.trans h.output,Nat.le_trans h.size k.size,fun i hi hn hr=>(k.block i (Nat.lt_of_lt_of_le hi h.size) hn hr).trans (h.block i hi hn hr)⟩
theorem Fr.of_below {bx:Nat} {r:Option Nat} (h:Below w.heap.size w w'):Fr bx r w w':=⟨h.os,h.tape,h.output,h.size,fun k hk _ _=>h.block k hk⟩
theorem Fr.of_grown {bx:Nat} {r:Option Nat} (h:w.grownBy w' r):Fr bx r w w':=⟨h.os,h.tape,h.output,h.size,fun k hk _ hr=>h.block k hk (fun e=>hr e.symm)⟩
theorem Fr.box {bx:Nat} {r:Option Nat} (w:World) (v:Value):Fr bx r w (w.setCell ⟨bx,0,none⟩ v):=⟨rfl,rfl,rfl,by simp,fun k hk hn _=>Below.heap_setCell w ⟨bx,0,none⟩ v k hn⟩
theorem Fr.below {bx B:Nat} {r:Option Nat} (h:Fr bx r w w') (hx:B<=bx) (hr:∀ k,r=some k->B<=k) (hs:B<=w.heap.size):Below B w w':=
 ⟨h.os,h.tape,h.output,h.size,fun k hk=>h.block k (by omega) (by omega) (fun e=>by have:=hr k e;omega)⟩
theorem EntsAt.fr {n₀ bx:Nat} {r:Option Nat}  {ps:List Z6} (h:EntsAt n₀ w v ps) (hf:Fr bx r w w') (h1:v.ownBlock ≠ some bx) (h2:∀ k,v.ownBlock=some k->r ≠ some k):EntsAt n₀ w' v ps:=
 h.same fun k hk=>hf.block k (h.lt hk).2 (fun e=>h1 (by rw [hk,e])) (h2 k hk)
structure HeapIs (n₀ bx:Nat) (v:Value) (w:World) (ps:List Z6):Prop where
 cell:w.cell? ⟨bx,0,none⟩=some v
 free:w.frozen? ⟨bx,0,none⟩=false
 lt:bx<w.heap.size
 row:EntsAt n₀ w v ps
 off:v.ownBlock ≠ some bx
theorem HeapIs.later {n₀ bx:Nat}  {ps:List Z6} (h:HeapIs n₀ bx v w ps) (hb:Below w.heap.size w w'):HeapIs n₀ bx v w' ps:=
 ⟨(hb.cell (p:=⟨bx,0,none⟩) h.lt).trans h.cell,(hb.frozen (p:=⟨bx,0,none⟩) h.lt).trans h.free,Nat.lt_of_lt_of_le h.lt hb.size,h.row.later hb,h.off⟩
theorem HeapIs.view {n₀ bx:Nat}  {ps:List Z6} (h:HeapIs n₀ bx v w ps) (hl:0<ps.length):∃ g cap,v= .slice (some ⟨g,0,none⟩) ps.length cap/\g ≠ bx/\g<w.heap.size/\n₀<=g/\ps.length<=cap/\cap<=9223372036854775807/\
  (∀ k,k<ps.length->w.cell? ⟨g,k*2,none⟩=some (.int .i64 (Z7 ps k).1)/\w.cell? ⟨g,k*2+1,none⟩=some (.int .i64 (Z7 ps k).2))/\(∀ k,w.frozen? ⟨g,k,none⟩=false):=by
 have hr:=h.row
 rcases h.row.2 with ⟨hv,hz⟩ | ⟨g,cap,cur,rfl,hb,hg,hnc,hcm,r⟩
 ·omega
 ·obtain ⟨a,cap',he,_,_,hrr⟩:=hr.paces
  cases he
  refine ⟨g,cap,rfl,fun e=>h.off (by rw [e];rfl),(Array.getElem?_eq_some_iff.1 hg).1,hb,hnc,by unfold maxLen at hcm;omega,?_,fun k=>World.ownsRow.frozenAt hr k⟩
  rcases hrr with h0 | ⟨b,off,he,_,hcl⟩
  ·rw [h0] at hl;simp at hl
  ·cases he
   intro k hk
   have:=hcl k hk
   simpa using this
theorem Sl {n₀ bx:Nat}  {ps:List Z6} (h:HeapIs n₀ bx v w ps):Calls Tryz.prog 226 #[.pointer (some ⟨bx,0,none⟩)] w fun e w'=>e= .returned (.int .i64 ps.length)/\w'=w:=by
 have hc:=h.cell
 obtain ⟨a,cap,rfl⟩:=h.row.shape
 go_enter Tryz.func226,Tryz.ntmps226
 go_wp2_with fail
 go_ret
 exact ⟨rfl,rfl⟩
theorem TP {n₀ bx:Nat}  {ps:List Z6} (h:HeapIs n₀ bx v w ps) {i j:Nat} (hi:i<ps.length) (hj:j<ps.length) :
  Calls Tryz.prog 337 #[.pointer (some ⟨bx,0,none⟩),.int .i64 i,.int .i64 j] w fun e w'=>e= .returned (.bool (ltB (Z7 ps i) (Z7 ps j)))/\Below w.heap.size w w':=by
 obtain ⟨g,cap,rfl,hne,hlt,_,hnc,hcm,hcl,_⟩:=h.view (by omega)
 have hc:=h.cell
 obtain ⟨a0,a1⟩:=hcl i hi
 obtain ⟨b0,b1⟩:=hcl j hj
 generalize Z7 ps i=p at *
 generalize Z7 ps j=q at *
 obtain ⟨f,z⟩:=p
 obtain ⟨f',z'⟩:=q
 simp only at a0 a1 b0 b1
 have hi0:(0:Int)<=(i:Int):=by omega
 have hj0:(0:Int)<=(j:Int):=by omega
 have hi1:(i:Int)<(ps.length:Int):=by omega
 have hj1:(j:Int)<(ps.length:Int):=by omega
 have k0:=cell_regrown a0
 have k1:=cell_regrown a1
 have k2:=cell_regrown b0
 have k3:=cell_regrown b1
 have k4:=cell_regrown hc
 clear hcl h hc a0 a1 b0 b1
 go_enter Tryz.func337,Tryz.ntmps337
 go_wp2_with fail
 refine wp_region_quiet_below (by kernel_rfl) (by kernel_rfl) ?_
 repeat (go_big_quiet_step (exact Calls.regrown_of (Xl _ _ _ _ _)))
 refine wpQuiet_nil ?_
 intro _ hw'
 obtain ⟨⟨dq,osq⟩,hw''⟩:=hw'
 subst hw''
 go_wp2_with fail
 go_ret
 exact ⟨rfl,below_regrown _ _ _⟩
theorem TV {a p:Addr} (h:w.cell? p=some v):∃ c,(w.setCell a u).cell? p=some c:=by
 by_cases e:p=a
 ·subst e;exact ⟨_,World.cell?_setCell_same _ _ _ h⟩
 ·exact ⟨v,by rw [World.cell?_setCell_other _ _ _ _ (fun e2=>e e2.symm)];exact h⟩
theorem HeapIs.swapped {n₀ bx g cap n:Nat} {ps:List Z6} (h:HeapIs n₀ bx (.slice (some ⟨g,0,none⟩) n cap) w ps) (hn:n=ps.length) (hne:g ≠ bx) {i j:Nat} (hi:i<ps.length) (hj:j<ps.length) (f z f' z':Int) (W:World) (hW:W=((((w.setCell ⟨g,i*2,none⟩ (.int .i64 f')).setCell ⟨g,i*2+1,none⟩ (.int .i64 z')).setCell ⟨g,j*2,none⟩ (.int .i64 f)).setCell ⟨g,j*2+1,none⟩ (.int .i64 z))) :
  HeapIs n₀ bx (.slice (some ⟨g,0,none⟩) n cap) W ((ps.set i (f',z')).set j (f,z))/\Fr bx (some g) w W:=by
 subst hn
 have r1:=Mc h.row (i*2) (.int .i64 f') (.int .i64 z')
 rw [ES _ _ _ _ hi] at r1
 have r2:=Mc r1.1 (j*2) (.int .i64 f) (.int .i64 z)
 rw [ES _ _ _ _ (by simpa using hj),<-hW] at r2
 have hg:=TE r1.2 r2.2
 clear r1 hW
 have hlt:=h.lt
 have hb:=hg.block bx hlt (by simpa using Ne.symm hne)
 refine ⟨⟨?_,?_,Nat.lt_of_lt_of_le hlt hg.size,?_,h.off⟩,Fr.of_grown hg⟩
 ·exact (World.cell?_of_block (w:=w) (a:=⟨bx,0,none⟩) hb).trans h.cell
 ·exact (World.frozen?_of_block (w:=w) (a:=⟨bx,0,none⟩) hb).trans h.free
 ·unfold EntsAt
  rw [List.length_set,List.length_set]
  exact r2.1
theorem TW {n₀ bx:Nat}  {ps:List Z6} (h:HeapIs n₀ bx v w ps) {i j:Nat} (hi:i<ps.length) (hj:j<ps.length) :
  Calls Tryz.prog 340 #[.pointer (some ⟨bx,0,none⟩),.int .i64 i,.int .i64 j] w fun e w'=>e= .returned (.tuple #[])/\HeapIs n₀ bx v w' (swp ps i j)/\Fr bx v.ownBlock w w':=by
 have H:=Z9 h
 obtain ⟨g,cap,rfl,hne,hlt,hn0,hnc,hcm,hcl,hfz⟩:=h.view (by omega)
 have hc:=h.cell
 obtain ⟨a0,a1⟩:=hcl i hi
 obtain ⟨b0,b1⟩:=hcl j hj
 have z0:=hfz (i*2)
 have z1:=hfz (i*2+1)
 have z2:=hfz (j*2)
 have z3:=hfz (j*2+1)
 have HX:Hid (swp ps i j=(ps.set i (Z7 ps j)).set j (Z7 ps i)):=Z9 rfl
 generalize Z7 ps i=p at *
 generalize Z7 ps j=q at *
 obtain ⟨f,z⟩:=p
 obtain ⟨f',z'⟩:=q
 simp only at a0 a1 b0 b1
 have hi0:(0:Int)<=(i:Int):=by omega
 have hj0:(0:Int)<=(j:Int):=by omega
 have hi1:(i:Int)<(ps.length:Int):=by omega
 have hj1:(j:Int)<(ps.length:Int):=by omega
 obtain ⟨c1,y1⟩:∃ c,(w.setCell ⟨g,i*2,none⟩ (.int .i64 f')).cell? ⟨g,j*2,none⟩=some c:=TV b0
 obtain ⟨c2,y2⟩:∃ c,((w.setCell ⟨g,i*2,none⟩ (.int .i64 f')).setCell ⟨g,i*2+1,none⟩ (.int .i64 z')).cell? ⟨g,j*2+1,none⟩=some c:=by
  obtain ⟨c,hc9⟩:=TV (a:=⟨g,i*2,none⟩) (u:= .int .i64 f') b1
  exact TV hc9
 obtain ⟨c3,y3⟩:∃ c,((w.setCell ⟨g,i*2,none⟩ (.int .i64 f')).setCell ⟨g,i*2+1,none⟩ (.int .i64 z')).cell? ⟨g,j*2,none⟩=some c:=by
  obtain ⟨c,hc9⟩:=TV (a:=⟨g,i*2,none⟩) (u:= .int .i64 f') b0
  exact TV hc9
 clear hcl h hfz
 go_enter Tryz.func340,Tryz.ntmps340
 go_wp2_with fail
 go_region
 go_end0
 generalize hW:((((w.setCell ⟨g,i*2,none⟩ (.int .i64 f')).setCell ⟨g,i*2+1,none⟩ (.int .i64 z')).setCell ⟨g,j*2,none⟩ (.int .i64 f)).setCell ⟨g,j*2+1,none⟩ (.int .i64 z))=W
 obtain ⟨h1,h2⟩:=(uh H).swapped rfl hne hi hj f z f' z' W hW.symm
 exact ⟨rfl,by rw [uh HX];exact h1.later ((Below.refl _ _).drew),h2.trans (Fr.of_below ((Below.refl _ _).drew))⟩
theorem Gu {n₀ bx:Nat} {v v':Value} {ps qs:List Z6} (h:HeapIs n₀ bx v w ps) (hb:Fr bx v.ownBlock w W) (hc:W.cell? ⟨bx,0,none⟩=some v) (hf:W.frozen? ⟨bx,0,none⟩=false) (hr:EntsAt n₀ W v' qs) (ho:v'.ownBlock ≠ some bx) :
  HeapIs n₀ bx v' (W.setCell ⟨bx,0,none⟩ v') qs/\Fr bx v.ownBlock w (W.setCell ⟨bx,0,none⟩ v'):=by
 refine ⟨⟨World.cell?_setCell_same _ _ _ hc,by rw [World.frozen?_setCell];exact hf,by simpa using Nat.lt_of_lt_of_le h.lt hb.size,hr.same fun k hk=>Below.heap_setCell W ⟨bx,0,none⟩ v' k (fun e=>ho (by rw [hk];exact congrArg some e)),ho⟩,hb.trans (Fr.box W v')⟩
theorem Gf {n₀ bx:Nat}  {ps:List Z6} {m:Nat} (h:HeapIs n₀ bx v w ps) (hm:ps.length=m+1) :
  Calls Tryz.prog 338 #[.pointer (some ⟨bx,0,none⟩)] w fun e w'=>e= .returned (.iface 45 (.agg #[.int .i64 (Z7 ps m).1,.int .i64 (Z7 ps m).2]))/\ ∃ v',HeapIs n₀ bx v' w' (ps.take m)/\v'.ownBlock=v.ownBlock/\Fr bx v.ownBlock w w':=by
 have H:=Z9 h
 obtain ⟨g,cap,rfl,hne,hlt,hn0,hnc,hcm,hcl,hfz⟩:=h.view (by omega)
 have hc:=h.cell
 have hbf:=h.free
 have hbx:=h.lt
 obtain ⟨a0,a1⟩:=hcl m (by omega)
 have HL:=Z9 (Sl h)
 clear hcl h hfz
 rw [hm] at hnc hc
 generalize Z7 ps m=p at *
 obtain ⟨f,z⟩:=p
 simp only at a0 a1
 have hn1:g ≠ w.heap.size:=Nat.ne_of_lt hlt
 have hn2:bx ≠ w.heap.size:=Nat.ne_of_lt hbx
 go_enter Tryz.func338,Tryz.ntmps338
 go_wp2_with fail
 refine (uh HL).mono ?_
 rw [hm]
 rintro e w' ⟨rfl,h1⟩
 subst w'
 go_wp2_with fail
 go_ret
 have hcut:=(uh H).row.cut (n:=m) (by omega) (by simp)
 obtain ⟨r1,r2⟩:=Gu (uh H) (Fr.refl _ _ _) (uh H).cell (uh H).free hcut (by simpa [Value.ownBlock] using hne)
 exact ⟨rfl,.slice (some ⟨g,0,none⟩) m cap,r1.later ((Below.refl _ _).alloc (Nat.le_refl _) _),rfl,r2.trans (Fr.of_below ((Below.refl _ _).alloc (Nat.le_refl _) _))⟩
theorem QR {ops:Array Oper} {o:Oper} {a:Act} {K:Act->World->Prop} {Q:Exit->Act->World->Prop} {E:Prop} (hgd:o.guard=none) (s x:Operand) (t:TypeId) (ht:Tryz.prog.underlying t=some (.slice 45))
  (ho:o.op= .call { callee:= .builtin .append,args:=#[s,x],argTypes:=#[t,t] }) (base:Nat)
  (v:Value) (ps:List Z6) (hs:a.eval s=v) (hown:EntsAt base w v ps)
  (ad:Addr) (c:Nat) (f z:Int) (hx:a.eval x= .slice (some ad) 1 c) (hnews:∀ (j:Nat) (u:Value),([.int .i64 f,.int .i64 z]:List Value)[j]?=some u->w.cell? (ad.add j)=some u)
  (hb:ps.length<=4000) (hbase:base<=w.heap.size)
  (h:∀ v' w',EntsAt base w' v' (ps++[(f,z)])->w.grownBy w' v.ownBlock->(v'.ownBlock=v.ownBlock\/v'.ownBlock=some w.heap.size)->K (a.put o.dst v') w') :
  if Region.wanted o (yielded ops a.tmps)=true then Oper.wp Tryz.prog o a w K Q else E:=by
 have hw:Region.wanted o (yielded ops a.tmps)=true:=by simp [Region.wanted,hgd]
 rw [if_pos hw]
 obtain ⟨i0,hi,hz0,hz1,hz2⟩:=info_parts Wz
 obtain ⟨v',w',hr,h2,h3,_,h5⟩:=run_append_own_at (P:=Tryz.prog) w base t o.type 45 i0 (.agg #[.int .i64 0,.int .i64 0]) 2 16 ht hi hz0 hz1 hz2 rfl (by decide) v ps.length _ hown ad 1 c [.int .i64 f,.int .i64 z] rfl
  hnews (by simp [Value.oneCell']) (by simp only [maxLen];omega) (by omega) hbase
 unfold Oper.wp execOp
 simp only [ho,resolve,invoke,builtin,Sem.run_bind,Sem.run_pure,Result.andThen_ok,List.map_toArray,List.map_cons,List.map_nil,hs,hx,hr]
 refine h v' w' ?_ h3 h5
 unfold EntsAt
 rw [S7,List.length_append]
 exact h2
theorem Fw (w:World) (u u':Value) (t:TypeId) (b:Nat) (hb:b=w.heap.size):∀ (j:Nat) (x:Value),([u,u']:List Value)[j]?=some x->(w.alloc (.cells #[u,u'] t)).cell? ((⟨b,0,none⟩:Addr).add j)=some x:=by
 subst hb
 intro j x hj
 match j,hj with
 | 0,hj=>simp at hj;subst hj;simp [Addr.add]
 | 1,hj=>simp at hj;subst hj;simp [Addr.add]
theorem O4 (f z:Int) (w:World):(Instr.typeAssert (.iface 45 (.agg #[.int .i64 f,.int .i64 z])) 20 45 false).run Tryz.prog w= .ok (.agg #[.int .i64 f,.int .i64 z]) w:=by kernel_rfl
theorem HeapIs.after {n₀ bx:Nat} {w W W1:World} {ps:List Z6} (h:HeapIs n₀ bx v w ps) (hb:Below w.heap.size w W) (hg:W.grownBy W1 v.ownBlock) :
  W1.cell? ⟨bx,0,none⟩=some v/\W1.frozen? ⟨bx,0,none⟩=false/\Fr bx v.ownBlock w W1:=by
 have hk:=hg.block bx (Nat.lt_of_lt_of_le h.lt hb.size) (fun e=>h.off e.symm)
 exact ⟨(World.cell?_of_block (w:=W) (a:=⟨bx,0,none⟩) hk).trans ((hb.cell (p:=⟨bx,0,none⟩) h.lt).trans h.cell),(World.frozen?_of_block (w:=W) (a:=⟨bx,0,none⟩) hk).trans ((hb.frozen (p:=⟨bx,0,none⟩) h.lt).trans h.free),(Fr.of_below hb).trans (Fr.of_grown hg)⟩
theorem IA {n₀ bx:Nat}  {ps:List Z6} (f z:Int) (h:HeapIs n₀ bx v w ps) (hl:ps.length<=1000) (hn:n₀<=w.heap.size) :
  Calls Tryz.prog 339 #[.pointer (some ⟨bx,0,none⟩),.iface 45 (.agg #[.int .i64 f,.int .i64 z])] w fun e w'=>e= .returned (.tuple #[])/\ ∃ v',HeapIs n₀ bx v' w' (ps++[(f,z)])/\(v'.ownBlock=v.ownBlock\/ ∃ k,v'.ownBlock=some k/\w.heap.size<=k)/\Fr bx v.ownBlock w w':=by
 have H:=Z9 h
 obtain ⟨a,cap,rfl⟩:=h.row.shape
 have hc:=h.cell
 have hbf:=h.free
 have hbx:=h.lt
 clear h
 have hn2:bx ≠ w.heap.size:=Nat.ne_of_lt hbx
 have hta:=O4 f z
 go_enter Tryz.func339,Tryz.ntmps339
 go_wp2_with fail
 go_region_law (refine QR rfl (.tmp 7) (.tmp 10) 206 Tryz.underlying206 rfl n₀ _ ps rfl ((uh H).row.later (((Below.refl _ _).alloc (Nat.le_refl _) _).drew)) ⟨w.heap.size,0,none⟩ _ f z rfl (Fw _ _ _ _ _ rfl) (by omega) (by simp;omega) ?_;intro v' w1 hown hgrow hat;obtain ⟨hc1,hf1,hfr⟩:=(uh H).after (((Below.refl _ _).alloc (Nat.le_refl _) _).drew) hgrow;obtain ⟨a1,cap1,rfl⟩:=hown.shape)
 all_goals
  go_end0
  have hoff:(Value.slice a1 (ps++[(f,z)]).length cap1).ownBlock ≠ some bx:=by
   rcases hat with e | e
   ·rw [e];exact (uh H).off
   ·rw [e];simp;omega
  obtain ⟨r1,r2⟩:=Gu (uh H) hfr hc1 hf1 hown hoff
  have hle:(ps++[(f,z)]).length=ps.length+1:=by simp
  rw [hle] at r1 r2 hat
  refine ⟨rfl,_,r1,?_,r2⟩
  rcases hat with e | e
  ·exact .inl e
  ·exact .inr ⟨_,e,by simp⟩
end Go.Proofs.YtnponpamjddpjaaGreat
