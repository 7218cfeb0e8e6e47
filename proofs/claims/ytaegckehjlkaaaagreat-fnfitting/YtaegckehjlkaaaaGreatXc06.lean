/- Part 6 of what the proof rests on. No condition but those that a theorem names. -/
import Derived.Test.YtaegckehjlkaaaaGreatXc05
import Derived.Deep.RegionHeld3
import Derived.Deep.DrawnRows
import Derived.BigRegion
import Derived.Deep.RegionLawGrows
set_option maxHeartbeats 8000000
set_option maxRecDepth 100000
namespace Go.Proofs.YtaegckehjlkaaaaGreat
set_option linter.unusedVariables false
variable {w w' w0 w1 w2 w3 w₀ wr W W' X A B C : World} {v v0 v1 v2 v3 v4 u u0 u1 u2 u3 u4 : Value} {m : Z6}
def ltB (a b:Z1):Bool:=decide (a.1<b.1\/(a.1=b.1/\a.2<b.2))
theorem CA {a b:Z1} : ltB a b=true ↔ (a.1<b.1\/(a.1=b.1/\a.2<b.2)):=by unfold ltB;exact decide_eq_true_iff
theorem DZ {a b:Z1} : ltB a b=false ↔ ¬ (a.1<b.1\/(a.1=b.1/\a.2<b.2)):=by unfold ltB;exact decide_eq_false_iff_not
theorem GR {a b:Z1} (h:ltB a b=true):ltB b a=false:=by rw [CA] at h;rw [DZ];omega
theorem D2 {a b c:Z1} (h:ltB b a=false) (k:ltB c b=false):ltB c a=false:=by rw [DZ] at *;omega
theorem K0 {ps:List Z1} {n k:Nat} (h:k<n):ZY (ps.take n) k=ZY ps k:=by unfold ZY;simp [List.getD,h]
abbrev Ris (ps:List Z1):Prop:=ps.Pairwise fun a b=>ltB b a=false
theorem U4 {ps:List Z1} {k:Nat} (h:k<ps.length):ZY ps k ∈ ps:=by unfold ZY;simp [List.getD,h]
theorem I0 {ps:List Z1} {x:Z1} (h:x ∈ ps):∃ k,k<ps.length/\ZY ps k=x:=by
 obtain ⟨k,hk,rfl⟩:=List.getElem_of_mem h
 exact ⟨k,hk,by unfold ZY;simp [List.getD,hk]⟩
def X7 (e:Z1):List Z1->Nat
 | []=>0
 | p::ps=>if ltB p e then X7 e ps+1 else 0
def RX (ps:List Z1) (e:Z1):List Z1:=ps.take (X7 e ps)++e::ps.drop (X7 e ps)
theorem OK (e:Z1):∀ ps:List Z1,X7 e ps<=ps.length
 | []=>Nat.le_refl _
 | p::ps=>by have:=OK e ps;unfold X7;split<;>simp<;>omega
theorem OL (e:Z1):∀ (ps:List Z1) (k:Nat),k<X7 e ps->ltB (ZY ps k) e=true
 | [],k,h=>by simp [X7] at h
 | p::ps,k,h=>by
  unfold X7 at h
  split at h
  ·cases k with
   | zero=>simpa [ZY] using ‹ltB p e=true›
   | succ k=>
    have:=OL e ps k (by omega)
    simpa [ZY] using this
  ·omega
theorem OJ (e:Z1):∀ (ps:List Z1),X7 e ps<ps.length->ltB (ZY ps (X7 e ps)) e=false
 | [],h=>by simp at h
 | p::ps,h=>by
  unfold X7 at h ⊢
  by_cases hp:ltB p e=true
  ·rw [if_pos hp] at h ⊢
   have:=OJ e ps (by simpa using h)
   simpa [ZY] using this
  ·rw [if_neg hp] at h ⊢
   simpa [ZY] using hp
theorem DX {e:Z1} {ps:List Z1} {k:Nat} (hk:k<=ps.length) (h:∀ j,j<k->ltB (ZY ps j) e=true) (hn:k=ps.length\/ltB (ZY ps k) e=false):X7 e ps=k:=by
 rcases Nat.lt_trichotomy (X7 e ps) k with h1 | h1 | h1
 ·have h2:=OJ e ps (by omega)
  rw [h _ h1] at h2;cases h2
 ·exact h1
 ·rcases hn with hn | hn
  ·have:=OK e ps;omega
  ·have:=OL e ps k h1
   rw [hn] at this;cases this
theorem QM (ps:List Z1) (e:Z1):(RX ps e).Perm (ps++[e]):=by
 unfold RX
 have h1:(ps.take (X7 e ps)++e::ps.drop (X7 e ps)).Perm (e::(ps.take (X7 e ps)++ps.drop (X7 e ps))):=List.perm_middle
 rw [List.take_append_drop] at h1
 exact h1.trans (List.perm_append_comm (l₁:=[e]) (l₂:=ps))
theorem Eh (ps:List Z1) (e:Z1):(RX ps e).length=ps.length+1:=by have:=(QM ps e).length_eq;simpa using this
theorem Ej {ps:List Z1} (h:Ris ps) (e:Z1):Ris (RX ps e):=by
 have hle:=OK e ps
 have hdr:∀ y ∈ ps.drop (X7 e ps),ltB y e=false:=fun y hy=>by
  obtain ⟨k,hk,rfl⟩:=List.getElem_of_mem hy
  have hk':X7 e ps+k<ps.length:=by simp at hk;omega
  rw [List.getElem_drop]
  have h0:=OJ e ps (by omega)
  have e0:ZY ps (X7 e ps)=ps[X7 e ps]'(by omega):=by unfold ZY;simp [List.getD,(by omega:X7 e ps<ps.length)]
  rw [e0] at h0
  by_cases hz:k=0
  ·subst hz;simpa using h0
  ·have h1:=List.pairwise_iff_getElem.1 h (X7 e ps) (X7 e ps+k) (by omega) hk' (by omega)
   exact D2 h0 h1
 have hta:∀ y ∈ ps.take (X7 e ps),ltB y e=true:=fun y hy=>by
  obtain ⟨k,hk,rfl⟩:=List.getElem_of_mem hy
  have hk':k<X7 e ps:=by simp at hk;omega
  have:=OL e ps k hk'
  rw [List.getElem_take]
  unfold ZY at this
  simpa [List.getD,(by omega:k<ps.length)] using this
 unfold RX Ris
 rw [List.pairwise_append,List.pairwise_cons]
 refine ⟨h.sublist (List.take_sublist _ _),⟨fun y hy=>hdr y hy,h.sublist (List.drop_sublist _ _)⟩,fun a ha b hb=> ?_⟩
 rcases List.mem_cons.1 hb with rfl | hb
 ·exact GR (hta a ha)
 ·exact D2 (GR (hta a ha)) (hdr b hb)
open Go.ChangeShapes Go.WideShapes Go.ChangeAt Go.RowKit Go.Sort
def atV (ss:List Z5) (b:Int):Nat->List Z1
 | 0=>[]
 | k+1=>if (Z8 ss k).2.1=b/\ZP (Z8 ss k)=true then RX (atV ss b k) ((Z8 ss k).2.2.2.2.2.2.2.1,(k:Int)) else atV ss b k
theorem Rb (ss:List Z5) (b:Int):∀ k,(atV ss b k).length<=k
 | 0=>Nat.le_refl _
 | k+1=>by
  have:=Rb ss b k
  unfold atV
  split
  ·rw [Eh];omega
  ·omega
theorem Uq {ss:List Z5} {b:Int} {k:Nat} (h:¬ ((Z8 ss k).2.1=b/\ZP (Z8 ss k)=true)):atV ss b (k+1)=atV ss b k:=by rw [atV,if_neg h]
theorem Vh {ss:List Z5} {b:Int} {k:Nat} (h1:(Z8 ss k).2.1=b) (h2:ZP (Z8 ss k)=true):atV ss b (k+1)=RX (atV ss b k) ((Z8 ss k).2.2.2.2.2.2.2.1,(k:Int)):=by rw [atV,if_pos ⟨h1,h2⟩]
def Yq (m:Z6) (b:Int):Bool:=inB b 0 ((m.desks.length:Int)-1)
theorem RC (h:ZS m=true):m.smiths.length<=12:=by
 unfold ZS YB YG at h
 simp only [Bool.and_eq_true,decide_eq_true_eq] at h
 exact h.1.1.2.2.1
def V7 (s:Z5):Int:=s.2.2.2.2.2.2.2.1
theorem Ei {ps:List Z1} {x e:Z1} : e ∈ RX ps x ↔ e ∈ ps\/e=x:=by
 rw [(QM ps x).mem_iff];simp
theorem Xs (ss:List Z5) (b:Int) (e:Z1):∀ k,e ∈ atV ss b k ↔ ∃ i:Nat,i<k/\(Z8 ss i).2.1=b/\ZP (Z8 ss i)=true/\e=(V7 (Z8 ss i),(i:Int))
 | 0=>by simp [atV]
 | k+1=>by
  have ih:=Xs ss b e k
  by_cases h:(Z8 ss k).2.1=b/\ZP (Z8 ss k)=true
  ·rw [Vh h.1 h.2,Ei,ih]
   constructor
   ·rintro (⟨i,hi,h1,h2,h3⟩ | h3)
    ·exact ⟨i,by omega,h1,h2,h3⟩
    ·exact ⟨k,by omega,h.1,h.2,h3⟩
   ·rintro ⟨i,hi,h1,h2,h3⟩
    by_cases hik:i=k
    ·subst hik;exact .inr h3
    ·exact .inl ⟨i,by omega,h1,h2,h3⟩
  ·rw [Uq h,ih]
   constructor
   ·rintro ⟨i,hi,h1,h2,h3⟩
    exact ⟨i,by omega,h1,h2,h3⟩
   ·rintro ⟨i,hi,h1,h2,h3⟩
    by_cases hik:i=k
    ·subst hik;exact absurd ⟨h1,h2⟩ h
    ·exact ⟨i,by omega,h1,h2,h3⟩
theorem LY (ss:List Z5) (b:Int):∀ k,Ris (atV ss b k)
 | 0=>List.Pairwise.nil
 | k+1=>by
  by_cases h:(Z8 ss k).2.1=b/\ZP (Z8 ss k)=true
  ·rw [Vh h.1 h.2];exact Ej (LY ss b k) _
  ·rw [Uq h];exact LY ss b k
theorem N6 (ss:List Z5) (b:Int):∀ k,(atV ss b k).Pairwise fun x y=>x.2 ≠ y.2
 | 0=>List.Pairwise.nil
 | k+1=>by
  by_cases h:(Z8 ss k).2.1=b/\ZP (Z8 ss k)=true
  ·rw [Vh h.1 h.2]
   refine (QM (atV ss b k) _).symm.pairwise ?_ (fun h=>Ne.symm h)
   rw [List.pairwise_append]
   refine ⟨N6 ss b k,by simp,fun x hx y hy=> ?_⟩
   obtain rfl:y=_:=by simpa using hy
   obtain ⟨i,hi,_,_,rfl⟩:=(Xs ss b x k).1 hx
   show (i:Int) ≠ (k:Int)
   omega
  ·rw [Uq h];exact N6 ss b k
def Alike (ss ss':List Z5) (k:Nat):Prop:= ∀ i,i<k->(Z8 ss' i).2.1=(Z8 ss i).2.1/\ZP (Z8 ss' i)=ZP (Z8 ss i)/\V7 (Z8 ss' i)=V7 (Z8 ss i)
theorem MM {ss ss':List Z5} (b:Int):∀ k,Alike ss ss' k->atV ss' b k=atV ss b k
 | 0,_=>rfl
 | k+1,h=>by
  have ih:=MM b k (fun i hi=>h i (by omega))
  obtain ⟨h1,h2,h3⟩:=h k (by omega)
  unfold atV
  rw [h1,h2,ih,show (Z8 ss' k).2.2.2.2.2.2.2.1=(Z8 ss k).2.2.2.2.2.2.2.1 from h3]
def WE (ss:List Z5) (b:Int):Int:=match atV ss b ss.length with
 | []=> -1
 | h::_=>h.2
theorem Rm {ss:List Z5} {b:Int} {e:Z1} {t:List Z1} (h:atV ss b ss.length=e::t):WE ss b=e.2/\ ∃ i:Nat,i<ss.length/\(Z8 ss i).2.1=b/\ZP (Z8 ss i)=true/\e=(V7 (Z8 ss i),(i:Int)):=by
 refine ⟨by unfold WE;rw [h],?_⟩
 exact (Xs ss b e ss.length).1 (by rw [h];simp)
theorem J7 {ss:List Z5} {b:Int} {e:Z1} {t:List Z1} (h:atV ss b ss.length=e::t) {i:Nat} (hi:i<ss.length) (h1:(Z8 ss i).2.1=b) (h2:ZP (Z8 ss i)=true):e.1<=V7 (Z8 ss i):=by
 have hm:(V7 (Z8 ss i),(i:Int)) ∈ atV ss b ss.length:=(Xs ss b _ ss.length).2 ⟨i,hi,h1,h2,rfl⟩
 have hr:=LY ss b ss.length
 rw [h] at hm hr
 rcases List.mem_cons.1 hm with he | ht
 ·rw [<-he];exact Int.le_refl _
 ·have:=(List.pairwise_cons.1 hr).1 _ ht
  rw [DZ] at this
  simp only at this
  omega
theorem QB:(Tryz.prog.info? 45).map (fun i=>(i.zero,i.size,i.bytes))=some (some (.agg #[.int .i64 0,.int .i64 0]),2,16):=by kernel_rfl
theorem OT (ps:List Z1):(Xa ps).length=ps.length*2:=by unfold Xa;exact Nb ps
theorem NL (ps qs:List Z1):Xa (ps++qs)=Xa ps++Xa qs:=by unfold Xa;rw [List.flatMap_append]
def EntsAt (n₀:Nat) (w:World) (v:Value) (ps:List Z1):Prop:=w.ownsRow n₀ 45 2 v ps.length (Xa ps)
theorem EntsAt.lt {n₀:Nat}  {ps:List Z1} (h:EntsAt n₀ w v ps) {k:Nat} (hk:v.ownBlock=some k):n₀<=k/\k<w.heap.size:=World.ownsRow.lt h k hk
theorem EntsAt.mono {n₀ n₁:Nat}  {ps:List Z1} (h:EntsAt n₀ w v ps) (hn:n₁<=n₀):EntsAt n₁ w v ps:=Uf h hn
theorem EntsAt.same {n₀:Nat}  {ps:List Z1} (h:EntsAt n₀ w v ps) (hs:∀ k,v.ownBlock=some k->w'.heap[k]?=w.heap[k]?):EntsAt n₀ w' v ps:=XH h hs
theorem EntsAt.later {n₀:Nat}  {ps:List Z1} (h:EntsAt n₀ w v ps) (hb:Below w.heap.size w w'):EntsAt n₀ w' v ps:=h.same fun k hk=>hb.block k (h.lt hk).2
theorem EntsAt.paces {n₀:Nat}  {ps:List Z1} (h:EntsAt n₀ w v ps):IsPaces w v ps:=by
 have h':=h
 rcases h.2 with ⟨rfl,hz⟩ | ⟨g,cap,cur,rfl,hb,hg,hnc,hcm,r⟩
 ·exact ⟨none,0,by rw [hz],by omega,by omega,.inl (List.eq_nil_of_length_eq_zero hz)⟩
 ·refine ⟨_,cap,rfl,hnc,by unfold maxLen at hcm;omega,.inr ⟨g,0,rfl,(Array.getElem?_eq_some_iff.1 hg).1,fun k hk=> ?_⟩⟩
  have hp:=Ui (f:=fun p:Z1=>Value.int .i64 p.1) (g:=fun p:Z1=>Value.int .i64 p.2) ps k hk
  have hat:ZY ps k=ps[k]:=by unfold ZY;simp [List.getD,hk]
  rw [Nat.zero_add,hat]
  exact ⟨(World.ownsRow.cellAt h' (k*2) (by omega)).trans hp.1,(World.ownsRow.cellAt h' (k*2+1) (by omega)).trans hp.2⟩
theorem EntsAt.shape {n₀:Nat}  {ps:List Z1} (h:EntsAt n₀ w v ps):∃ a cap,v= .slice a ps.length cap:=by
 rcases h.2 with ⟨rfl,hz⟩ | ⟨g,cap,cur,rfl,_⟩
 ·exact ⟨none,0,by rw [hz]⟩
 ·exact ⟨_,cap,rfl⟩
theorem IsPaces.cut {a:Option Addr} {len cap:Nat} {ps:List Z1} (h:IsPaces w (.slice a len cap) ps) {n:Nat} (hn:n<=ps.length):IsPaces w (.slice a n cap) (ps.take n):=by
 obtain ⟨a',cap',he,hc,hm,hr⟩:=h
 cases he
 have hl:(ps.take n).length=n:=by simp;omega
 refine ⟨a,cap,by rw [hl],by omega,hm,?_⟩
 rcases hr with hr | ⟨b,off,rfl,hlt,hcl⟩
 ·exact .inl (by rw [hr];simp)
 ·refine .inr ⟨b,off,rfl,hlt,fun k hk=> ?_⟩
  rw [K0 (by omega)]
  exact hcl k (by omega)
theorem Dc {a b c d:Int} (h:a ≠ c):ltB (a,b) (c,d)=decide (a<c):=by unfold ltB;simp;omega
theorem Dd {a b d:Int} : ltB (a,b) (a,d)=decide (b<d):=by unfold ltB;simp
theorem TP (a b c d:Int) (w:World):Calls Tryz.prog 77 #[.agg #[.int .i64 a,.int .i64 b],.agg #[.int .i64 c,.int .i64 d]] w fun e w'=>e= .returned (.bool (ltB (a,b) (c,d)))/\Below w.heap.size w w':=by
 by_cases h:a=c
 ·subst h
  rw [Dd]
  go_enter Tryz.func77,Tryz.ntmps77
  go_wp2_with fail
  go_ret
  exact ⟨rfl,((Below.refl _ _).alloc (Nat.le_refl _) _).alloc (by simp) _⟩
 ·rw [Dc h]
  have h':(a ==c)=false:=by simpa using h
  have h2:(a !=c)=true:=by simpa using h
  clear h
  go_enter Tryz.func77,Tryz.ntmps77
  go_wp2_with fail
  go_ret
  exact ⟨rfl,((Below.refl _ _).alloc (Nat.le_refl _) _).alloc (by simp) _⟩
theorem Gr (g o i:Nat):(⟨g,o,none⟩:Addr).add i=⟨g,o+i,none⟩:=by unfold Addr.add;split<;>simp_all
theorem PO {base t ty e size n:Nat} {i:TypeInfo} (ht:Tryz.prog.underlying t=some (.slice e)) (hi:Tryz.prog.info? e=some i) {xs:List Value} (hown:w.ownsRow base e size v n xs) (a:Option Addr) (c:Nat) :
  (Builtin.append_ #[t,t] ty #[v,.slice a 0 c]).run Tryz.prog w= .ok v w:=by
 rcases hown.2 with ⟨rfl,rfl⟩ | ⟨g,cap,cur,rfl,_,_,hnc,_⟩
 ·cases a<;>simp [Builtin.append_,run_underlying ht,sizeOf,typeInfo,hi,Builtin.lenOf,Builtin.firstCells,loadCells,loadCellsFrom]
 ·cases a<;>simp [Builtin.append_,run_underlying ht,sizeOf,typeInfo,hi,Builtin.lenOf,Builtin.firstCells,hnc,storeCells,loadCells,loadCellsFrom]
theorem Dv {b off:Nat} {qs:List Z1} (h:∀ k,k<qs.length->w.cell? ⟨b,off+k*2,none⟩=some (.int .i64 (ZY qs k).1)/\w.cell? ⟨b,off+k*2+1,none⟩=some (.int .i64 (ZY qs k).2)) :
  ∀ (j:Nat) (u:Value),(Xa qs)[j]?=some u->w.cell? ((⟨b,off,none⟩:Addr).add j)=some u:=fun j u hj=>by
 have hlt:j<qs.length*2:=by
  rcases Nat.lt_or_ge j (qs.length*2) with h | h
  ·exact h
  ·rw [List.getElem?_eq_none (by rw [OT];exact h)] at hj;cases hj
 rw [Gr]
 have hp:=Ui (f:=fun p:Z1=>Value.int .i64 p.1) (g:=fun p:Z1=>Value.int .i64 p.2) qs (j / 2) (by omega)
 have e:ZY qs (j / 2)=qs[j / 2]'(by omega):=by unfold ZY;simp [List.getD,(by omega:j / 2<qs.length)]
 obtain ⟨h1,h2⟩:=h (j / 2) (by omega)
 rw [e] at h1 h2
 rcases Nat.mod_two_eq_zero_or_one j with e2 | e2
 ·rw [show off+j=off+j / 2*2 by omega,h1,<-hj]
  conv=>rhs;rw [show j=j / 2*2 by omega]
  exact hp.1.symm
 ·rw [show off+j=off+j / 2*2+1 by omega,h2,<-hj]
  conv=>rhs;rw [show j=j / 2*2+1 by omega]
  exact hp.2.symm
theorem FQ (qs:List Z1):∀ u ∈ Xa qs,u.oneCell'=true:=fun u hu=>by
 unfold Xa at hu
 obtain ⟨p,_,hp⟩:=List.mem_flatMap.1 hu
 simp only [List.mem_cons,List.not_mem_nil,or_false] at hp
 rcases hp with rfl | rfl<;>rfl
theorem Th {base t ty:Nat} (ht:Tryz.prog.underlying t=some (.slice 45)) {v x:Value} {ps qs:List Z1} (hown:EntsAt base w v ps) (hx:IsPaces w x qs) (hb:ps.length+qs.length<=4000) (hbase:base<=w.heap.size) :
  ∃ v' w',(Builtin.append_ #[t,t] ty #[v,x]).run Tryz.prog w= .ok v' w'/\EntsAt base w' v' (ps++qs)/\w.grownBy w' v.ownBlock/\(v'.ownBlock=v.ownBlock\/v'.ownBlock=some w.heap.size):=by
 obtain ⟨i0,hi,hz0,hz1,hz2⟩:=info_parts QB
 obtain ⟨a,c,rfl,hc,hm,hr⟩:=hx
 by_cases h0:qs=[]
 ·subst h0
  refine ⟨v,w,PO ht hi hown a c,by simpa using hown,Tv _ _,.inl rfl⟩
 ·rcases hr with hr | ⟨b,off,rfl,hlt,hcl⟩
  ·exact absurd hr h0
  ·obtain ⟨v',w',hr,h2,h3,_,h5⟩:=run_append_own_at (P:=Tryz.prog) w base t ty 45 i0 (.agg #[.int .i64 0,.int .i64 0]) 2 16 ht hi hz0 hz1 hz2 rfl (by decide) v ps.length _ hown ⟨b,off,none⟩ qs.length c (Xa qs) (OT qs)
    (Dv hcl) (FQ qs) (by simp only [maxLen];omega) (by omega) hbase
   refine ⟨v',w',hr,?_,h3,h5⟩
   unfold EntsAt
   rw [NL,List.length_append]
   exact h2
theorem Sa {ops:Array Oper} {rest:List Oper} {o:Oper} {a:Act} {Q:Exit->Act->World->Prop} (hgd:o.guard=none) (s x:Operand) (t:TypeId) (ht:Tryz.prog.underlying t=some (.slice 45))
  (ho:o.op= .call { callee:= .builtin .append,args:=#[s,x],argTypes:=#[t,t] }) (base:Nat) (v u:Value) (ps qs:List Z1) (hs:a.eval s=v) (hx:a.eval x=u) (hown:EntsAt base w v ps) (hr:IsPaces w u qs)
  (hb:ps.length+qs.length<=4000) (hbase:base<=w.heap.size)
  (h:∀ v' w',EntsAt base w' v' (ps++qs)->w.grownBy w' v.ownBlock->(v'.ownBlock=v.ownBlock\/v'.ownBlock=some w.heap.size)->wpList Tryz.prog ops Q rest (a.put o.dst v') w') :
  wpList Tryz.prog ops Q (o::rest) a w:=by
 refine wpList_plain hgd fun K hK=> ?_
 obtain ⟨v',w',hrun,h2,h3,h5⟩:=Th (ty:=o.type) ht hown hr hb hbase
 unfold Oper.wp execOp
 simp only [ho,resolve,invoke,builtin,Sem.run_bind,Sem.run_pure,Result.andThen_ok,List.map_toArray,List.map_cons,List.map_nil,hs,hx,hrun]
 exact hK _ _ (h v' w' h2 h3 h5)
theorem Yb {ops:Array Oper} {o:Oper} {a:Act} {K:Act->World->Prop} {Q:Exit->Act->World->Prop} {E:Prop} (hgd:o.guard=none) (s x:Operand) (t:TypeId) (ht:Tryz.prog.underlying t=some (.slice 45))
  (ho:o.op= .call { callee:= .builtin .append,args:=#[s,x],argTypes:=#[t,t] }) (base:Nat) (v u:Value) (ps qs:List Z1) (hs:a.eval s=v) (hx:a.eval x=u) (hown:EntsAt base w v ps) (hr:IsPaces w u qs)
  (hb:ps.length+qs.length<=4000) (hbase:base<=w.heap.size)
  (h:∀ v' w',EntsAt base w' v' (ps++qs)->w.grownBy w' v.ownBlock->(v'.ownBlock=v.ownBlock\/v'.ownBlock=some w.heap.size)->K (a.put o.dst v') w') :
  if Region.wanted o (yielded ops a.tmps)=true then Oper.wp Tryz.prog o a w K Q else E:=by
 have hw:Region.wanted o (yielded ops a.tmps)=true:=by simp [Region.wanted,hgd]
 rw [if_pos hw]
 obtain ⟨v',w',hrun,h2,h3,h5⟩:=Th (ty:=o.type) ht hown hr hb hbase
 unfold Oper.wp execOp
 simp only [ho,resolve,invoke,builtin,Sem.run_bind,Sem.run_pure,Result.andThen_ok,List.map_toArray,List.map_cons,List.map_nil,hs,hx,hrun]
 exact h v' w' h2 h3 h5
theorem Ok {B g:Nat} (hg:g=w.heap.size) (hB:B<=g):EntsAt B (w.alloc (.cells #[] 45)) (.slice (some ⟨g,0,none⟩) 0 0) []:=by
 subst hg
 exact ⟨by simp [Xa],.inr ⟨_,0,#[],rfl,hB,heap_alloc_new w _,Nat.le_refl _,Nat.zero_le _,by simp,by simp [Xa]⟩⟩
theorem Rk {f z:Int} {g c:Nat} (hg:g=w.heap.size) (hc:1<=c) (hc2:c<=4000):IsPaces (w.alloc (.cells #[.int .i64 f,.int .i64 z] 45)) (.slice (some ⟨g,0,none⟩) 1 c) [(f,z)]:=by
 subst hg
 refine ⟨_,c,rfl,hc,by omega,.inr ⟨_,0,rfl,by simp,fun k hk=> ?_⟩⟩
 obtain rfl:k=0:=by simpa using hk
 simp [ZY]
theorem TB  {ps:List Z1} (h:IsPaces w v ps) (hl:ps.length<=1000) :
  Calls Tryz.prog 177 #[v] w fun e w'=> ∃ v',e= .returned v'/\EntsAt w.heap.size w' v' ps/\Below w.heap.size w w':=by
 have Hv:=Z9 h
 obtain ⟨a,cap,rfl,hc,hm,hr⟩:=h
 clear hr
 go_enter Tryz.func177,Tryz.ntmps177
 go_wp2_with (at_builtin;refine Sa rfl (.tmp 3) (.tmp 4) 35 Tryz.underlying35 rfl w.heap.size _ _ [] ps rfl rfl (Ok rfl (Nat.le_refl _)) ((uh Hv).below ((Below.refl _ _).alloc (Nat.le_refl _) _)) (by simp;omega) (by simp) ?_;intro v' w1 hown hgrow hat)
 go_ret
 refine ⟨v',rfl,by simpa using hown,((Below.refl _ _).alloc (Nat.le_refl _) _).trans ((Below.refl _ _).grown hgrow (by simp) (fun k e=> ?_))⟩
 cases e;exact Nat.le_refl _
theorem Ex (a:Option Addr) (n cap k:Nat) (hk:k<=cap) (W:World):(Instr.slice 35 (.slice a n cap) none (some (.int .i64 k)) none).run Tryz.prog W= .ok (.slice a k cap) W:=by
 obtain ⟨i0,hi,hz0,hz1,hz2⟩:=info_parts QB
 have hs:∀ W,(sizeOf 45).run Tryz.prog W= .ok 2 W:=fun W=>by simp [sizeOf,typeInfo,hi,hz1]
 have hb:∀ W,(Instr.sliceBounds true n cap none (some (.int .i64 k)) none).run Tryz.prog W= .ok (0,k,cap) W:=fun W=>by
  simp [Instr.sliceBounds,Instr.sliceBound,asIntOf]
  intro h;omega
 simp only [Instr.slice,Sem.run_bind,run_underlying Tryz.underlying35,Result.andThen,hb,hs,Sem.run_pure]
 simp
 cases a<;>simp [Addr.add]
def GB (a:Option Addr) (n cap k:Nat):Value:= .slice (if cap=k then a else a.map (·.add (k*2))) (n-k) (cap-k)
theorem Jh (a:Option Addr) (n cap k:Nat) (hk:k<=n) (W:World):(Instr.slice 35 (.slice a n cap) (some (.int .i64 k)) none none).run Tryz.prog W= .ok (GB a n cap k) W:=by
 obtain ⟨i0,hi,hz0,hz1,hz2⟩:=info_parts QB
 have hs:∀ W,(sizeOf 45).run Tryz.prog W= .ok 2 W:=fun W=>by simp [sizeOf,typeInfo,hi,hz1]
 have hb:∀ W,(Instr.sliceBounds true n cap (some (.int .i64 k)) none none).run Tryz.prog W= .ok (k,n,cap) W:=fun W=>by
  simp [Instr.sliceBounds,Instr.sliceBound,asIntOf]
  intro h;omega
 simp only [Instr.slice,Sem.run_bind,run_underlying Tryz.underlying35,Result.andThen,hb,hs,Sem.run_pure]
 rfl
theorem KY (ps:List Z1) (n k:Nat):ZY (ps.drop n) k=ZY ps (n+k):=by unfold ZY;simp [List.getD]
theorem IsPaces.from {a:Option Addr} {n cap:Nat} {ps:List Z1} (h:IsPaces w (.slice a n cap) ps) {k:Nat} (hk:k<=ps.length):IsPaces w (GB a n cap k) (ps.drop k):=by
 obtain ⟨a',cap',he,hc,hm,hr⟩:=h
 cases he
 refine ⟨_,cap-k,by unfold GB;rw [List.length_drop],by rw [List.length_drop];omega,by omega,?_⟩
 rcases hr with hr | ⟨b,off,rfl,hlt,hcl⟩
 ·exact .inl (by rw [hr];simp)
 ·by_cases hz:ps.length=k
  ·exact .inl (by rw [List.drop_eq_nil_iff];omega)
  ·rw [if_neg (by omega)]
   refine .inr ⟨b,off+k*2,by simp [Gr],hlt,fun j hj=> ?_⟩
   rw [List.length_drop] at hj
   rw [KY]
   have:=hcl (k+j) (by omega)
   rw [show off+(k+j)*2=off+k*2+j*2 by omega] at this
   exact this
theorem Kd (a:Option Addr) (n cap k:Nat):∃ a',GB a n cap k= .slice a' (n-k) (cap-k):=⟨_,rfl⟩
theorem FE  {ps:List Z1} (f z:Int) (h:IsPaces w v ps) (hl:ps.length<=900) :
  Calls Tryz.prog 124 #[v,.agg #[.int .i64 f,.int .i64 z]] w fun e w'=> ∃ v',e= .returned v'/\EntsAt w.heap.size w' v' (RX ps (f,z))/\Below w.heap.size w w':=by
 have Hv:=Z9 h
 obtain ⟨a,cap,rfl,hc,hm,hr⟩:=h
 have Hr:=Z9 hr
 clear hr
 go_enter Tryz.func124,Tryz.ntmps124
 go_wp2_with fail
 generalize hW:w.alloc (.cells #[.int .i64 f,.int .i64 z] 45)=W0
 have hs0:W0.heap.size=w.heap.size+1:=by rw [<-hW];simp
 have d0:W0.cell? ⟨w.heap.size,0,none⟩=some (.int .i64 f):=by rw [<-hW];simp
 have d1:W0.cell? ⟨w.heap.size,1,none⟩=some (.int .i64 z):=by rw [<-hW];simp
 have HB0:Hid (Below w.heap.size w W0):=Z9 (by rw [<-hW];exact (Below.refl _ _).alloc (Nat.le_refl _) _)
 have D0:=Z9 d0
 have D1:=Z9 d1
 clear hW d0 d1
 go_loopw [5] (fun i wr=> ∃ k:Nat,k<=ps.length/\i= .int .i64 k/\(∀ j,j<k->ltB (ZY ps j) (f,z)=true)/\Below W0.heap.size W0 wr) (fun i _=>ps.length-(intOf i).toNat)
 case atStart=>exact ⟨0,Nat.zero_le _,rfl,fun j hj=>by omega,Below.refl _ _⟩
 case round=>
  obtain ⟨k,hk,rfl,hst,hb⟩:=hrel
  have Hst:=Z9 hst
  have Hb:=Z9 hb
  have hszr:=hb.size
  have hlt0:w.heap.size<W0.heap.size:=by omega
  have g0:=(hb.cell (p:=⟨w.heap.size,0,none⟩) hlt0).trans (uh D0)
  have g1:=(hb.cell (p:=⟨w.heap.size,1,none⟩) hlt0).trans (uh D1)
  have k0:=cell_regrown g0
  have k1:=cell_regrown g1
  clear hst
  by_cases hgo:k<ps.length/\ltB (ZY ps k) (f,z)=true
  ·obtain ⟨hlt,hab⟩:=hgo
   rcases uh Hr with h0 | ⟨b,off,rfl,hbw,hcl⟩
   ·rw [h0] at hlt;simp at hlt
   obtain ⟨c0,c1⟩:=hcl k hlt
   have hbB:=(uh HB0).trans (hb.mono (by omega))
   rw [<-hbB.cell (p:=⟨b,off+k*2,none⟩) hbw] at c0
   rw [<-hbB.cell (p:=⟨b,off+k*2+1,none⟩) hbw] at c1
   generalize hp:ZY ps k=p at *
   obtain ⟨f',z'⟩:=p
   simp only at c0 c1
   have Hp:=Z9 hp
   have m0:=cell_regrown c0
   have m1:=cell_regrown c1
   have hd:decide (k<ps.length)=true:=decide_eq_true hlt
   clear hp hcl hb hbB g0 g1 c0 c1
   go_wp2_with fail
   refine wp_region_quiet_below (by kernel_rfl) (by kernel_rfl) ?_
   repeat (go_big_quiet_step (exact Calls.regrown_of (TP _ _ _ _ _)))
   refine wpQuiet_nil ?_
   intro _ hw'
   obtain ⟨⟨dq,osq⟩,hw''⟩:=hw'
   subst hw''
   go_wp2_with fail
   go_roundw
   case rel=>exact ⟨k+1,by omega,by go_num,X8 (uh Hst) (by rw [uh Hp];exact hab),(uh Hb).trans ((below_regrown _ _ _).mono (uh Hb).size)⟩
   case measure=>simp [intOf];omega
  ·have HK:Hid (X7 (f,z) ps=k):=Z9 (DX hk (uh Hst) (by
    by_cases e:k=ps.length
    ·exact .inl e
    ·right
     cases hq:ltB (ZY ps k) (f,z)
     ·rfl
     ·exact absurd ⟨by omega,hq⟩ hgo))
   have HQ:Hid (ps.take k++[(f,z)]++ps.drop k=RX ps (f,z)):=Z9 (by unfold RX;rw [uh HK];simp)
   have hto:=Ex a ps.length cap k (by omega)
   have hfr:=Jh a ps.length cap k hk
   obtain ⟨ra,hra⟩:=Kd a ps.length cap k
   rw [hra] at hfr
   have Hfrom:Hid (IsPaces w (.slice ra (ps.length-k) (cap-k)) (ps.drop k)):=Z9 (by rw [<-hra];exact (uh Hv).from hk)
   have Hcut:Hid (IsPaces w (.slice a k cap) (ps.take k)):=Z9 ((uh Hv).cut hk)
   clear hra
   by_cases hlt:k<ps.length
   ·have hab:ltB (ZY ps k) (f,z)=false:=by
     cases hq:ltB (ZY ps k) (f,z)
     ·rfl
     ·exact absurd ⟨hlt,hq⟩ hgo
    rcases uh Hr with h0 | ⟨b,off,rfl,hbw,hcl⟩
    ·rw [h0] at hlt;simp at hlt
    obtain ⟨c0,c1⟩:=hcl k hlt
    have hbB:=(uh HB0).trans (hb.mono (by omega))
    rw [<-hbB.cell (p:=⟨b,off+k*2,none⟩) hbw] at c0
    rw [<-hbB.cell (p:=⟨b,off+k*2+1,none⟩) hbw] at c1
    generalize hp:ZY ps k=p at *
    obtain ⟨f',z'⟩:=p
    simp only at c0 c1
    have m0:=cell_regrown c0
    have m1:=cell_regrown c1
    have hd:decide (k<ps.length)=true:=decide_eq_true hlt
    clear hp hcl hb hbB g0 g1 c0 c1 hgo
    go_wp2_with fail
    refine wp_region_quiet_below (by kernel_rfl) (by kernel_rfl) ?_
    repeat (go_big_quiet_step (exact Calls.regrown_of (TP _ _ _ _ _)))
    refine wpQuiet_nil ?_
    intro w1 hw'
    have Hb1:Hid (Below W0.heap.size W0 w1):=Z9 (by obtain ⟨q,rfl⟩:=hw';exact (uh Hb).trans ((below_regrown _ _ _).mono (uh Hb).size))
    clear hw' k0 k1 m0 m1
    go_wp2_with fail
    have B1:Hid (Below w.heap.size w w1):=Z9 ((uh HB0).trans ((uh Hb1).mono (by omega)))
    refine (TB ((uh Hfrom).below (uh B1)) (by simp;omega)).mono ?_
    rintro e w2 ⟨v2,rfl,hi2,hb2⟩
    obtain ⟨a2,cap2,hv2⟩:=hi2.shape
    rw [List.length_drop] at hv2
    subst hv2
    have hz1:=(uh Hb1).size
    have hz2:=hb2.size
    have Hb2:Hid (Below W0.heap.size W0 w2):=Z9 ((uh Hb1).trans (hb2.mono hz1))
    have e0:=((uh Hb2).cell (p:=⟨w.heap.size,0,none⟩) hlt0).trans (uh D0)
    have e1:=((uh Hb2).cell (p:=⟨w.heap.size,1,none⟩) hlt0).trans (uh D1)
    have B2:Hid (Below w.heap.size w w2):=Z9 ((uh HB0).trans ((uh Hb2).mono (by omega)))
    have Hi2:=Z9 hi2
    have HC:=Z9 ((uh Hcut).below (uh B2))
    clear hi2 hb2
    have hlt2:w.heap.size<w2.heap.size:=by omega
    have hkl:(ps.take k).length=k:=by simp;omega
    go_wp2_with fail
    go_region_law (first
     | (refine Yb rfl (.tmp 28) (.tmp 30) 35 Tryz.underlying35 rfl w2.heap.size _ _ (ps.take k) [(f,z)] rfl rfl (E3.later ((Below.refl _ _).alloc (Nat.le_refl _) _)) (Rk rfl (Nat.le_refl _) (by omega)) (by simp;omega) (by simp;omega) ?_;intro v4 w4 hown4 hg4 hat4;have X4:Below w2.heap.size w2 w4:=(X3.alloc X3.size _).trans ((Below.refl _ _).grown hg4 (by simp;omega) (fun i e=>(E3.lt e).1)))
     | (refine Yb rfl (.tmp 28) (.tmp 30) 35 Tryz.underlying35 rfl w2.heap.size _ _ (ps.take k) [(f,z)] rfl rfl E3 ((Rk (w:=w2) rfl (Nat.le_refl _) (by omega)).below (((Below.refl _ _).drew).trans hb3)) (by simp;omega) (by omega) ?_;intro v4 w4 hown4 hg4 hat4;have X4:Below w2.heap.size w2 w4:=X3.trans ((Below.refl _ _).grown hg4 (by omega) (fun i e=>(E3.lt e).1)))
     | (refine Yb rfl (.tmp 31) (.tmp 32) 35 Tryz.underlying35 rfl w2.heap.size _ _ (ps.take k++[(f,z)]) (ps.drop k) rfl rfl hown4 ((uh Hi2).paces.below X4) (by simp;omega) (by have:=X4.size;omega) ?_;intro v5 w5 hown5 hg5 hat5)
     | (go_simp;go_at_call 177;refine (TB (ps:=ps.take k) ?_ (by simp;omega)).mono ?_;(exact (uh HC).below (by first | exact (Below.refl _ _).drew | exact ((Below.refl _ _).alloc (Nat.le_refl _) _).drew));rintro e w3 ⟨v3,rfl,hi3,hb3⟩;obtain ⟨a3,cap3,hv3⟩:=hi3.shape;rw [hkl] at hv3;subst hv3;have E3:=hi3.mono (n₁:=w2.heap.size) (by simp);have X3:Below w2.heap.size w2 w3:=(by first | exact ((Below.refl _ _).drew).trans (hb3.mono (by simp)) | exact (((Below.refl _ _).alloc (Nat.le_refl _) _).drew).trans (hb3.mono (by simp)));have hz3:=X3.size;have q0:=(X3.cell (p:=⟨w.heap.size,0,none⟩) hlt2).trans e0;have q1:=(X3.cell (p:=⟨w.heap.size,1,none⟩) hlt2).trans e1))
    all_goals
     have X5:Below w2.heap.size w2 w5:=X4.trans ((Below.refl _ _).grown hg5 X4.size (fun i e=>(hown4.lt e).1))
     rw [uh HQ] at hown5
     have HX5:=Z9 X5
     have HO5:=Z9 hown5
     clear hown5 hg5 hat5 X4 X5 hown4 hg4 hat4 X3 E3 hi3 hb3 q0 q1
     go_wp2_with fail
     go_ret
     exact ⟨_,rfl,(uh HO5).mono (uh B2).size,(uh B2).trans ((uh HX5).mono (uh B2).size)⟩
   ·have hd:decide (k<ps.length)=false:=decide_eq_false hlt
    clear hb g0 g1 hgo
    go_wp2_with fail
    refine wp_region_quiet_below (by kernel_rfl) (by kernel_rfl) ?_
    repeat (go_big_quiet_step (exact Calls.regrown_of (TP _ _ _ _ _)))
    refine wpQuiet_nil ?_
    intro w1 hw'
    have Hb1:Hid (Below W0.heap.size W0 w1):=Z9 (by obtain ⟨q,rfl⟩:=hw';exact (uh Hb).trans ((below_regrown _ _ _).mono (uh Hb).size))
    clear hw' k0 k1
    go_wp2_with fail
    have B1:Hid (Below w.heap.size w w1):=Z9 ((uh HB0).trans ((uh Hb1).mono (by omega)))
    refine (TB ((uh Hfrom).below (uh B1)) (by simp;omega)).mono ?_
    rintro e w2 ⟨v2,rfl,hi2,hb2⟩
    obtain ⟨a2,cap2,hv2⟩:=hi2.shape
    rw [List.length_drop] at hv2
    subst hv2
    have hz1:=(uh Hb1).size
    have hz2:=hb2.size
    have Hb2:Hid (Below W0.heap.size W0 w2):=Z9 ((uh Hb1).trans (hb2.mono hz1))
    have e0:=((uh Hb2).cell (p:=⟨w.heap.size,0,none⟩) hlt0).trans (uh D0)
    have e1:=((uh Hb2).cell (p:=⟨w.heap.size,1,none⟩) hlt0).trans (uh D1)
    have B2:Hid (Below w.heap.size w w2):=Z9 ((uh HB0).trans ((uh Hb2).mono (by omega)))
    have Hi2:=Z9 hi2
    have HC:=Z9 ((uh Hcut).below (uh B2))
    clear hi2 hb2
    have hlt2:w.heap.size<w2.heap.size:=by omega
    have hkl:(ps.take k).length=k:=by simp;omega
    go_wp2_with fail
    go_region_law (first
     | (refine Yb rfl (.tmp 28) (.tmp 30) 35 Tryz.underlying35 rfl w2.heap.size _ _ (ps.take k) [(f,z)] rfl rfl (E3.later ((Below.refl _ _).alloc (Nat.le_refl _) _)) (Rk rfl (Nat.le_refl _) (by omega)) (by simp;omega) (by simp;omega) ?_;intro v4 w4 hown4 hg4 hat4;have X4:Below w2.heap.size w2 w4:=(X3.alloc X3.size _).trans ((Below.refl _ _).grown hg4 (by simp;omega) (fun i e=>(E3.lt e).1)))
     | (refine Yb rfl (.tmp 28) (.tmp 30) 35 Tryz.underlying35 rfl w2.heap.size _ _ (ps.take k) [(f,z)] rfl rfl E3 ((Rk (w:=w2) rfl (Nat.le_refl _) (by omega)).below (((Below.refl _ _).drew).trans hb3)) (by simp;omega) (by omega) ?_;intro v4 w4 hown4 hg4 hat4;have X4:Below w2.heap.size w2 w4:=X3.trans ((Below.refl _ _).grown hg4 (by omega) (fun i e=>(E3.lt e).1)))
     | (refine Yb rfl (.tmp 31) (.tmp 32) 35 Tryz.underlying35 rfl w2.heap.size _ _ (ps.take k++[(f,z)]) (ps.drop k) rfl rfl hown4 ((uh Hi2).paces.below X4) (by simp;omega) (by have:=X4.size;omega) ?_;intro v5 w5 hown5 hg5 hat5)
     | (go_simp;go_at_call 177;refine (TB (ps:=ps.take k) ?_ (by simp;omega)).mono ?_;(exact (uh HC).below (by first | exact (Below.refl _ _).drew | exact ((Below.refl _ _).alloc (Nat.le_refl _) _).drew));rintro e w3 ⟨v3,rfl,hi3,hb3⟩;obtain ⟨a3,cap3,hv3⟩:=hi3.shape;rw [hkl] at hv3;subst hv3;have E3:=hi3.mono (n₁:=w2.heap.size) (by simp);have X3:Below w2.heap.size w2 w3:=(by first | exact ((Below.refl _ _).drew).trans (hb3.mono (by simp)) | exact (((Below.refl _ _).alloc (Nat.le_refl _) _).drew).trans (hb3.mono (by simp)));have hz3:=X3.size;have q0:=(X3.cell (p:=⟨w.heap.size,0,none⟩) hlt2).trans e0;have q1:=(X3.cell (p:=⟨w.heap.size,1,none⟩) hlt2).trans e1))
    all_goals
     have X5:Below w2.heap.size w2 w5:=X4.trans ((Below.refl _ _).grown hg5 X4.size (fun i e=>(hown4.lt e).1))
     rw [uh HQ] at hown5
     have HX5:=Z9 X5
     have HO5:=Z9 hown5
     clear hown5 hg5 hat5 X4 X5 hown4 hg4 hat4 X3 E3 hi3 hb3 q0 q1
     go_wp2_with fail
     go_ret
     exact ⟨_,rfl,(uh HO5).mono (uh B2).size,(uh B2).trans ((uh HX5).mono (uh B2).size)⟩
theorem Sp  (b:Int) (h:Smy w v0 v1 v2 v3 v4 m) (hl:m.smiths.length<=800) :
  Calls Tryz.prog 65 #[.agg #[v0,v1,v2,v3,v4,.int .i64 m.now],.int .i64 b] w fun e w'=> ∃ v',e= .returned v'/\EntsAt w.heap.size w' v' (atV m.smiths b m.smiths.length)/\Below w.heap.size w w':=by
 obtain ⟨h0,h1,h2,h3,h4⟩:=h
 obtain ⟨a0,p0,rfl,hc0,hm0,_⟩:=h0
 obtain ⟨a1,p1,rfl,hc1,hm1,_⟩:=h1
 obtain ⟨a2,p2,rfl,hc2,hm2,r2⟩:=h2
 obtain ⟨a3,p3,rfl,hc3,hm3,_⟩:=h3
 obtain ⟨a4,p4,rfl,hc4,hm4,_⟩:=h4
 have R2:=Z9 r2
 clear r2
 have kb0:Hid (Blk ((w.alloc (.cells #[.slice a0 m.rooms.length p0,.slice a1 m.guilds.length p1,.slice a2 m.smiths.length p2,.slice a3 m.desks.length p3,.slice a4 m.paces.length p4,.int .i64 m.now] 32)).alloc (.cells #[] 45)) w.heap.size 32 #[.slice a0 m.rooms.length p0,.slice a1 m.guilds.length p1,.slice a2 m.smiths.length p2,.slice a3 m.desks.length p3,.slice a4 m.paces.length p4,.int .i64 m.now]):=Z9 ((Blk.new w _ _).alloc _)
 have BB0:Hid (Below w.heap.size w ((w.alloc (.cells #[.slice a0 m.rooms.length p0,.slice a1 m.guilds.length p1,.slice a2 m.smiths.length p2,.slice a3 m.desks.length p3,.slice a4 m.paces.length p4,.int .i64 m.now] 32)).alloc (.cells #[] 45))):=Z9 (((Below.refl _ _).alloc (Nat.le_refl _) _).alloc (by simp) _)
 have E0:Hid (EntsAt w.heap.size ((w.alloc (.cells #[.slice a0 m.rooms.length p0,.slice a1 m.guilds.length p1,.slice a2 m.smiths.length p2,.slice a3 m.desks.length p3,.slice a4 m.paces.length p4,.int .i64 m.now] 32)).alloc (.cells #[] 45)) (.slice (some ⟨w.heap.size+1,0,none⟩) 0 0) []):=Z9 (Ok (by simp) (by omega))
 go_enter Tryz.func65,Tryz.ntmps65
 go_wp2_with fail
 go_loopw [5,6] (fun q i wr=> ∃ k:Nat,k<=m.smiths.length/\i= .int .i64 k/\EntsAt w.heap.size wr q (atV m.smiths b k)/\Blk wr w.heap.size 32 #[.slice a0 m.rooms.length p0,.slice a1 m.guilds.length p1,.slice a2 m.smiths.length p2,.slice a3 m.desks.length p3,.slice a4 m.paces.length p4,.int .i64 m.now]/\Below w.heap.size w wr) (fun _ i _=>m.smiths.length-(intOf i).toNat)
 case atStart=>exact ⟨0,Nat.zero_le _,rfl,uh E0,uh kb0,uh BB0⟩
 case round=>
  obtain ⟨k,hk,rfl,he,kb1,hb1⟩:=hrel
  obtain ⟨qa,qcap,rfl⟩:=EntsAt.shape he
  have kb:=Z9 kb1
  have BB:=Z9 hb1
  have He:=Z9 he
  clear kb1 hb1 he kb0 BB0 E0
  have hal:=Rb m.smiths b k
  have c2:=(uh kb).cell (i:=2) (v:= .slice a2 m.smiths.length p2) rfl
  by_cases hls:k<m.smiths.length
  ·rcases uh R2 with e0 | ⟨sb,off,rfl,hbw,hcl⟩
   ·rw [e0] at hls;simp at hls
   obtain ⟨d0,d1,d2,d3,d4,d5,d6,d7,d8,d9,d10⟩:=ZE hcl hls
   rw [<-(uh BB).cell (p:=⟨sb,off+k*11,none⟩) hbw] at d0
   rw [<-(uh BB).cell (p:=⟨sb,off+k*11+1,none⟩) hbw] at d1
   rw [<-(uh BB).cell (p:=⟨sb,off+k*11+2,none⟩) hbw] at d2
   rw [<-(uh BB).cell (p:=⟨sb,off+k*11+3,none⟩) hbw] at d3
   rw [<-(uh BB).cell (p:=⟨sb,off+k*11+4,none⟩) hbw] at d4
   rw [<-(uh BB).cell (p:=⟨sb,off+k*11+5,none⟩) hbw] at d5
   rw [<-(uh BB).cell (p:=⟨sb,off+k*11+6,none⟩) hbw] at d6
   rw [<-(uh BB).cell (p:=⟨sb,off+k*11+7,none⟩) hbw] at d7
   rw [<-(uh BB).cell (p:=⟨sb,off+k*11+8,none⟩) hbw] at d8
   rw [<-(uh BB).cell (p:=⟨sb,off+k*11+9,none⟩) hbw] at d9
   rw [<-(uh BB).cell (p:=⟨sb,off+k*11+10,none⟩) hbw] at d10
   clear hcl
   have S1:=Z9 (fun hs=>Uq (ss:=m.smiths) (b:=b) (k:=k) hs)
   have S2:=Z9 (fun h1 h2=>Vh (ss:=m.smiths) (b:=b) (k:=k) h1 h2)
   generalize Z8 m.smiths k=ss at *
   obtain ⟨st,be,rk,my,gu,lo,hi,hd,ca,ut,wk⟩:=ss
   simp only at d0 d1 d2 d3 d4 d5 d6 d7 d8 d9 d10
   have hl0:w.heap.size<wr.heap.size:=(uh kb).lt
   by_cases hbe:be=b
   rotate_left
   ·have hbn:(be ==b)=false:=by simpa using hbe
    go_wp2_with fail
    go_roundw
    case rel=>exact ⟨k+1,by omega,by go_num,by rw [uh S1 (fun h9=>hbe h9.1)];exact EntsAt.later (uh He) ((Below.refl _ _).alloc (Nat.le_refl _) _),(uh kb).alloc _,(uh BB).alloc (uh BB).size _⟩
    case measure=>simp [intOf];omega
   subst hbe
   have hbn:(be ==be)=true:=by simp
   obtain ⟨ps,hps⟩:∃ q,ZP (st,be,rk,my,gu,lo,hi,hd,ca,ut,wk)=q:=⟨_,rfl⟩
   have Hps:=Z9 hps
   clear hps
   go_wp2_with fail
   clear c2 d0 d1 d2 d3 d4 d5 d6 d7 d8 d9 d10
   refine (YH (uh Hps) _).mono ?_
   rintro e w2 ⟨rfl,hb⟩
   have ks:Hid (Blk w2 wr.heap.size 41 #[.int .i64 st,.int .i64 be,.int .i64 rk,.int .i64 my,.int .i64 gu,.int .i64 lo,.int .i64 hi,.int .i64 hd,.int .i64 ca,.int .i64 ut,.int .i64 wk]):=Z9 ((Blk.new wr _ _).below hb (by simp))
   replace kb:=Z9 (((uh kb).alloc (.cells #[.int .i64 st,.int .i64 be,.int .i64 rk,.int .i64 my,.int .i64 gu,.int .i64 lo,.int .i64 hi,.int .i64 hd,.int .i64 ca,.int .i64 ut,.int .i64 wk] 41)).below hb (by simp;omega))
   have hba:=((Below.refl wr.heap.size wr).alloc (Nat.le_refl _) (.cells #[.int .i64 st,.int .i64 be,.int .i64 rk,.int .i64 my,.int .i64 gu,.int .i64 lo,.int .i64 hi,.int .i64 hd,.int .i64 ca,.int .i64 ut,.int .i64 wk] 41)).trans (hb.mono (by simp))
   replace He:=Z9 (EntsAt.later (uh He) hba)
   replace BB:=bt BB hba
   clear hb hl0 hba
   have d7:=(uh ks).cell (i:=7) (v:= .int .i64 hd) rfl
   cases ps
   ·go_wp2_with fail
    go_roundw
    case rel=>exact ⟨k+1,by omega,by go_num,by rw [uh S1 (fun h9=>by have h8:=h9.2;rw [uh Hps] at h8;cases h8)];exact uh He,uh kb,uh BB⟩
    case measure=>simp [intOf];omega
   go_wp2_with fail
   refine (FE hd (k:Int) (EntsAt.paces (uh He)) (by omega)).mono ?_
   rintro e w3 ⟨v3,rfl,he3,hb⟩
   have hsz:=(uh BB).size
   have he4:=EntsAt.mono he3 hsz
   replace kb:=bl kb hb
   replace BB:=Z9 ((uh BB).trans (hb.mono hsz))
   obtain ⟨qa3,qcap3,rfl⟩:=EntsAt.shape he4
   have He4:=Z9 he4
   clear hb he3 he4 d7
   go_wp2_with fail
   go_roundw
   case rel=>exact ⟨k+1,by omega,by go_num,by rw [uh S2 (by first | rfl | trivial) (uh Hps)];exact uh He4,uh kb,uh BB⟩
   case measure=>simp [intOf];omega
  ·obtain rfl:k=m.smiths.length:=by omega
   go_wp2_with fail
   go_ret
   exact ⟨_,rfl,uh He,uh BB⟩
def Vl (x:Int):Bool:=inB x (-1000000000000) 1000000000000
def VT (h m:Int):Bool:=(Vl h && Vl m) && inB (h-m) (-20000) 63000
def YO (h m:Int):Int:=if Vl m then max h (m-20000) else h
def Zh (h f t:Int):Int:=if Vl h && (Vl f && Vl t) then h-f+t else h
def YN (m f:Int):Int:=if Vl m && Vl f then min (max m f) 900000000000 else m
theorem Ou {x:Int} (h:Vl x=true) : -1000000000000<=x/\x<=1000000000000:=ZV h
theorem CV (x y:Int):([x,y].all fun z=>inB z (-1000000000000) 1000000000000)=(Vl x && Vl y):=by simp [Vl]
theorem C5 (h m:Int):([h].all fun z=>inB z (m-20000) (m+63000))=inB (h-m) (-20000) 63000:=by
 simp only [List.all_cons,List.all_nil,Bool.and_true]
 unfold inB
 congr 1
 exact propext ⟨fun h=>by omega,fun h=>by omega⟩
theorem Ot {x:Int} (h0 : -1000000000000<=x) (h1:x<=1000000000000):Vl x=true:=Zq h0 h1
theorem D8 {h f t:Int} (h0 : -1000000000000<=h) (h1:h<=1000000000000) (f0 : -1000000000000<=f) (f1:f<=1000000000000) (t0 : -1000000000000<=t) (t1:t<=1000000000000):Zh h f t=h-f+t:=by
 unfold Zh;rw [Ot h0 h1,Ot f0 f1,Ot t0 t1];rfl
theorem FH {m f:Int} (m0 : -1000000000000<=m) (m1:m<=1000000000000) (f0 : -1000000000000<=f) (f1:f<=1000000000000):YN m f=min (max m f) 900000000000:=by
 unfold YN;rw [Ot m0 m1,Ot f0 f1];rfl
end Go.Proofs.YtaegckehjlkaaaaGreat
