/- Part 13 of what the proof rests on. No condition but those that a theorem names. -/
import Derived.Test.YthbbahagpmdooaaGreatXq12
import Derived.Deep.LoopGhost
set_option maxHeartbeats 8000000
set_option maxRecDepth 100000
namespace Go.Proofs.YthbbahagpmdooaaGreat
open Go.ChangeShapes Go.WideShapes Go.ChangeAt Go.RowKit Go.Sort
set_option linter.unusedVariables false
variable {w w' w0 w1 w2 w3 w₀ wr W W' X A B C : World} {v v0 v1 v2 v3 v4 u u0 u1 u2 u3 u4 : Value}
theorem IN (g o i:Nat):(⟨g,o,none⟩:Addr).add i=⟨g,o+i,none⟩:=by unfold Addr.add;split<;>simp_all
theorem Qz {base t ty e size n:Nat} {i:TypeInfo} (ht:Tryz.prog.underlying t=some (.slice e)) (hi:Tryz.prog.info? e=some i) {xs:List Value} (hown:w.ownsRow base e size v n xs) (a:Option Addr) (c:Nat) :
  (Builtin.append_ #[t,t] ty #[v,.slice a 0 c]).run Tryz.prog w= .ok v w:=by
 rcases hown.2 with ⟨rfl,rfl⟩ | ⟨g,cap,cur,rfl,_,_,hnc,_⟩
 ·cases a<;>simp [Builtin.append_,run_underlying ht,sizeOf,typeInfo,hi,Builtin.lenOf,Builtin.firstCells,loadCells,loadCellsFrom]
 ·cases a<;>simp [Builtin.append_,run_underlying ht,sizeOf,typeInfo,hi,Builtin.lenOf,Builtin.firstCells,hnc,storeCells,loadCells,loadCellsFrom]
theorem Fm {b off:Nat} {qs:List Z5} (h:∀ k,k<qs.length->w.cell? ⟨b,off+k*2,none⟩=some (.int .i64 (Z7 qs k).1)/\w.cell? ⟨b,off+k*2+1,none⟩=some (.int .i64 (Z7 qs k).2)) :
  ∀ (j:Nat) (u:Value),(YG qs)[j]?=some u->w.cell? ((⟨b,off,none⟩:Addr).add j)=some u:=fun j u hj=>by
 have hlt:j<qs.length*2:=by
  rcases Nat.lt_or_ge j (qs.length*2) with h | h
  ·exact h
  ·rw [List.getElem?_eq_none (by rw [SJ];exact h)] at hj;cases hj
 rw [IN]
 have hp:=UN (f:=fun p:Z5=>Value.int .i64 p.1) (g:=fun p:Z5=>Value.int .i64 p.2) qs (j / 2) (by omega)
 have e:Z7 qs (j / 2)=qs[j / 2]'(by omega):=by unfold Z7;simp [List.getD,(by omega:j / 2<qs.length)]
 obtain ⟨h1,h2⟩:=h (j / 2) (by omega)
 rw [e] at h1 h2
 rcases Nat.mod_two_eq_zero_or_one j with e2 | e2
 ·rw [show off+j=off+j / 2*2 by omega,h1,<-hj]
  conv=>rhs;rw [show j=j / 2*2 by omega]
  exact hp.1.symm
 ·rw [show off+j=off+j / 2*2+1 by omega,h2,<-hj]
  conv=>rhs;rw [show j=j / 2*2+1 by omega]
  exact hp.2.symm
theorem Ij (qs:List Z5):∀ u ∈ YG qs,u.oneCell'=true:=fun u hu=>by
 unfold YG at hu
 obtain ⟨p,_,hp⟩:=List.mem_flatMap.1 hu
 simp only [List.mem_cons,List.not_mem_nil,or_false] at hp
 rcases hp with rfl | rfl<;>rfl
theorem T6 {base t ty:Nat} (ht:Tryz.prog.underlying t=some (.slice 45)) {v x:Value} {ps qs:List Z5} (hown:EntsAt base w v ps) (hx:IsPaces w x qs) (hb:ps.length+qs.length<=4000) (hbase:base<=w.heap.size) :
  ∃ v' w',(Builtin.append_ #[t,t] ty #[v,x]).run Tryz.prog w= .ok v' w'/\EntsAt base w' v' (ps++qs)/\w.grownBy w' v.ownBlock/\(v'.ownBlock=v.ownBlock\/v'.ownBlock=some w.heap.size):=by
 obtain ⟨i0,hi,hz0,hz1,hz2⟩:=info_parts Ta
 obtain ⟨a,c,rfl,hc,hm,hr⟩:=hx
 by_cases h0:qs=[]
 ·subst h0
  refine ⟨v,w,Qz ht hi hown a c,by simpa using hown,SE _ _,.inl rfl⟩
 ·rcases hr with hr | ⟨b,off,rfl,hlt,hcl⟩
  ·exact absurd hr h0
  ·obtain ⟨v',w',hr,h2,h3,_,h5⟩:=run_append_own_at (P:=Tryz.prog) w base t ty 45 i0 (.agg #[.int .i64 0,.int .i64 0]) 2 16 ht hi hz0 hz1 hz2 rfl (by decide) v ps.length _ hown ⟨b,off,none⟩ qs.length c (YG qs) (SJ qs)
    (Fm hcl) (Ij qs) (by simp only [maxLen];omega) (by omega) hbase
   refine ⟨v',w',hr,?_,h3,h5⟩
   unfold EntsAt
   rw [SV,List.length_append]
   exact h2
theorem Xe {ops:Array Oper} {rest:List Oper} {o:Oper} {a:Act} {Q:Exit->Act->World->Prop} (hgd:o.guard=none) (s x:Operand) (t:TypeId) (ht:Tryz.prog.underlying t=some (.slice 45))
  (ho:o.op= .call { callee:= .builtin .append,args:=#[s,x],argTypes:=#[t,t] }) (base:Nat) (v u:Value) (ps qs:List Z5) (hs:a.eval s=v) (hx:a.eval x=u) (hown:EntsAt base w v ps) (hr:IsPaces w u qs)
  (hb:ps.length+qs.length<=4000) (hbase:base<=w.heap.size)
  (h:∀ v' w',EntsAt base w' v' (ps++qs)->w.grownBy w' v.ownBlock->(v'.ownBlock=v.ownBlock\/v'.ownBlock=some w.heap.size)->wpList Tryz.prog ops Q rest (a.put o.dst v') w') :
  wpList Tryz.prog ops Q (o::rest) a w:=by
 refine wpList_plain hgd fun K hK=> ?_
 obtain ⟨v',w',hrun,h2,h3,h5⟩:=T6 (ty:=o.type) ht hown hr hb hbase
 unfold Oper.wp execOp
 simp only [ho,resolve,invoke,builtin,Sem.run_bind,Sem.run_pure,Result.andThen_ok,List.map_toArray,List.map_cons,List.map_nil,hs,hx,hrun]
 exact hK _ _ (h v' w' h2 h3 h5)
theorem Ys {ops:Array Oper} {o:Oper} {a:Act} {K:Act->World->Prop} {Q:Exit->Act->World->Prop} {E:Prop} (hgd:o.guard=none) (s x:Operand) (t:TypeId) (ht:Tryz.prog.underlying t=some (.slice 45))
  (ho:o.op= .call { callee:= .builtin .append,args:=#[s,x],argTypes:=#[t,t] }) (base:Nat) (v u:Value) (ps qs:List Z5) (hs:a.eval s=v) (hx:a.eval x=u) (hown:EntsAt base w v ps) (hr:IsPaces w u qs)
  (hb:ps.length+qs.length<=4000) (hbase:base<=w.heap.size)
  (h:∀ v' w',EntsAt base w' v' (ps++qs)->w.grownBy w' v.ownBlock->(v'.ownBlock=v.ownBlock\/v'.ownBlock=some w.heap.size)->K (a.put o.dst v') w') :
  if Region.wanted o (yielded ops a.tmps)=true then Oper.wp Tryz.prog o a w K Q else E:=by
 have hw:Region.wanted o (yielded ops a.tmps)=true:=by simp [Region.wanted,hgd]
 rw [if_pos hw]
 obtain ⟨v',w',hrun,h2,h3,h5⟩:=T6 (ty:=o.type) ht hown hr hb hbase
 unfold Oper.wp execOp
 simp only [ho,resolve,invoke,builtin,Sem.run_bind,Sem.run_pure,Result.andThen_ok,List.map_toArray,List.map_cons,List.map_nil,hs,hx,hrun]
 exact h v' w' h2 h3 h5
theorem XN {B g:Nat} (hg:g=w.heap.size) (hB:B<=g):EntsAt B (w.alloc (.cells #[] 45)) (.slice (some ⟨g,0,none⟩) 0 0) []:=by
 subst hg
 exact ⟨by simp [YG],.inr ⟨_,0,#[],rfl,hB,heap_alloc_new w _,Nat.le_refl _,Nat.zero_le _,by simp,by simp [YG]⟩⟩
theorem Tq {f z:Int} {g c:Nat} (hg:g=w.heap.size) (hc:1<=c) (hc2:c<=4000):IsPaces (w.alloc (.cells #[.int .i64 f,.int .i64 z] 45)) (.slice (some ⟨g,0,none⟩) 1 c) [(f,z)]:=by
 subst hg
 refine ⟨_,c,rfl,hc,by omega,.inr ⟨_,0,rfl,by simp,fun k hk=> ?_⟩⟩
 obtain rfl:k=0:=by simpa using hk
 simp [Z7]
theorem Pd  {ps:List Z5} (h:IsPaces w v ps) (hl:ps.length<=1000) :
  Calls Tryz.prog 117 #[v] w fun e w'=> ∃ v',e= .returned v'/\EntsAt w.heap.size w' v' ps/\Below w.heap.size w w':=by
 have Hv:=Z9 h
 obtain ⟨a,cap,rfl,hc,hm,hr⟩:=h
 clear hr
 go_enter Tryz.func117,Tryz.ntmps117
 go_wp2_with (at_builtin;refine Xe rfl (.tmp 3) (.tmp 4) 35 Tryz.underlying35 rfl w.heap.size _ _ [] ps rfl rfl (XN rfl (Nat.le_refl _)) ((uh Hv).below ((Below.refl _ _).alloc (Nat.le_refl _) _)) (by simp;omega) (by simp) ?_;intro v' w1 hown hgrow hat)
 go_ret
 refine ⟨v',rfl,by simpa using hown,((Below.refl _ _).alloc (Nat.le_refl _) _).trans ((Below.refl _ _).grown hgrow (by simp) (fun k e=> ?_))⟩
 cases e;exact Nat.le_refl _
theorem Uo  {ps:List Z5} (h:IsPaces w v ps) (hl:ps.length<=1000) :
  Calls Tryz.prog 123 #[v] w fun e w'=> ∃ v',e= .returned v'/\EntsAt w.heap.size w' v' ps/\Below w.heap.size w w':=by
 have Hv:=Z9 h
 obtain ⟨a,cap,rfl,hc,hm,hr⟩:=h
 clear hr
 go_enter Tryz.func123,Tryz.ntmps123
 go_wp2_with (at_builtin;refine Xe rfl (.tmp 3) (.tmp 4) 35 Tryz.underlying35 rfl w.heap.size _ _ [] ps rfl rfl (XN rfl (Nat.le_refl _)) ((uh Hv).below ((Below.refl _ _).alloc (Nat.le_refl _) _)) (by simp;omega) (by simp) ?_;intro v' w1 hown hgrow hat)
 go_ret
 refine ⟨v',rfl,by simpa using hown,((Below.refl _ _).alloc (Nat.le_refl _) _).trans ((Below.refl _ _).grown hgrow (by simp) (fun k e=> ?_))⟩
 cases e;exact Nat.le_refl _
theorem JL  {ps:List Z5} (h:IsPaces w v ps) (hl:ps.length<=1000) :
  Calls Tryz.prog 114 #[v] w fun e w'=> ∃ bx v',e= .returned (.pointer (some ⟨bx,0,none⟩))/\w.heap.size<=bx/\HeapIs w.heap.size bx v' w' ps/\Below w.heap.size w w':=by
 have Hv:=Z9 h
 obtain ⟨a,cap,rfl,hc,hm,hr⟩:=h
 clear hr
 go_enter Tryz.func114,Tryz.ntmps114
 go_wp2_with fail
 refine (Pd (uh Hv) hl).mono ?_
 rintro e w1 ⟨v1,rfl,hi1,hb1⟩
 obtain ⟨a1,cap1,rfl⟩:=hi1.shape
 have H1:=Z9 hi1
 have B1:=Z9 hb1
 have hz1:=hb1.size
 clear hi1 hb1
 go_wp2_with fail
 go_ret
 refine ⟨w1.heap.size,.slice a1 ps.length cap1,rfl,hz1,⟨by simp,by simp,by simp,(uh H1).later ((Below.refl _ _).alloc (Nat.le_refl _) _),fun e=> ?_⟩,(uh B1).alloc hz1 _⟩
 have:=(uh H1).lt e
 omega
theorem GG {ps qs hs hs':List Z5} (hr:Ris qs) (hle:∀ x ∈ qs,∀ y ∈ hs,ltB y x=false) (hh:HeapTo hs hs.length) (hl:0<hs.length) (hp:(qs++hs).Perm ps) (hp':(hs'++[Z7 hs 0]).Perm hs) :
  Ris (qs++[Z7 hs 0])/\(∀ x ∈ qs++[Z7 hs 0],∀ y ∈ hs',ltB y x=false)/\((qs++[Z7 hs 0])++hs').Perm ps:=by
 have hsub:∀ y ∈ hs',y ∈ hs:=fun y hy=>hp'.subset (List.mem_append_left _ hy)
 refine ⟨F8 hr (fun y hy=>hle y hy _ (XQ hl)),fun x hx y hy=> ?_,?_⟩
 ·rcases List.mem_append.1 hx with hx | hx
  ·exact hle x hx y (hsub y hy)
  ·obtain rfl:x=Z7 hs 0:=by simpa using hx
   obtain ⟨k,hk,rfl⟩:=Us (hsub y hy)
   exact hh.least k hk
 ·rw [List.append_assoc]
  exact ((List.perm_append_comm (l₁:=[Z7 hs 0]) (l₂:=hs')).trans hp').append_left qs |>.trans hp
theorem Lp {n₀ bx:Nat}  {ps:List Z5} (h:HeapIs n₀ bx v w ps) (hp:HeapTo ps ps.length) (hl:ps.length<=900) (hx:n₀<=bx) (hn:n₀<=w.heap.size) :
  Calls Tryz.prog 116 #[.pointer (some ⟨bx,0,none⟩)] w fun e w'=> ∃ v' qs,e= .returned v'/\EntsAt w.heap.size w' v' qs/\Ris qs/\qs.Perm ps/\Below n₀ w w':=by
 have H:=Z9 h
 have HP:=Z9 hp
 have hbx:=h.lt
 have HO:Hid (∀ k,v.ownBlock=some k->n₀<=k/\k<w.heap.size):=Z9 (fun k e=>h.row.lt e)
 clear h hp
 go_enter Tryz.func116,Tryz.ntmps116
 go_wp2_with fail
 go_loopg [3] ps.length (fun gg q wr=> ∃ (vh:Value) (qs hs:List Z5),hs.length<=gg/\EntsAt w.heap.size wr q qs/\HeapIs n₀ bx vh wr hs/\HeapTo hs hs.length/\Ris qs/\(∀ x ∈ qs,∀ y ∈ hs,ltB y x=false)/\(qs++hs).Perm ps/\vh.ownBlock=v.ownBlock/\Below n₀ w wr)
 case atStart=>exact ⟨v,[],ps,Nat.le_refl _,XN rfl (Nat.le_refl _),(uh H).later ((Below.refl _ _).alloc (Nat.le_refl _) _),uh HP,List.Pairwise.nil,fun _ hx=>(by cases hx),List.Perm.refl _,rfl,(Below.refl _ _).alloc hn _⟩
 case round=>
  obtain ⟨vh,qs,hs,hgg,hq,hh,hto,hris,hle,hperm,hob,hbel⟩:=hrel
  have hlen:qs.length+hs.length=ps.length:=by have:=hperm.length_eq;simpa using this
  obtain ⟨qa,qcap,rfl⟩:=hq.shape
  have Hq:=Z9 hq
  have Hh:=Z9 hh
  have Hto:=Z9 hto
  have Hris:=Z9 hris
  have Hle:=Z9 hle
  have Hpe:=Z9 hperm
  have Hob:=Z9 hob
  have Hbel:=Z9 hbel
  have hsz:=hbel.size
  clear hq hh hto hris hle hperm hob hbel
  by_cases h0:hs.length=0
  ·have hz:¬ (0:Int)<(hs.length:Int):=by omega
   go_wp2_with fail
   refine (Sb (uh Hh)).mono ?_
   rintro e w' ⟨rfl,h2⟩
   subst w'
   go_wp2_with fail
   go_ret
   obtain rfl:hs=[]:=List.eq_nil_of_length_eq_zero h0
   exact ⟨_,qs,rfl,uh Hq,uh Hris,by have:=uh Hpe;simpa using this,uh Hbel⟩
  ·obtain ⟨m,hm⟩:∃ m,hs.length=m+1:=⟨hs.length-1,by omega⟩
   have hz:(0:Int)<(hs.length:Int):=by omega
   go_wp2_with fail
   refine (Sb (uh Hh)).mono ?_
   rintro e w' ⟨rfl,h2⟩
   subst w'
   go_wp2_with fail
   refine (LH (uh Hh) (uh Hto) hm (by omega)).mono ?_
   rintro e w1 ⟨rfl,v1,hs',hh1,hto1,hpe1,hob1,hf1⟩
   obtain ⟨s1,s2,s3⟩:=GG (uh Hris) (uh Hle) (uh Hto) (by omega) (uh Hpe) hpe1
   have hlen':hs'.length+1=hs.length:=by have:=hpe1.length_eq;simpa using this
   generalize Z7 hs 0=p at *
   obtain ⟨f,z⟩:=p
   have hta:=O5 f z
   have S1:=Z9 s1
   have S2:=Z9 s2
   have S3:=Z9 s3
   have H1:=Z9 hh1
   have T1:=Z9 hto1
   have O1:Hid (v1.ownBlock=v.ownBlock):=Z9 (hob1.trans (uh Hob))
   have Q1:Hid (EntsAt w.heap.size w1 (.slice qa qs.length qcap) qs):=Z9 ((uh Hq).fr hf1 (fun e=>by have:=(uh Hq).lt e;omega) (fun k e e2=>by have h8:=(uh Hq).lt e;have h9:=uh HO k ((uh Hob).symm.trans e2);omega))
   have hz1:=hf1.size
   have B1:Hid (Below n₀ w w1):=Z9 ((uh Hbel).trans ((uh Hh).below (v':=v1) (qs:=hs) hf1 hx (by omega)))
   clear s1 s2 s3 hh1 hto1 hpe1 hob1 hf1 Hh Hto Hris Hle Hpe Hob Hbel Hq
   go_wp2_with (at_builtin;refine Xe rfl (.tmp 8) (.tmp 13) 35 Tryz.underlying35 rfl w.heap.size _ _ qs [(f,z)] rfl rfl ((uh Q1).later ((Below.refl _ _).alloc (Nat.le_refl _) _)) (Tq rfl (Nat.le_refl _) (by omega)) (by simp;omega) (by simp;omega) ?_;intro v' w2 hown hgrow hat)
   have hb0:Below w1.heap.size w1 (w1.alloc (.cells #[.int .i64 f,.int .i64 z] 45)):=(Below.refl _ _).alloc (Nat.le_refl _) _
   have hq0:∀ k,(Value.slice qa qs.length qcap).ownBlock=some k->w.heap.size<=k:=fun k e=>((uh Q1).lt e).1
   have hw2:Below w.heap.size (w1.alloc (.cells #[.int .i64 f,.int .i64 z] 45)) w2:=(Below.refl _ _).grown hgrow (by simp;omega) (fun k e=>hq0 k e)
   have hh2:HeapIs n₀ bx v1 w2 hs':=by
    have h3:=(uh H1).later hb0
    have hk:=hw2.block bx hbx
    refine ⟨(World.cell?_of_block (a:=⟨bx,0,none⟩) hk).trans h3.cell,(World.frozen?_of_block (a:=⟨bx,0,none⟩) hk).trans h3.free,Nat.lt_of_lt_of_le h3.lt hw2.size,h3.row.same (fun k e=>hw2.block k ?_),h3.off⟩
    exact (uh HO k ((uh O1).symm.trans e)).2
   have H2:=Z9 hh2
   have N2:=Z9 hown
   have B2:Hid (Below n₀ w w2):=Z9 ((uh B1).trans ((hb0.mono (by omega)).trans (hw2.mono hn)))
   clear hown hgrow hat hb0 hw2 hh2 hq0
   go_roundg (m)
   case measure=>omega
   case rel=>exact ⟨v1,qs++[(f,z)],hs',by omega,uh N2,uh H2,uh T1,uh S1,uh S2,uh S3,uh O1,uh B2⟩
theorem Jk {ps:List Z5} {k:Nat} {p:Z5} (hp:Z7 ps k=p) (h:SC p=false):WL ps k=false:=by unfold WL;rw [hp];simp [h]
theorem Jl {ps:List Z5} {k:Nat} {p q:Z5} (hz:0<k) (hp:Z7 ps k=p) (hq:Z7 ps (k-1)=q) (h:ltB q p=false):WL ps k=false:=by unfold WL;rw [hp,hq];simp [h];omega
theorem Jm {ps:List Z5} {k:Nat} {f z:Int} (hp:Z7 ps k=(f,z)) (h:0<=Xm (ps.take k) z):WL ps k=false:=by unfold WL;rw [hp];simp;intros;exact h
theorem Jn {ps:List Z5} {k:Nat} {f z:Int} {q:Z5} (hz:0<k) (hp:Z7 ps k=(f,z)) (hq:Z7 ps (k-1)=q) (h1:SC (f,z)=true) (h2:ltB q (f,z)=true) (h:Xm (ps.take k) z<0):WL ps k=true:=by unfold WL;rw [hp,hq];simp [h1,h2,h]
theorem Jj {ps:List Z5} {p:Z5} (hp:Z7 ps 0=p) (h:SC p=true):WL ps 0=true:=by unfold WL;rw [hp];simp [h,Xm]
theorem TH  {ps:List Z5} {who F:Int} (hF:Xm ps who=F) (h:IsPaces w v ps) :
  Calls Tryz.prog 47 #[v,.int .i64 who] w fun e w'=>e= .returned (.int .i64 F)/\Below w.heap.size w w':=by
 subst hF
 exact (JY who h).mono fun _ _ ⟨h1,h2⟩=>⟨h1,h2 ▸ Below.refl _ _⟩
theorem UO  {ps:List Z5} {who F:Int} (hF:Xm ps who=F) (h:IsPaces w v ps) :
  Calls Tryz.prog 149 #[v,.int .i64 who] w fun e w'=>e= .returned (.int .i64 F)/\Below w.heap.size w w':=by
 subst hF
 exact Mr who h
theorem QG  {ps:List Z5} (h:IsPaces w v ps) :
  Calls Tryz.prog 19 #[v] w fun e w'=>e= .returned (.bool (Yv ps))/\Below w.heap.size w w':=by
 have Hr2:=Z9 h
 obtain ⟨a,cap,rfl,hc,hm,hr⟩:=h
 have Hr:=Z9 hr
 clear hr
 go_enter Tryz.func19,Tryz.ntmps19
 go_wp2_with fail
 go_loopw [3] (fun i wr=> ∃ k:Nat,k<=ps.length/\i= .int .i64 k/\(∀ j,j<k->WL ps j=true)/\Below w.heap.size w wr) (fun i _=>ps.length-(intOf i).toNat)
 case atStart=>exact ⟨0,Nat.zero_le _,rfl,fun j hj=>by omega,Below.refl _ _⟩
 case round=>
  obtain ⟨k,hk,rfl,hst,hb⟩:=hrel
  have Hst:=Z9 hst
  have Hb:=Z9 hb
  clear hst
  by_cases hlt:k<ps.length
  ·rcases uh Hr with h0 | ⟨b,off,rfl,hbw,hcl⟩
   ·rw [h0] at hlt;simp at hlt
   have hbr:b<wr.heap.size:=Nat.lt_of_lt_of_le hbw hb.size
   have hne:b ≠ wr.heap.size:=Nat.ne_of_lt hbr
   obtain ⟨c0,c1⟩:=hcl k hlt
   rw [<-hb.cell (p:=⟨b,off+k*2,none⟩) hbw] at c0
   rw [<-hb.cell (p:=⟨b,off+k*2+1,none⟩) hbw] at c1
   generalize hp:Z7 ps k=p at c0 c1
   have Hp:=Z9 hp
   clear hp
   obtain ⟨f,z⟩:=p
   simp only at c0 c1
   have Hip:=Z9 (((uh Hr2).below hb).cut (n:=k) (by omega))
   have k0:=cell_regrown c0
   have k1:=cell_regrown c1
   obtain ⟨F,hF⟩:∃ F,Xm (ps.take k) z=F:=⟨_,rfl⟩
   have hFb:=Ls (ps.take k) z
   rw [hF] at hFb
   have HF:=Z9 hF
   clear hF
   cases hpb:SC (f,z)
   ·clear hcl
    go_wp2_with fail
    refine wp_region_quiet_below (by kernel_rfl) (by kernel_rfl) ?_
    repeat (go_big_quiet_step (first | exact Calls.regrown_of (Wb _ _ _) | exact Calls.regrown_of (Yg _ _ _ _ _) | exact Calls.regrown_of (TH (uh HF) ((uh Hip).below (below_regrown _ _ _)))))
    refine wpQuiet_nil ?_
    intro _ hw'
    obtain ⟨⟨dq,osq⟩,hw''⟩:=hw'
    subst hw''
    go_wp2_with fail
    go_ret
    exact ⟨Z6 (UQ hlt (Jk (uh Hp) hpb)).symm,(uh Hb).trans ((below_regrown _ _ _).mono (uh Hb).size)⟩
   ·by_cases hz:0<k
    ·have hd:decide (0<k)=true:=decide_eq_true hz
     obtain ⟨e0,e1⟩:=hcl (k-1) (by omega)
     rw [<-hb.cell (p:=⟨b,off+(k-1)*2,none⟩) hbw] at e0
     rw [<-hb.cell (p:=⟨b,off+(k-1)*2+1,none⟩) hbw] at e1
     generalize hq:Z7 ps (k-1)=q at e0 e1
     have Hq:=Z9 hq
     clear hq
     obtain ⟨f',z'⟩:=q
     simp only at e0 e1
     have m0:=cell_regrown e0
     have m1:=cell_regrown e1
     clear hcl e0 e1
     cases hab:ltB (f',z') (f,z)
     ·go_wp2_with fail
      refine wp_region_quiet_below (by kernel_rfl) (by kernel_rfl) ?_
      repeat (go_big_quiet_step (first | exact Calls.regrown_of (Wb _ _ _) | exact Calls.regrown_of (Yg _ _ _ _ _) | exact Calls.regrown_of (TH (uh HF) ((uh Hip).below (below_regrown _ _ _)))))
      refine wpQuiet_nil ?_
      intro _ hw'
      obtain ⟨⟨dq,osq⟩,hw''⟩:=hw'
      subst hw''
      go_wp2_with fail
      go_ret
      exact ⟨Z6 (UQ hlt (Jl hz (uh Hp) (uh Hq) hab)).symm,(uh Hb).trans ((below_regrown _ _ _).mono (uh Hb).size)⟩
     ·by_cases hF0:F= -1
      ·subst hF0
       go_wp2_with fail
       refine wp_region_quiet_below (by kernel_rfl) (by kernel_rfl) ?_
       repeat (go_big_quiet_step (first | exact Calls.regrown_of (Wb _ _ _) | exact Calls.regrown_of (Yg _ _ _ _ _) | exact Calls.regrown_of (TH (uh HF) ((uh Hip).below (below_regrown _ _ _)))))
       refine wpQuiet_nil ?_
       intro _ hw'
       obtain ⟨⟨dq,osq⟩,hw''⟩:=hw'
       subst hw''
       go_wp2_with fail
       go_roundw
       case rel=>exact ⟨k+1,by omega,by go_num,YM (uh Hst) (Jn hz (uh Hp) (uh Hq) hpb hab (by rw [uh HF];omega)),(uh Hb).trans ((below_regrown _ _ _).mono (uh Hb).size)⟩
       case measure=>simp [intOf];omega
      ·have hF1:0<=F:=by omega
       have hF2:(F == -1)=false:=by simpa using hF0
       have hF3:(F != -1)=true:=by simpa using hF0
       clear hF0
       go_wp2_with fail
       refine wp_region_quiet_below (by kernel_rfl) (by kernel_rfl) ?_
       repeat (go_big_quiet_step (first | exact Calls.regrown_of (Wb _ _ _) | exact Calls.regrown_of (Yg _ _ _ _ _) | exact Calls.regrown_of (TH (uh HF) ((uh Hip).below (below_regrown _ _ _)))))
       refine wpQuiet_nil ?_
       intro _ hw'
       obtain ⟨⟨dq,osq⟩,hw''⟩:=hw'
       subst hw''
       go_wp2_with fail
       go_ret
       exact ⟨Z6 (UQ hlt (Jm (uh Hp) (by rw [uh HF];exact hF1))).symm,(uh Hb).trans ((below_regrown _ _ _).mono (uh Hb).size)⟩
    ·obtain rfl:k=0:=by omega
     obtain rfl:F= -1:=by simp at hFb;omega
     simp only [Nat.zero_mul,Nat.add_zero] at c0 c1 k0 k1
     clear hcl hz
     go_wp2_with fail
     refine wp_region_quiet_below (by kernel_rfl) (by kernel_rfl) ?_
     repeat (go_big_quiet_step (first | exact Calls.regrown_of (Wb _ _ _) | exact Calls.regrown_of (Yg _ _ _ _ _) | exact Calls.regrown_of (TH (uh HF) ((uh Hip).below (below_regrown _ _ _)))))
     refine wpQuiet_nil ?_
     intro _ hw'
     obtain ⟨⟨dq,osq⟩,hw''⟩:=hw'
     subst hw''
     go_wp2_with fail
     go_roundw
     case rel=>exact ⟨1,by omega,by go_num,YM (uh Hst) (Jj (uh Hp) hpb),(uh Hb).trans ((below_regrown _ _ _).mono (uh Hb).size)⟩
     case measure=>simp [intOf];omega
  ·obtain rfl:k=ps.length:=by omega
   by_cases hbig:ps.length<=100
   all_goals
    go_wp2_with fail
    go_ret
    exact ⟨Z6 (by first | (rw [PN (by omega) (uh Hst)];simp;omega) | (rw [PM (by omega)];simp;omega)),hb⟩
theorem VW  {ps:List Z5} (h:IsPaces w v ps) :
  Calls Tryz.prog 113 #[v] w fun e w'=>e= .returned (.bool (Yv ps))/\Below w.heap.size w w':=by
 have Hr2:=Z9 h
 obtain ⟨a,cap,rfl,hc,hm,hr⟩:=h
 have Hr:=Z9 hr
 clear hr
 by_cases hbig:100<ps.length
 ·go_enter Tryz.func113,Tryz.ntmps113
  go_wp2_with fail
  go_ret
  exact ⟨Z6 (PM hbig).symm,Below.refl _ _⟩
 go_enter Tryz.func113,Tryz.ntmps113
 go_wp2_with fail
 go_loopw [10] (fun i wr=> ∃ k:Nat,k<=ps.length/\i= .int .i64 k/\(∀ j,j<k->WL ps j=true)/\Below w.heap.size w wr) (fun i _=>ps.length-(intOf i).toNat)
 case atStart=>exact ⟨0,Nat.zero_le _,rfl,fun j hj=>by omega,Below.refl _ _⟩
 case round=>
  obtain ⟨k,hk,rfl,hst,hb⟩:=hrel
  have Hst:=Z9 hst
  have Hb:=Z9 hb
  clear hst
  by_cases hlt:k<ps.length
  ·rcases uh Hr with h0 | ⟨b,off,rfl,hbw,hcl⟩
   ·rw [h0] at hlt;simp at hlt
   have hbr:b<wr.heap.size:=Nat.lt_of_lt_of_le hbw hb.size
   have hne:b ≠ wr.heap.size:=Nat.ne_of_lt hbr
   obtain ⟨c0,c1⟩:=hcl k hlt
   rw [<-hb.cell (p:=⟨b,off+k*2,none⟩) hbw] at c0
   rw [<-hb.cell (p:=⟨b,off+k*2+1,none⟩) hbw] at c1
   generalize hp:Z7 ps k=p at c0 c1
   have Hp:=Z9 hp
   clear hp
   obtain ⟨f,z⟩:=p
   simp only at c0 c1
   have Hip:=Z9 ((((uh Hr2).below hb).cut (n:=k) (by omega)).below ((Below.refl _ _).alloc (Nat.le_refl _) (.cells #[.int .i64 f,.int .i64 z] 45)))
   have d0:(wr.alloc (.cells #[.int .i64 f,.int .i64 z] 45)).cell? ⟨wr.heap.size,0,none⟩=some (.int .i64 f):=by simp
   have d1:(wr.alloc (.cells #[.int .i64 f,.int .i64 z] 45)).cell? ⟨wr.heap.size,1,none⟩=some (.int .i64 z):=by simp
   have k0:=cell_regrown d0
   have k1:=cell_regrown d1
   clear d0 d1
   obtain ⟨F,hF⟩:∃ F,Xm (ps.take k) z=F:=⟨_,rfl⟩
   have hFb:=Ls (ps.take k) z
   rw [hF] at hFb
   have HF:=Z9 hF
   clear hF
   cases hpb:SC (f,z)
   ·clear hcl
    go_wp2_with fail
    refine wp_region_quiet_below (by kernel_rfl) (by kernel_rfl) ?_
    repeat (go_big_quiet_step (first | exact Calls.regrown_of (V7 _ _ _) | exact Calls.regrown_of (Xq _ _ _ _ _) | exact Calls.regrown_of (UO (uh HF) ((uh Hip).below (below_regrown _ _ _)))))
    refine wpQuiet_nil ?_
    intro _ hw'
    obtain ⟨⟨dq,osq⟩,hw''⟩:=hw'
    subst hw''
    go_wp2_with fail
    go_ret
    exact ⟨Z6 (UQ hlt (Jk (uh Hp) hpb)).symm,(uh Hb).trans (((Below.refl _ _).alloc (uh Hb).size _).trans ((below_regrown _ _ _).mono (by simp;have:=(uh Hb).size;omega)))⟩
   ·by_cases hz:0<k
    ·have hd:decide (0<k)=true:=decide_eq_true hz
     obtain ⟨e0,e1⟩:=hcl (k-1) (by omega)
     rw [<-hb.cell (p:=⟨b,off+(k-1)*2,none⟩) hbw] at e0
     rw [<-hb.cell (p:=⟨b,off+(k-1)*2+1,none⟩) hbw] at e1
     generalize hq:Z7 ps (k-1)=q at e0 e1
     have Hq:=Z9 hq
     clear hq
     obtain ⟨f',z'⟩:=q
     simp only at e0 e1
     have m0:=cell_regrown (w:=wr.alloc (.cells #[.int .i64 f,.int .i64 z] 45)) (a:=⟨b,off+(k-1)*2,none⟩) (v:= .int .i64 f') (by rw [World.cell?_alloc_old _ _ _ hne];exact e0)
     have m1:=cell_regrown (w:=wr.alloc (.cells #[.int .i64 f,.int .i64 z] 45)) (a:=⟨b,off+(k-1)*2+1,none⟩) (v:= .int .i64 z') (by rw [World.cell?_alloc_old _ _ _ hne];exact e1)
     clear hcl e0 e1
     cases hab:ltB (f',z') (f,z)
     ·go_wp2_with fail
      refine wp_region_quiet_below (by kernel_rfl) (by kernel_rfl) ?_
      repeat (go_big_quiet_step (first | exact Calls.regrown_of (V7 _ _ _) | exact Calls.regrown_of (Xq _ _ _ _ _) | exact Calls.regrown_of (UO (uh HF) ((uh Hip).below (below_regrown _ _ _)))))
      refine wpQuiet_nil ?_
      intro _ hw'
      obtain ⟨⟨dq,osq⟩,hw''⟩:=hw'
      subst hw''
      go_wp2_with fail
      go_ret
      exact ⟨Z6 (UQ hlt (Jl hz (uh Hp) (uh Hq) hab)).symm,(uh Hb).trans (((Below.refl _ _).alloc (uh Hb).size _).trans ((below_regrown _ _ _).mono (by simp;have:=(uh Hb).size;omega)))⟩
     ·by_cases hF0:F= -1
      ·subst hF0
       go_wp2_with fail
       refine wp_region_quiet_below (by kernel_rfl) (by kernel_rfl) ?_
       repeat (go_big_quiet_step (first | exact Calls.regrown_of (V7 _ _ _) | exact Calls.regrown_of (Xq _ _ _ _ _) | exact Calls.regrown_of (UO (uh HF) ((uh Hip).below (below_regrown _ _ _)))))
       refine wpQuiet_nil ?_
       intro _ hw'
       obtain ⟨⟨dq,osq⟩,hw''⟩:=hw'
       subst hw''
       go_wp2_with fail
       go_roundw
       case rel=>exact ⟨k+1,by omega,by go_num,YM (uh Hst) (Jn hz (uh Hp) (uh Hq) hpb hab (by rw [uh HF];omega)),(uh Hb).trans (((Below.refl _ _).alloc (uh Hb).size _).trans ((below_regrown _ _ _).mono (by simp;have:=(uh Hb).size;omega)))⟩
       case measure=>simp [intOf];omega
      ·have hF1:0<=F:=by omega
       have hF2:(F == -1)=false:=by simpa using hF0
       have hF3:(F != -1)=true:=by simpa using hF0
       clear hF0
       go_wp2_with fail
       refine wp_region_quiet_below (by kernel_rfl) (by kernel_rfl) ?_
       repeat (go_big_quiet_step (first | exact Calls.regrown_of (V7 _ _ _) | exact Calls.regrown_of (Xq _ _ _ _ _) | exact Calls.regrown_of (UO (uh HF) ((uh Hip).below (below_regrown _ _ _)))))
       refine wpQuiet_nil ?_
       intro _ hw'
       obtain ⟨⟨dq,osq⟩,hw''⟩:=hw'
       subst hw''
       go_wp2_with fail
       go_ret
       exact ⟨Z6 (UQ hlt (Jm (uh Hp) (by rw [uh HF];exact hF1))).symm,(uh Hb).trans (((Below.refl _ _).alloc (uh Hb).size _).trans ((below_regrown _ _ _).mono (by simp;have:=(uh Hb).size;omega)))⟩
    ·obtain rfl:k=0:=by omega
     obtain rfl:F= -1:=by simp at hFb;omega
     simp only [Nat.zero_mul,Nat.add_zero] at c0 c1 k0 k1
     clear hcl hz
     go_wp2_with fail
     refine wp_region_quiet_below (by kernel_rfl) (by kernel_rfl) ?_
     repeat (go_big_quiet_step (first | exact Calls.regrown_of (V7 _ _ _) | exact Calls.regrown_of (Xq _ _ _ _ _) | exact Calls.regrown_of (UO (uh HF) ((uh Hip).below (below_regrown _ _ _)))))
     refine wpQuiet_nil ?_
     intro _ hw'
     obtain ⟨⟨dq,osq⟩,hw''⟩:=hw'
     subst hw''
     go_wp2_with fail
     go_roundw
     case rel=>exact ⟨1,by omega,by go_num,YM (uh Hst) (Jj (uh Hp) hpb),(uh Hb).trans (((Below.refl _ _).alloc (uh Hb).size _).trans ((below_regrown _ _ _).mono (by simp;have:=(uh Hb).size;omega)))⟩
     case measure=>simp [intOf];omega
  ·obtain rfl:k=ps.length:=by omega
   go_wp2_with fail
   go_ret
   exact ⟨Z6 (PN (by omega) (uh Hst)).symm,hb⟩
def Eg (n₀:Nat) (r:List Z5 × Bool) (e:Ending) (w':World):Prop:= ∃ v',e= .returned (.tuple #[v',.bool r.2])/\EntsAt n₀ w' v' r.1
theorem Kk {ps:List Z5} {e:Z5} (h:Yv ps=false):Uv ps e=([],false):=by unfold Uv;rw [h];rfl
theorem OK {ps:List Z5} {e:Z5} (h:Yv ps=true) (h2:Yv (VK ps e)=false):Uv ps e=(ps,false):=by unfold Uv;rw [h,h2];rfl
theorem Rb {ps:List Z5} {e:Z5} (h:Yv ps=true) (h2:Yv (VK ps e)=true):Uv ps e=(VK ps e,true):=by unfold Uv;rw [h,h2];rfl
theorem Pq  {ps:List Z5} (f z:Int) (h:IsPaces w v ps) :
  Calls Tryz.prog 71 #[v,.agg #[.int .i64 f,.int .i64 z]] w fun e w'=>Eg w.heap.size (Uv ps (f,z)) e w'/\Below w.heap.size w w':=by
 have Hv:=Z9 h
 obtain ⟨a,cap,rfl,hc,hm,hr⟩:=h
 clear hr
 cases hq:Yv ps
 ·rw [Kk hq]
  go_enter Tryz.func71,Tryz.ntmps71
  go_wp2_with fail
  refine (VW ((uh Hv).below ((Below.refl _ _).alloc (Nat.le_refl _) _))).mono ?_
  rw [hq]
  rintro e w1 ⟨rfl,hb1⟩
  have B1:Hid (Below w.heap.size w w1):=Z9 (((Below.refl _ _).alloc (Nat.le_refl _) _).trans (hb1.mono (by simp)))
  clear hb1
  go_wp2_with fail
  go_ret2
  exact ⟨⟨_,rfl,XN rfl (uh B1).size⟩,(uh B1).alloc (uh B1).size _⟩
 ·have hQ:=En hq
  have hlen:=hQ.len
  have HQ:=Z9 hQ
  clear hQ
  go_enter Tryz.func71,Tryz.ntmps71
  go_wp2_with fail
  refine (VW ((uh Hv).below ((Below.refl _ _).alloc (Nat.le_refl _) _))).mono ?_
  rw [hq]
  rintro e w1 ⟨rfl,hb1⟩
  have hz1:w.heap.size+1<=w1.heap.size:=by have:=hb1.size;simpa using this
  have c0:w1.cell? ⟨w.heap.size,0,none⟩=some (.int .i64 f):=(hb1.cell (p:=⟨w.heap.size,0,none⟩) (by simp)).trans (by simp)
  have c1:w1.cell? ⟨w.heap.size,1,none⟩=some (.int .i64 z):=(hb1.cell (p:=⟨w.heap.size,1,none⟩) (by simp)).trans (by simp)
  have B1:Hid (Below w.heap.size w w1):=Z9 (((Below.refl _ _).alloc (Nat.le_refl _) _).trans (hb1.mono (by simp)))
  clear hb1
  go_wp2_with fail
  refine (JL ((uh Hv).below (uh B1)) (by omega)).mono ?_
  rintro e w2 ⟨bx,v2,rfl,hbx,hh2,hb2⟩
  have hlt1:w.heap.size<w1.heap.size:=by omega
  have d0:=(hb2.cell (p:=⟨w.heap.size,0,none⟩) hlt1).trans c0
  have d1:=(hb2.cell (p:=⟨w.heap.size,1,none⟩) hlt1).trans c1
  have hz2:=hb2.size
  have H2:=Z9 hh2
  have B2:Hid (Below w.heap.size w w2):=Z9 ((uh B1).trans (hb2.mono (by omega)))
  clear hb2 hh2 c0 c1
  go_wp2_with fail
  refine (Nt f z (uh H2) (F7 (uh HQ).ris) (by omega) hbx hz2).mono ?_
  rintro e w3 ⟨rfl,v3,hs,hh3,hto3,hpe3,hb3⟩
  have hz3:=hb3.size
  have hsl:hs.length=ps.length+1:=by have:=hpe3.length_eq;simpa using this
  have H3:=Z9 hh3
  have T3:=Z9 hto3
  have P3:=Z9 hpe3
  have B3:Hid (Below w.heap.size w w3):=Z9 ((uh B2).trans (hb3.mono (by omega)))
  clear hb3 hh3 hto3 hpe3 d0 d1
  go_wp2_with fail
  refine (Lp (uh H3) (uh T3) (by omega) hbx (by omega)).mono ?_
  rintro e w4 ⟨v4,qs,rfl,hi4,hris4,hpe4,hb4⟩
  obtain rfl:qs=VK ps (f,z):=Kx (uh HQ) hris4 (hpe4.trans (uh P3))
  have hz4:=hb4.size
  obtain ⟨a4,cap4,rfl⟩:=hi4.shape
  have H4:=Z9 hi4
  have B4:Hid (Below w.heap.size w w4):=Z9 ((uh B3).trans (hb4.mono (by omega)))
  clear hi4 hris4 hpe4 hb4 H2 H3 T3 P3
  go_wp2_with fail
  refine (VW (uh H4).paces).mono ?_
  cases hq2:Yv (VK ps (f,z))
  ·rintro e w5 ⟨rfl,hb5⟩
   have B5:Hid (Below w.heap.size w w5):=Z9 ((uh B4).trans (hb5.mono (by omega)))
   clear hb5
   go_wp2_with fail
   refine (Pd ((uh Hv).below (uh B5)) (by omega)).mono ?_
   rintro e w6 ⟨v6,rfl,hi6,hb6⟩
   obtain ⟨a6,cap6,rfl⟩:=hi6.shape
   have H6:=Z9 hi6
   have B6:Hid (Below w.heap.size w w6):=Z9 ((uh B5).trans (hb6.mono (uh B5).size))
   clear hi6 hb6
   go_wp2_with fail
   go_ret2
   rw [OK hq hq2]
   exact ⟨⟨_,rfl,(uh H6).mono (uh B5).size⟩,uh B6⟩
  ·rintro e w5 ⟨rfl,hb5⟩
   have H5:=Z9 ((uh H4).later hb5)
   have B5:Hid (Below w.heap.size w w5):=Z9 ((uh B4).trans (hb5.mono (by omega)))
   clear hb5
   go_wp2_with fail
   go_ret2
   rw [Rb hq hq2]
   exact ⟨⟨_,rfl,(uh H5).mono (by omega)⟩,uh B5⟩
def WK (rs:List Z0) (n:Int):Nat:=((List.range rs.length).find? fun r=>decide (n<ZZ (rs.take (r+1)))).getD 0
def Xg (rs:List Z0) (n:Int):Bool:=Zb rs && inB n 0 (ZZ rs-1)
def VF (ps:List Z5):Int:=(Z7 ps (ps.length-1)).1
def YU (rs:List Z0) (n:Int):Int:=if Xg rs n=true then VF (ZS rs (WK rs n)).2 else -1
theorem MB {rs:List Z0} {n:Int} {r:Nat} (hr:r<rs.length) (h:n<ZZ (rs.take (r+1))) (hl:∀ j,j<r->ZZ (rs.take (j+1))<=n):WK rs n=r:=by
 unfold WK
 have:(List.range rs.length).find? (fun r=>decide (n<ZZ (rs.take (r+1))))=some r:=by
  rw [List.find?_range_eq_some]
  refine ⟨by simpa using h,by simpa using hr,fun j hj=> ?_⟩
  have:=hl j hj
  simp;omega
 rw [this];rfl
theorem Ws {rs:List Z0} {n:Int} (h:Xg rs n=true):Zb rs=true/\0<=n/\n<ZZ rs:=by
 unfold Xg at h;simp only [Bool.and_eq_true] at h
 have:=ZU h.2
 exact ⟨h.1,by omega,by omega⟩
theorem GZ {rs:List Z0} {n:Int} (h:Zb rs=true) (h0:0<=n) (h1:n<ZZ rs):Xg rs n=true:=by
 unfold Xg;rw [h,Zs (by omega) (by omega)];rfl
theorem Tr {rs:List Z0} {n:Int} (h:Xg rs n=true):YU rs n=VF (ZS rs (WK rs n)).2:=by unfold YU;rw [if_pos h]
theorem RE {rs:List Z0} {n:Int} (h:Xg rs n=true) {r:Nat} (hr:r<=rs.length) (hl:∀ j,j<r->ZZ (rs.take (j+1))<=n):r<rs.length:=by
 rcases Nat.lt_or_ge r rs.length with h1 | h1
 ·exact h1
 ·obtain rfl:r=rs.length:=by omega
  have hb:=Ws h
  have h3:=Zf hb.1
  have:=hl (rs.length-1) (by omega)
  rw [show rs.length-1+1=rs.length by omega,Uf] at this
  omega
theorem RT {rs:List Z0} (h:Zb rs=true) (k:Nat) (hk:k<=rs.length):0<=ZZ (rs.take k)/\ZZ (rs.take k)<=12:=by
 have h3:=Zf h
 have:=Tm h3.2.2.1 k hk
 omega
theorem PU {rs:List Z0} {n:Int} (h:Xg rs n=true):WK rs n<rs.length:=by
 have key:∀ d r:Nat,r+d=rs.length->(∀ j,j<r->ZZ (rs.take (j+1))<=n)->WK rs n<rs.length:=by
  intro d
  induction d with
  | zero=>intro r hr hl;have:=RE h (by omega) hl;omega
  | succ d ih=>
   intro r hr hl
   have hlt:=RE h (r:=r) (by omega) hl
   by_cases hc:n<ZZ (rs.take (r+1))
   ·rw [MB hlt hc hl];exact hlt
   ·exact ih (r+1) (by omega) (YM hl (by omega))
 exact key rs.length 0 (by omega) (fun j hj=>by omega)
open Go.ChangeShapes Go.WideShapes Go.ChangeAt Go.RowKit
def Xr (a b c:Int):Int:=if inB a 0 1000000000 && inB b 0 1000000000 && inB c 1 1000000000 then a*b / c else -1
def R1 (x:Int):Nat->Int->Int
 | 0,u=>u
 | n+1,u=>R1 x n ((31*u+x) / 32)
def ZM (u x n:Int):Int:=if inB u 0 1024 && inB x 0 1024 && inB n 0 1000 then R1 x n.toNat u else -1
theorem IU {u x:Int} (h1:0<=u) (h2:u<=1024) (h3:0<=x) (h4:x<=1024):0<=(31*u+x) / 32/\(31*u+x) / 32<=1024:=by omega
theorem Lr (x:Int) (h3:0<=x) (h4:x<=1024):∀ (n:Nat) (u:Int),0<=u->u<=1024->0<=R1 x n u/\R1 x n u<=1024
 | 0,u,h1,h2=>⟨h1,h2⟩
 | n+1,u,h1,h2=>Lr x h3 h4 n _ (IU h1 h2 h3 h4).1 (IU h1 h2 h3 h4).2
theorem Ph (x:Int):∀ (n:Nat) (u:Int),R1 x (n+1) u=(31*R1 x n u+x) / 32
 | 0,u=>rfl
 | n+1,u=>Ph x n _
theorem Ev {a b:Int} (a0:0<=a) (a1:a<=1000000000) (b0:0<=b) (b1:b<=1000000000):0<=a*b/\a*b<=1000000000000000000:=by
 refine ⟨Int.mul_nonneg a0 b0,?_⟩
 have h:=Int.mul_le_mul a1 b1 b0 (by omega)
 omega
theorem EL {P:Prop} (a b c lo hi l1 h1 l2 h2:Int)
  (k1:inB a lo hi=false->P) (k2:inB a lo hi=true->inB b l1 h1=false->P) (k3:inB a lo hi=true->inB b l1 h1=true->inB c l2 h2=false->P)
  (k4:inB a lo hi=true->inB b l1 h1=true->inB c l2 h2=true->P):P:=by
 cases ha:inB a lo hi
 ·exact k1 ha
 ·cases hb:inB b l1 h1
  ·exact k2 ha hb
  ·cases hc:inB c l2 h2
   ·exact k3 ha hb hc
   ·exact k4 ha hb hc
theorem Vc (x:Int) (w:World):Calls Tryz.prog 91 #[.int .i64 x] w fun e w'=>e= .returned (.bool (inB x 0 1024))/\w'=w:=by
 go_enter Tryz.func91,Tryz.ntmps91
 go_wp2_with (go_at_call 77;refine (Z1 _ _ _ _).mono ?_;rintro e w' ⟨rfl,rfl⟩)
 go_ret
 exact ⟨rfl,rfl⟩
theorem P5 (a b c:Int) (w:World):Calls Tryz.prog 252 #[.int .i64 a,.int .i64 b,.int .i64 c] w fun e w'=>e= .returned (.int .i64 (Xr a b c))/\w'=w:=by
 refine EL a b c 0 1000000000 0 1000000000 1 1000000000 ?_ ?_ ?_ ?_
 ·intro ha
  have hv:Xr a b c= -1:=by simp [Xr,ha]
  rw [hv];clear hv
  go_enter Tryz.func252,Tryz.ntmps252
  go_wp2_with (first | (go_at_call 242;refine (UG _ _).mono ?_;rintro e w' ⟨rfl,rfl⟩) | (go_at_call 77;refine (Z1 _ _ _ _).mono ?_;rintro e w' ⟨rfl,rfl⟩))
  go_ret
  exact ⟨rfl,rfl⟩
 ·intro ha hb
  have hv:Xr a b c= -1:=by simp [Xr,hb]
  rw [hv];clear hv
  go_enter Tryz.func252,Tryz.ntmps252
  go_wp2_with (first | (go_at_call 242;refine (UG _ _).mono ?_;rintro e w' ⟨rfl,rfl⟩) | (go_at_call 77;refine (Z1 _ _ _ _).mono ?_;rintro e w' ⟨rfl,rfl⟩))
  go_ret
  exact ⟨rfl,rfl⟩
 ·intro ha hb hc
  have hv:Xr a b c= -1:=by simp [Xr,hc]
  rw [hv];clear hv
  go_enter Tryz.func252,Tryz.ntmps252
  go_wp2_with (first | (go_at_call 242;refine (UG _ _).mono ?_;rintro e w' ⟨rfl,rfl⟩) | (go_at_call 77;refine (Z1 _ _ _ _).mono ?_;rintro e w' ⟨rfl,rfl⟩))
  go_ret
  exact ⟨rfl,rfl⟩
 ·intro ha hb hc
  have hv:Xr a b c=a*b / c:=by simp [Xr,ha,hb,hc]
  rw [hv];clear hv
  obtain ⟨a0,a1⟩:=ZU ha
  obtain ⟨b0,b1⟩:=ZU hb
  obtain ⟨c0,c1⟩:=ZU hc
  obtain ⟨m0,m1⟩:=Ev a0 a1 b0 b1
  go_enter Tryz.func252,Tryz.ntmps252
  go_wp2_with (first | (go_at_call 242;refine (UG _ _).mono ?_;rintro e w' ⟨rfl,rfl⟩) | (go_at_call 77;refine (Z1 _ _ _ _).mono ?_;rintro e w' ⟨rfl,rfl⟩))
  go_ret
  exact ⟨rfl,rfl⟩
end Go.Proofs.YthbbahagpmdooaaGreat
