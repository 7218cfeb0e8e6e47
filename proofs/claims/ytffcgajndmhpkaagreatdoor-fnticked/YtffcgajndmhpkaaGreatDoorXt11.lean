/- Part 11 of what the proof rests on. No condition but those that a theorem names. -/
import Derived.Test.YtffcgajndmhpkaaGreatDoorXt09
import Derived.Test.YtffcgajndmhpkaaGreatDoorXt10
set_option maxHeartbeats 8000000
set_option maxRecDepth 100000
namespace Go.Proofs.YtffcgajndmhpkaaGreatDoor
open Go.ChangeShapes Go.WideShapes Go.ChangeAt Go.RowKit Go.Sort
set_option linter.unusedVariables false
variable {w w' w0 w1 w2 w3 w₀ wr W W' X A B C : World} {v v0 v1 v2 v3 v4 u u0 u1 u2 u3 u4 : Value} {m : Z6}
theorem HeapTo.take {ps:List Z4} {n m:Nat} (h:HeapTo ps n) (hm:n<=m):HeapTo (ps.take m) n:=fun k k0 kn=>by
 rw [V7 (by omega),V7 (by omega)];exact h k k0 kn
theorem HeapIs.below {n₀ bx:Nat} {v v':Value} {ps qs:List Z4} (h:HeapIs n₀ bx v w ps) (hf:Fr bx v.ownBlock w w') (hx:n₀<=bx) (hn:n₀<=w.heap.size):Below n₀ w w':=
 hf.below hx (fun k e=>(h.row.lt e).1) hn
theorem LR {n₀ bx:Nat}  {ps:List Z4} (f z:Int) (h:HeapIs n₀ bx v w ps) (hp:HeapTo ps ps.length) (hl:ps.length<=900) (hx:n₀<=bx) (hn:n₀<=w.heap.size) :
  Calls Tryz.prog 286 #[.iface 286 (.pointer (some ⟨bx,0,none⟩)),.iface 151 (.agg #[.int .i64 f,.int .i64 z])] w fun e w'=>e= .returned (.tuple #[])/\ ∃ v' qs,HeapIs n₀ bx v' w' qs/\HeapTo qs qs.length/\qs.Perm (ps++[(f,z)])/\Below n₀ w w':=by
 have H:=Z9 h
 have HP:=Z9 hp
 have hm1:=Ca ⟨bx,0,none⟩
 have hm2:=Cw ⟨bx,0,none⟩
 clear h hp
 go_enter Tryz.func286,Tryz.ntmps286
 go_wp2_with fail
 refine (Fs f z (uh H) (by omega) hn).mono ?_
 rintro e w1 ⟨rfl,v1,hh1,hat,hf1⟩
 have H1:=Z9 hh1
 have B1:=Z9 ((uh H).below (v':=v1) (qs:=ps) hf1 hx hn)
 have hz1:=hf1.size
 clear hh1 hat hf1
 go_wp2_with fail
 refine (Rz (uh H1)).mono ?_
 rintro e w' ⟨rfl,h2⟩
 subst w'
 have hlen:(ps++[(f,z)]).length=ps.length+1:=by simp
 rw [hlen]
 go_wp2_with fail
 refine (Cl (j0:=ps.length) (n:=ps.length+1) (uh H1) ((uh HP).push (f,z)) (by omega) (by rw [hlen];exact Nat.le_refl _) (by rw [hlen];omega)).mono ?_
 rintro e w2 ⟨rfl,qs,hh2,hq,hpe,_,hf2⟩
 have hql:qs.length=ps.length+1:=by rw [hpe.length_eq,hlen]
 have H2:=Z9 hh2
 have HQ:=Z9 hq
 have HE:=Z9 hpe
 have B2:=Z9 ((uh B1).trans ((uh H1).below (v':=v1) (qs:=ps) hf2 hx (by omega)))
 clear hh2 hq hpe hf2
 go_wp2_with fail
 go_end0
 exact ⟨rfl,v1,qs,uh H2,by rw [hql];exact uh HQ,uh HE,uh B2⟩
theorem DnTo.none {ps:List Z4} {i0 i:Nat} : DnTo ps 0 i0 i:=⟨fun k k0 kn=>by omega,fun k k0 kn=>by omega⟩
theorem DownPost.zero {n₀ bx:Nat}  {ps:List Z4} {n:Nat} {e:Ending} (h:DownPost n₀ bx v w ps n 0 e w') :
  ∃ (b:Bool) (qs:List Z4),e= .returned (.bool b)/\HeapIs n₀ bx v w' qs/\qs.Perm ps/\(∀ k,n<=k->Z7 qs k=Z7 ps k)/\Fr bx v.ownBlock w w'/\HeapTo qs n:=by
 obtain ⟨b,qs,he,hh,hp,hs,hf,h1,h2⟩:=h
 refine ⟨b,qs,he,hh,hp,hs,hf,?_⟩
 cases b
 ·exact (h2 rfl).done (.inl rfl)
 ·exact h1 rfl
theorem JN {n₀ bx:Nat}  {ps:List Z4} {m:Nat} (h:HeapIs n₀ bx v w ps) (hp:HeapTo ps ps.length) (hm:ps.length=m+1) (hl:ps.length<=900) :
  Calls Tryz.prog 309 #[.iface 286 (.pointer (some ⟨bx,0,none⟩))] w fun e w'=>e= .returned (.iface 151 (.agg #[.int .i64 (Z7 ps 0).1,.int .i64 (Z7 ps 0).2]))/\ ∃ v' qs,HeapIs n₀ bx v' w' qs/\HeapTo qs qs.length/\(qs++[Z7 ps 0]).Perm ps/\v'.ownBlock=v.ownBlock/\Fr bx v.ownBlock w w':=by
 have H:=Z9 h
 rw [hm] at hp
 have HP:=Z9 hp
 have hm1:=Bz ⟨bx,0,none⟩
 have hm2:=Cw ⟨bx,0,none⟩
 have hm3:=Ik ⟨bx,0,none⟩
 clear h hp
 go_enter Tryz.func309,Tryz.ntmps309
 go_wp2_with fail
 refine (Rz (uh H)).mono ?_
 rw [hm]
 rintro e w' ⟨rfl,h2⟩
 subst w'
 go_wp2_with fail
 refine (Tt (i:=0) (j:=m) (uh H) (by omega) (by omega)).mono ?_
 rintro e w1 ⟨rfl,hh1,hf1⟩
 have H1:=Z9 hh1
 have F1:=Z9 hf1
 have hl1:(swp ps 0 m).length=m+1:=by rw [C9];exact hm
 have HD:Hid (DnTo (swp ps 0 m) m 0 0):=Z9 (by
  by_cases e:m=0
  ·subst e;exact DnTo.none
  ·exact (uh HP).swap hm (by omega))
 have HA:Hid (Z7 (swp ps 0 m) m=Z7 ps 0):=Z9 (by rw [Tu (by omega) (by omega),if_pos rfl])
 have HPm:Hid ((swp ps 0 m).Perm ps):=Z9 (Tv (by omega) (by omega))
 clear hh1 hf1
 go_wp2_with fail
 refine (Dr (n:=m) (i0:=0) (uh H1) (uh HD) (by omega) (by omega) (by omega)).mono ?_
 intro e w2 hpost
 obtain ⟨b,qs,rfl,hh2,hp2,hs2,hf2,hq2⟩:=hpost.zero
 have hql:qs.length=m+1:=by rw [hp2.length_eq,hl1]
 have H2:=Z9 hh2
 have HE:Hid ((qs.take m++[Z7 ps 0]).Perm ps):=Z9 (by rw [<-uh HA,<-hs2 m (Nat.le_refl _),Pg hql];exact hp2.trans (uh HPm))
 have HV:Hid (Z7 qs m=Z7 ps 0):=Z9 ((hs2 m (Nat.le_refl _)).trans (uh HA))
 have HQ:Hid (HeapTo (qs.take m) (qs.take m).length):=Z9 (by rw [List.length_take,Nat.min_eq_left (by omega)];exact hq2.take (Nat.le_refl _))
 have F2:=Z9 ((uh F1).trans hf2)
 clear hpost hh2 hp2 hs2 hf2 hq2
 go_wp2_with fail
 refine (DW (uh H2) hql).mono ?_
 rw [uh HV]
 rintro e w3 ⟨rfl,v3,hh3,ho3,hf3⟩
 have H3:=Z9 hh3
 have F3:=Z9 ((uh F2).trans hf3)
 clear hh3 hf3
 go_wp2_with fail
 go_ret
 exact ⟨rfl,v3,qs.take m,uh H3,uh HQ,uh HE,ho3,uh F3⟩
theorem Lm (g o i:Nat):(⟨g,o,none⟩:Addr).add i=⟨g,o+i,none⟩:=by unfold Addr.add;split<;>simp_all
theorem PM {base t ty e size n:Nat} {i:TypeInfo} (ht:Tryz.prog.underlying t=some (.slice e)) (hi:Tryz.prog.info? e=some i) {xs:List Value} (hown:w.ownsRow base e size v n xs) (a:Option Addr) (c:Nat) :
  (Builtin.append_ #[t,t] ty #[v,.slice a 0 c]).run Tryz.prog w= .ok v w:=by
 rcases hown.2 with ⟨rfl,rfl⟩ | ⟨g,cap,cur,rfl,_,_,hnc,_⟩
 ·cases a<;>simp [Builtin.append_,run_underlying ht,sizeOf,typeInfo,hi,Builtin.lenOf,Builtin.firstCells,loadCells,loadCellsFrom]
 ·cases a<;>simp [Builtin.append_,run_underlying ht,sizeOf,typeInfo,hi,Builtin.lenOf,Builtin.firstCells,hnc,storeCells,loadCells,loadCellsFrom]
theorem Dl {b off:Nat} {qs:List Z4} (h:∀ k,k<qs.length->w.cell? ⟨b,off+k*2,none⟩=some (.int .i64 (Z7 qs k).1)/\w.cell? ⟨b,off+k*2+1,none⟩=some (.int .i64 (Z7 qs k).2)) :
  ∀ (j:Nat) (u:Value),(Zj qs)[j]?=some u->w.cell? ((⟨b,off,none⟩:Addr).add j)=some u:=fun j u hj=>by
 have hlt:j<qs.length*2:=by
  rcases Nat.lt_or_ge j (qs.length*2) with h | h
  ·exact h
  ·rw [List.getElem?_eq_none (by rw [Ua];exact h)] at hj;cases hj
 rw [Lm]
 have hp:=VF (f:=fun p:Z4=>Value.int .i64 p.1) (g:=fun p:Z4=>Value.int .i64 p.2) qs (j / 2) (by omega)
 have e:Z7 qs (j / 2)=qs[j / 2]'(by omega):=by unfold Z7;simp [List.getD,(by omega:j / 2<qs.length)]
 obtain ⟨h1,h2⟩:=h (j / 2) (by omega)
 rw [e] at h1 h2
 rcases Nat.mod_two_eq_zero_or_one j with e2 | e2
 ·rw [show off+j=off+j / 2*2 by omega,h1,<-hj]
  conv=>rhs;rw [show j=j / 2*2 by omega]
  exact hp.1.symm
 ·rw [show off+j=off+j / 2*2+1 by omega,h2,<-hj]
  conv=>rhs;rw [show j=j / 2*2+1 by omega]
  exact hp.2.symm
theorem Fk (qs:List Z4):∀ u ∈ Zj qs,u.oneCell'=true:=fun u hu=>by
 unfold Zj at hu
 obtain ⟨p,_,hp⟩:=List.mem_flatMap.1 hu
 simp only [List.mem_cons,List.not_mem_nil,or_false] at hp
 rcases hp with rfl | rfl<;>rfl
theorem TD {base t ty:Nat} (ht:Tryz.prog.underlying t=some (.slice 151)) {v x:Value} {ps qs:List Z4} (hown:EntsAt base w v ps) (hx:IsPaces w x qs) (hb:ps.length+qs.length<=4000) (hbase:base<=w.heap.size) :
  ∃ v' w',(Builtin.append_ #[t,t] ty #[v,x]).run Tryz.prog w= .ok v' w'/\EntsAt base w' v' (ps++qs)/\w.grownBy w' v.ownBlock/\(v'.ownBlock=v.ownBlock\/v'.ownBlock=some w.heap.size):=by
 obtain ⟨i0,hi,hz0,hz1,hz2⟩:=info_parts Wl
 obtain ⟨a,c,rfl,hc,hm,hr⟩:=hx
 by_cases h0:qs=[]
 ·subst h0
  refine ⟨v,w,PM ht hi hown a c,by simpa using hown,R1 _ _,.inl rfl⟩
 ·rcases hr with hr | ⟨b,off,rfl,hlt,hcl⟩
  ·exact absurd hr h0
  ·obtain ⟨v',w',hr,h2,h3,_,h5⟩:=run_append_own_at (P:=Tryz.prog) w base t ty 151 i0 (.agg #[.int .i64 0,.int .i64 0]) 2 16 ht hi hz0 hz1 hz2 rfl (by decide) v ps.length _ hown ⟨b,off,none⟩ qs.length c (Zj qs) (Ua qs)
    (Dl hcl) (Fk qs) (by simp only [maxLen];omega) (by omega) hbase
   refine ⟨v',w',hr,?_,h3,h5⟩
   unfold EntsAt
   rw [Ss,List.length_append]
   exact h2
theorem WV {ops:Array Oper} {rest:List Oper} {o:Oper} {a:Act} {Q:Exit->Act->World->Prop} (hgd:o.guard=none) (s x:Operand) (t:TypeId) (ht:Tryz.prog.underlying t=some (.slice 151))
  (ho:o.op= .call { callee:= .builtin .append,args:=#[s,x],argTypes:=#[t,t] }) (base:Nat) (v u:Value) (ps qs:List Z4) (hs:a.eval s=v) (hx:a.eval x=u) (hown:EntsAt base w v ps) (hr:IsPaces w u qs)
  (hb:ps.length+qs.length<=4000) (hbase:base<=w.heap.size)
  (h:∀ v' w',EntsAt base w' v' (ps++qs)->w.grownBy w' v.ownBlock->(v'.ownBlock=v.ownBlock\/v'.ownBlock=some w.heap.size)->wpList Tryz.prog ops Q rest (a.put o.dst v') w') :
  wpList Tryz.prog ops Q (o::rest) a w:=by
 refine wpList_plain hgd fun K hK=> ?_
 obtain ⟨v',w',hrun,h2,h3,h5⟩:=TD (ty:=o.type) ht hown hr hb hbase
 unfold Oper.wp execOp
 simp only [ho,resolve,invoke,builtin,Sem.run_bind,Sem.run_pure,Result.andThen_ok,List.map_toArray,List.map_cons,List.map_nil,hs,hx,hrun]
 exact hK _ _ (h v' w' h2 h3 h5)
theorem Yp {ops:Array Oper} {o:Oper} {a:Act} {K:Act->World->Prop} {Q:Exit->Act->World->Prop} {E:Prop} (hgd:o.guard=none) (s x:Operand) (t:TypeId) (ht:Tryz.prog.underlying t=some (.slice 151))
  (ho:o.op= .call { callee:= .builtin .append,args:=#[s,x],argTypes:=#[t,t] }) (base:Nat) (v u:Value) (ps qs:List Z4) (hs:a.eval s=v) (hx:a.eval x=u) (hown:EntsAt base w v ps) (hr:IsPaces w u qs)
  (hb:ps.length+qs.length<=4000) (hbase:base<=w.heap.size)
  (h:∀ v' w',EntsAt base w' v' (ps++qs)->w.grownBy w' v.ownBlock->(v'.ownBlock=v.ownBlock\/v'.ownBlock=some w.heap.size)->K (a.put o.dst v') w') :
  if Region.wanted o (yielded ops a.tmps)=true then Oper.wp Tryz.prog o a w K Q else E:=by
 have hw:Region.wanted o (yielded ops a.tmps)=true:=by simp [Region.wanted,hgd]
 rw [if_pos hw]
 obtain ⟨v',w',hrun,h2,h3,h5⟩:=TD (ty:=o.type) ht hown hr hb hbase
 unfold Oper.wp execOp
 simp only [ho,resolve,invoke,builtin,Sem.run_bind,Sem.run_pure,Result.andThen_ok,List.map_toArray,List.map_cons,List.map_nil,hs,hx,hrun]
 exact h v' w' h2 h3 h5
theorem Wi {B g:Nat} (hg:g=w.heap.size) (hB:B<=g):EntsAt B (w.alloc (.cells #[] 151)) (.slice (some ⟨g,0,none⟩) 0 0) []:=by
 subst hg
 exact ⟨by simp [Zj],.inr ⟨_,0,#[],rfl,hB,heap_alloc_new w _,Nat.le_refl _,Nat.zero_le _,by simp,by simp [Zj]⟩⟩
theorem SX {f z:Int} {g c:Nat} (hg:g=w.heap.size) (hc:1<=c) (hc2:c<=4000):IsPaces (w.alloc (.cells #[.int .i64 f,.int .i64 z] 151)) (.slice (some ⟨g,0,none⟩) 1 c) [(f,z)]:=by
 subst hg
 refine ⟨_,c,rfl,hc,by omega,.inr ⟨_,0,rfl,by simp,fun k hk=> ?_⟩⟩
 obtain rfl:k=0:=by simpa using hk
 simp [Z7]
theorem NZ  {ps:List Z4} (h:IsPaces w v ps) (hl:ps.length<=1000) :
  Calls Tryz.prog 288 #[v] w fun e w'=> ∃ v',e= .returned v'/\EntsAt w.heap.size w' v' ps/\Below w.heap.size w w':=by
 have Hv:=Z9 h
 obtain ⟨a,cap,rfl,hc,hm,hr⟩:=h
 clear hr
 go_enter Tryz.func288,Tryz.ntmps288
 go_wp2_with (at_builtin;refine WV rfl (.tmp 3) (.tmp 4) 148 Tryz.underlying148 rfl w.heap.size _ _ [] ps rfl rfl (Wi rfl (Nat.le_refl _)) ((uh Hv).below ((ba _ _))) (by simp;omega) (by simp) ?_;intro v' w1 hown hgrow hat)
 go_ret
 refine ⟨v',rfl,by simpa using hown,((ba _ _)).trans ((Below.refl _ _).grown hgrow (by simp) (fun k e=> ?_))⟩
 cases e;exact Nat.le_refl _
theorem TU  {ps:List Z4} (h:IsPaces w v ps) (hl:ps.length<=1000) :
  Calls Tryz.prog 235 #[v] w fun e w'=> ∃ v',e= .returned v'/\EntsAt w.heap.size w' v' ps/\Below w.heap.size w w':=by
 have Hv:=Z9 h
 obtain ⟨a,cap,rfl,hc,hm,hr⟩:=h
 clear hr
 go_enter Tryz.func235,Tryz.ntmps235
 go_wp2_with (at_builtin;refine WV rfl (.tmp 3) (.tmp 4) 148 Tryz.underlying148 rfl w.heap.size _ _ [] ps rfl rfl (Wi rfl (Nat.le_refl _)) ((uh Hv).below ((ba _ _))) (by simp;omega) (by simp) ?_;intro v' w1 hown hgrow hat)
 go_ret
 refine ⟨v',rfl,by simpa using hown,((ba _ _)).trans ((Below.refl _ _).grown hgrow (by simp) (fun k e=> ?_))⟩
 cases e;exact Nat.le_refl _
theorem GY  {ps:List Z4} (h:IsPaces w v ps) (hl:ps.length<=1000) :
  Calls Tryz.prog 285 #[v] w fun e w'=> ∃ bx v',e= .returned (.pointer (some ⟨bx,0,none⟩))/\w.heap.size<=bx/\HeapIs w.heap.size bx v' w' ps/\Below w.heap.size w w':=by
 have Hv:=Z9 h
 obtain ⟨a,cap,rfl,hc,hm,hr⟩:=h
 clear hr
 go_enter Tryz.func285,Tryz.ntmps285
 go_wp2_with fail
 refine (NZ (uh Hv) hl).mono ?_
 rintro e w1 ⟨v1,rfl,hi1,hb1⟩
 obtain ⟨a1,cap1,rfl⟩:=hi1.shape
 have H1:=Z9 hi1
 have B1:=Z9 hb1
 have hz1:=hb1.size
 clear hi1 hb1
 go_wp2_with fail
 go_ret
 refine ⟨w1.heap.size,.slice a1 ps.length cap1,rfl,hz1,⟨by simp,by simp,by simp,(uh H1).later ((ba _ _)),fun e=> ?_⟩,(uh B1).alloc hz1 _⟩
 have:=(uh H1).lt e
 omega
theorem Eg (a:Option Addr) (n cap k:Nat) (hk:k<=cap) (W:World):(Instr.slice 148 (.slice a n cap) none (some (.int .i64 k)) none).run Tryz.prog W= .ok (.slice a k cap) W:=by
 obtain ⟨i0,hi,hz0,hz1,hz2⟩:=info_parts Wl
 have hs:∀ W,(sizeOf 151).run Tryz.prog W= .ok 2 W:=fun W=>by simp [sizeOf,typeInfo,hi,hz1]
 have hb:∀ W,(Instr.sliceBounds true n cap none (some (.int .i64 k)) none).run Tryz.prog W= .ok (0,k,cap) W:=fun W=>by
  simp [Instr.sliceBounds,Instr.sliceBound,asIntOf]
  intro h;omega
 simp only [Instr.slice,Sem.run_bind,run_underlying Tryz.underlying148,Result.andThen,hb,hs,Sem.run_pure]
 simp
 cases a<;>simp [Addr.add]
def F5 (a:Option Addr) (n cap k:Nat):Value:= .slice (if cap=k then a else a.map (·.add (k*2))) (n-k) (cap-k)
theorem IF (a:Option Addr) (n cap k:Nat) (hk:k<=n) (W:World):(Instr.slice 148 (.slice a n cap) (some (.int .i64 k)) none none).run Tryz.prog W= .ok (F5 a n cap k) W:=by
 obtain ⟨i0,hi,hz0,hz1,hz2⟩:=info_parts Wl
 have hs:∀ W,(sizeOf 151).run Tryz.prog W= .ok 2 W:=fun W=>by simp [sizeOf,typeInfo,hi,hz1]
 have hb:∀ W,(Instr.sliceBounds true n cap (some (.int .i64 k)) none none).run Tryz.prog W= .ok (k,n,cap) W:=fun W=>by
  simp [Instr.sliceBounds,Instr.sliceBound,asIntOf]
  intro h;omega
 simp only [Instr.slice,Sem.run_bind,run_underlying Tryz.underlying148,Result.andThen,hb,hs,Sem.run_pure]
 rfl
theorem Kk (ps:List Z4) (n k:Nat):Z7 (ps.drop n) k=Z7 ps (n+k):=by unfold Z7;simp [List.getD]
theorem IsPaces.from {a:Option Addr} {n cap:Nat} {ps:List Z4} (h:IsPaces w (.slice a n cap) ps) {k:Nat} (hk:k<=ps.length):IsPaces w (F5 a n cap k) (ps.drop k):=by
 obtain ⟨a',cap',he,hc,hm,hr⟩:=h
 cases he
 refine ⟨_,cap-k,by unfold F5;rw [List.length_drop],by rw [List.length_drop];omega,by omega,?_⟩
 rcases hr with hr | ⟨b,off,rfl,hlt,hcl⟩
 ·exact .inl (by rw [hr];simp)
 ·by_cases hz:ps.length=k
  ·exact .inl (by rw [List.drop_eq_nil_iff];omega)
  ·rw [if_neg (by omega)]
   refine .inr ⟨b,off+k*2,by simp [Lm],hlt,fun j hj=> ?_⟩
   rw [List.length_drop] at hj
   rw [Kk]
   have:=hcl (k+j) (by omega)
   rw [show off+(k+j)*2=off+k*2+j*2 by omega] at this
   exact this
theorem JB (a:Option Addr) (n cap k:Nat):∃ a',F5 a n cap k= .slice a' (n-k) (cap-k):=⟨_,rfl⟩
theorem E7  {ps:List Z4} (f z:Int) (h:IsPaces w v ps) (hl:ps.length<=900) :
  Calls Tryz.prog 186 #[v,.agg #[.int .i64 f,.int .i64 z]] w fun e w'=> ∃ v',e= .returned v'/\EntsAt w.heap.size w' v' (U5 ps (f,z))/\Below w.heap.size w w':=by
 have Hv:=Z9 h
 obtain ⟨a,cap,rfl,hc,hm,hr⟩:=h
 have Hr:=Z9 hr
 clear hr
 go_enter Tryz.func186,Tryz.ntmps186
 go_wp2_with fail
 generalize hW:w.alloc (.cells #[.int .i64 f,.int .i64 z] 151)=W0
 have hs0:W0.heap.size=w.heap.size+1:=by rw [<-hW];simp
 have d0:W0.cell? ⟨w.heap.size,0,none⟩=some (.int .i64 f):=by rw [<-hW];simp
 have d1:W0.cell? ⟨w.heap.size,1,none⟩=some (.int .i64 z):=by rw [<-hW];simp
 have HB0:Hid (Below w.heap.size w W0):=Z9 (by rw [<-hW];exact (ba _ _))
 have D0:=Z9 d0
 have D1:=Z9 d1
 clear hW d0 d1
 go_loopw [5] (fun i wr=> ∃ k:Nat,k<=ps.length/\i= .int .i64 k/\(∀ j,j<k->ltB (Z7 ps j) (f,z)=true)/\Below W0.heap.size W0 wr) (fun i _=>ps.length-(intOf i).toNat)
 case atStart=>exact ⟨0,Nat.zero_le _,rfl,fun j hj=>by omega,Below.refl _ _⟩
 case round=>
  obtain ⟨k,hk,rfl,hst,hb⟩:=hrel
  have Hst:=Z9 hst
  have Hb:=Z9 hb
  have hszr:=hb.size
  have hlt0:w.heap.size<W0.heap.size:=by omega
  have g0:=(hb.cell (p:=⟨w.heap.size,0,none⟩) hlt0).trans (uh D0)
  have g1:=(hb.cell (p:=⟨w.heap.size,1,none⟩) hlt0).trans (uh D1)
  have k0:=cell_regrown g0
  have k1:=cell_regrown g1
  clear hst
  by_cases hgo:k<ps.length/\ltB (Z7 ps k) (f,z)=true
  ·obtain ⟨hlt,hab⟩:=hgo
   rcases uh Hr with h0 | ⟨b,off,rfl,hbw,hcl⟩
   ·rw [h0] at hlt;simp at hlt
   obtain ⟨c0,c1⟩:=hcl k hlt
   have hbB:=(uh HB0).trans (hb.mono (by omega))
   rw [<-hbB.cell (p:=⟨b,off+k*2,none⟩) hbw] at c0
   rw [<-hbB.cell (p:=⟨b,off+k*2+1,none⟩) hbw] at c1
   generalize hp:Z7 ps k=p at *
   obtain ⟨f',z'⟩:=p
   simp only at c0 c1
   have Hp:=Z9 hp
   have m0:=cell_regrown c0
   have m1:=cell_regrown c1
   have hd:decide (k<ps.length)=true:=decide_eq_true hlt
   clear hp hcl hb hbB g0 g1 c0 c1
   go_wp2_with fail
   refine wq ?_
   repeat (go_big_quiet_step (exact Calls.regrown_of (Uf _ _ _ _ _)))
   refine wpQuiet_nil ?_
   intro _ hw'
   obtain ⟨⟨dq,osq⟩,hw''⟩:=hw'
   subst hw''
   go_wp2_with fail
   go_roundw
   case rel=>exact ⟨k+1,by omega,by go_num,Yu (uh Hst) (by rw [uh Hp];exact hab),(uh Hb).trans ((below_regrown _ _ _).mono (uh Hb).size)⟩
   case measure=>exact ms
  ·have HK:Hid (XW (f,z) ps=k):=Z9 (DJ hk (uh Hst) (by
    by_cases e:k=ps.length
    ·exact .inl e
    ·right
     cases hq:ltB (Z7 ps k) (f,z)
     ·rfl
     ·exact absurd ⟨by omega,hq⟩ hgo))
   have HQ:Hid (ps.take k++[(f,z)]++ps.drop k=U5 ps (f,z)):=Z9 (by unfold U5;rw [uh HK];simp)
   have hto:=Eg a ps.length cap k (by omega)
   have hfr:=IF a ps.length cap k hk
   obtain ⟨ra,hra⟩:=JB a ps.length cap k
   rw [hra] at hfr
   have Hfrom:Hid (IsPaces w (.slice ra (ps.length-k) (cap-k)) (ps.drop k)):=Z9 (by rw [<-hra];exact (uh Hv).from hk)
   have Hcut:Hid (IsPaces w (.slice a k cap) (ps.take k)):=Z9 ((uh Hv).cut hk)
   clear hra
   by_cases hlt:k<ps.length
   ·have hab:ltB (Z7 ps k) (f,z)=false:=by
     cases hq:ltB (Z7 ps k) (f,z)
     ·rfl
     ·exact absurd ⟨hlt,hq⟩ hgo
    rcases uh Hr with h0 | ⟨b,off,rfl,hbw,hcl⟩
    ·rw [h0] at hlt;simp at hlt
    obtain ⟨c0,c1⟩:=hcl k hlt
    have hbB:=(uh HB0).trans (hb.mono (by omega))
    rw [<-hbB.cell (p:=⟨b,off+k*2,none⟩) hbw] at c0
    rw [<-hbB.cell (p:=⟨b,off+k*2+1,none⟩) hbw] at c1
    generalize hp:Z7 ps k=p at *
    obtain ⟨f',z'⟩:=p
    simp only at c0 c1
    have m0:=cell_regrown c0
    have m1:=cell_regrown c1
    have hd:decide (k<ps.length)=true:=decide_eq_true hlt
    clear hp hcl hb hbB g0 g1 c0 c1 hgo
    go_wp2_with fail
    refine wq ?_
    repeat (go_big_quiet_step (exact Calls.regrown_of (Uf _ _ _ _ _)))
    refine wpQuiet_nil ?_
    intro w1 hw'
    have Hb1:Hid (Below W0.heap.size W0 w1):=Z9 (by obtain ⟨q,rfl⟩:=hw';exact (uh Hb).trans ((below_regrown _ _ _).mono (uh Hb).size))
    clear k0 k1 m0 m1
    go_wp2_with fail
    have B1:Hid (Below w.heap.size w w1):=Z9 ((uh HB0).trans ((uh Hb1).mono (by omega)))
    refine (TU ((uh Hfrom).below (uh B1)) (by simp;omega)).mono ?_
    rintro e w2 ⟨v2,rfl,hi2,hb2⟩
    obtain ⟨a2,cap2,hv2⟩:=hi2.shape
    rw [List.length_drop] at hv2
    subst hv2
    have hz1:=(uh Hb1).size
    have hz2:=hb2.size
    have Hb2:Hid (Below W0.heap.size W0 w2):=Z9 ((uh Hb1).trans (hb2.mono hz1))
    have e0:=((uh Hb2).cell (p:=⟨w.heap.size,0,none⟩) hlt0).trans (uh D0)
    have e1:=((uh Hb2).cell (p:=⟨w.heap.size,1,none⟩) hlt0).trans (uh D1)
    have B2:Hid (Below w.heap.size w w2):=Z9 ((uh HB0).trans ((uh Hb2).mono (by omega)))
    have Hi2:=Z9 hi2
    have HC:=Z9 ((uh Hcut).below (uh B2))
    clear hi2 hb2
    have hlt2:w.heap.size<w2.heap.size:=by omega
    have hkl:(ps.take k).length=k:=by simp;omega
    go_wp2_with fail
    go_region_law (first
     | (refine Yp rfl (.tmp 28) (.tmp 30) 148 Tryz.underlying148 rfl w2.heap.size _ _ (ps.take k) [(f,z)] rfl rfl (E3.later ((ba _ _))) (SX rfl (Nat.le_refl _) (by omega)) (by simp;omega) (by simp;omega) ?_;intro v4 w4 hown4 hg4 hat4;have X4:Below w2.heap.size w2 w4:=(X3.alloc X3.size _).trans ((Below.refl _ _).grown hg4 (by simp;omega) (fun i e=>(E3.lt e).1)))
     | (refine Yp rfl (.tmp 28) (.tmp 30) 148 Tryz.underlying148 rfl w2.heap.size _ _ (ps.take k) [(f,z)] rfl rfl E3 ((SX (w:=w2) rfl (Nat.le_refl _) (by omega)).below (((Below.refl _ _).drew).trans hb3)) (by simp;omega) (by omega) ?_;intro v4 w4 hown4 hg4 hat4;have X4:Below w2.heap.size w2 w4:=X3.trans ((Below.refl _ _).grown hg4 (by omega) (fun i e=>(E3.lt e).1)))
     | (refine Yp rfl (.tmp 31) (.tmp 32) 148 Tryz.underlying148 rfl w2.heap.size _ _ (ps.take k++[(f,z)]) (ps.drop k) rfl rfl hown4 ((uh Hi2).paces.below X4) (by simp;omega) (by have:=X4.size;omega) ?_;intro v5 w5 hown5 hg5 hat5)
     | (go_simp;go_at_call 235;refine (TU (ps:=ps.take k) ?_ (by simp;omega)).mono ?_;(exact (uh HC).below (by first | exact (Below.refl _ _).drew | exact ((ba _ _)).drew));rintro e w3 ⟨v3,rfl,hi3,hb3⟩;obtain ⟨a3,cap3,hv3⟩:=hi3.shape;rw [hkl] at hv3;subst hv3;have E3:=hi3.mono (n₁:=w2.heap.size) (by simp);have X3:Below w2.heap.size w2 w3:=(by first | exact ((Below.refl _ _).drew).trans (hb3.mono (by simp)) | exact (((ba _ _)).drew).trans (hb3.mono (by simp)));have hz3:=X3.size;have q0:=(X3.cell (p:=⟨w.heap.size,0,none⟩) hlt2).trans e0;have q1:=(X3.cell (p:=⟨w.heap.size,1,none⟩) hlt2).trans e1))
    all_goals
     have X5:Below w2.heap.size w2 w5:=X4.trans ((Below.refl _ _).grown hg5 X4.size (fun i e=>(hown4.lt e).1))
     rw [uh HQ] at hown5
     have HX5:=Z9 X5
     have HO5:=Z9 hown5
     clear hown5 hg5 hat5 X4 X5 hown4 hg4 hat4 X3 E3 hi3 hb3 q0 q1
     go_wp2_with fail
     go_ret
     exact ⟨_,rfl,(uh HO5).mono (uh B2).size,(uh B2).trans ((uh HX5).mono (uh B2).size)⟩
   ·have hd:decide (k<ps.length)=false:=decide_eq_false hlt
    clear hb g0 g1 hgo
    go_wp2_with fail
    refine wq ?_
    repeat (go_big_quiet_step (exact Calls.regrown_of (Uf _ _ _ _ _)))
    refine wpQuiet_nil ?_
    intro w1 hw'
    have Hb1:Hid (Below W0.heap.size W0 w1):=Z9 (by obtain ⟨q,rfl⟩:=hw';exact (uh Hb).trans ((below_regrown _ _ _).mono (uh Hb).size))
    clear k0 k1
    go_wp2_with fail
    have B1:Hid (Below w.heap.size w w1):=Z9 ((uh HB0).trans ((uh Hb1).mono (by omega)))
    refine (TU ((uh Hfrom).below (uh B1)) (by simp;omega)).mono ?_
    rintro e w2 ⟨v2,rfl,hi2,hb2⟩
    obtain ⟨a2,cap2,hv2⟩:=hi2.shape
    rw [List.length_drop] at hv2
    subst hv2
    have hz1:=(uh Hb1).size
    have hz2:=hb2.size
    have Hb2:Hid (Below W0.heap.size W0 w2):=Z9 ((uh Hb1).trans (hb2.mono hz1))
    have e0:=((uh Hb2).cell (p:=⟨w.heap.size,0,none⟩) hlt0).trans (uh D0)
    have e1:=((uh Hb2).cell (p:=⟨w.heap.size,1,none⟩) hlt0).trans (uh D1)
    have B2:Hid (Below w.heap.size w w2):=Z9 ((uh HB0).trans ((uh Hb2).mono (by omega)))
    have Hi2:=Z9 hi2
    have HC:=Z9 ((uh Hcut).below (uh B2))
    clear hi2 hb2
    have hlt2:w.heap.size<w2.heap.size:=by omega
    have hkl:(ps.take k).length=k:=by simp;omega
    go_wp2_with fail
    go_region_law (first
     | (refine Yp rfl (.tmp 28) (.tmp 30) 148 Tryz.underlying148 rfl w2.heap.size _ _ (ps.take k) [(f,z)] rfl rfl (E3.later ((ba _ _))) (SX rfl (Nat.le_refl _) (by omega)) (by simp;omega) (by simp;omega) ?_;intro v4 w4 hown4 hg4 hat4;have X4:Below w2.heap.size w2 w4:=(X3.alloc X3.size _).trans ((Below.refl _ _).grown hg4 (by simp;omega) (fun i e=>(E3.lt e).1)))
     | (refine Yp rfl (.tmp 28) (.tmp 30) 148 Tryz.underlying148 rfl w2.heap.size _ _ (ps.take k) [(f,z)] rfl rfl E3 ((SX (w:=w2) rfl (Nat.le_refl _) (by omega)).below (((Below.refl _ _).drew).trans hb3)) (by simp;omega) (by omega) ?_;intro v4 w4 hown4 hg4 hat4;have X4:Below w2.heap.size w2 w4:=X3.trans ((Below.refl _ _).grown hg4 (by omega) (fun i e=>(E3.lt e).1)))
     | (refine Yp rfl (.tmp 31) (.tmp 32) 148 Tryz.underlying148 rfl w2.heap.size _ _ (ps.take k++[(f,z)]) (ps.drop k) rfl rfl hown4 ((uh Hi2).paces.below X4) (by simp;omega) (by have:=X4.size;omega) ?_;intro v5 w5 hown5 hg5 hat5)
     | (go_simp;go_at_call 235;refine (TU (ps:=ps.take k) ?_ (by simp;omega)).mono ?_;(exact (uh HC).below (by first | exact (Below.refl _ _).drew | exact ((ba _ _)).drew));rintro e w3 ⟨v3,rfl,hi3,hb3⟩;obtain ⟨a3,cap3,hv3⟩:=hi3.shape;rw [hkl] at hv3;subst hv3;have E3:=hi3.mono (n₁:=w2.heap.size) (by simp);have X3:Below w2.heap.size w2 w3:=(by first | exact ((Below.refl _ _).drew).trans (hb3.mono (by simp)) | exact (((ba _ _)).drew).trans (hb3.mono (by simp)));have hz3:=X3.size;have q0:=(X3.cell (p:=⟨w.heap.size,0,none⟩) hlt2).trans e0;have q1:=(X3.cell (p:=⟨w.heap.size,1,none⟩) hlt2).trans e1))
    all_goals
     have X5:Below w2.heap.size w2 w5:=X4.trans ((Below.refl _ _).grown hg5 X4.size (fun i e=>(hown4.lt e).1))
     rw [uh HQ] at hown5
     have HX5:=Z9 X5
     have HO5:=Z9 hown5
     clear hown5 hg5 hat5 X4 X5 hown4 hg4 hat4 X3 E3 hi3 hb3 q0 q1
     go_wp2_with fail
     go_ret
     exact ⟨_,rfl,(uh HO5).mono (uh B2).size,(uh B2).trans ((uh HX5).mono (uh B2).size)⟩
theorem SH  (b:Int) (h:Smy w v0 v1 v2 v3 v4 m) (hl:m.smiths.length<=800) :
  Calls Tryz.prog 121 #[.agg #[v0,v1,v2,v3,v4,.int .i64 m.now],.int .i64 b] w fun e w'=> ∃ v',e= .returned v'/\EntsAt w.heap.size w' v' (atV m.smiths b m.smiths.length)/\Below w.heap.size w w':=by
 obtain ⟨h0,h1,h2,h3,h4⟩:=h
 obtain ⟨a0,p0,rfl,hc0,hm0,_⟩:=h0
 obtain ⟨a1,p1,rfl,hc1,hm1,_⟩:=h1
 obtain ⟨a2,p2,rfl,hc2,hm2,r2⟩:=h2
 obtain ⟨a3,p3,rfl,hc3,hm3,_⟩:=h3
 obtain ⟨a4,p4,rfl,hc4,hm4,_⟩:=h4
 have R2:=Z9 r2
 clear r2
 have kb0:Hid (Blk ((w.alloc (.cells (S6 a0 p0 a1 p1 a2 p2 a3 p3 a4 p4 m) 32)).alloc (.cells #[] 151)) w.heap.size 32 (S6 a0 p0 a1 p1 a2 p2 a3 p3 a4 p4 m)):=Z9 ((Blk.new w _ _).alloc _)
 have BB0:Hid (Below w.heap.size w ((w.alloc (.cells (S6 a0 p0 a1 p1 a2 p2 a3 p3 a4 p4 m) 32)).alloc (.cells #[] 151))):=Z9 (((ba _ _)).alloc (by simp) _)
 have E0:Hid (EntsAt w.heap.size ((w.alloc (.cells (S6 a0 p0 a1 p1 a2 p2 a3 p3 a4 p4 m) 32)).alloc (.cells #[] 151)) (.slice (some ⟨w.heap.size+1,0,none⟩) 0 0) []):=Z9 (Wi (by simp) (by omega))
 go_enter Tryz.func121,Tryz.ntmps121
 go_wp2_with fail
 go_loopw [5,6] (fun q i wr=> ∃ k:Nat,k<=m.smiths.length/\i= .int .i64 k/\EntsAt w.heap.size wr q (atV m.smiths b k)/\Blk wr w.heap.size 32 (S6 a0 p0 a1 p1 a2 p2 a3 p3 a4 p4 m)/\Below w.heap.size w wr) (fun _ i _=>m.smiths.length-(intOf i).toNat)
 case atStart=>exact ⟨0,Nat.zero_le _,rfl,uh E0,uh kb0,uh BB0⟩
 case round=>
  obtain ⟨k,hk,rfl,he,kb1,hb1⟩:=hrel
  obtain ⟨qa,qcap,rfl⟩:=EntsAt.shape he
  have kb:=Z9 kb1
  have BB:=Z9 hb1
  have He:=Z9 he
  clear kb1 hb1 he kb0 BB0 E0
  have hal:=TI m.smiths b k
  have c2:=(uh kb).cell (i:=2) (v:= .slice a2 m.smiths.length p2) rfl
  by_cases hls:k<m.smiths.length
  ·rcases uh R2 with e0 | ⟨sb,off,rfl,hbw,hcl⟩
   ·rw [e0] at hls;simp at hls
   obtain ⟨d0,d1,d2,d3,d4,d5,d6,d7,d8,d9,d10⟩:=ZB hcl hls
   rw [<-(uh BB).cell (p:=⟨sb,off+k*11,none⟩) hbw] at d0
   rw [<-(uh BB).cell (p:=⟨sb,off+k*11+1,none⟩) hbw] at d1
   rw [<-(uh BB).cell (p:=⟨sb,off+k*11+2,none⟩) hbw] at d2
   rw [<-(uh BB).cell (p:=⟨sb,off+k*11+3,none⟩) hbw] at d3
   rw [<-(uh BB).cell (p:=⟨sb,off+k*11+4,none⟩) hbw] at d4
   rw [<-(uh BB).cell (p:=⟨sb,off+k*11+5,none⟩) hbw] at d5
   rw [<-(uh BB).cell (p:=⟨sb,off+k*11+6,none⟩) hbw] at d6
   rw [<-(uh BB).cell (p:=⟨sb,off+k*11+7,none⟩) hbw] at d7
   rw [<-(uh BB).cell (p:=⟨sb,off+k*11+8,none⟩) hbw] at d8
   rw [<-(uh BB).cell (p:=⟨sb,off+k*11+9,none⟩) hbw] at d9
   rw [<-(uh BB).cell (p:=⟨sb,off+k*11+10,none⟩) hbw] at d10
   clear hcl
   have S1:=Z9 (fun hs=>NO (ss:=m.smiths) (b:=b) (k:=k) hs)
   have S2:=Z9 (fun h1 h2=>Rn (ss:=m.smiths) (b:=b) (k:=k) h1 h2)
   generalize Z8 m.smiths k=ss at *
   obtain ⟨st,be,rk,my,gu,lo,hi,hd,ca,ut,wk⟩:=ss
   simp only at d0 d1 d2 d3 d4 d5 d6 d7 d8 d9 d10
   have hl0:w.heap.size<wr.heap.size:=(uh kb).lt
   by_cases hbe:be=b
   rotate_left
   ·have hbn:(be ==b)=false:=by simpa using hbe
    go_wp2_with fail
    go_roundw
    case rel=>exact ⟨k+1,by omega,by go_num,by rw [uh S1 (fun h9=>hbe h9.1)];exact EntsAt.later (uh He) ((ba _ _)),(uh kb).alloc _,(uh BB).alloc (uh BB).size _⟩
    case measure=>exact ms
   subst hbe
   have hbn:(be ==be)=true:=by simp
   obtain ⟨ps,hps⟩:∃ q,ZP (st,be,rk,my,gu,lo,hi,hd,ca,ut,wk)=q:=⟨_,rfl⟩
   have Hps:=Z9 hps
   clear hps
   go_wp2_with fail
   clear c2 d0 d1 d2 d3 d4 d5 d6 d7 d8 d9 d10
   refine ck (YS (uh Hps) _) fun w2 hb=> ?_
   have ks:Hid (Blk w2 wr.heap.size 39 (I11 st be rk my gu lo hi hd ca ut wk)):=Z9 ((Blk.new wr _ _).below hb (by simp))
   replace kb:=Z9 (((uh kb).alloc (.cells (I11 st be rk my gu lo hi hd ca ut wk) 39)).below hb (by simp;omega))
   have hba:=((Below.refl wr.heap.size wr).alloc (Nat.le_refl _) (.cells (I11 st be rk my gu lo hi hd ca ut wk) 39)).trans (hb.mono (by simp))
   replace He:=Z9 (EntsAt.later (uh He) hba)
   replace BB:=bt BB hba
   clear hb hl0 hba
   have d7:=(uh ks).cell (i:=7) (v:= .int .i64 hd) rfl
   cases ps
   ·go_wp2_with fail
    go_roundw
    case rel=>exact ⟨k+1,by omega,by go_num,by rw [uh S1 (fun h9=>by have h8:=h9.2;rw [uh Hps] at h8;cases h8)];exact uh He,uh kb,uh BB⟩
    case measure=>exact ms
   go_wp2_with fail
   refine (E7 hd (k:Int) (EntsAt.paces (uh He)) (by omega)).mono ?_
   rintro e w3 ⟨v3,rfl,he3,hb⟩
   have hsz:=(uh BB).size
   have he4:=EntsAt.mono he3 hsz
   replace kb:=bl kb hb
   replace BB:=Z9 ((uh BB).trans (hb.mono hsz))
   obtain ⟨qa3,qcap3,rfl⟩:=EntsAt.shape he4
   have He4:=Z9 he4
   clear hb he3 he4 d7
   go_wp2_with fail
   go_roundw
   case rel=>exact ⟨k+1,by omega,by go_num,by rw [uh S2 (by first | rfl | trivial) (uh Hps)];exact uh He4,uh kb,uh BB⟩
   case measure=>exact ms
  ·obtain rfl:k=m.smiths.length:=by omega
   go_wp2_with fail
   go_ret
   exact ⟨_,rfl,uh He,uh BB⟩
structure FW (m:Z6):Prop where
 guilds:Zc m.guilds=true
 lo:∀ i,i<m.smiths.length->(Z8 m.smiths i).1 ≠ 0-> -1<=(Z8 m.smiths i).2.2.2.2.1
 hi:∀ i,i<m.smiths.length->(Z8 m.smiths i).1 ≠ 0->(Z8 m.smiths i).2.2.2.2.1<m.guilds.length
theorem Gt {s:Z3} (h:ZP s=true):s.1 ≠ 0:=fun e=>by unfold ZP at h;rw [e] at h;cases h
theorem S8  {k:Nat} (h:Smy w v0 v1 v2 v3 v4 m) (hg:Zc m.guilds=true) (hk:k<m.smiths.length) (g0 : -1<=(Z8 m.smiths k).2.2.2.2.1) (g1:(Z8 m.smiths k).2.2.2.2.1<m.guilds.length) :
  Calls Tryz.prog 123 #[.agg #[v0,v1,v2,v3,v4,.int .i64 m.now],.int .i64 (k:Int)] w fun e w'=>e= .returned (.int .i64 (Yk m (k:Int)))/\Below w.heap.size w w':=by
 have hw:Yk m (k:Int)=Pn m.guilds (Z8 m.smiths k):=rfl
 rw [hw]
 clear hw
 have Hv:=Z9 h
 obtain ⟨h0,h1,h2,h3,h4⟩:=h
 obtain ⟨a0,p0,rfl,hc0,hm0⟩:=IsRooms.shape h0
 obtain ⟨a1,p1,rfl,hc1,hm1⟩:=IsRec.shape h1
 obtain ⟨a2,p2,rfl,hc2,hm2,r2⟩:=h2
 obtain ⟨a3,p3,rfl,hc3,hm3⟩:=IsRec.shape h3
 obtain ⟨a4,p4,rfl,hc4,hm4⟩:=IsRec.shape h4
 clear h0 h1 h3 h4
 rcases r2 with e0 | ⟨sb,off,rfl,hbw,hcl⟩
 ·rw [e0] at hk;simp at hk
 obtain ⟨d0,d1,d2,d3,d4,d5,d6,d7,d8,d9,d10⟩:=ZB hcl hk
 clear hcl
 generalize Z8 m.smiths k=ss at *
 obtain ⟨st,be,rk,my,gu,lo,hi,hd,ca,ut,wk⟩:=ss
 simp only at d0 d1 d2 d3 d4 d5 d6 d7 d8 d9 d10 g0 g1
 have Hg:=Z9 hg
 clear hg
 go_enter Tryz.func123,Tryz.ntmps123
 go_wp2_with fail
 have BB:Hid (Below w.heap.size w ((w.alloc (.cells #[.slice a0 m.rooms.length p0,.slice a1 m.guilds.length p1,.slice (some ⟨sb,off,none⟩) m.smiths.length p2,.slice a3 m.desks.length p3,.slice a4 m.paces.length p4,.int .i64 m.now] 32)).alloc (.cells (I11 st be rk my gu lo hi hd ca ut wk) 39))):=Z9 (((ba _ _)).alloc (by simp) _)
 have Hv2:=Z9 ((uh Hv).below (uh BB)).guilds
 have ks:=Z9 (Blk.new (w.alloc (.cells #[.slice a0 m.rooms.length p0,.slice a1 m.guilds.length p1,.slice (some ⟨sb,off,none⟩) m.smiths.length p2,.slice a3 m.desks.length p3,.slice a4 m.paces.length p4,.int .i64 m.now] 32)) 39 (I11 st be rk my gu lo hi hd ca ut wk))
 simp only [World.size_alloc] at ks
 generalize (w.alloc (.cells #[.slice a0 m.rooms.length p0,.slice a1 m.guilds.length p1,.slice (some ⟨sb,off,none⟩) m.smiths.length p2,.slice a3 m.desks.length p3,.slice a4 m.paces.length p4,.int .i64 m.now] 32)).alloc (.cells (I11 st be rk my gu lo hi hd ca ut wk) 39)=W at *
 refine ck (Qi gu lo hi (uh Hv2) (LS (uh Hg) m.guilds.length gu (uh Hv2) g0 g1 g1)) fun w1 hb=> ?_
 replace ks:=bl ks hb
 replace BB:=bt BB hb
 have x9:=(uh ks).cell (i:=9) (v:= .int .i64 ut) rfl
 clear hb d0 d1 d2 d3 d4 d5 d6 d7 d8 d9 d10
 go_wp2_with (go_at_call 189;refine (TF _ _ _ _).mono ?_;rintro e w' ⟨rfl,h9⟩;subst w')
 go_ret
 exact ⟨rfl,uh BB⟩
theorem IZ (m:Z6) (but:Int) {q:List Z4} {k:Nat} (hk:k<q.length):U3 m but (q.take (k+1))=if (Z7 q k).2=but then U3 m but (q.take k) else U3 m but (q.take k)+Yk m (Z7 q k).2:=by
 have:q.take (k+1)=q.take k++[Z7 q k]:=by
  rw [List.take_succ_eq_append_getElem hk];unfold Z7;simp [List.getD,hk]
 rw [this,IY]
theorem UW  (b but:Int) (h:Smy w v0 v1 v2 v3 v4 m) (hG:FW m) (hl:m.smiths.length<=800) :
  Calls Tryz.prog 62 #[.agg #[v0,v1,v2,v3,v4,.int .i64 m.now],.int .i64 b,.int .i64 but] w fun e w'=>e= .returned (.int .i64 (XC m b but))/\Below w.heap.size w w':=by
 have Hv:=Z9 (h.alloc (.cells #[v0,v1,v2,v3,v4,.int .i64 m.now] 32))
 obtain ⟨a0,p0,a1,p1,a2,p2,a3,p3,a4,p4,rfl,rfl,rfl,rfl,rfl,_,_,_,_,_,_,_,_,_,_⟩:=h.five
 clear h
 have HG:=Z9 hG
 clear hG
 go_enter Tryz.func62,Tryz.ntmps62
 go_wp2_with fail
 refine (SH b (uh Hv) hl).mono ?_
 rintro e w1 ⟨v',rfl,he,hb⟩
 have kb:Hid (Blk w1 w.heap.size 32 (S6 a0 p0 a1 p1 a2 p2 a3 p3 a4 p4 m)):=Z9 ((Blk.new w _ _).below hb (by simp))
 have BB:Hid (Below w.heap.size w w1):=Z9 (((ba _ _)).trans (hb.mono (by simp)))
 replace Hv:=Z9 ((uh Hv).below hb)
 have hq:=TI m.smiths b m.smiths.length
 have hmem:=Yc m.smiths b
 have Hu:Hid (XC m b but=U3 m but (atV m.smiths b m.smiths.length)):=Z9 rfl
 have hmq:∀ x ∈ atV m.smiths b m.smiths.length,∃ j:Nat,j<m.smiths.length/\ZP (Z8 m.smiths j)=true/\x.2=(j:Int):=fun x hx=>by
  obtain ⟨j,hj,_,hp,rfl⟩:=(hmem x m.smiths.length).1 hx
  exact ⟨j,hj,hp,rfl⟩
 have Hm:=Z9 hmq
 clear hmem hmq hb
 have hp:=EntsAt.paces he
 clear he
 generalize atV m.smiths b m.smiths.length=q at *
 obtain ⟨qa,qc,rfl,hqc,hqm,hr⟩:=hp
 have Hr:=Z9 hr
 clear hr
 go_wp2_with fail
 go_loopw [7,9] (fun n i wr=> ∃ k:Nat,k<=q.length/\i= .int .i64 k/\n= .int .i64 (U3 m but (q.take k))/\Below w1.heap.size w1 wr) (fun _ i _=>q.length-(intOf i).toNat)
 case atStart=>exact ⟨0,Nat.zero_le _,rfl,rfl,Below.refl _ _⟩
 case round=>
  obtain ⟨k,hk,rfl,rfl,hbr⟩:=hrel
  have hub:=Lc m but (q.take k)
  have htl:(q.take k).length<=k:=by rw [List.length_take];omega
  by_cases hlt:k<q.length
  ·rcases uh Hr with e0 | ⟨eb,eo,rfl,hbw,hcl⟩
   ·rw [e0] at hlt;simp at hlt
   obtain ⟨c0,c1⟩:=hcl k hlt
   rw [<-hbr.cell (p:=⟨eb,eo+k*2,none⟩) hbw] at c0
   rw [<-hbr.cell (p:=⟨eb,eo+k*2+1,none⟩) hbw] at c1
   obtain ⟨j,hj,hjp,hje⟩:=uh Hm _ (XQ hlt)
   have Hjp:=Z9 (Gt hjp)
   clear hjp
   have hst:=IZ m but hlt
   have hwb:=Lf m (j:Int)
   rw [hje] at c1 hst
   clear hje hcl
   generalize (Z7 q k).1=hd at *
   have Hst:=Z9 hst
   clear hst
   generalize U3 m but (q.take k)=u at *
   have u1:u<=1024*800:=by omega
   have kb1:=(uh kb).below hbr (uh kb).lt
   have Hv1:=Z9 ((uh Hv).below hbr)
   have Kb1:=Z9 kb1
   have Hbr:=Z9 hbr
   clear hbr kb1
   obtain ⟨x0,x1,x2,x3,x4,x5⟩:=(uh Kb1).c6
   by_cases hbut:(j:Int)=but
   ·have hbn:((j:Int) ==but)=true:=by simpa using hbut
    go_wp2_with fail
    go_roundw
    case rel=>exact ⟨k+1,by omega,by go_num,by rw [uh Hst,if_pos hbut],uh Hbr⟩
    case measure=>exact ms
   ·have hbn:((j:Int) ==but)=false:=by simpa using hbut
    have Hw:=Z9 (fun (W:World) (hW:Below wr.heap.size wr W)=>S8 ((uh Hv1).below hW) (uh HG).guilds hj ((uh HG).lo j hj (uh Hjp)) ((uh HG).hi j hj (uh Hjp)))
    generalize Yk m (j:Int)=wa at *
    have y0:=cell_regrown x0
    have y1:=cell_regrown x1
    have y2:=cell_regrown x2
    have y3:=cell_regrown x3
    have y4:=cell_regrown x4
    have y5:=cell_regrown x5
    have z0:=cell_regrown c0
    have z1:=cell_regrown c1
    go_wp2_with fail
    refine wq ?_
    repeat (go_big_quiet_step (exact Calls.regrown_of (uh Hw _ (below_regrown _ _ _))))
    refine wpQuiet_nil ?_
    intro _ hw'
    obtain ⟨⟨dq,osq⟩,hw''⟩:=hw'
    subst hw''
    go_wp2_with fail
    go_roundw
    case rel=>exact ⟨k+1,by omega,by go_num,by rw [uh Hst,if_neg hbut],(uh Hbr).trans ((below_regrown _ _ _).mono (uh Hbr).size)⟩
    case measure=>exact ms
  ·obtain rfl:k=q.length:=by omega
   rw [List.take_length]
   go_wp2_with fail
   go_ret
   exact ⟨ZD (uh Hu).symm,(uh BB).trans (hbr.mono (uh BB).size)⟩
structure Sane (m:Z6):Prop where
 hall:Zf m.rooms=true
 desks:(m.desks.length:Int)=ZY m.rooms
 guilded:FW m
 few:m.smiths.length<=12
theorem Sane.bench (h:Sane m) {b:Nat} (hb:b<m.desks.length):Zb m.rooms (b:Int)=true:=My h.hall (by omega) (by have:=h.desks;omega)
theorem Sane.eight (h:Sane m):m.desks.length<=8:=by have:=(Zo h.hall).2.2.2;have:=h.desks;omega
theorem Loose.sane (h:Loose m):Sane m:=by
 have hd:=h.head
 unfold YY at hd
 simp only [Bool.and_eq_true,decide_eq_true_eq] at hd
 obtain ⟨h1,h2,h3,h4,_⟩:=hd
 refine ⟨h1,h4,⟨h2,fun i hi hs=> ?_,fun i hi hs=>(h.limits hi hs).2.1⟩,h3⟩
 have hp:=(h.limits hi hs).1
 generalize Z8 m.smiths i=s at *
 obtain ⟨st,be,rk,my,gu,lo',hi',hd,ca,ut,wk⟩:=s
 exact (Zu hp).2.2.2.2.1.1
theorem Sane.with (h:Sane m) {k:Nat} (hk:k<m.smiths.length) (hs:(Z8 m.smiths k).1 ≠ 0) (b:Int):Sane (TA m (k:Int) b):=by
 have hset:∀ i,Z8 (TA m (k:Int) b).smiths i=if i=k then Rm (Z8 m.smiths k) b else Z8 m.smiths i:=fun i=>by
  unfold TA
  simp only [Int.toNat_natCast]
  exact ZK hk i
 refine ⟨h.hall,h.desks,⟨h.guilded.guilds,fun i hi hne=> ?_,fun i hi hne=> ?_⟩,by unfold TA;simpa using h.few⟩
 ·have hi':i<m.smiths.length:=by unfold TA at hi;simpa using hi
  rw [hset] at hne ⊢
  by_cases e:i=k
  ·rw [if_pos e];exact h.guilded.lo k hk hs
  ·rw [if_neg e] at hne ⊢;exact h.guilded.lo i hi' hne
 ·have hi':i<m.smiths.length:=by unfold TA at hi;simpa using hi
  rw [hset] at hne ⊢
  by_cases e:i=k
  ·rw [if_pos e];exact h.guilded.hi k hk hs
  ·rw [if_neg e] at hne ⊢;exact h.guilded.hi i hi' hne
theorem Sane.few' (h:Sane m) (hp:m.paces.length<=1000):Few m:=by
 obtain ⟨r1,r2,r3,r4⟩:=Zo h.hall
 have hg:=(Wk h.guilded.guilds).2
 refine ⟨by omega,fun r hr=> ?_,by omega,by have:=h.few;omega,by have:=h.eight;omega,hp⟩
 have hrb:=List.all_eq_true.1 r3 r hr
 unfold Zn at hrb
 simp only [Bool.and_eq_true] at hrb
 have:=ZU hrb.2.1
 omega
end Go.Proofs.YtffcgajndmhpkaaGreatDoor
