/- Part 15 of what the proof rests on. No condition but those that a theorem names. -/
import Derived.Test.YtgdpaigcmoifbaaGreatDoorXr08
import Derived.Test.YtgdpaigcmoifbaaGreatDoorXr10
import Derived.Deep.LoopGhost
set_option maxHeartbeats 8000000
set_option maxRecDepth 100000
namespace Go.Proofs.YtgdpaigcmoifbaaGreatDoor
open Go.ChangeShapes Go.WideShapes Go.ChangeAt Go.RowKit Go.Sort Go.Proofs.Tryz
set_option linter.unusedVariables false
variable {w w' w0 w1 w2 w3 w₀ wr W W' X A B C : World} {v v0 v1 v2 v3 v4 u u0 u1 u2 u3 u4 : Value}
theorem HeapTo.take {ps:List Z6} {n m:Nat} (h:HeapTo ps n) (hm:n<=m):HeapTo (ps.take m) n:=fun k k0 kn=>by
 rw [V8 (by omega),V8 (by omega)];exact h k k0 kn
theorem HeapIs.below {n₀ bx:Nat} {v v':Value} {ps qs:List Z6} (h:HeapIs n₀ bx v w ps) (hf:Fr bx v.ownBlock w w') (hx:n₀<=bx) (hn:n₀<=w.heap.size):Below n₀ w w':=
 hf.below hx (fun k e=>(h.row.lt e).1) hn
theorem LQ {n₀ bx:Nat}  {ps:List Z6} (f z:Int) (h:HeapIs n₀ bx v w ps) (hp:HeapTo ps ps.length) (hl:ps.length<=900) (hx:n₀<=bx) (hn:n₀<=w.heap.size) :
  Calls prog 230 #[.iface 246 (.pointer (some ⟨bx,0,none⟩)),.iface 138 (.agg #[.int .i64 f,.int .i64 z])] w fun e w'=>e= .returned (.tuple #[])/\ ∃ v' qs,HeapIs n₀ bx v' w' qs/\HeapTo qs qs.length/\qs.Perm (ps++[(f,z)])/\Below n₀ w w':=by
 have H:=Z9 h;have HP:=Z9 hp;have hm1:=CG ⟨bx,0,none⟩;have hm2:=C8 ⟨bx,0,none⟩;clear h hp;go_enter func230,ntmps230;go_wp2_with fail;refine (FN f z (uh H) (by omega) hn).mono ?_;rintro e w1 ⟨rfl,v1,hh1,hat,hf1⟩;have H1:=Z9 hh1;have B1:=Z9 ((uh H).below (v':=v1) (qs:=ps) hf1 hx hn);have hz1:=hf1.size;clear hh1 hat hf1;go_wp2_with fail;refine (Rp (uh H1)).mono ?_;rintro e w' ⟨rfl,h2⟩;subst w';have hlen:(ps++[(f,z)]).length=ps.length+1:=by simp
 rw [hlen];go_wp2_with fail;refine (CP (j0:=ps.length) (n:=ps.length+1) (uh H1) ((uh HP).push (f,z)) (by omega) (by rw [hlen];exact ZY _) (by rw [hlen];omega)).mono ?_;rintro e w2 ⟨rfl,qs,hh2,hq,hpe,_,hf2⟩;have hql:qs.length=ps.length+1:=by rw [hpe.length_eq,hlen]
 have H2:=Z9 hh2;have HQ:=Z9 hq;have HE:=Z9 hpe;have B2:=Z9 ((uh B1).trans ((uh H1).below (v':=v1) (qs:=ps) hf2 hx (by omega)));clear hh2 hq hpe hf2;go_wp2_with fail
 go_end0
 exact ⟨rfl,v1,qs,uh H2,by rw [hql];exact uh HQ,uh HE,uh B2⟩
theorem DnTo.none {ps:List Z6} {i0 i:Nat} : DnTo ps 0 i0 i:=⟨fun k k0 kn=>by omega,fun k k0 kn=>by omega⟩
theorem DownPost.zero {n₀ bx:Nat}  {ps:List Z6} {n:Nat} {e:Ending} (h:DownPost n₀ bx v w ps n 0 e w') :
  ∃ (b:Bool) (qs:List Z6),e= .returned (.bool b)/\HeapIs n₀ bx v w' qs/\qs.Perm ps/\(∀ k,n<=k->Z7 qs k=Z7 ps k)/\Fr bx v.ownBlock w w'/\HeapTo qs n:=by
 obtain ⟨b,qs,he,hh,hp,hs,hf,h1,h2⟩:=h;refine ⟨b,qs,he,hh,hp,hs,hf,?_⟩;cases b
 ·exact (h2 rfl).done (.inl rfl)
 ·exact h1 rfl
theorem JR {n₀ bx:Nat}  {ps:List Z6} {m:Nat} (h:HeapIs n₀ bx v w ps) (hp:HeapTo ps ps.length) (hm:ps.length=m+1) (hl:ps.length<=900) :
  Calls prog 249 #[.iface 246 (.pointer (some ⟨bx,0,none⟩))] w fun e w'=>e= .returned (.iface 138 (.agg #[.int .i64 (Z7 ps 0).1,.int .i64 (Z7 ps 0).2]))/\ ∃ v' qs,HeapIs n₀ bx v' w' qs/\HeapTo qs qs.length/\(qs++[Z7 ps 0]).Perm ps/\v'.ownBlock=v.ownBlock/\Fr bx v.ownBlock w w':=by
 have H:=Z9 h;rw [hm] at hp;have HP:=Z9 hp;have hm1:=Cg ⟨bx,0,none⟩;have hm2:=C8 ⟨bx,0,none⟩;have hm3:=Iu ⟨bx,0,none⟩;clear h hp;go_enter func249,ntmps249;go_wp2_with fail;refine (Rp (uh H)).mono ?_;rw [hm];rintro e w' ⟨rfl,h2⟩;subst w';go_wp2_with fail;refine (Ty (i:=0) (j:=m) (uh H) (by omega) (by omega)).mono ?_;rintro e w1 ⟨rfl,hh1,hf1⟩;have H1:=Z9 hh1;have F1:=Z9 hf1;have hl1:(swp ps 0 m).length=m+1:=by rw [DH];exact hm
 have HD:Hid (DnTo (swp ps 0 m) m 0 0):=Z9 (by
  by_cases e:m=0
  ·subst e;exact DnTo.none
  ·exact (uh HP).swap hm (by omega))
 have HA:Hid (Z7 (swp ps 0 m) m=Z7 ps 0):=Z9 (by rw [Tz (by omega) (by omega),if_pos rfl]);have HPm:Hid ((swp ps 0 m).Perm ps):=Z9 (TA (by omega) (by omega));clear hh1 hf1;go_wp2_with fail;refine (DV (n:=m) (i0:=0) (uh H1) (uh HD) (by omega) (by omega) (by omega)).mono ?_;intro e w2 hpost;obtain ⟨b,qs,rfl,hh2,hp2,hs2,hf2,hq2⟩:=hpost.zero;have hql:qs.length=m+1:=by rw [hp2.length_eq,hl1]
 have H2:=Z9 hh2;have HE:Hid ((qs.take m++[Z7 ps 0]).Perm ps):=Z9 (by rw [<-uh HA,<-hs2 m (Nat.le_refl _),Pq hql];exact hp2.trans (uh HPm));have HV:Hid (Z7 qs m=Z7 ps 0):=Z9 ((hs2 m (ZY _)).trans (uh HA));have HQ:Hid (HeapTo (qs.take m) (qs.take m).length):=Z9 (by rw [List.length_take,Nat.min_eq_left (by omega)];exact hq2.take (ZY _));have F2:=Z9 ((uh F1).trans hf2);clear hpost hh2 hp2 hs2 hf2 hq2;go_wp2_with fail;refine (Ex (uh H2) hql).mono ?_;rw [uh HV];rintro e w3 ⟨rfl,v3,hh3,ho3,hf3⟩;have H3:=Z9 hh3;have F3:=Z9 ((uh F2).trans hf3);clear hh3 hf3;go_wp2_with fail;go_ret;exact ⟨rfl,v3,qs.take m,uh H3,uh HQ,uh HE,ho3,uh F3⟩
theorem Ls (g o i:Nat):(⟨g,o,none⟩:Addr).add i=⟨g,o+i,none⟩:=by unfold Addr.add;split<;>simp_all
theorem PV {base t ty e size n:Nat} {i:TypeInfo} (ht:prog.underlying t=some (.slice e)) (hi:prog.info? e=some i) {xs:List Value} (hown:w.ownsRow base e size v n xs) (a:Option Addr) (c:Nat) :
  (Builtin.append_ #[t,t] ty #[v,.slice a 0 c]).run prog w= .ok v w:=by
 rcases hown.2 with ⟨rfl,rfl⟩ | ⟨g,cap,cur,rfl,_,_,hnc,_⟩
 ·cases a<;>simp [Builtin.append_,run_underlying ht,sizeOf,typeInfo,hi,Builtin.lenOf,Builtin.firstCells,loadCells,loadCellsFrom]
 ·cases a<;>simp [Builtin.append_,run_underlying ht,sizeOf,typeInfo,hi,Builtin.lenOf,Builtin.firstCells,hnc,storeCells,loadCells,loadCellsFrom]
theorem DU {b off:Nat} {qs:List Z6} (h:∀ k,k<qs.length->w.cell? ⟨b,off+k*2,none⟩=some (.int .i64 (Z7 qs k).1)/\w.cell? ⟨b,off+k*2+1,none⟩=some (.int .i64 (Z7 qs k).2)) :
  ∀ (j:Nat) (u:Value),(Zq qs)[j]?=some u->w.cell? ((⟨b,off,none⟩:Addr).add j)=some u:=fun j u hj=>by
 have hlt:j<qs.length*2:=by
  rcases Nat.lt_or_ge j (qs.length*2) with h | h
  ·exact h
  ·rw [List.getElem?_eq_none (by rw [Uk];exact h)] at hj;cases hj
 rw [Ls];have hp:=WM (f:=fun p:Z6=>Value.int .i64 p.1) (g:=fun p:Z6=>Value.int .i64 p.2) qs (j / 2) (by omega);have e:Z7 qs (j / 2)=qs[j / 2]'(by omega):=by unfold Z7;simp [List.getD,(by omega:j / 2<qs.length)]
 obtain ⟨h1,h2⟩:=h (j / 2) (by omega);rw [e] at h1 h2
 rcases Nat.mod_two_eq_zero_or_one j with e2 | e2
 ·rw [show off+j=off+j / 2*2 by omega,h1,<-hj]
  conv=>rhs;rw [show j=j / 2*2 by omega]
  exact hp.1.symm
 ·rw [show off+j=off+j / 2*2+1 by omega,h2,<-hj]
  conv=>rhs;rw [show j=j / 2*2+1 by omega]
  exact hp.2.symm
theorem FH (qs:List Z6):∀ u ∈ Zq qs,u.oneCell'=true:=fun u hu=>by
 unfold Zq at hu;obtain ⟨p,_,hp⟩:=List.mem_flatMap.1 hu;simp only [List.mem_cons,List.not_mem_nil,or_false] at hp
 rcases hp with rfl | rfl<;>rfl
theorem TK {base t ty:Nat} (ht:prog.underlying t=some (.slice 138)) {v x:Value} {ps qs:List Z6} (hown:EntsAt base w v ps) (hx:IsPaces w x qs) (hb:ps.length+qs.length<=4000) (hbase:base<=w.heap.size) :
  ∃ v' w',(Builtin.append_ #[t,t] ty #[v,x]).run prog w= .ok v' w'/\EntsAt base w' v' (ps++qs)/\w.grownBy w' v.ownBlock/\(v'.ownBlock=v.ownBlock\/v'.ownBlock=some w.heap.size):=by
 obtain ⟨i0,hi,hz0,hz1,hz2⟩:=info_parts Wm;obtain ⟨a,c,rfl,hc,hm,hr⟩:=hx;by_cases h0:qs=[]
 ·subst h0
  refine ⟨v,w,PV ht hi hown a c,by simpa using hown,Xr _ _,.inl rfl⟩
 ·rcases hr with hr | ⟨b,off,rfl,hlt,hcl⟩
  ·exact absurd hr h0
  ·obtain ⟨v',w',hr,h2,h3,_,h5⟩:=run_append_own_at (P:=prog) w base t ty 138 i0 (.agg #[.int .i64 0,.int .i64 0]) 2 16 ht hi hz0 hz1 hz2 rfl (by decide) v ps.length _ hown ⟨b,off,none⟩ qs.length c (Zq qs) (Uk qs)
    (DU hcl) (FH qs) (by simp only [maxLen];omega) (by omega) hbase
   refine ⟨v',w',hr,?_,h3,h5⟩;unfold EntsAt;rw [Sl,List.length_append];exact h2
theorem WR {ops:Array Oper} {rest:List Oper} {o:Oper} {a:Act} {Q:Exit->Act->World->Prop} (hgd:o.guard=none) (s x:Operand) (t:TypeId) (ht:prog.underlying t=some (.slice 138))
  (ho:o.op= .call { callee:= .builtin .append,args:=#[s,x],argTypes:=#[t,t] }) (base:Nat) (v u:Value) (ps qs:List Z6) (hs:a.eval s=v) (hx:a.eval x=u) (hown:EntsAt base w v ps) (hr:IsPaces w u qs)
  (hb:ps.length+qs.length<=4000) (hbase:base<=w.heap.size)
  (h:∀ v' w',EntsAt base w' v' (ps++qs)->w.grownBy w' v.ownBlock->(v'.ownBlock=v.ownBlock\/v'.ownBlock=some w.heap.size)->wpList prog ops Q rest (a.put o.dst v') w') :
  wpList prog ops Q (o::rest) a w:=by
 refine wpList_plain hgd fun K hK=> ?_;obtain ⟨v',w',hrun,h2,h3,h5⟩:=TK (ty:=o.type) ht hown hr hb hbase;unfold Oper.wp execOp;simp only [ho,resolve,invoke,builtin,Sem.run_bind,Sem.run_pure,Result.andThen_ok,List.map_toArray,List.map_cons,List.map_nil,hs,hx,hrun];exact hK _ _ (h v' w' h2 h3 h5)
theorem Ys {ops:Array Oper} {o:Oper} {a:Act} {K:Act->World->Prop} {Q:Exit->Act->World->Prop} {E:Prop} (hgd:o.guard=none) (s x:Operand) (t:TypeId) (ht:prog.underlying t=some (.slice 138))
  (ho:o.op= .call { callee:= .builtin .append,args:=#[s,x],argTypes:=#[t,t] }) (base:Nat) (v u:Value) (ps qs:List Z6) (hs:a.eval s=v) (hx:a.eval x=u) (hown:EntsAt base w v ps) (hr:IsPaces w u qs)
  (hb:ps.length+qs.length<=4000) (hbase:base<=w.heap.size)
  (h:∀ v' w',EntsAt base w' v' (ps++qs)->w.grownBy w' v.ownBlock->(v'.ownBlock=v.ownBlock\/v'.ownBlock=some w.heap.size)->K (a.put o.dst v') w') :
  if Region.wanted o (yielded ops a.tmps)=true then Oper.wp prog o a w K Q else E:=by
 have hw:Region.wanted o (yielded ops a.tmps)=true:=by simp [Region.wanted,hgd]
 rw [if_pos hw];obtain ⟨v',w',hrun,h2,h3,h5⟩:=TK (ty:=o.type) ht hown hr hb hbase;unfold Oper.wp execOp;simp only [ho,resolve,invoke,builtin,Sem.run_bind,Sem.run_pure,Result.andThen_ok,List.map_toArray,List.map_cons,List.map_nil,hs,hx,hrun];exact h v' w' h2 h3 h5
theorem Wl {B g:Nat} (hg:g=w.heap.size) (hB:B<=g):EntsAt B (w.alloc (.cells #[] 138)) (.slice (some ⟨g,0,none⟩) 0 0) []:=by
 subst hg;exact ⟨by simp [Zq],.inr ⟨_,0,#[],rfl,hB,heap_alloc_new w _,ZY _,ZR _,by simp,by simp [Zq]⟩⟩
theorem SZ {f z:Int} {g c:Nat} (hg:g=w.heap.size) (hc:1<=c) (hc2:c<=4000):IsPaces (w.alloc (.cells #[.int .i64 f,.int .i64 z] 138)) (.slice (some ⟨g,0,none⟩) 1 c) [(f,z)]:=by
 subst hg;refine ⟨_,c,rfl,hc,by omega,.inr ⟨_,0,rfl,by simp,fun k hk=> ?_⟩⟩;obtain rfl:k=0:=by simpa using hk
 simp [Z7]
theorem Oi  {ps:List Z6} (h:IsPaces w v ps) (hl:ps.length<=1000) :
  Calls prog 232 #[v] w fun e w'=> ∃ v',e= .returned v'/\EntsAt w.heap.size w' v' ps/\Below w.heap.size w w':=by
 have Hv:=Z9 h;obtain ⟨a,cap,rfl,hc,hm,hr⟩:=h;clear hr;go_enter func232,ntmps232;go_wp2_with (at_builtin;refine WR rfl (.tmp 3) (.tmp 4) 135 underlying135 rfl w.heap.size _ _ [] ps rfl rfl (Wl rfl (ZY _)) ((uh Hv).below ((ba _ _))) (by simp;omega) (by simp) ?_;intro v' w1 hown hgrow hat)
 go_ret;refine ⟨v',rfl,by simpa using hown,((ba _ _)).trans ((Z0 _ _).grown hgrow (by simp) (fun k e=> ?_))⟩;cases e;exact ZY _
theorem Ub  {ps:List Z6} (h:IsPaces w v ps) (hl:ps.length<=1000) :
  Calls prog 184 #[v] w fun e w'=> ∃ v',e= .returned v'/\EntsAt w.heap.size w' v' ps/\Below w.heap.size w w':=by
 have Hv:=Z9 h;obtain ⟨a,cap,rfl,hc,hm,hr⟩:=h;clear hr;go_enter func184,ntmps184;go_wp2_with (at_builtin;refine WR rfl (.tmp 3) (.tmp 4) 135 underlying135 rfl w.heap.size _ _ [] ps rfl rfl (Wl rfl (ZY _)) ((uh Hv).below ((ba _ _))) (by simp;omega) (by simp) ?_;intro v' w1 hown hgrow hat)
 go_ret;refine ⟨v',rfl,by simpa using hown,((ba _ _)).trans ((Z0 _ _).grown hgrow (by simp) (fun k e=> ?_))⟩;cases e;exact ZY _
theorem Ic  {ps:List Z6} (h:IsPaces w v ps) (hl:ps.length<=1000) :
  Calls prog 229 #[v] w fun e w'=> ∃ bx v',e= .returned (.pointer (some ⟨bx,0,none⟩))/\w.heap.size<=bx/\HeapIs w.heap.size bx v' w' ps/\Below w.heap.size w w':=by
 have Hv:=Z9 h;obtain ⟨a,cap,rfl,hc,hm,hr⟩:=h;clear hr;go_enter func229,ntmps229;go_wp2_with fail;refine (Oi (uh Hv) hl).mono ?_;rintro e w1 ⟨v1,rfl,hi1,hb1⟩;obtain ⟨a1,cap1,rfl⟩:=hi1.shape;have H1:=Z9 hi1;have B1:=Z9 hb1;have hz1:=hb1.size;clear hi1 hb1;go_wp2_with fail;go_ret;refine ⟨w1.heap.size,.slice a1 ps.length cap1,rfl,hz1,⟨by simp,by simp,by simp,(uh H1).later ((ba _ _)),fun e=> ?_⟩,(uh B1).alloc hz1 _⟩;have:=(uh H1).lt e;omega
theorem EK (a:Option Addr) (n cap k:Nat) (hk:k<=cap) (W:World):(Instr.slice 135 (.slice a n cap) none (some (.int .i64 k)) none).run prog W= .ok (.slice a k cap) W:=by
 obtain ⟨i0,hi,hz0,hz1,hz2⟩:=info_parts Wm;have hs:∀ W,(sizeOf 138).run prog W= .ok 2 W:=fun W=>by simp [sizeOf,typeInfo,hi,hz1]
 have hb:∀ W,(Instr.sliceBounds true n cap none (some (.int .i64 k)) none).run prog W= .ok (0,k,cap) W:=fun W=>by
  simp [Instr.sliceBounds,Instr.sliceBound,asIntOf];intro h;omega
 simp only [Instr.slice,Sem.run_bind,run_underlying underlying135,Result.andThen,hb,hs,Sem.run_pure];simp;cases a<;>simp [Addr.add]
def Gr (a:Option Addr) (n cap k:Nat):Value:= .slice (if cap=k then a else a.map (·.add (k*2))) (n-k) (cap-k)
theorem IU (a:Option Addr) (n cap k:Nat) (hk:k<=n) (W:World):(Instr.slice 135 (.slice a n cap) (some (.int .i64 k)) none none).run prog W= .ok (Gr a n cap k) W:=by
 obtain ⟨i0,hi,hz0,hz1,hz2⟩:=info_parts Wm;have hs:∀ W,(sizeOf 138).run prog W= .ok 2 W:=fun W=>by simp [sizeOf,typeInfo,hi,hz1]
 have hb:∀ W,(Instr.sliceBounds true n cap (some (.int .i64 k)) none none).run prog W= .ok (k,n,cap) W:=fun W=>by
  simp [Instr.sliceBounds,Instr.sliceBound,asIntOf];intro h;omega
 simp only [Instr.slice,Sem.run_bind,run_underlying underlying135,Result.andThen,hb,hs,Sem.run_pure];rfl
theorem Kn (ps:List Z6) (n k:Nat):Z7 (ps.drop n) k=Z7 ps (n+k):=by unfold Z7;simp [List.getD]
theorem IsPaces.from {a:Option Addr} {n cap:Nat} {ps:List Z6} (h:IsPaces w (.slice a n cap) ps) {k:Nat} (hk:k<=ps.length):IsPaces w (Gr a n cap k) (ps.drop k):=by
 obtain ⟨a',cap',he,hc,hm,hr⟩:=h;cases he;refine ⟨_,cap-k,by unfold Gr;rw [List.length_drop],by rw [List.length_drop];omega,by omega,?_⟩
 rcases hr with hr | ⟨b,off,rfl,hlt,hcl⟩
 ·exact .inl (by rw [hr];simp)
 ·by_cases hz:ps.length=k
  ·exact .inl (by rw [List.drop_eq_nil_iff];omega)
  ·rw [if_neg (by omega)]
   refine .inr ⟨b,off+k*2,by simp [Ls],hlt,fun j hj=> ?_⟩;rw [List.length_drop] at hj;rw [Kn];have:=hcl (k+j) (by omega);rw [show off+(k+j)*2=off+k*2+j*2 by omega] at this;exact this
theorem JO (a:Option Addr) (n cap k:Nat):∃ a',Gr a n cap k= .slice a' (n-k) (cap-k):=⟨_,rfl⟩
theorem FB  {ps:List Z6} (f z:Int) (h:IsPaces w v ps) (hl:ps.length<=900) :
  Calls prog 154 #[v,.agg #[.int .i64 f,.int .i64 z]] w fun e w'=> ∃ v',e= .returned v'/\EntsAt w.heap.size w' v' (V9 ps (f,z))/\Below w.heap.size w w':=by
 have Hv:=Z9 h;obtain ⟨a,cap,rfl,hc,hm,hr⟩:=h;have Hr:=Z9 hr;clear hr;go_enter func154,ntmps154;go_wp2_with fail;generalize hW:w.alloc (.cells #[.int .i64 f,.int .i64 z] 138)=W0;have hs0:W0.heap.size=w.heap.size+1:=by rw [<-hW];simp
 have d0:W0.cell? ⟨w.heap.size,0,none⟩=some (.int .i64 f):=by rw [<-hW];simp
 have d1:W0.cell? ⟨w.heap.size,1,none⟩=some (.int .i64 z):=by rw [<-hW];simp
 have HB0:Hid (Below w.heap.size w W0):=Z9 (by rw [<-hW];exact (ba _ _));have D0:=Z9 d0;have D1:=Z9 d1;clear hW d0 d1
 go_loopw [5] (fun i wr=> ∃ k:Nat,k<=ps.length/\i= .int .i64 k/\(∀ j,j<k->ltB (Z7 ps j) (f,z)=true)/\Below W0.heap.size W0 wr) (fun i _=>ps.length-(intOf i).toNat)
 case atStart=>exact ⟨0,ZR _,rfl,fun j hj=>by omega,Z0 _ _⟩
 case round=>
  obtain ⟨k,hk,rfl,hst,hb⟩:=hrel;have Hst:=Z9 hst;have Hb:=Z9 hb;have hszr:=hb.size;have hlt0:w.heap.size<W0.heap.size:=by omega
  have g0:=(hb.cell (p:=⟨w.heap.size,0,none⟩) hlt0).trans (uh D0);have g1:=(hb.cell (p:=⟨w.heap.size,1,none⟩) hlt0).trans (uh D1);have k0:=Z1 g0;have k1:=Z1 g1;clear hst;by_cases hgo:k<ps.length/\ltB (Z7 ps k) (f,z)=true
  ·obtain ⟨hlt,hab⟩:=hgo
   rcases uh Hr with h0 | ⟨b,off,rfl,hbw,hcl⟩
   ·rw [h0] at hlt;simp at hlt
   obtain ⟨c0,c1⟩:=hcl k hlt;have hbB:=(uh HB0).trans (hb.mono (by omega));rw [<-hbB.cell (p:=⟨b,off+k*2,none⟩) hbw] at c0;rw [<-hbB.cell (p:=⟨b,off+k*2+1,none⟩) hbw] at c1;generalize hp:Z7 ps k=p at *;obtain ⟨f',z'⟩:=p;simp only at c0 c1;have Hp:=Z9 hp;have m0:=Z1 c0;have m1:=Z1 c1;have hd:decide (k<ps.length)=true:=Sf hlt;clear hp hcl hb hbB g0 g1 c0 c1;go_wp2_with fail;refine wq ?_
   repeat (go_big_quiet_step (exact ZX (Um _ _ _ _ _)))
   refine wpQuiet_nil ?_;intro _ hw';obtain ⟨⟨dq,osq⟩,hw''⟩:=hw';subst hw'';go_wp2_with fail;go_roundw
   case rel=>exact ⟨k+1,by omega,by go_num,Y4 (uh Hst) (by rw [uh Hp];exact hab),(uh Hb).trans ((Z2 _ _ _).mono (uh Hb).size)⟩
   case measure=>exact ms
  ·have HK:Hid (Yo (f,z) ps=k):=Z9 (Ej hk (uh Hst) (by
    by_cases e:k=ps.length
    ·exact .inl e
    ·right
     cases hq:ltB (Z7 ps k) (f,z)
     ·rfl
     ·exact absurd ⟨by omega,hq⟩ hgo))
   have HQ:Hid (ps.take k++[(f,z)]++ps.drop k=V9 ps (f,z)):=Z9 (by unfold V9;rw [uh HK];simp);have hto:=EK a ps.length cap k (by omega);have hfr:=IU a ps.length cap k hk;obtain ⟨ra,hra⟩:=JO a ps.length cap k;rw [hra] at hfr;have Hfrom:Hid (IsPaces w (.slice ra (ps.length-k) (cap-k)) (ps.drop k)):=Z9 (by rw [<-hra];exact (uh Hv).from hk);have Hcut:Hid (IsPaces w (.slice a k cap) (ps.take k)):=Z9 ((uh Hv).cut hk);clear hra;by_cases hlt:k<ps.length
   ·have hab:ltB (Z7 ps k) (f,z)=false:=by
     cases hq:ltB (Z7 ps k) (f,z)
     ·rfl
     ·exact absurd ⟨hlt,hq⟩ hgo
    rcases uh Hr with h0 | ⟨b,off,rfl,hbw,hcl⟩
    ·rw [h0] at hlt;simp at hlt
    obtain ⟨c0,c1⟩:=hcl k hlt;have hbB:=(uh HB0).trans (hb.mono (by omega));rw [<-hbB.cell (p:=⟨b,off+k*2,none⟩) hbw] at c0;rw [<-hbB.cell (p:=⟨b,off+k*2+1,none⟩) hbw] at c1;generalize hp:Z7 ps k=p at *;obtain ⟨f',z'⟩:=p;simp only at c0 c1;have m0:=Z1 c0;have m1:=Z1 c1;have hd:decide (k<ps.length)=true:=Sf hlt;clear hp hcl hb hbB g0 g1 c0 c1 hgo;go_wp2_with fail;refine wq ?_
    repeat (go_big_quiet_step (exact ZX (Um _ _ _ _ _)))
    refine wpQuiet_nil ?_;intro w1 hw';have Hb1:Hid (Below W0.heap.size W0 w1):=Z9 (by obtain ⟨q,rfl⟩:=hw';exact (uh Hb).trans ((Z2 _ _ _).mono (uh Hb).size));clear k0 k1 m0 m1;go_wp2_with fail;have B1:Hid (Below w.heap.size w w1):=Z9 ((uh HB0).trans ((uh Hb1).mono (by omega)));refine (Ub ((uh Hfrom).below (uh B1)) (by simp;omega)).mono ?_;rintro e w2 ⟨v2,rfl,hi2,hb2⟩;obtain ⟨a2,cap2,hv2⟩:=hi2.shape;rw [List.length_drop] at hv2;subst hv2;have hz1:=(uh Hb1).size;have hz2:=hb2.size;have Hb2:Hid (Below W0.heap.size W0 w2):=Z9 ((uh Hb1).trans (hb2.mono hz1));have e0:=((uh Hb2).cell (p:=⟨w.heap.size,0,none⟩) hlt0).trans (uh D0);have e1:=((uh Hb2).cell (p:=⟨w.heap.size,1,none⟩) hlt0).trans (uh D1);have B2:Hid (Below w.heap.size w w2):=Z9 ((uh HB0).trans ((uh Hb2).mono (by omega)));have Hi2:=Z9 hi2;have HC:=Z9 ((uh Hcut).below (uh B2));clear hi2 hb2;have hlt2:w.heap.size<w2.heap.size:=by omega
    have hkl:(ps.take k).length=k:=by simp;omega
    go_wp2_with fail
    go_region_law (first
     | (refine Ys rfl (.tmp 28) (.tmp 30) 135 underlying135 rfl w2.heap.size _ _ (ps.take k) [(f,z)] rfl rfl (E3.later ((ba _ _))) (SZ rfl (ZY _) (by omega)) (by simp;omega) (by simp;omega) ?_;intro v4 w4 hown4 hg4 hat4;have X4:Below w2.heap.size w2 w4:=(X3.alloc X3.size _).trans ((Z0 _ _).grown hg4 (by simp;omega) (fun i e=>(E3.lt e).1)))
     | (refine Ys rfl (.tmp 28) (.tmp 30) 135 underlying135 rfl w2.heap.size _ _ (ps.take k) [(f,z)] rfl rfl E3 ((SZ (w:=w2) rfl (ZY _) (by omega)).below (((Z0 _ _).drew).trans hb3)) (by simp;omega) (by omega) ?_;intro v4 w4 hown4 hg4 hat4;have X4:Below w2.heap.size w2 w4:=X3.trans ((Z0 _ _).grown hg4 (by omega) (fun i e=>(E3.lt e).1)))
     | (refine Ys rfl (.tmp 31) (.tmp 32) 135 underlying135 rfl w2.heap.size _ _ (ps.take k++[(f,z)]) (ps.drop k) rfl rfl hown4 ((uh Hi2).pc.below X4) (by simp;omega) (by have:=X4.size;omega) ?_;intro v5 w5 hown5 hg5 hat5)
     | (go_simp;go_at_call 184;refine (Ub (ps:=ps.take k) ?_ (by simp;omega)).mono ?_;(exact (uh HC).below (by first | exact (Z0 _ _).drew | exact ((ba _ _)).drew));rintro e w3 ⟨v3,rfl,hi3,hb3⟩;obtain ⟨a3,cap3,hv3⟩:=hi3.shape;rw [hkl] at hv3;subst hv3;have E3:=hi3.mono (n₁:=w2.heap.size) (by simp);have X3:Below w2.heap.size w2 w3:=(by first | exact ((Z0 _ _).drew).trans (hb3.mono (by simp)) | exact (((ba _ _)).drew).trans (hb3.mono (by simp)));have hz3:=X3.size;have q0:=(X3.cell (p:=⟨w.heap.size,0,none⟩) hlt2).trans e0;have q1:=(X3.cell (p:=⟨w.heap.size,1,none⟩) hlt2).trans e1))
    all_goals
     have X5:Below w2.heap.size w2 w5:=X4.trans ((Z0 _ _).grown hg5 X4.size (fun i e=>(hown4.lt e).1));rw [uh HQ] at hown5;have HX5:=Z9 X5;have HO5:=Z9 hown5;clear hown5 hg5 hat5 X4 X5 hown4 hg4 hat4 X3 E3 hi3 hb3 q0 q1;go_wp2_with fail;go_ret;exact ⟨_,rfl,(uh HO5).mono (uh B2).size,(uh B2).trans ((uh HX5).mono (uh B2).size)⟩
   ·have hd:decide (k<ps.length)=false:=TG hlt
    clear hb g0 g1 hgo;go_wp2_with fail;refine wq ?_
    repeat (go_big_quiet_step (exact ZX (Um _ _ _ _ _)))
    refine wpQuiet_nil ?_;intro w1 hw';have Hb1:Hid (Below W0.heap.size W0 w1):=Z9 (by obtain ⟨q,rfl⟩:=hw';exact (uh Hb).trans ((Z2 _ _ _).mono (uh Hb).size));clear k0 k1;go_wp2_with fail;have B1:Hid (Below w.heap.size w w1):=Z9 ((uh HB0).trans ((uh Hb1).mono (by omega)));refine (Ub ((uh Hfrom).below (uh B1)) (by simp;omega)).mono ?_;rintro e w2 ⟨v2,rfl,hi2,hb2⟩;obtain ⟨a2,cap2,hv2⟩:=hi2.shape;rw [List.length_drop] at hv2;subst hv2;have hz1:=(uh Hb1).size;have hz2:=hb2.size;have Hb2:Hid (Below W0.heap.size W0 w2):=Z9 ((uh Hb1).trans (hb2.mono hz1));have e0:=((uh Hb2).cell (p:=⟨w.heap.size,0,none⟩) hlt0).trans (uh D0);have e1:=((uh Hb2).cell (p:=⟨w.heap.size,1,none⟩) hlt0).trans (uh D1);have B2:Hid (Below w.heap.size w w2):=Z9 ((uh HB0).trans ((uh Hb2).mono (by omega)));have Hi2:=Z9 hi2;have HC:=Z9 ((uh Hcut).below (uh B2));clear hi2 hb2;have hlt2:w.heap.size<w2.heap.size:=by omega
    have hkl:(ps.take k).length=k:=by simp;omega
    go_wp2_with fail
    go_region_law (first
     | (refine Ys rfl (.tmp 28) (.tmp 30) 135 underlying135 rfl w2.heap.size _ _ (ps.take k) [(f,z)] rfl rfl (E3.later ((ba _ _))) (SZ rfl (ZY _) (by omega)) (by simp;omega) (by simp;omega) ?_;intro v4 w4 hown4 hg4 hat4;have X4:Below w2.heap.size w2 w4:=(X3.alloc X3.size _).trans ((Z0 _ _).grown hg4 (by simp;omega) (fun i e=>(E3.lt e).1)))
     | (refine Ys rfl (.tmp 28) (.tmp 30) 135 underlying135 rfl w2.heap.size _ _ (ps.take k) [(f,z)] rfl rfl E3 ((SZ (w:=w2) rfl (ZY _) (by omega)).below (((Z0 _ _).drew).trans hb3)) (by simp;omega) (by omega) ?_;intro v4 w4 hown4 hg4 hat4;have X4:Below w2.heap.size w2 w4:=X3.trans ((Z0 _ _).grown hg4 (by omega) (fun i e=>(E3.lt e).1)))
     | (refine Ys rfl (.tmp 31) (.tmp 32) 135 underlying135 rfl w2.heap.size _ _ (ps.take k++[(f,z)]) (ps.drop k) rfl rfl hown4 ((uh Hi2).pc.below X4) (by simp;omega) (by have:=X4.size;omega) ?_;intro v5 w5 hown5 hg5 hat5)
     | (go_simp;go_at_call 184;refine (Ub (ps:=ps.take k) ?_ (by simp;omega)).mono ?_;(exact (uh HC).below (by first | exact (Z0 _ _).drew | exact ((ba _ _)).drew));rintro e w3 ⟨v3,rfl,hi3,hb3⟩;obtain ⟨a3,cap3,hv3⟩:=hi3.shape;rw [hkl] at hv3;subst hv3;have E3:=hi3.mono (n₁:=w2.heap.size) (by simp);have X3:Below w2.heap.size w2 w3:=(by first | exact ((Z0 _ _).drew).trans (hb3.mono (by simp)) | exact (((ba _ _)).drew).trans (hb3.mono (by simp)));have hz3:=X3.size;have q0:=(X3.cell (p:=⟨w.heap.size,0,none⟩) hlt2).trans e0;have q1:=(X3.cell (p:=⟨w.heap.size,1,none⟩) hlt2).trans e1))
    all_goals
     have X5:Below w2.heap.size w2 w5:=X4.trans ((Z0 _ _).grown hg5 X4.size (fun i e=>(hown4.lt e).1));rw [uh HQ] at hown5;have HX5:=Z9 X5;have HO5:=Z9 hown5;clear hown5 hg5 hat5 X4 X5 hown4 hg4 hat4 X3 E3 hi3 hb3 q0 q1;go_wp2_with fail;go_ret;exact ⟨_,rfl,(uh HO5).mono (uh B2).size,(uh B2).trans ((uh HX5).mono (uh B2).size)⟩
theorem Fq {ps qs hs hs':List Z6} (hr:Ris qs) (hle:∀ x ∈ qs,∀ y ∈ hs,ltB y x=false) (hh:HeapTo hs hs.length) (hl:0<hs.length) (hp:(qs++hs).Perm ps) (hp':(hs'++[Z7 hs 0]).Perm hs) :
  Ris (qs++[Z7 hs 0])/\(∀ x ∈ qs++[Z7 hs 0],∀ y ∈ hs',ltB y x=false)/\((qs++[Z7 hs 0])++hs').Perm ps:=by
 have hsub:∀ y ∈ hs',y ∈ hs:=fun y hy=>hp'.subset (List.mem_append_left _ hy);refine ⟨EC hr (fun y hy=>hle y hy _ (Wo hl)),fun x hx y hy=> ?_,?_⟩
 ·rcases List.mem_append.1 hx with hx | hx
  ·exact hle x hx y (hsub y hy)
  ·obtain rfl:x=Z7 hs 0:=by simpa using hx
   obtain ⟨k,hk,rfl⟩:=RV (hsub y hy);exact hh.least k hk
 ·rw [List.append_assoc]
  exact ((List.perm_append_comm (l₁:=[Z7 hs 0]) (l₂:=hs')).trans hp').append_left qs |>.trans hp
theorem JF {n₀ bx:Nat}  {ps:List Z6} (h:HeapIs n₀ bx v w ps) (hp:HeapTo ps ps.length) (hl:ps.length<=900) (hx:n₀<=bx) (hn:n₀<=w.heap.size) :
  Calls prog 231 #[.pointer (some ⟨bx,0,none⟩)] w fun e w'=> ∃ v' qs,e= .returned v'/\EntsAt w.heap.size w' v' qs/\Ris qs/\qs.Perm ps/\Below n₀ w w':=by
 have H:=Z9 h;have HP:=Z9 hp;have hbx:=h.lt;have HO:Hid (∀ k,v.ownBlock=some k->n₀<=k/\k<w.heap.size):=Z9 (fun k e=>h.row.lt e);clear h hp;go_enter func231,ntmps231;go_wp2_with fail
 go_loopg [3] ps.length (fun gg q wr=> ∃ (vh:Value) (qs hs:List Z6),hs.length<=gg/\EntsAt w.heap.size wr q qs/\HeapIs n₀ bx vh wr hs/\HeapTo hs hs.length/\Ris qs/\(∀ x ∈ qs,∀ y ∈ hs,ltB y x=false)/\(qs++hs).Perm ps/\vh.ownBlock=v.ownBlock/\Below n₀ w wr)
 case atStart=>exact ⟨v,[],ps,ZY _,Wl rfl (ZY _),(uh H).later ((ba _ _)),uh HP,List.Pairwise.nil,fun _ hx=>(by cases hx),List.Perm.refl _,rfl,(Z0 _ _).alloc hn _⟩
 case round=>
  obtain ⟨vh,qs,hs,hgg,hq,hh,hto,hris,hle,hperm,hob,hbel⟩:=hrel;have hlen:qs.length+hs.length=ps.length:=by have:=hperm.length_eq;simpa using this
  obtain ⟨qa,qcap,rfl⟩:=hq.shape;have Hq:=Z9 hq;have Hh:=Z9 hh;have Hto:=Z9 hto;have Hris:=Z9 hris;have Hle:=Z9 hle;have Hpe:=Z9 hperm;have Hob:=Z9 hob;have Hbel:=Z9 hbel;have hsz:=hbel.size;clear hq hh hto hris hle hperm hob hbel;by_cases h0:hs.length=0
  ·have hz:¬ (0:Int)<(hs.length:Int):=by omega
   go_wp2_with fail;refine (Rp (uh Hh)).mono ?_;rintro e w' ⟨rfl,h2⟩;subst w';go_wp2_with fail;go_ret;obtain rfl:hs=[]:=List.eq_nil_of_length_eq_zero h0;exact ⟨_,qs,rfl,uh Hq,uh Hris,by have:=uh Hpe;simpa using this,uh Hbel⟩
  ·obtain ⟨m,hm⟩:∃ m,hs.length=m+1:=⟨hs.length-1,by omega⟩
   have hz:(0:Int)<(hs.length:Int):=by omega
   go_wp2_with fail;refine (Rp (uh Hh)).mono ?_;rintro e w' ⟨rfl,h2⟩;subst w';go_wp2_with fail;refine (JR (uh Hh) (uh Hto) hm (by omega)).mono ?_;rintro e w1 ⟨rfl,v1,hs',hh1,hto1,hpe1,hob1,hf1⟩;obtain ⟨s1,s2,s3⟩:=Fq (uh Hris) (uh Hle) (uh Hto) (by omega) (uh Hpe) hpe1;have hlen':hs'.length+1=hs.length:=by have:=hpe1.length_eq;simpa using this
   generalize Z7 hs 0=p at *;obtain ⟨f,z⟩:=p;have hta:=Oa f z;have S1:=Z9 s1;have S2:=Z9 s2;have S3:=Z9 s3;have H1:=Z9 hh1;have T1:=Z9 hto1;have O1:Hid (v1.ownBlock=v.ownBlock):=Z9 (hob1.trans (uh Hob));have Q1:Hid (EntsAt w.heap.size w1 (.slice qa qs.length qcap) qs):=Z9 ((uh Hq).fr hf1 (fun e=>by have:=(uh Hq).lt e;omega) (fun k e e2=>by have h8:=(uh Hq).lt e;have h9:=uh HO k ((uh Hob).symm.trans e2);omega));have hz1:=hf1.size;have B1:Hid (Below n₀ w w1):=Z9 ((uh Hbel).trans ((uh Hh).below (v':=v1) (qs:=hs) hf1 hx (by omega)));clear s1 s2 s3 hh1 hto1 hpe1 hob1 hf1 Hh Hto Hris Hle Hpe Hob Hbel Hq;go_wp2_with (at_builtin;refine WR rfl (.tmp 8) (.tmp 13) 135 underlying135 rfl w.heap.size _ _ qs [(f,z)] rfl rfl ((uh Q1).later ((ba _ _))) (SZ rfl (ZY _) (by omega)) (by simp;omega) (by simp;omega) ?_;intro v' w2 hown hgrow hat)
   have hb0:Below w1.heap.size w1 (w1.alloc (.cells #[.int .i64 f,.int .i64 z] 138)):=ba _ _;have hq0:∀ k,(Value.slice qa qs.length qcap).ownBlock=some k->w.heap.size<=k:=fun k e=>((uh Q1).lt e).1;have hw2:Below w.heap.size (w1.alloc (.cells #[.int .i64 f,.int .i64 z] 138)) w2:=(Z0 _ _).grown hgrow (by simp;omega) (fun k e=>hq0 k e)
   have hh2:HeapIs n₀ bx v1 w2 hs':=by
    have h3:=(uh H1).later hb0;have hk:=hw2.block bx hbx;refine ⟨(World.cell?_of_block (a:=⟨bx,0,none⟩) hk).trans h3.cell,(World.frozen?_of_block (a:=⟨bx,0,none⟩) hk).trans h3.free,ZD h3.lt hw2.size,h3.row.same (fun k e=>hw2.block k ?_),h3.off⟩;exact (uh HO k ((uh O1).symm.trans e)).2
   have H2:=Z9 hh2;have N2:=Z9 hown;have B2:Hid (Below n₀ w w2):=Z9 ((uh B1).trans ((hb0.mono (by omega)).trans (hw2.mono hn)));clear hown hgrow hat hb0 hw2 hh2 hq0
   go_roundg (m)
   case measure=>omega
   case rel=>exact ⟨v1,qs++[(f,z)],hs',by omega,uh N2,uh H2,uh T1,uh S1,uh S2,uh S3,uh O1,uh B2⟩
def BX (n₀:Nat) (r:List Z6 × Bool) (e:Ending) (w':World):Prop:= ∃ v',e= .returned (.tuple #[v',.bool r.2])/\EntsAt n₀ w' v' r.1
theorem IM {ps:List Z6} {e:Z6} (h:YP ps=false):Ul ps e=([],false):=by unfold Ul;rw [h];rfl
theorem NP {ps:List Z6} {e:Z6} (h:YP ps=true) (h2:YP (V9 ps e)=false):Ul ps e=(ps,false):=by unfold Ul;rw [h,h2];rfl
theorem Qn {ps:List Z6} {e:Z6} (h:YP ps=true) (h2:YP (V9 ps e)=true):Ul ps e=(V9 ps e,true):=by unfold Ul;rw [h,h2];rfl
theorem OC  {ps:List Z6} (f z:Int) (h:IsPaces w v ps) :
  Calls prog 198 #[v,.agg #[.int .i64 f,.int .i64 z]] w fun e w'=>BX w.heap.size (Ul ps (f,z)) e w'/\Below w.heap.size w w':=by
 have Hv:=Z9 h;obtain ⟨a,cap,rfl,hc,hm,hr⟩:=h;clear hr;cases hq:YP ps
 ·rw [IM hq]
  go_enter func198,ntmps198;go_wp2_with fail;refine (YA ((uh Hv).below ((ba _ _)))).mono ?_;rw [hq];rintro e w1 ⟨rfl,hb1⟩;have B1:Hid (Below w.heap.size w w1):=Z9 (((ba _ _)).trans (hb1.mono (by simp)));clear hb1;go_wp2_with fail
  go_ret2
  exact ⟨⟨_,rfl,Wl rfl (uh B1).size⟩,(uh B1).alloc (uh B1).size _⟩
 ·have hQ:=Cz hq
  have hlen:=hQ.len;have HQ:=Z9 hQ;clear hQ;go_enter func198,ntmps198;go_wp2_with fail;refine (YA ((uh Hv).below ((ba _ _)))).mono ?_;rw [hq];rintro e w1 ⟨rfl,hb1⟩;have hz1:w.heap.size+1<=w1.heap.size:=by have:=hb1.size;simpa using this
  have c0:w1.cell? ⟨w.heap.size,0,none⟩=some (.int .i64 f):=(hb1.cell (p:=⟨w.heap.size,0,none⟩) (by simp)).trans (by simp);have c1:w1.cell? ⟨w.heap.size,1,none⟩=some (.int .i64 z):=(hb1.cell (p:=⟨w.heap.size,1,none⟩) (by simp)).trans (by simp);have B1:Hid (Below w.heap.size w w1):=Z9 (((ba _ _)).trans (hb1.mono (by simp)));clear hb1;go_wp2_with fail;refine (Ic ((uh Hv).below (uh B1)) (by omega)).mono ?_;rintro e w2 ⟨bx,v2,rfl,hbx,hh2,hb2⟩;have hlt1:w.heap.size<w1.heap.size:=by omega
  have d0:=(hb2.cell (p:=⟨w.heap.size,0,none⟩) hlt1).trans c0;have d1:=(hb2.cell (p:=⟨w.heap.size,1,none⟩) hlt1).trans c1;have hz2:=hb2.size;have H2:=Z9 hh2;have B2:Hid (Below w.heap.size w w2):=Z9 ((uh B1).trans (hb2.mono (by omega)));clear hb2 hh2 c0 c1;go_wp2_with fail;refine (LQ f z (uh H2) (EB (uh HQ).ris) (by omega) hbx hz2).mono ?_;rintro e w3 ⟨rfl,v3,hs,hh3,hto3,hpe3,hb3⟩;have hz3:=hb3.size;have hsl:hs.length=ps.length+1:=by have:=hpe3.length_eq;simpa using this
  have H3:=Z9 hh3;have T3:=Z9 hto3;have P3:=Z9 hpe3;have B3:Hid (Below w.heap.size w w3):=Z9 ((uh B2).trans (hb3.mono (by omega)));clear hb3 hh3 hto3 hpe3 d0 d1;go_wp2_with fail;refine (JF (uh H3) (uh T3) (by omega) hbx (by omega)).mono ?_;rintro e w4 ⟨v4,qs,rfl,hi4,hris4,hpe4,hb4⟩;obtain rfl:qs=V9 ps (f,z):=IW (uh HQ) hris4 (hpe4.trans (uh P3));have hz4:=hb4.size;obtain ⟨a4,cap4,rfl⟩:=hi4.shape;have H4:=Z9 hi4;have B4:Hid (Below w.heap.size w w4):=Z9 ((uh B3).trans (hb4.mono (by omega)));clear hi4 hris4 hpe4 hb4 H2 H3 T3 P3;go_wp2_with fail;refine (YA (uh H4).pc).mono ?_;cases hq2:YP (V9 ps (f,z))
  ·rintro e w5 ⟨rfl,hb5⟩
   have B5:Hid (Below w.heap.size w w5):=Z9 ((uh B4).trans (hb5.mono (by omega)));clear hb5;go_wp2_with fail;refine (Oi ((uh Hv).below (uh B5)) (by omega)).mono ?_;rintro e w6 ⟨v6,rfl,hi6,hb6⟩;obtain ⟨a6,cap6,rfl⟩:=hi6.shape;have H6:=Z9 hi6;have B6:Hid (Below w.heap.size w w6):=Z9 ((uh B5).trans (hb6.mono (uh B5).size));clear hi6 hb6;go_wp2_with fail
   go_ret2
   rw [NP hq hq2];exact ⟨⟨_,rfl,(uh H6).mono (uh B5).size⟩,uh B6⟩
  ·rintro e w5 ⟨rfl,hb5⟩
   have H5:=Z9 ((uh H4).later hb5);have B5:Hid (Below w.heap.size w w5):=Z9 ((uh B4).trans (hb5.mono (by omega)));clear hb5;go_wp2_with fail
   go_ret2
   rw [Qn hq hq2];exact ⟨⟨_,rfl,(uh H5).mono (by omega)⟩,uh B5⟩
end Go.Proofs.YtgdpaigcmoifbaaGreatDoor
