/- Part 8 of what the proof rests on. No condition but those that a theorem names. -/
import Derived.Test.YtmdgokjeobnnaaaGreatDoorXt03
import Derived.Deep.RegionHeld3
import Derived.Deep.DrawnRows
import Derived.BigRegion
import Derived.Deep.RegionLawGrows
set_option maxHeartbeats 8000000
set_option maxRecDepth 100000
namespace Go.Proofs.YtmdgokjeobnnaaaGreatDoor
open Go.ChangeShapes Go.WideShapes Go.ChangeAt Go.RowKit Go.Sort Go.Proofs.Tryz
set_option linter.unusedVariables false
variable {w w' w0 w1 w2 w3 w₀ wr W W' X A B C : World} {v v0 v1 v2 v3 v4 u u0 u1 u2 u3 u4 : Value}
theorem GZ {a b c d:Int} (h:a ≠ c):ltB (a,b) (c,d)=decide (a<c):=by unfold ltB;simp;omega
theorem G0 {a b d:Int} : ltB (a,b) (a,d)=decide (b<d):=by unfold ltB;simp
theorem UZ (a b c d:Int) (w:World):cB 171 #[.agg #[.int .i64 a,.int .i64 b],.agg #[.int .i64 c,.int .i64 d]] w (.bool (ltB (a,b) (c,d))):=by
 by_cases h:a=c
 ·subst h
  rw [G0];go_enter func171,ntmps171;go_wp2_with fail;go_ret;exact ⟨rfl,((ba _ _)).alloc (by simp) _⟩
 ·rw [GZ h]
  have h':(a ==c)=false:=by simpa using h
  have h2:(a !=c)=true:=by simpa using h
  clear h;go_enter func171,ntmps171;go_wp2_with fail;go_ret;exact ⟨rfl,((ba _ _)).alloc (by simp) _⟩
theorem KQ (g o i:Nat):(⟨g,o,none⟩:Addr).add i=⟨g,o+i,none⟩:=by unfold Addr.add;split<;>simp_all
theorem Rz {base t ty e size n:Nat} {i:TypeInfo} (ht:prog.underlying t=some (.slice e)) (hi:prog.info? e=some i) {xs:List Value} (hown:w.ownsRow base e size v n xs) (a:Option Addr) (c:Nat) :
  (Builtin.append_ #[t,t] ty #[v,.slice a 0 c]).run prog w= .ok v w:=by
 rcases hown.2 with ⟨rfl,rfl⟩ | ⟨g,cap,cur,rfl,_,_,hnc,_⟩
 ·cases a<;>simp [Builtin.append_,run_underlying ht,sizeOf,typeInfo,hi,Builtin.lenOf,Builtin.firstCells,loadCells,loadCellsFrom]
 ·cases a<;>simp [Builtin.append_,run_underlying ht,sizeOf,typeInfo,hi,Builtin.lenOf,Builtin.firstCells,hnc,storeCells,loadCells,loadCellsFrom]
theorem Im {b off:Nat} {qs:List Z1} (h:∀ k,k<qs.length->w.cell? ⟨b,off+k*2,none⟩=some (.int .i64 (ZY qs k).1)/\w.cell? ⟨b,off+k*2+1,none⟩=some (.int .i64 (ZY qs k).2)) :
  ∀ (j:Nat) (u:Value),(XD qs)[j]?=some u->w.cell? ((⟨b,off,none⟩:Addr).add j)=some u:=fun j u hj=>by
 have hlt:j<qs.length*2:=by
  rcases Nat.lt_or_ge j (qs.length*2) with h | h
  ·exact h
  ·rw [List.getElem?_eq_none (by rw [QG];exact h)] at hj;cases hj
 rw [KQ];have hp:=Vc (f:=fun p:Z1=>Value.int .i64 p.1) (g:=fun p:Z1=>Value.int .i64 p.2) qs (j / 2) (by omega);have e:ZY qs (j / 2)=qs[j / 2]'(by omega):=by unfold ZY;simp [List.getD,(by omega:j / 2<qs.length)]
 obtain ⟨h1,h2⟩:=h (j / 2) (by omega);rw [e] at h1 h2
 rcases Nat.mod_two_eq_zero_or_one j with e2 | e2
 ·rw [show off+j=off+j / 2*2 by omega,h1,<-hj]
  conv=>rhs;rw [show j=j / 2*2 by omega]
  exact hp.1.symm
 ·rw [show off+j=off+j / 2*2+1 by omega,h2,<-hj]
  conv=>rhs;rw [show j=j / 2*2+1 by omega]
  exact hp.2.symm
theorem Kd (qs:List Z1):∀ u ∈ XD qs,u.oneCell'=true:=fun u hu=>by
 unfold XD at hu;obtain ⟨p,_,hp⟩:=List.mem_flatMap.1 hu;simp only [List.mem_cons,List.not_mem_nil,or_false] at hp
 rcases hp with rfl | rfl<;>rfl
theorem Uz {base t ty:Nat} (ht:prog.underlying t=some (.slice 183)) {v x:Value} {ps qs:List Z1} (hown:EntsAt base w v ps) (hx:IsPaces w x qs) (hb:ps.length+qs.length<=4000) (hbase:base<=w.heap.size) :
  ∃ v' w',(Builtin.append_ #[t,t] ty #[v,x]).run prog w= .ok v' w'/\EntsAt base w' v' (ps++qs)/\w.grownBy w' v.ownBlock/\(v'.ownBlock=v.ownBlock\/v'.ownBlock=some w.heap.size):=by
 obtain ⟨i0,hi,hz0,hz1,hz2⟩:=info_parts Sm;obtain ⟨a,c,rfl,hc,hm,hr⟩:=hx;by_cases h0:qs=[]
 ·subst h0
  refine ⟨v,w,Rz ht hi hown a c,by simpa using hown,Ts _ _,.inl rfl⟩
 ·rcases hr with hr | ⟨b,off,rfl,hlt,hcl⟩
  ·exact absurd hr h0
  ·obtain ⟨v',w',hr,h2,h3,_,h5⟩:=run_append_own_at (P:=prog) w base t ty 183 i0 (.agg #[.int .i64 0,.int .i64 0]) 2 16 ht hi hz0 hz1 hz2 rfl (by decide) v ps.length _ hown ⟨b,off,none⟩ qs.length c (XD qs) (QG qs)
    (Im hcl) (Kd qs) (by simp only [maxLen];omega) (by omega) hbase
   refine ⟨v',w',hr,?_,h3,h5⟩;unfold EntsAt;rw [PR,List.length_append];exact h2
theorem Tz {ops:Array Oper} {rest:List Oper} {o:Oper} {a:Act} {Q:Exit->Act->World->Prop} (hgd:o.guard=none) (s x:Operand) (t:TypeId) (ht:prog.underlying t=some (.slice 183))
  (ho:o.op= .call { callee:= .builtin .append,args:=#[s,x],argTypes:=#[t,t] }) (base:Nat) (v u:Value) (ps qs:List Z1) (hs:a.eval s=v) (hx:a.eval x=u) (hown:EntsAt base w v ps) (hr:IsPaces w u qs)
  (hb:ps.length+qs.length<=4000) (hbase:base<=w.heap.size)
  (h:∀ v' w',EntsAt base w' v' (ps++qs)->w.grownBy w' v.ownBlock->(v'.ownBlock=v.ownBlock\/v'.ownBlock=some w.heap.size)->wpList prog ops Q rest (a.put o.dst v') w') :
  wpList prog ops Q (o::rest) a w:=by
 refine wpList_plain hgd fun K hK=> ?_;obtain ⟨v',w',hrun,h2,h3,h5⟩:=Uz (ty:=o.type) ht hown hr hb hbase;unfold Oper.wp execOp;simp only [ho,resolve,invoke,builtin,Sem.run_bind,Sem.run_pure,Result.andThen_ok,List.map_toArray,List.map_cons,List.map_nil,hs,hx,hrun];exact hK _ _ (h v' w' h2 h3 h5)
theorem Ys {ops:Array Oper} {o:Oper} {a:Act} {K:Act->World->Prop} {Q:Exit->Act->World->Prop} {E:Prop} (hgd:o.guard=none) (s x:Operand) (t:TypeId) (ht:prog.underlying t=some (.slice 183))
  (ho:o.op= .call { callee:= .builtin .append,args:=#[s,x],argTypes:=#[t,t] }) (base:Nat) (v u:Value) (ps qs:List Z1) (hs:a.eval s=v) (hx:a.eval x=u) (hown:EntsAt base w v ps) (hr:IsPaces w u qs)
  (hb:ps.length+qs.length<=4000) (hbase:base<=w.heap.size)
  (h:∀ v' w',EntsAt base w' v' (ps++qs)->w.grownBy w' v.ownBlock->(v'.ownBlock=v.ownBlock\/v'.ownBlock=some w.heap.size)->K (a.put o.dst v') w') :
  if Region.wanted o (yielded ops a.tmps)=true then Oper.wp prog o a w K Q else E:=by
 have hw:Region.wanted o (yielded ops a.tmps)=true:=by simp [Region.wanted,hgd]
 rw [if_pos hw];obtain ⟨v',w',hrun,h2,h3,h5⟩:=Uz (ty:=o.type) ht hown hr hb hbase;unfold Oper.wp execOp;simp only [ho,resolve,invoke,builtin,Sem.run_bind,Sem.run_pure,Result.andThen_ok,List.map_toArray,List.map_cons,List.map_nil,hs,hx,hrun];exact h v' w' h2 h3 h5
theorem Qg {B g:Nat} (hg:g=w.heap.size) (hB:B<=g):EntsAt B (w.alloc (.cells #[] 183)) (.slice (some ⟨g,0,none⟩) 0 0) []:=by
 subst hg;exact ⟨by simp [XD],.inr ⟨_,0,#[],rfl,hB,heap_alloc_new w _,Z3 _,Zi _,by simp,by simp [XD]⟩⟩
theorem SY {f z:Int} {g c:Nat} (hg:g=w.heap.size) (hc:1<=c) (hc2:c<=4000):IsPaces (w.alloc (.cells #[.int .i64 f,.int .i64 z] 183)) (.slice (some ⟨g,0,none⟩) 1 c) [(f,z)]:=by
 subst hg;refine ⟨_,c,rfl,hc,by omega,.inr ⟨_,0,rfl,by simp,fun k hk=> ?_⟩⟩;obtain rfl:k=0:=by simpa using hk
 simp [ZY]
theorem UP  {ps:List Z1} (h:IsPaces w v ps) (hl:ps.length<=1000) :
  Calls prog 172 #[v] w fun e w'=> ∃ v',e= .returned v'/\EntsAt w.heap.size w' v' ps/\Below w.heap.size w w':=by
 have Hv:=Z9 h;obtain ⟨a,cap,rfl,hc,hm,hr⟩:=h;clear hr;go_enter func172,ntmps172;go_wp2_with (at_builtin;refine Tz rfl (.tmp 3) (.tmp 4) 180 underlying180 rfl w.heap.size _ _ [] ps rfl rfl (Qg rfl (Z3 _)) ((uh Hv).below ((ba _ _))) (by simp;omega) (by simp) ?_;intro v' w1 hown hgrow hat)
 go_ret;refine ⟨v',rfl,by simpa using hown,((ba _ _)).trans ((Z2 _ _).grown hgrow (by simp) (fun k e=> ?_))⟩;cases e;exact Z3 _
theorem Jg (a:Option Addr) (n cap k:Nat) (hk:k<=cap) (W:World):(Instr.slice 180 (.slice a n cap) none (some (.int .i64 k)) none).run prog W= .ok (.slice a k cap) W:=by
 obtain ⟨i0,hi,hz0,hz1,hz2⟩:=info_parts Sm;have hs:∀ W,(sizeOf 183).run prog W= .ok 2 W:=fun W=>by simp [sizeOf,typeInfo,hi,hz1]
 have hb:∀ W,(Instr.sliceBounds true n cap none (some (.int .i64 k)) none).run prog W= .ok (0,k,cap) W:=fun W=>by
  simp [Instr.sliceBounds,Instr.sliceBound,asIntOf];intro h;omega
 simp only [Instr.slice,Sem.run_bind,run_underlying underlying180,Result.andThen,hb,hs,Sem.run_pure];simp;cases a<;>simp [Addr.add]
def KX (a:Option Addr) (n cap k:Nat):Value:= .slice (if cap=k then a else a.map (·.add (k*2))) (n-k) (cap-k)
theorem Mn (a:Option Addr) (n cap k:Nat) (hk:k<=n) (W:World):(Instr.slice 180 (.slice a n cap) (some (.int .i64 k)) none none).run prog W= .ok (KX a n cap k) W:=by
 obtain ⟨i0,hi,hz0,hz1,hz2⟩:=info_parts Sm;have hs:∀ W,(sizeOf 183).run prog W= .ok 2 W:=fun W=>by simp [sizeOf,typeInfo,hi,hz1]
 have hb:∀ W,(Instr.sliceBounds true n cap (some (.int .i64 k)) none none).run prog W= .ok (k,n,cap) W:=fun W=>by
  simp [Instr.sliceBounds,Instr.sliceBound,asIntOf];intro h;omega
 simp only [Instr.slice,Sem.run_bind,run_underlying underlying180,Result.andThen,hb,hs,Sem.run_pure];rfl
theorem NR (ps:List Z1) (n k:Nat):ZY (ps.drop n) k=ZY ps (n+k):=by unfold ZY;simp [List.getD]
theorem IsPaces.from {a:Option Addr} {n cap:Nat} {ps:List Z1} (h:IsPaces w (.slice a n cap) ps) {k:Nat} (hk:k<=ps.length):IsPaces w (KX a n cap k) (ps.drop k):=by
 obtain ⟨a',cap',he,hc,hm,hr⟩:=h;cases he;refine ⟨_,cap-k,by unfold KX;rw [List.length_drop],by rw [List.length_drop];omega,by omega,?_⟩
 rcases hr with hr | ⟨b,off,rfl,hlt,hcl⟩
 ·exact .inl (by rw [hr];simp)
 ·by_cases hz:ps.length=k
  ·exact .inl (by rw [List.drop_eq_nil_iff];omega)
  ·rw [if_neg (by omega)]
   refine .inr ⟨b,off+k*2,by simp [KQ],hlt,fun j hj=> ?_⟩;rw [List.length_drop] at hj;rw [NR];have:=hcl (k+j) (by omega);rw [show off+(k+j)*2=off+k*2+j*2 by omega] at this;exact this
theorem Ng (a:Option Addr) (n cap k:Nat):∃ a',KX a n cap k= .slice a' (n-k) (cap-k):=⟨_,rfl⟩
theorem JX  {ps:List Z1} (f z:Int) (h:IsPaces w v ps) (hl:ps.length<=900) :
  Calls prog 160 #[v,.agg #[.int .i64 f,.int .i64 z]] w fun e w'=> ∃ v',e= .returned v'/\EntsAt w.heap.size w' v' (QM ps (f,z))/\Below w.heap.size w w':=by
 have Hv:=Z9 h;obtain ⟨a,cap,rfl,hc,hm,hr⟩:=h;have Hr:=Z9 hr;clear hr;go_enter func160,ntmps160;go_wp2_with fail;generalize hW:w.alloc (.cells #[.int .i64 f,.int .i64 z] 183)=W0;have hs0:W0.heap.size=w.heap.size+1:=by rw [<-hW];simp
 have d0:W0.cell? ⟨w.heap.size,0,none⟩=some (.int .i64 f):=by rw [<-hW];simp
 have d1:W0.cell? ⟨w.heap.size,1,none⟩=some (.int .i64 z):=by rw [<-hW];simp
 have HB0:Hid (Below w.heap.size w W0):=Z9 (by rw [<-hW];exact (ba _ _));have D0:=Z9 d0;have D1:=Z9 d1;clear hW d0 d1
 go_loopw [5] (fun i wr=> ∃ k:Nat,k<=ps.length/\i= .int .i64 k/\(∀ j,j<k->ltB (ZY ps j) (f,z)=true)/\Below W0.heap.size W0 wr) (fun i _=>ps.length-(intOf i).toNat)
 case atStart=>exact ⟨0,Zi _,rfl,fun j hj=>by omega,Z2 _ _⟩
 case round=>
  obtain ⟨k,hk,rfl,hst,hb⟩:=hrel;have Hst:=Z9 hst;have Hb:=Z9 hb;have hszr:=hb.size;have hlt0:w.heap.size<W0.heap.size:=by omega
  have g0:=(hb.cell (p:=⟨w.heap.size,0,none⟩) hlt0).trans (uh D0);have g1:=(hb.cell (p:=⟨w.heap.size,1,none⟩) hlt0).trans (uh D1);have k0:=ZX g0;have k1:=ZX g1;clear hst;by_cases hgo:k<ps.length/\ltB (ZY ps k) (f,z)=true
  ·obtain ⟨hlt,hab⟩:=hgo
   rcases uh Hr with h0 | ⟨b,off,rfl,hbw,hcl⟩
   ·rw [h0] at hlt;simp at hlt
   obtain ⟨c0,c1⟩:=hcl k hlt;have hbB:=(uh HB0).trans (hb.mono (by omega));rw [<-hbB.cell (p:=⟨b,off+k*2,none⟩) hbw] at c0;rw [<-hbB.cell (p:=⟨b,off+k*2+1,none⟩) hbw] at c1;generalize hp:ZY ps k=p at *;obtain ⟨f',z'⟩:=p;simp only at c0 c1;have Hp:=Z9 hp;have m0:=ZX c0;have m1:=ZX c1;have hd:decide (k<ps.length)=true:=Wa hlt;clear hp hcl hb hbB g0 g1 c0 c1;go_wp2_with fail;refine wq ?_
   repeat (go_big_quiet_step (exact ZW (UZ _ _ _ _ _)))
   refine wpQuiet_nil ?_;intro _ hw';obtain ⟨⟨dq,osq⟩,hw''⟩:=hw';subst hw'';go_wp2_with fail;go_roundw
   case rel=>exact ⟨k+1,by omega,by go_num,WR (uh Hst) (by rw [uh Hp];exact hab),(uh Hb).trans ((Z0 _ _ _).mono (uh Hb).size)⟩
   case measure=>exact ms
  ·have HK:Hid (X6 (f,z) ps=k):=Z9 (II hk (uh Hst) (by
    by_cases e:k=ps.length
    ·exact .inl e
    ·right
     cases hq:ltB (ZY ps k) (f,z)
     ·rfl
     ·exact absurd ⟨by omega,hq⟩ hgo))
   have HQ:Hid (ps.take k++[(f,z)]++ps.drop k=QM ps (f,z)):=Z9 (by unfold QM;rw [uh HK];simp);have hto:=Jg a ps.length cap k (by omega);have hfr:=Mn a ps.length cap k hk;obtain ⟨ra,hra⟩:=Ng a ps.length cap k;rw [hra] at hfr;have Hfrom:Hid (IsPaces w (.slice ra (ps.length-k) (cap-k)) (ps.drop k)):=Z9 (by rw [<-hra];exact (uh Hv).from hk);have Hcut:Hid (IsPaces w (.slice a k cap) (ps.take k)):=Z9 ((uh Hv).cut hk);clear hra;by_cases hlt:k<ps.length
   ·have hab:ltB (ZY ps k) (f,z)=false:=by
     cases hq:ltB (ZY ps k) (f,z)
     ·rfl
     ·exact absurd ⟨hlt,hq⟩ hgo
    rcases uh Hr with h0 | ⟨b,off,rfl,hbw,hcl⟩
    ·rw [h0] at hlt;simp at hlt
    obtain ⟨c0,c1⟩:=hcl k hlt;have hbB:=(uh HB0).trans (hb.mono (by omega));rw [<-hbB.cell (p:=⟨b,off+k*2,none⟩) hbw] at c0;rw [<-hbB.cell (p:=⟨b,off+k*2+1,none⟩) hbw] at c1;generalize hp:ZY ps k=p at *;obtain ⟨f',z'⟩:=p;simp only at c0 c1;have m0:=ZX c0;have m1:=ZX c1;have hd:decide (k<ps.length)=true:=Wa hlt;clear hp hcl hb hbB g0 g1 c0 c1 hgo;go_wp2_with fail;refine wq ?_
    repeat (go_big_quiet_step (exact ZW (UZ _ _ _ _ _)))
    refine wpQuiet_nil ?_;intro w1 hw';have Hb1:Hid (Below W0.heap.size W0 w1):=Z9 (by obtain ⟨q,rfl⟩:=hw';exact (uh Hb).trans ((Z0 _ _ _).mono (uh Hb).size));clear k0 k1 m0 m1;go_wp2_with fail;have B1:Hid (Below w.heap.size w w1):=Z9 ((uh HB0).trans ((uh Hb1).mono (by omega)));refine (UP ((uh Hfrom).below (uh B1)) (by simp;omega)).mono ?_;rintro e w2 ⟨v2,rfl,hi2,hb2⟩;obtain ⟨a2,cap2,hv2⟩:=hi2.shape;rw [List.length_drop] at hv2;subst hv2;have hz1:=(uh Hb1).size;have hz2:=hb2.size;have Hb2:Hid (Below W0.heap.size W0 w2):=Z9 ((uh Hb1).trans (hb2.mono hz1));have e0:=((uh Hb2).cell (p:=⟨w.heap.size,0,none⟩) hlt0).trans (uh D0);have e1:=((uh Hb2).cell (p:=⟨w.heap.size,1,none⟩) hlt0).trans (uh D1);have B2:Hid (Below w.heap.size w w2):=Z9 ((uh HB0).trans ((uh Hb2).mono (by omega)));have Hi2:=Z9 hi2;have HC:=Z9 ((uh Hcut).below (uh B2));clear hi2 hb2;have hlt2:w.heap.size<w2.heap.size:=by omega
    have hkl:(ps.take k).length=k:=by simp;omega
    go_wp2_with fail
    go_region_law (first
     | (refine Ys rfl (.tmp 28) (.tmp 30) 180 underlying180 rfl w2.heap.size _ _ (ps.take k) [(f,z)] rfl rfl (E3.later ((ba _ _))) (SY rfl (Z3 _) (by omega)) (by simp;omega) (by simp;omega) ?_;intro v4 w4 hown4 hg4 hat4;have X4:Below w2.heap.size w2 w4:=(X3.alloc X3.size _).trans ((Z2 _ _).grown hg4 (by simp;omega) (fun i e=>(E3.lt e).1)))
     | (refine Ys rfl (.tmp 28) (.tmp 30) 180 underlying180 rfl w2.heap.size _ _ (ps.take k) [(f,z)] rfl rfl E3 ((SY (w:=w2) rfl (Z3 _) (by omega)).below (((Z2 _ _).drew).trans hb3)) (by simp;omega) (by omega) ?_;intro v4 w4 hown4 hg4 hat4;have X4:Below w2.heap.size w2 w4:=X3.trans ((Z2 _ _).grown hg4 (by omega) (fun i e=>(E3.lt e).1)))
     | (refine Ys rfl (.tmp 31) (.tmp 32) 180 underlying180 rfl w2.heap.size _ _ (ps.take k++[(f,z)]) (ps.drop k) rfl rfl hown4 ((uh Hi2).pc.below X4) (by simp;omega) (by have:=X4.size;omega) ?_;intro v5 w5 hown5 hg5 hat5)
     | (go_simp;go_at_call 172;refine (UP (ps:=ps.take k) ?_ (by simp;omega)).mono ?_;(exact (uh HC).below (by first | exact (Z2 _ _).drew | exact ((ba _ _)).drew));rintro e w3 ⟨v3,rfl,hi3,hb3⟩;obtain ⟨a3,cap3,hv3⟩:=hi3.shape;rw [hkl] at hv3;subst hv3;have E3:=hi3.mono (n₁:=w2.heap.size) (by simp);have X3:Below w2.heap.size w2 w3:=(by first | exact ((Z2 _ _).drew).trans (hb3.mono (by simp)) | exact (((ba _ _)).drew).trans (hb3.mono (by simp)));have hz3:=X3.size;have q0:=(X3.cell (p:=⟨w.heap.size,0,none⟩) hlt2).trans e0;have q1:=(X3.cell (p:=⟨w.heap.size,1,none⟩) hlt2).trans e1))
    all_goals
     have X5:Below w2.heap.size w2 w5:=X4.trans ((Z2 _ _).grown hg5 X4.size (fun i e=>(hown4.lt e).1));rw [uh HQ] at hown5;have HX5:=Z9 X5;have HO5:=Z9 hown5;clear hown5 hg5 hat5 X4 X5 hown4 hg4 hat4 X3 E3 hi3 hb3 q0 q1;go_wp2_with fail;go_ret;exact ⟨_,rfl,(uh HO5).mono (uh B2).size,(uh B2).trans ((uh HX5).mono (uh B2).size)⟩
   ·have hd:decide (k<ps.length)=false:=Ya hlt
    clear hb g0 g1 hgo;go_wp2_with fail;refine wq ?_
    repeat (go_big_quiet_step (exact ZW (UZ _ _ _ _ _)))
    refine wpQuiet_nil ?_;intro w1 hw';have Hb1:Hid (Below W0.heap.size W0 w1):=Z9 (by obtain ⟨q,rfl⟩:=hw';exact (uh Hb).trans ((Z0 _ _ _).mono (uh Hb).size));clear k0 k1;go_wp2_with fail;have B1:Hid (Below w.heap.size w w1):=Z9 ((uh HB0).trans ((uh Hb1).mono (by omega)));refine (UP ((uh Hfrom).below (uh B1)) (by simp;omega)).mono ?_;rintro e w2 ⟨v2,rfl,hi2,hb2⟩;obtain ⟨a2,cap2,hv2⟩:=hi2.shape;rw [List.length_drop] at hv2;subst hv2;have hz1:=(uh Hb1).size;have hz2:=hb2.size;have Hb2:Hid (Below W0.heap.size W0 w2):=Z9 ((uh Hb1).trans (hb2.mono hz1));have e0:=((uh Hb2).cell (p:=⟨w.heap.size,0,none⟩) hlt0).trans (uh D0);have e1:=((uh Hb2).cell (p:=⟨w.heap.size,1,none⟩) hlt0).trans (uh D1);have B2:Hid (Below w.heap.size w w2):=Z9 ((uh HB0).trans ((uh Hb2).mono (by omega)));have Hi2:=Z9 hi2;have HC:=Z9 ((uh Hcut).below (uh B2));clear hi2 hb2;have hlt2:w.heap.size<w2.heap.size:=by omega
    have hkl:(ps.take k).length=k:=by simp;omega
    go_wp2_with fail
    go_region_law (first
     | (refine Ys rfl (.tmp 28) (.tmp 30) 180 underlying180 rfl w2.heap.size _ _ (ps.take k) [(f,z)] rfl rfl (E3.later ((ba _ _))) (SY rfl (Z3 _) (by omega)) (by simp;omega) (by simp;omega) ?_;intro v4 w4 hown4 hg4 hat4;have X4:Below w2.heap.size w2 w4:=(X3.alloc X3.size _).trans ((Z2 _ _).grown hg4 (by simp;omega) (fun i e=>(E3.lt e).1)))
     | (refine Ys rfl (.tmp 28) (.tmp 30) 180 underlying180 rfl w2.heap.size _ _ (ps.take k) [(f,z)] rfl rfl E3 ((SY (w:=w2) rfl (Z3 _) (by omega)).below (((Z2 _ _).drew).trans hb3)) (by simp;omega) (by omega) ?_;intro v4 w4 hown4 hg4 hat4;have X4:Below w2.heap.size w2 w4:=X3.trans ((Z2 _ _).grown hg4 (by omega) (fun i e=>(E3.lt e).1)))
     | (refine Ys rfl (.tmp 31) (.tmp 32) 180 underlying180 rfl w2.heap.size _ _ (ps.take k++[(f,z)]) (ps.drop k) rfl rfl hown4 ((uh Hi2).pc.below X4) (by simp;omega) (by have:=X4.size;omega) ?_;intro v5 w5 hown5 hg5 hat5)
     | (go_simp;go_at_call 172;refine (UP (ps:=ps.take k) ?_ (by simp;omega)).mono ?_;(exact (uh HC).below (by first | exact (Z2 _ _).drew | exact ((ba _ _)).drew));rintro e w3 ⟨v3,rfl,hi3,hb3⟩;obtain ⟨a3,cap3,hv3⟩:=hi3.shape;rw [hkl] at hv3;subst hv3;have E3:=hi3.mono (n₁:=w2.heap.size) (by simp);have X3:Below w2.heap.size w2 w3:=(by first | exact ((Z2 _ _).drew).trans (hb3.mono (by simp)) | exact (((ba _ _)).drew).trans (hb3.mono (by simp)));have hz3:=X3.size;have q0:=(X3.cell (p:=⟨w.heap.size,0,none⟩) hlt2).trans e0;have q1:=(X3.cell (p:=⟨w.heap.size,1,none⟩) hlt2).trans e1))
    all_goals
     have X5:Below w2.heap.size w2 w5:=X4.trans ((Z2 _ _).grown hg5 X4.size (fun i e=>(hown4.lt e).1));rw [uh HQ] at hown5;have HX5:=Z9 X5;have HO5:=Z9 hown5;clear hown5 hg5 hat5 X4 X5 hown4 hg4 hat4 X3 E3 hi3 hb3 q0 q1;go_wp2_with fail;go_ret;exact ⟨_,rfl,(uh HO5).mono (uh B2).size,(uh B2).trans ((uh HX5).mono (uh B2).size)⟩
end Go.Proofs.YtmdgokjeobnnaaaGreatDoor
