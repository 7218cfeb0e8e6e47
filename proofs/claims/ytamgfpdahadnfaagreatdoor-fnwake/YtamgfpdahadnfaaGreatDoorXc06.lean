/- Part 6 of what the proof rests on. No condition but those that a theorem names. -/
import Derived.Test.YtamgfpdahadnfaaGreatDoorXc05
set_option maxHeartbeats 8000000
set_option maxRecDepth 100000
namespace Go.Proofs.YtamgfpdahadnfaaGreatDoor
open Go.ChangeShapes Go.WideShapes Go.ChangeAt Go.RowKit Go.Sort
set_option linter.unusedVariables false
variable {w w' w0 w1 w2 w3 w₀ wr W W' X A B C : World} {v v0 v1 v2 v3 v4 u u0 u1 u2 u3 u4 : Value} {m : Z6}
theorem Bd {n₀ bx:Nat} {v v':Value} {ps qs:List Z4} (h:HeapIs n₀ bx v w ps) (hb:Fr bx v.ownBlock w W) (hc:W.cell? ⟨bx,0,none⟩=some v) (hf:W.frozen? ⟨bx,0,none⟩=false) (hr:EntsAt n₀ W v' qs) (ho:v'.ownBlock ≠ some bx) :
  HeapIs n₀ bx v' (W.setCell ⟨bx,0,none⟩ v') qs/\Fr bx v.ownBlock w (W.setCell ⟨bx,0,none⟩ v'):=by
 refine ⟨⟨World.cell?_setCell_same _ _ _ hc,by rw [World.frozen?_setCell];exact hf,by simpa using Zf h.lt hb.size,hr.same fun k hk=>Below.heap_setCell W ⟨bx,0,none⟩ v' k (fun e=>ho (by rw [hk];exact congrArg some e)),ho⟩,hb.trans (Fr.box W v')⟩
theorem AY {n₀ bx:Nat}  {ps:List Z4} {m:Nat} (h:HeapIs n₀ bx v w ps) (hm:ps.length=m+1) :
  Calls Tryz.prog 363 #[.pointer (some ⟨bx,0,none⟩)] w fun e w'=>e= .returned (.iface 91 (.agg #[.int .i64 (Z7 ps m).1,.int .i64 (Z7 ps m).2]))/\ ∃ v',HeapIs n₀ bx v' w' (ps.take m)/\v'.ownBlock=v.ownBlock/\Fr bx v.ownBlock w w':=by
 have H:=Z9 h;obtain ⟨g,cap,rfl,hne,hlt,hn0,hnc,hcm,hcl,hfz⟩:=h.view (by omega);have hc:=h.cell;have hbf:=h.free;have hbx:=h.lt;obtain ⟨a0,a1⟩:=hcl m (by omega);have HL:=Z9 (PI h);clear hcl h hfz;rw [hm] at hnc hc;generalize Z7 ps m=p at *;obtain ⟨f,z⟩:=p;simp only at a0 a1;have hn1:g ≠ w.heap.size:=U3 hlt;have hn2:bx ≠ w.heap.size:=U3 hbx;go_enter Tryz.func363,Tryz.ntmps363;go_wp2_with fail;refine (uh HL).mono ?_;rw [hm];rintro e w' ⟨rfl,h1⟩;subst w';go_wp2_with fail;go_ret;have hcut:=(uh H).row.cut (n:=m) (by omega) (by simp);obtain ⟨r1,r2⟩:=Bd (uh H) (Fr.refl _ _ _) (uh H).cell (uh H).free hcut (by simpa [Value.ownBlock] using hne);exact ⟨rfl,.slice (some ⟨g,0,none⟩) m cap,r1.later ((ba _ _)),rfl,r2.trans (Fr.of_below ((ba _ _)))⟩
theorem N9 {ops:Array Oper} {o:Oper} {a:Act} {K:Act->World->Prop} {Q:Exit->Act->World->Prop} {E:Prop} (hgd:o.guard=none) (s x:Operand) (t:TypeId) (ht:Tryz.prog.underlying t=some (.slice 91))
  (ho:o.op= .call { callee:= .builtin .append,args:=#[s,x],argTypes:=#[t,t] }) (base:Nat)
  (v:Value) (ps:List Z4) (hs:a.eval s=v) (hown:EntsAt base w v ps)
  (ad:Addr) (c:Nat) (f z:Int) (hx:a.eval x= .slice (some ad) 1 c) (hnews:∀ (j:Nat) (u:Value),([.int .i64 f,.int .i64 z]:List Value)[j]?=some u->w.cell? (ad.add j)=some u)
  (hb:ps.length<=4000) (hbase:base<=w.heap.size)
  (h:∀ v' w',EntsAt base w' v' (ps++[(f,z)])->w.grownBy w' v.ownBlock->(v'.ownBlock=v.ownBlock\/v'.ownBlock=some w.heap.size)->K (a.put o.dst v') w') :
  if Region.wanted o (yielded ops a.tmps)=true then Oper.wp Tryz.prog o a w K Q else E:=by
 have hw:Region.wanted o (yielded ops a.tmps)=true:=by simp [Region.wanted,hgd]
 rw [if_pos hw];obtain ⟨i0,hi,hz0,hz1,hz2⟩:=info_parts Vp
 obtain ⟨v',w',hr,h2,h3,_,h5⟩:=run_append_own_at (P:=Tryz.prog) w base t o.type 91 i0 (.agg #[.int .i64 0,.int .i64 0]) 2 16 ht hi hz0 hz1 hz2 rfl (by decide) v ps.length _ hown ad 1 c [.int .i64 f,.int .i64 z] rfl
  hnews (by simp [Value.oneCell']) (by simp only [maxLen];omega) (by omega) hbase
 unfold Oper.wp execOp;simp only [ho,resolve,invoke,builtin,Sem.run_bind,Sem.run_pure,Result.andThen_ok,List.map_toArray,List.map_cons,List.map_nil,hs,hx,hr];refine h v' w' ?_ h3 h5;unfold EntsAt;rw [QN,List.length_append];exact h2
theorem zS (w:World) (u u':Value) (t:TypeId) (b:Nat) (hb:b=w.heap.size):∀ (j:Nat) (x:Value),([u,u']:List Value)[j]?=some x->(w.alloc (.cells #[u,u'] t)).cell? ((⟨b,0,none⟩:Addr).add j)=some x:=by
 subst hb;intro j x hj
 match j,hj with
 | 0,hj=>simp at hj;subst hj;simp [Addr.add]
 | 1,hj=>simp at hj;subst hj;simp [Addr.add]
theorem LJ (f z:Int) (w:World):(Instr.typeAssert (.iface 91 (.agg #[.int .i64 f,.int .i64 z])) 20 91 false).run Tryz.prog w= .ok (.agg #[.int .i64 f,.int .i64 z]) w:=by kernel_rfl
theorem HeapIs.after {n₀ bx:Nat} {w W W1:World} {ps:List Z4} (h:HeapIs n₀ bx v w ps) (hb:Below w.heap.size w W) (hg:W.grownBy W1 v.ownBlock) :
  W1.cell? ⟨bx,0,none⟩=some v/\W1.frozen? ⟨bx,0,none⟩=false/\Fr bx v.ownBlock w W1:=by
 have hk:=hg.block bx (Zf h.lt hb.size) (fun e=>h.off e.symm);exact ⟨(World.cell?_of_block (w:=W) (a:=⟨bx,0,none⟩) hk).trans ((hb.cell (p:=⟨bx,0,none⟩) h.lt).trans h.cell),(World.frozen?_of_block (w:=W) (a:=⟨bx,0,none⟩) hk).trans ((hb.frozen (p:=⟨bx,0,none⟩) h.lt).trans h.free),(Fr.of_below hb).trans (Fr.of_grown hg)⟩
theorem CG {n₀ bx:Nat}  {ps:List Z4} (f z:Int) (h:HeapIs n₀ bx v w ps) (hl:ps.length<=1000) (hn:n₀<=w.heap.size) :
  Calls Tryz.prog 364 #[.pointer (some ⟨bx,0,none⟩),.iface 91 (.agg #[.int .i64 f,.int .i64 z])] w fun e w'=>e= .returned (.tuple #[])/\ ∃ v',HeapIs n₀ bx v' w' (ps++[(f,z)])/\(v'.ownBlock=v.ownBlock\/ ∃ k,v'.ownBlock=some k/\w.heap.size<=k)/\Fr bx v.ownBlock w w':=by
 have H:=Z9 h;obtain ⟨a,cap,rfl⟩:=h.row.shape;have hc:=h.cell;have hbf:=h.free;have hbx:=h.lt;clear h;have hn2:bx ≠ w.heap.size:=U3 hbx;have hta:=LJ f z;go_enter Tryz.func364,Tryz.ntmps364;go_wp2_with fail
 go_region_law (refine N9 rfl (.tmp 7) (.tmp 10) 256 Tryz.underlying256 rfl n₀ _ ps rfl ((uh H).row.later (((ba _ _)).drew)) ⟨w.heap.size,0,none⟩ _ f z rfl (zS _ _ _ _ _ rfl) (by omega) (by simp;omega) ?_;intro v' w1 hown hgrow hat;obtain ⟨hc1,hf1,hfr⟩:=(uh H).after (((ba _ _)).drew) hgrow;obtain ⟨a1,cap1,rfl⟩:=hown.shape)
 all_goals
  go_end0
  have hoff:(Value.slice a1 (ps++[(f,z)]).length cap1).ownBlock ≠ some bx:=by
   rcases hat with e | e
   ·rw [e];exact (uh H).off
   ·rw [e];simp;omega
  obtain ⟨r1,r2⟩:=Bd (uh H) hfr hc1 hf1 hown hoff;have hle:(ps++[(f,z)]).length=ps.length+1:=by simp
  rw [hle] at r1 r2 hat;refine ⟨rfl,_,r1,?_,r2⟩
  rcases hat with e | e
  ·exact .inl e
  ·exact .inr ⟨_,e,by simp⟩
theorem zg (a : Addr) (w : World) : (method 428 231 (.pointer (some a)) "Len").run Tryz.prog w = .ok (277, .pointer (some a)) w := by kernel_rfl
theorem AL (a : Addr) (w : World) : (method 428 231 (.pointer (some a)) "Less").run Tryz.prog w = .ok (362, .pointer (some a)) w := by kernel_rfl
theorem EK (a : Addr) (w : World) : (method 428 231 (.pointer (some a)) "Swap").run Tryz.prog w = .ok (365, .pointer (some a)) w := by kernel_rfl
theorem yI (a : Addr) (w : World) : (method 428 231 (.pointer (some a)) "Push").run Tryz.prog w = .ok (364, .pointer (some a)) w := by kernel_rfl
theorem yi (a : Addr) (w : World) : (method 428 231 (.pointer (some a)) "Pop").run Tryz.prog w = .ok (363, .pointer (some a)) w := by kernel_rfl
theorem yQ {n₀ bx:Nat}  {ps:List Z4} {n j0:Nat} (h:HeapIs n₀ bx v w ps) (hu:UpTo ps n j0) (hj0:j0<n) (hn:n<=ps.length) (hl:ps.length<=1000) :
  Calls Tryz.prog 276 #[.iface 231 (.pointer (some ⟨bx,0,none⟩)),.int .i64 j0] w fun e w'=>e= .returned (.tuple #[])/\ ∃ qs,HeapIs n₀ bx v w' qs/\HeapTo qs n/\qs.Perm ps/\(∀ k,n<=k->Z7 qs k=Z7 ps k)/\Fr bx v.ownBlock w w':=by
 have H:=Z9 h;have HU:=Z9 hu;clear h hu;go_enter Tryz.func276,Tryz.ntmps276;go_wp2_with fail
 go_loopw [1,4] (fun q _ wr=> ∃ (j:Nat) (qs:List Z4),j<n/\q= .int .i64 j/\HeapIs n₀ bx v wr qs/\UpTo qs n j/\qs.Perm ps/\(∀ k,n<=k->Z7 qs k=Z7 ps k)/\Fr bx v.ownBlock w wr) (fun q _ _=>(intOf q).toNat)
 case atStart=>exact ⟨j0,ps,hj0,rfl,uh H,uh HU,List.Perm.refl _,fun _ _=>rfl,Fr.refl _ _ _⟩
 case round=>
  obtain ⟨j,qs,hj,rfl,hh,hup,hperm,hsame,hfr⟩:=hrel;have hql:qs.length=ps.length:=hperm.length_eq;have Hh:=Z9 hh;have Hup:=Z9 hup;have Hpe:=Z9 hperm;have Hsa:=Z9 hsame;have Hfr:=Z9 hfr;clear hh hup hperm hsame hfr;by_cases hz:j=0
  ·subst hz
   go_wp2_with fail
   go_end0
   exact ⟨rfl,qs,uh Hh,(uh Hup).done (.inl rfl),uh Hpe,uh Hsa,uh Hfr⟩
  ·obtain ⟨i,hi⟩:∃ i,i=(j-1) / 2:=⟨_,rfl⟩
   have hj1:(0:Int)<=(j:Int)-1:=by omega
   have hpar:((j:Int)-1) / 2=(i:Int):=by omega
   have hij:((i:Int) ==(j:Int))=false:=beq_eq_false_iff_ne.2 (by omega);have hm1:=AL ⟨bx,0,none⟩;have hm2:=EK ⟨bx,0,none⟩;have hjl:j<qs.length:=by omega
   have hil:i<qs.length:=by omega
   have Hless:=Z9 (RJ (uh Hh) hjl hil);have Hi:=Z9 hi;clear hi;cases hlt:ltB (Z7 qs j) (Z7 qs i)
   ·go_wp2_with fail
    refine (uh Hless).mono ?_;rw [hlt];rintro e w1 ⟨rfl,hb1⟩;have H1:=Z9 ((uh Hh).later hb1);have F1:=Z9 ((uh Hfr).trans (Fr.of_below hb1));clear hb1;go_wp2_with fail
    go_end0
    exact ⟨rfl,qs,uh H1,(uh Hup).done (.inr (by rw [<-uh Hi];exact hlt)),uh Hpe,uh Hsa,uh F1⟩
   ·go_wp2_with fail
    refine (uh Hless).mono ?_;rw [hlt];rintro e w1 ⟨rfl,hb1⟩;have H1:=Z9 ((uh Hh).later hb1);have F1:=Z9 ((uh Hfr).trans (Fr.of_below hb1));clear hb1;go_wp2_with fail;refine (RV (uh H1) hil hjl).mono ?_;rintro e w2 ⟨rfl,hh2,hf2⟩;have H2:=Z9 hh2;have F2:=Z9 ((uh F1).trans hf2);clear hh2 hf2;have HS:Hid (UpTo (swp qs i j) n i):=Z9 (by rw [uh Hi];exact (uh Hup).step (by omega) hj (by omega) (by rw [<-uh Hi];exact hlt));have HA:Hid (∀ k,n<=k->Z7 (swp qs i j) k=Z7 ps k):=Z9 (fun k hk=>by rw [RW hil hjl,if_neg (by omega),if_neg (by omega)];exact uh Hsa k hk);go_wp2_with fail;go_roundw
    case rel=>exact ⟨i,swp qs i j,by omega,rfl,uh H2,uh HS,(RX hil hjl).trans (uh Hpe),uh HA,uh F2⟩
    case measure=>exact ms
def DownPost (n₀ bx:Nat) (v:Value) (w:World) (ps:List Z4) (n i0:Nat) (e:Ending) (w':World):Prop:=
 ∃ (b:Bool) (qs:List Z4),e= .returned (.bool b)/\HeapIs n₀ bx v w' qs/\qs.Perm ps/\(∀ k,n<=k->Z7 qs k=Z7 ps k)/\Fr bx v.ownBlock w w'/\(b=true->HeapTo qs n)/\(b=false->UpTo qs n i0)
theorem PD {n₀ bx:Nat}  {ps qs:List Z4} {n i0 i:Nat} (hi:i0<=i) (hh:HeapIs n₀ bx v wr qs) (hdn:DnTo qs n i0 i) (hp:qs.Perm ps) (hs:∀ k,n<=k->Z7 qs k=Z7 ps k) (hf:Fr bx v.ownBlock w wr)
  (hd:∀ k,0<k->k<n->(k-1) / 2=i->ltB (Z7 qs k) (Z7 qs i)=false):DownPost n₀ bx v w ps n i0 (.returned (.bool (decide (i0<i)))) wr:=by
 refine ⟨_,qs,rfl,hh,hp,hs,hf,fun h=> ?_,fun h=> ?_⟩
 ·have:=of_decide_eq_true h
  exact hdn.moved (by omega) hd
 ·have:=of_decide_eq_false h
  obtain rfl:i=i0:=by omega
  exact hdn.still hd
theorem kid {k i:Nat} (h0:0<k) (h:(k-1) / 2=i):k=2*i+1\/k=2*i+2:=by omega
theorem Ah {n₀ bx:Nat}  {ps:List Z4} {n i0:Nat} (h:HeapIs n₀ bx v w ps) (hu:DnTo ps n i0 i0) (hi0:i0<=n) (hn:n<=ps.length) (hl:ps.length<=1000) :
  Calls Tryz.prog 300 #[.iface 231 (.pointer (some ⟨bx,0,none⟩)),.int .i64 i0,.int .i64 n] w (DownPost n₀ bx v w ps n i0):=by
 have H:=Z9 h;have HU:=Z9 hu;have hm1:=AL ⟨bx,0,none⟩;have hm2:=EK ⟨bx,0,none⟩;clear h hu;go_enter Tryz.func300,Tryz.ntmps300;go_wp2_with fail
 go_loopw [7] (fun q wr=> ∃ (i:Nat) (qs:List Z4),i0<=i/\i<=n/\q= .int .i64 i/\HeapIs n₀ bx v wr qs/\DnTo qs n i0 i/\qs.Perm ps/\(∀ k,n<=k->Z7 qs k=Z7 ps k)/\Fr bx v.ownBlock w wr) (fun q _=>n-(intOf q).toNat)
 case atStart=>exact ⟨i0,ps,Z1 _,hi0,rfl,uh H,uh HU,List.Perm.refl _,fun _ _=>rfl,Fr.refl _ _ _⟩
 case round=>
  obtain ⟨i,qs,hii,hin,rfl,hh,hdn,hperm,hsame,hfr⟩:=hrel;have hql:qs.length=ps.length:=hperm.length_eq;have Hh:=Z9 hh;have Hdn:=Z9 hdn;have Hpe:=Z9 hperm;have Hsa:=Z9 hsame;have Hfr:=Z9 hfr;clear hh hdn hperm hsame hfr;obtain ⟨j1,hj1⟩:∃ j1,j1=2*i+1:=⟨_,rfl⟩
  obtain ⟨j2,hj2⟩:∃ j2,j2=2*i+2:=⟨_,rfl⟩
  have e1:2*(i:Int)+1=(j1:Int):=by omega
  have e2:(j1:Int)+1=(j2:Int):=by omega
  have Hj1:=Z9 hj1;have Hj2:=Z9 hj2;by_cases hn1:n<=j1
  ·have hg1:(n:Int)<=(j1:Int):=by omega
   clear hj1 hj2;go_wp2_with fail;go_ret;exact PD hii (uh Hh) (uh Hdn) (uh Hpe) (uh Hsa) (uh Hfr) (fun k k0 kn kp=>by have:=kid k0 kp;have:=uh Hj1;omega)
  ·have hg1:¬ (n:Int)<=(j1:Int):=by omega
   have hg2:¬ (j1:Int)<0:=by omega
   have hil:i<qs.length:=by omega
   have hjl:j1<qs.length:=by omega
   have hij1:i<j1:=by omega
   by_cases hn2:j2<n
   ·have hg3:(j2:Int)<(n:Int):=by omega
    have hkl:j2<qs.length:=by omega
    have hij2:i<j2:=by omega
    clear hj1 hj2;have HL:=Z9 (RJ (uh Hh) hkl hjl);cases hlt:ltB (Z7 qs j2) (Z7 qs j1)
    ·have HM:Hid (∀ k,0<k->k<n->(k-1) / 2=i->ltB (Z7 qs k) (Z7 qs j1)=false):=Z9 (fun k k0 kn kp=>by
      have e3:=uh Hj1;have e4:=uh Hj2
      rcases kid k0 kp with e | e
      ·rw [show k=j1 by omega];exact PK _
      ·rw [show k=j2 by omega];exact hlt)
     have HP:Hid ((j1-1) / 2=i):=Z9 (by have:=uh Hj1;omega);go_wp2_with fail;refine (uh HL).mono ?_;rw [hlt];rintro e w1 ⟨rfl,hb1⟩;have H1:=Z9 ((uh Hh).later hb1);have F1:=Z9 ((uh Hfr).trans (Fr.of_below hb1));clear hb1 hlt HL Hh Hfr;have HL2:=Z9 (RJ (uh H1) hjl hil);cases hlt2:ltB (Z7 qs j1) (Z7 qs i)
     ·go_wp2_with fail
      refine (uh HL2).mono ?_;rw [hlt2];rintro e w2 ⟨rfl,hb2⟩;have H2:=Z9 ((uh H1).later hb2);have F2:=Z9 ((uh F1).trans (Fr.of_below hb2));clear hb2 HL2;go_wp2_with fail;go_ret;exact PD hii (uh H2) (uh Hdn) (uh Hpe) (uh Hsa) (uh F2) (fun k k0 kn kp=>SF hlt2 (uh HM k k0 kn kp))
     ·go_wp2_with fail
      refine (uh HL2).mono ?_;rw [hlt2];rintro e w2 ⟨rfl,hb2⟩;have H2:=Z9 ((uh H1).later hb2);have F2:=Z9 ((uh F1).trans (Fr.of_below hb2));clear hb2 HL2;go_wp2_with fail;refine (RV (uh H2) hil hjl).mono ?_;rintro e w3 ⟨rfl,hh3,hf3⟩;have H3:=Z9 hh3;have F3:=Z9 ((uh F2).trans hf3);clear hh3 hf3;have HS:Hid (DnTo (swp qs i j1) n i0 j1):=Z9 ((uh Hdn).step hii (by omega) (uh HP) (by omega) (by omega) hlt2 (uh HM));have HA:Hid (∀ k,n<=k->Z7 (swp qs i j1) k=Z7 ps k):=Z9 (fun k hk=>by rw [RW hil hjl,if_neg (by omega),if_neg (by omega)];exact uh Hsa k hk);go_wp2_with fail;go_roundw
      case rel=>exact ⟨j1,swp qs i j1,by omega,by omega,rfl,uh H3,uh HS,(RX hil hjl).trans (uh Hpe),uh HA,uh F3⟩
      case measure=>exact ms
    ·have HM:Hid (∀ k,0<k->k<n->(k-1) / 2=i->ltB (Z7 qs k) (Z7 qs j2)=false):=Z9 (fun k k0 kn kp=>by
      have e3:=uh Hj1;have e4:=uh Hj2
      rcases kid k0 kp with e | e
      ·rw [show k=j1 by omega];exact Q6 hlt
      ·rw [show k=j2 by omega];exact PK _)
     have HP:Hid ((j2-1) / 2=i):=Z9 (by have:=uh Hj2;omega);go_wp2_with fail;refine (uh HL).mono ?_;rw [hlt];rintro e w1 ⟨rfl,hb1⟩;have H1:=Z9 ((uh Hh).later hb1);have F1:=Z9 ((uh Hfr).trans (Fr.of_below hb1));clear hb1 hlt HL Hh Hfr;have HL2:=Z9 (RJ (uh H1) hkl hil);cases hlt2:ltB (Z7 qs j2) (Z7 qs i)
     ·go_wp2_with fail
      refine (uh HL2).mono ?_;rw [hlt2];rintro e w2 ⟨rfl,hb2⟩;have H2:=Z9 ((uh H1).later hb2);have F2:=Z9 ((uh F1).trans (Fr.of_below hb2));clear hb2 HL2;go_wp2_with fail;go_ret;exact PD hii (uh H2) (uh Hdn) (uh Hpe) (uh Hsa) (uh F2) (fun k k0 kn kp=>SF hlt2 (uh HM k k0 kn kp))
     ·go_wp2_with fail
      refine (uh HL2).mono ?_;rw [hlt2];rintro e w2 ⟨rfl,hb2⟩;have H2:=Z9 ((uh H1).later hb2);have F2:=Z9 ((uh F1).trans (Fr.of_below hb2));clear hb2 HL2;go_wp2_with fail;refine (RV (uh H2) hil hkl).mono ?_;rintro e w3 ⟨rfl,hh3,hf3⟩;have H3:=Z9 hh3;have F3:=Z9 ((uh F2).trans hf3);clear hh3 hf3;have HS:Hid (DnTo (swp qs i j2) n i0 j2):=Z9 ((uh Hdn).step hii (by omega) (uh HP) (by omega) (by omega) hlt2 (uh HM));have HA:Hid (∀ k,n<=k->Z7 (swp qs i j2) k=Z7 ps k):=Z9 (fun k hk=>by rw [RW hil hkl,if_neg (by omega),if_neg (by omega)];exact uh Hsa k hk);go_wp2_with fail;go_roundw
      case rel=>exact ⟨j2,swp qs i j2,by omega,by omega,rfl,uh H3,uh HS,(RX hil hkl).trans (uh Hpe),uh HA,uh F3⟩
      case measure=>exact ms
   ·have hg3:¬ (j2:Int)<(n:Int):=by omega
    have HM:Hid (∀ k,0<k->k<n->(k-1) / 2=i->ltB (Z7 qs k) (Z7 qs j1)=false):=Z9 (fun k k0 kn kp=>by
      have e3:=uh Hj1;have e4:=uh Hj2
      rcases kid k0 kp with e | e
      ·rw [show k=j1 by omega];exact PK _
      ·omega)
    have HP:Hid ((j1-1) / 2=i):=Z9 (by have:=uh Hj1;omega);clear hj1 hj2;have HL2:=Z9 (RJ (uh Hh) hjl hil);cases hlt2:ltB (Z7 qs j1) (Z7 qs i)
    ·go_wp2_with fail
     refine (uh HL2).mono ?_;rw [hlt2];rintro e w2 ⟨rfl,hb2⟩;have H2:=Z9 ((uh Hh).later hb2);have F2:=Z9 ((uh Hfr).trans (Fr.of_below hb2));clear hb2 HL2;go_wp2_with fail;go_ret;exact PD hii (uh H2) (uh Hdn) (uh Hpe) (uh Hsa) (uh F2) (fun k k0 kn kp=>SF hlt2 (uh HM k k0 kn kp))
    ·go_wp2_with fail
     refine (uh HL2).mono ?_;rw [hlt2];rintro e w2 ⟨rfl,hb2⟩;have H2:=Z9 ((uh Hh).later hb2);have F2:=Z9 ((uh Hfr).trans (Fr.of_below hb2));clear hb2 HL2;go_wp2_with fail;refine (RV (uh H2) hil hjl).mono ?_;rintro e w3 ⟨rfl,hh3,hf3⟩;have H3:=Z9 hh3;have F3:=Z9 ((uh F2).trans hf3);clear hh3 hf3;have HS:Hid (DnTo (swp qs i j1) n i0 j1):=Z9 ((uh Hdn).step hii (by omega) (uh HP) (by omega) (by omega) hlt2 (uh HM));have HA:Hid (∀ k,n<=k->Z7 (swp qs i j1) k=Z7 ps k):=Z9 (fun k hk=>by rw [RW hil hjl,if_neg (by omega),if_neg (by omega)];exact uh Hsa k hk);go_wp2_with fail;go_roundw
     case rel=>exact ⟨j1,swp qs i j1,by omega,by omega,rfl,uh H3,uh HS,(RX hil hjl).trans (uh Hpe),uh HA,uh F3⟩
     case measure=>exact ms
theorem HeapTo.take {ps:List Z4} {n m:Nat} (h:HeapTo ps n) (hm:n<=m):HeapTo (ps.take m) n:=fun k k0 kn=>by
 rw [Vb (by omega),Vb (by omega)];exact h k k0 kn
theorem HeapIs.below {n₀ bx:Nat} {v v':Value} {ps qs:List Z4} (h:HeapIs n₀ bx v w ps) (hf:Fr bx v.ownBlock w w') (hx:n₀<=bx) (hn:n₀<=w.heap.size):Below n₀ w w':=
 hf.below hx (fun k e=>(h.row.lt e).1) hn
theorem Jr {n₀ bx:Nat}  {ps:List Z4} (f z:Int) (h:HeapIs n₀ bx v w ps) (hp:HeapTo ps ps.length) (hl:ps.length<=900) (hx:n₀<=bx) (hn:n₀<=w.heap.size) :
  Calls Tryz.prog 245 #[.iface 231 (.pointer (some ⟨bx,0,none⟩)),.iface 91 (.agg #[.int .i64 f,.int .i64 z])] w fun e w'=>e= .returned (.tuple #[])/\ ∃ v' qs,HeapIs n₀ bx v' w' qs/\HeapTo qs qs.length/\qs.Perm (ps++[(f,z)])/\Below n₀ w w':=by
 have H:=Z9 h;have HP:=Z9 hp;have hm1:=yI ⟨bx,0,none⟩;have hm2:=zg ⟨bx,0,none⟩;clear h hp;go_enter Tryz.func245,Tryz.ntmps245;go_wp2_with fail;refine (CG f z (uh H) (by omega) hn).mono ?_;rintro e w1 ⟨rfl,v1,hh1,hat,hf1⟩;have H1:=Z9 hh1;have B1:=Z9 ((uh H).below (v':=v1) (qs:=ps) hf1 hx hn);have hz1:=hf1.size;clear hh1 hat hf1;go_wp2_with fail;refine (PI (uh H1)).mono ?_;rintro e w' ⟨rfl,h2⟩;subst w';have hlen:(ps++[(f,z)]).length=ps.length+1:=by simp
 rw [hlen];go_wp2_with fail;refine (yQ (j0:=ps.length) (n:=ps.length+1) (uh H1) ((uh HP).push (f,z)) (by omega) (by rw [hlen];exact Z1 _) (by rw [hlen];omega)).mono ?_;rintro e w2 ⟨rfl,qs,hh2,hq,hpe,_,hf2⟩;have hql:qs.length=ps.length+1:=by rw [hpe.length_eq,hlen]
 have H2:=Z9 hh2;have HQ:=Z9 hq;have HE:=Z9 hpe;have B2:=Z9 ((uh B1).trans ((uh H1).below (v':=v1) (qs:=ps) hf2 hx (by omega)));clear hh2 hq hpe hf2;go_wp2_with fail
 go_end0
 exact ⟨rfl,v1,qs,uh H2,by rw [hql];exact uh HQ,uh HE,uh B2⟩
theorem DnTo.none {ps:List Z4} {i0 i:Nat} : DnTo ps 0 i0 i:=⟨fun k k0 kn=>by omega,fun k k0 kn=>by omega⟩
theorem DownPost.zero {n₀ bx:Nat}  {ps:List Z4} {n:Nat} {e:Ending} (h:DownPost n₀ bx v w ps n 0 e w') :
  ∃ (b:Bool) (qs:List Z4),e= .returned (.bool b)/\HeapIs n₀ bx v w' qs/\qs.Perm ps/\(∀ k,n<=k->Z7 qs k=Z7 ps k)/\Fr bx v.ownBlock w w'/\HeapTo qs n:=by
 obtain ⟨b,qs,he,hh,hp,hs,hf,h1,h2⟩:=h;refine ⟨b,qs,he,hh,hp,hs,hf,?_⟩;cases b
 ·exact (h2 rfl).done (.inl rfl)
 ·exact h1 rfl
theorem Gy {n₀ bx:Nat}  {ps:List Z4} {m:Nat} (h:HeapIs n₀ bx v w ps) (hp:HeapTo ps ps.length) (hm:ps.length=m+1) (hl:ps.length<=900) :
  Calls Tryz.prog 278 #[.iface 231 (.pointer (some ⟨bx,0,none⟩))] w fun e w'=>e= .returned (.iface 91 (.agg #[.int .i64 (Z7 ps 0).1,.int .i64 (Z7 ps 0).2]))/\ ∃ v' qs,HeapIs n₀ bx v' w' qs/\HeapTo qs qs.length/\(qs++[Z7 ps 0]).Perm ps/\v'.ownBlock=v.ownBlock/\Fr bx v.ownBlock w w':=by
 have H:=Z9 h;rw [hm] at hp;have HP:=Z9 hp;have hm1:=yi ⟨bx,0,none⟩;have hm2:=zg ⟨bx,0,none⟩;have hm3:=EK ⟨bx,0,none⟩;clear h hp;go_enter Tryz.func278,Tryz.ntmps278;go_wp2_with fail;refine (PI (uh H)).mono ?_;rw [hm];rintro e w' ⟨rfl,h2⟩;subst w';go_wp2_with fail;refine (RV (i:=0) (j:=m) (uh H) (by omega) (by omega)).mono ?_;rintro e w1 ⟨rfl,hh1,hf1⟩;have H1:=Z9 hh1;have F1:=Z9 hf1;have hl1:(swp ps 0 m).length=m+1:=by rw [zR];exact hm
 have HD:Hid (DnTo (swp ps 0 m) m 0 0):=Z9 (by
  by_cases e:m=0
  ·subst e;exact DnTo.none
  ·exact (uh HP).swap hm (by omega))
 have HA:Hid (Z7 (swp ps 0 m) m=Z7 ps 0):=Z9 (by rw [RW (by omega) (by omega),if_pos rfl]);have HPm:Hid ((swp ps 0 m).Perm ps):=Z9 (RX (by omega) (by omega));clear hh1 hf1;go_wp2_with fail;refine (Ah (n:=m) (i0:=0) (uh H1) (uh HD) (by omega) (by omega) (by omega)).mono ?_;intro e w2 hpost;obtain ⟨b,qs,rfl,hh2,hp2,hs2,hf2,hq2⟩:=hpost.zero;have hql:qs.length=m+1:=by rw [hp2.length_eq,hl1]
 have H2:=Z9 hh2;have HE:Hid ((qs.take m++[Z7 ps 0]).Perm ps):=Z9 (by rw [<-uh HA,<-hs2 m (Nat.le_refl _),Nm hql];exact hp2.trans (uh HPm));have HV:Hid (Z7 qs m=Z7 ps 0):=Z9 ((hs2 m (Z1 _)).trans (uh HA));have HQ:Hid (HeapTo (qs.take m) (qs.take m).length):=Z9 (by rw [List.length_take,Nat.min_eq_left (by omega)];exact hq2.take (Z1 _));have F2:=Z9 ((uh F1).trans hf2);clear hpost hh2 hp2 hs2 hf2 hq2;go_wp2_with fail;refine (AY (uh H2) hql).mono ?_;rw [uh HV];rintro e w3 ⟨rfl,v3,hh3,ho3,hf3⟩;have H3:=Z9 hh3;have F3:=Z9 ((uh F2).trans hf3);clear hh3 hf3;go_wp2_with fail;go_ret;exact ⟨rfl,v3,qs.take m,uh H3,uh HQ,uh HE,ho3,uh F3⟩
theorem IZ (g o i:Nat):(⟨g,o,none⟩:Addr).add i=⟨g,o+i,none⟩:=by unfold Addr.add;split<;>simp_all
theorem NW {base t ty e size n:Nat} {i:TypeInfo} (ht:Tryz.prog.underlying t=some (.slice e)) (hi:Tryz.prog.info? e=some i) {xs:List Value} (hown:w.ownsRow base e size v n xs) (a:Option Addr) (c:Nat) :
  (Builtin.append_ #[t,t] ty #[v,.slice a 0 c]).run Tryz.prog w= .ok v w:=by
 rcases hown.2 with ⟨rfl,rfl⟩ | ⟨g,cap,cur,rfl,_,_,hnc,_⟩
 ·cases a<;>simp [Builtin.append_,run_underlying ht,sizeOf,typeInfo,hi,Builtin.lenOf,Builtin.firstCells,loadCells,loadCellsFrom]
 ·cases a<;>simp [Builtin.append_,run_underlying ht,sizeOf,typeInfo,hi,Builtin.lenOf,Builtin.firstCells,hnc,storeCells,loadCells,loadCellsFrom]
theorem Ac {b off:Nat} {qs:List Z4} (h:∀ k,k<qs.length->w.cell? ⟨b,off+k*2,none⟩=some (.int .i64 (Z7 qs k).1)/\w.cell? ⟨b,off+k*2+1,none⟩=some (.int .i64 (Z7 qs k).2)) :
  ∀ (j:Nat) (u:Value),(YW qs)[j]?=some u->w.cell? ((⟨b,off,none⟩:Addr).add j)=some u:=fun j u hj=>by
 have hlt:j<qs.length*2:=by
  rcases Nat.lt_or_ge j (qs.length*2) with h | h
  ·exact h
  ·rw [List.getElem?_eq_none (by rw [SO];exact h)] at hj;cases hj
 rw [IZ];have hp:=Uz (f:=fun p:Z4=>Value.int .i64 p.1) (g:=fun p:Z4=>Value.int .i64 p.2) qs (j / 2) (by omega);have e:Z7 qs (j / 2)=qs[j / 2]'(by omega):=by unfold Z7;simp [List.getD,(by omega:j / 2<qs.length)]
 obtain ⟨h1,h2⟩:=h (j / 2) (by omega);rw [e] at h1 h2
 rcases Nat.mod_two_eq_zero_or_one j with e2 | e2
 ·rw [show off+j=off+j / 2*2 by omega,h1,<-hj]
  conv=>rhs;rw [show j=j / 2*2 by omega]
  exact hp.1.symm
 ·rw [show off+j=off+j / 2*2+1 by omega,h2,<-hj]
  conv=>rhs;rw [show j=j / 2*2+1 by omega]
  exact hp.2.symm
theorem CA (qs:List Z4):∀ u ∈ YW qs,u.oneCell'=true:=fun u hu=>by
 unfold YW at hu;obtain ⟨p,_,hp⟩:=List.mem_flatMap.1 hu;simp only [List.mem_cons,List.not_mem_nil,or_false] at hp
 rcases hp with rfl | rfl<;>rfl
theorem Sb {base t ty:Nat} (ht:Tryz.prog.underlying t=some (.slice 91)) {v x:Value} {ps qs:List Z4} (hown:EntsAt base w v ps) (hx:IsPaces w x qs) (hb:ps.length+qs.length<=4000) (hbase:base<=w.heap.size) :
  ∃ v' w',(Builtin.append_ #[t,t] ty #[v,x]).run Tryz.prog w= .ok v' w'/\EntsAt base w' v' (ps++qs)/\w.grownBy w' v.ownBlock/\(v'.ownBlock=v.ownBlock\/v'.ownBlock=some w.heap.size):=by
 obtain ⟨i0,hi,hz0,hz1,hz2⟩:=info_parts Vp;obtain ⟨a,c,rfl,hc,hm,hr⟩:=hx;by_cases h0:qs=[]
 ·subst h0
  refine ⟨v,w,NW ht hi hown a c,by simpa using hown,Sv _ _,.inl rfl⟩
 ·rcases hr with hr | ⟨b,off,rfl,hlt,hcl⟩
  ·exact absurd hr h0
  ·obtain ⟨v',w',hr,h2,h3,_,h5⟩:=run_append_own_at (P:=Tryz.prog) w base t ty 91 i0 (.agg #[.int .i64 0,.int .i64 0]) 2 16 ht hi hz0 hz1 hz2 rfl (by decide) v ps.length _ hown ⟨b,off,none⟩ qs.length c (YW qs) (SO qs)
    (Ac hcl) (CA qs) (by simp only [maxLen];omega) (by omega) hbase
   refine ⟨v',w',hr,?_,h3,h5⟩;unfold EntsAt;rw [QN,List.length_append];exact h2
theorem VZ {ops:Array Oper} {rest:List Oper} {o:Oper} {a:Act} {Q:Exit->Act->World->Prop} (hgd:o.guard=none) (s x:Operand) (t:TypeId) (ht:Tryz.prog.underlying t=some (.slice 91))
  (ho:o.op= .call { callee:= .builtin .append,args:=#[s,x],argTypes:=#[t,t] }) (base:Nat) (v u:Value) (ps qs:List Z4) (hs:a.eval s=v) (hx:a.eval x=u) (hown:EntsAt base w v ps) (hr:IsPaces w u qs)
  (hb:ps.length+qs.length<=4000) (hbase:base<=w.heap.size)
  (h:∀ v' w',EntsAt base w' v' (ps++qs)->w.grownBy w' v.ownBlock->(v'.ownBlock=v.ownBlock\/v'.ownBlock=some w.heap.size)->wpList Tryz.prog ops Q rest (a.put o.dst v') w') :
  wpList Tryz.prog ops Q (o::rest) a w:=by
 refine wpList_plain hgd fun K hK=> ?_;obtain ⟨v',w',hrun,h2,h3,h5⟩:=Sb (ty:=o.type) ht hown hr hb hbase;unfold Oper.wp execOp;simp only [ho,resolve,invoke,builtin,Sem.run_bind,Sem.run_pure,Result.andThen_ok,List.map_toArray,List.map_cons,List.map_nil,hs,hx,hrun];exact hK _ _ (h v' w' h2 h3 h5)
theorem XM {ops:Array Oper} {o:Oper} {a:Act} {K:Act->World->Prop} {Q:Exit->Act->World->Prop} {E:Prop} (hgd:o.guard=none) (s x:Operand) (t:TypeId) (ht:Tryz.prog.underlying t=some (.slice 91))
  (ho:o.op= .call { callee:= .builtin .append,args:=#[s,x],argTypes:=#[t,t] }) (base:Nat) (v u:Value) (ps qs:List Z4) (hs:a.eval s=v) (hx:a.eval x=u) (hown:EntsAt base w v ps) (hr:IsPaces w u qs)
  (hb:ps.length+qs.length<=4000) (hbase:base<=w.heap.size)
  (h:∀ v' w',EntsAt base w' v' (ps++qs)->w.grownBy w' v.ownBlock->(v'.ownBlock=v.ownBlock\/v'.ownBlock=some w.heap.size)->K (a.put o.dst v') w') :
  if Region.wanted o (yielded ops a.tmps)=true then Oper.wp Tryz.prog o a w K Q else E:=by
 have hw:Region.wanted o (yielded ops a.tmps)=true:=by simp [Region.wanted,hgd]
 rw [if_pos hw];obtain ⟨v',w',hrun,h2,h3,h5⟩:=Sb (ty:=o.type) ht hown hr hb hbase;unfold Oper.wp execOp;simp only [ho,resolve,invoke,builtin,Sem.run_bind,Sem.run_pure,Result.andThen_ok,List.map_toArray,List.map_cons,List.map_nil,hs,hx,hrun];exact h v' w' h2 h3 h5
theorem Vm {B g:Nat} (hg:g=w.heap.size) (hB:B<=g):EntsAt B (w.alloc (.cells #[] 91)) (.slice (some ⟨g,0,none⟩) 0 0) []:=by
 subst hg;exact ⟨by simp [YW],.inr ⟨_,0,#[],rfl,hB,heap_alloc_new w _,Z1 _,Zz _,by simp,by simp [YW]⟩⟩
theorem Ro {f z:Int} {g c:Nat} (hg:g=w.heap.size) (hc:1<=c) (hc2:c<=4000):IsPaces (w.alloc (.cells #[.int .i64 f,.int .i64 z] 91)) (.slice (some ⟨g,0,none⟩) 1 c) [(f,z)]:=by
 subst hg;refine ⟨_,c,rfl,hc,by omega,.inr ⟨_,0,rfl,by simp,fun k hk=> ?_⟩⟩;obtain rfl:k=0:=by simpa using hk
 simp [Z7]
theorem LY  {ps:List Z4} (h:IsPaces w v ps) (hl:ps.length<=1000) :
  Calls Tryz.prog 247 #[v] w fun e w'=> ∃ v',e= .returned v'/\EntsAt w.heap.size w' v' ps/\Below w.heap.size w w':=by
 have Hv:=Z9 h;obtain ⟨a,cap,rfl,hc,hm,hr⟩:=h;clear hr;go_enter Tryz.func247,Tryz.ntmps247;go_wp2_with (at_builtin;refine VZ rfl (.tmp 3) (.tmp 4) 52 Tryz.underlying52 rfl w.heap.size _ _ [] ps rfl rfl (Vm rfl (Z1 _)) ((uh Hv).below ((ba _ _))) (by simp;omega) (by simp) ?_;intro v' w1 hown hgrow hat)
 go_ret;refine ⟨v',rfl,by simpa using hown,((ba _ _)).trans ((ZZ _ _).grown hgrow (by simp) (fun k e=> ?_))⟩;cases e;exact Z1 _
theorem SD  {ps:List Z4} (h:IsPaces w v ps) (hl:ps.length<=1000) :
  Calls Tryz.prog 204 #[v] w fun e w'=> ∃ v',e= .returned v'/\EntsAt w.heap.size w' v' ps/\Below w.heap.size w w':=by
 have Hv:=Z9 h;obtain ⟨a,cap,rfl,hc,hm,hr⟩:=h;clear hr;go_enter Tryz.func204,Tryz.ntmps204;go_wp2_with (at_builtin;refine VZ rfl (.tmp 3) (.tmp 4) 52 Tryz.underlying52 rfl w.heap.size _ _ [] ps rfl rfl (Vm rfl (Z1 _)) ((uh Hv).below ((ba _ _))) (by simp;omega) (by simp) ?_;intro v' w1 hown hgrow hat)
 go_ret;refine ⟨v',rfl,by simpa using hown,((ba _ _)).trans ((ZZ _ _).grown hgrow (by simp) (fun k e=> ?_))⟩;cases e;exact Z1 _
theorem Ep  {ps:List Z4} (h:IsPaces w v ps) (hl:ps.length<=1000) :
  Calls Tryz.prog 244 #[v] w fun e w'=> ∃ bx v',e= .returned (.pointer (some ⟨bx,0,none⟩))/\w.heap.size<=bx/\HeapIs w.heap.size bx v' w' ps/\Below w.heap.size w w':=by
 have Hv:=Z9 h;obtain ⟨a,cap,rfl,hc,hm,hr⟩:=h;clear hr;go_enter Tryz.func244,Tryz.ntmps244;go_wp2_with fail;refine (LY (uh Hv) hl).mono ?_;rintro e w1 ⟨v1,rfl,hi1,hb1⟩;obtain ⟨a1,cap1,rfl⟩:=hi1.shape;have H1:=Z9 hi1;have B1:=Z9 hb1;have hz1:=hb1.size;clear hi1 hb1;go_wp2_with fail;go_ret;refine ⟨w1.heap.size,.slice a1 ps.length cap1,rfl,hz1,⟨by simp,by simp,by simp,(uh H1).later ((ba _ _)),fun e=> ?_⟩,(uh B1).alloc hz1 _⟩;have:=(uh H1).lt e;omega
theorem Bi (a:Option Addr) (n cap k:Nat) (hk:k<=cap) (W:World):(Instr.slice 52 (.slice a n cap) none (some (.int .i64 k)) none).run Tryz.prog W= .ok (.slice a k cap) W:=by
 obtain ⟨i0,hi,hz0,hz1,hz2⟩:=info_parts Vp;have hs:∀ W,(sizeOf 91).run Tryz.prog W= .ok 2 W:=fun W=>by simp [sizeOf,typeInfo,hi,hz1]
 have hb:∀ W,(Instr.sliceBounds true n cap none (some (.int .i64 k)) none).run Tryz.prog W= .ok (0,k,cap) W:=fun W=>by
  simp [Instr.sliceBounds,Instr.sliceBound,asIntOf];intro h;omega
 simp only [Instr.slice,Sem.run_bind,run_underlying Tryz.underlying52,Result.andThen,hb,hs,Sem.run_pure];simp;cases a<;>simp [Addr.add]
def Dl (a:Option Addr) (n cap k:Nat):Value:= .slice (if cap=k then a else a.map (·.add (k*2))) (n-k) (cap-k)
theorem Fh (a:Option Addr) (n cap k:Nat) (hk:k<=n) (W:World):(Instr.slice 52 (.slice a n cap) (some (.int .i64 k)) none none).run Tryz.prog W= .ok (Dl a n cap k) W:=by
 obtain ⟨i0,hi,hz0,hz1,hz2⟩:=info_parts Vp;have hs:∀ W,(sizeOf 91).run Tryz.prog W= .ok 2 W:=fun W=>by simp [sizeOf,typeInfo,hi,hz1]
 have hb:∀ W,(Instr.sliceBounds true n cap (some (.int .i64 k)) none none).run Tryz.prog W= .ok (k,n,cap) W:=fun W=>by
  simp [Instr.sliceBounds,Instr.sliceBound,asIntOf];intro h;omega
 simp only [Instr.slice,Sem.run_bind,run_underlying Tryz.underlying52,Result.andThen,hb,hs,Sem.run_pure];rfl
theorem G8 (ps:List Z4) (n k:Nat):Z7 (ps.drop n) k=Z7 ps (n+k):=by unfold Z7;simp [List.getD]
theorem IsPaces.from {a:Option Addr} {n cap:Nat} {ps:List Z4} (h:IsPaces w (.slice a n cap) ps) {k:Nat} (hk:k<=ps.length):IsPaces w (Dl a n cap k) (ps.drop k):=by
 obtain ⟨a',cap',he,hc,hm,hr⟩:=h;cases he;refine ⟨_,cap-k,by unfold Dl;rw [List.length_drop],by rw [List.length_drop];omega,by omega,?_⟩
 rcases hr with hr | ⟨b,off,rfl,hlt,hcl⟩
 ·exact .inl (by rw [hr];simp)
 ·by_cases hz:ps.length=k
  ·exact .inl (by rw [List.drop_eq_nil_iff];omega)
  ·rw [if_neg (by omega)]
   refine .inr ⟨b,off+k*2,by simp [IZ],hlt,fun j hj=> ?_⟩;rw [List.length_drop] at hj;rw [G8];have:=hcl (k+j) (by omega);rw [show off+(k+j)*2=off+k*2+j*2 by omega] at this;exact this
theorem Gm (a:Option Addr) (n cap k:Nat):∃ a',Dl a n cap k= .slice a' (n-k) (cap-k):=⟨_,rfl⟩
theorem Cp  {ps:List Z4} (f z:Int) (h:IsPaces w v ps) (hl:ps.length<=900) :
  Calls Tryz.prog 146 #[v,.agg #[.int .i64 f,.int .i64 z]] w fun e w'=> ∃ v',e= .returned v'/\EntsAt w.heap.size w' v' (Vd ps (f,z))/\Below w.heap.size w w':=by
 have Hv:=Z9 h;obtain ⟨a,cap,rfl,hc,hm,hr⟩:=h;have Hr:=Z9 hr;clear hr;go_enter Tryz.func146,Tryz.ntmps146;go_wp2_with fail;generalize hW:w.alloc (.cells #[.int .i64 f,.int .i64 z] 91)=W0;have hs0:W0.heap.size=w.heap.size+1:=by rw [<-hW];simp
 have d0:W0.cell? ⟨w.heap.size,0,none⟩=some (.int .i64 f):=by rw [<-hW];simp
 have d1:W0.cell? ⟨w.heap.size,1,none⟩=some (.int .i64 z):=by rw [<-hW];simp
 have HB0:Hid (Below w.heap.size w W0):=Z9 (by rw [<-hW];exact (ba _ _));have D0:=Z9 d0;have D1:=Z9 d1;clear hW d0 d1
 go_loopw [5] (fun i wr=> ∃ k:Nat,k<=ps.length/\i= .int .i64 k/\(∀ j,j<k->ltB (Z7 ps j) (f,z)=true)/\Below W0.heap.size W0 wr) (fun i _=>ps.length-(intOf i).toNat)
 case atStart=>exact ⟨0,Zz _,rfl,fun j hj=>by omega,ZZ _ _⟩
 case round=>
  obtain ⟨k,hk,rfl,hst,hb⟩:=hrel;have Hst:=Z9 hst;have Hb:=Z9 hb;have hszr:=hb.size;have hlt0:w.heap.size<W0.heap.size:=by omega
  have g0:=(hb.cell (p:=⟨w.heap.size,0,none⟩) hlt0).trans (uh D0);have g1:=(hb.cell (p:=⟨w.heap.size,1,none⟩) hlt0).trans (uh D1);have k0:=Z2 g0;have k1:=Z2 g1;clear hst;by_cases hgo:k<ps.length/\ltB (Z7 ps k) (f,z)=true
  ·obtain ⟨hlt,hab⟩:=hgo
   rcases uh Hr with h0 | ⟨b,off,rfl,hbw,hcl⟩
   ·rw [h0] at hlt;simp at hlt
   obtain ⟨c0,c1⟩:=hcl k hlt;have hbB:=(uh HB0).trans (hb.mono (by omega));rw [<-hbB.cell (p:=⟨b,off+k*2,none⟩) hbw] at c0;rw [<-hbB.cell (p:=⟨b,off+k*2+1,none⟩) hbw] at c1;generalize hp:Z7 ps k=p at *;obtain ⟨f',z'⟩:=p;simp only at c0 c1;have Hp:=Z9 hp;have m0:=Z2 c0;have m1:=Z2 c1;have hd:decide (k<ps.length)=true:=VO hlt;clear hp hcl hb hbB g0 g1 c0 c1;go_wp2_with fail;refine wq ?_
   repeat (go_big_quiet_step (exact ZY (SW _ _ _ _ _)))
   refine wpQuiet_nil ?_;intro _ hw';obtain ⟨⟨dq,osq⟩,hw''⟩:=hw';subst hw'';go_wp2_with fail;go_roundw
   case rel=>exact ⟨k+1,by omega,by go_num,Yi (uh Hst) (by rw [uh Hp];exact hab),(uh Hb).trans ((Z0 _ _ _).mono (uh Hb).size)⟩
   case measure=>exact ms
  ·have HK:Hid (XG (f,z) ps=k):=Z9 (AI hk (uh Hst) (by
    by_cases e:k=ps.length
    ·exact .inl e
    ·right
     cases hq:ltB (Z7 ps k) (f,z)
     ·rfl
     ·exact absurd ⟨by omega,hq⟩ hgo))
   have HQ:Hid (ps.take k++[(f,z)]++ps.drop k=Vd ps (f,z)):=Z9 (by unfold Vd;rw [uh HK];simp);have hto:=Bi a ps.length cap k (by omega);have hfr:=Fh a ps.length cap k hk;obtain ⟨ra,hra⟩:=Gm a ps.length cap k;rw [hra] at hfr;have Hfrom:Hid (IsPaces w (.slice ra (ps.length-k) (cap-k)) (ps.drop k)):=Z9 (by rw [<-hra];exact (uh Hv).from hk);have Hcut:Hid (IsPaces w (.slice a k cap) (ps.take k)):=Z9 ((uh Hv).cut hk);clear hra;by_cases hlt:k<ps.length
   ·have hab:ltB (Z7 ps k) (f,z)=false:=by
     cases hq:ltB (Z7 ps k) (f,z)
     ·rfl
     ·exact absurd ⟨hlt,hq⟩ hgo
    rcases uh Hr with h0 | ⟨b,off,rfl,hbw,hcl⟩
    ·rw [h0] at hlt;simp at hlt
    obtain ⟨c0,c1⟩:=hcl k hlt;have hbB:=(uh HB0).trans (hb.mono (by omega));rw [<-hbB.cell (p:=⟨b,off+k*2,none⟩) hbw] at c0;rw [<-hbB.cell (p:=⟨b,off+k*2+1,none⟩) hbw] at c1;generalize hp:Z7 ps k=p at *;obtain ⟨f',z'⟩:=p;simp only at c0 c1;have m0:=Z2 c0;have m1:=Z2 c1;have hd:decide (k<ps.length)=true:=VO hlt;clear hp hcl hb hbB g0 g1 c0 c1 hgo;go_wp2_with fail;refine wq ?_
    repeat (go_big_quiet_step (exact ZY (SW _ _ _ _ _)))
    refine wpQuiet_nil ?_;intro w1 hw';have Hb1:Hid (Below W0.heap.size W0 w1):=Z9 (by obtain ⟨q,rfl⟩:=hw';exact (uh Hb).trans ((Z0 _ _ _).mono (uh Hb).size));clear k0 k1 m0 m1;go_wp2_with fail;have B1:Hid (Below w.heap.size w w1):=Z9 ((uh HB0).trans ((uh Hb1).mono (by omega)));refine (SD ((uh Hfrom).below (uh B1)) (by simp;omega)).mono ?_;rintro e w2 ⟨v2,rfl,hi2,hb2⟩;obtain ⟨a2,cap2,hv2⟩:=hi2.shape;rw [List.length_drop] at hv2;subst hv2;have hz1:=(uh Hb1).size;have hz2:=hb2.size;have Hb2:Hid (Below W0.heap.size W0 w2):=Z9 ((uh Hb1).trans (hb2.mono hz1));have e0:=((uh Hb2).cell (p:=⟨w.heap.size,0,none⟩) hlt0).trans (uh D0);have e1:=((uh Hb2).cell (p:=⟨w.heap.size,1,none⟩) hlt0).trans (uh D1);have B2:Hid (Below w.heap.size w w2):=Z9 ((uh HB0).trans ((uh Hb2).mono (by omega)));have Hi2:=Z9 hi2;have HC:=Z9 ((uh Hcut).below (uh B2));clear hi2 hb2;have hlt2:w.heap.size<w2.heap.size:=by omega
    have hkl:(ps.take k).length=k:=by simp;omega
    go_wp2_with fail
    go_region_law (first
     | (refine XM rfl (.tmp 28) (.tmp 30) 52 Tryz.underlying52 rfl w2.heap.size _ _ (ps.take k) [(f,z)] rfl rfl (E3.later ((ba _ _))) (Ro rfl (Z1 _) (by omega)) (by simp;omega) (by simp;omega) ?_;intro v4 w4 hown4 hg4 hat4;have X4:Below w2.heap.size w2 w4:=(X3.alloc X3.size _).trans ((ZZ _ _).grown hg4 (by simp;omega) (fun i e=>(E3.lt e).1)))
     | (refine XM rfl (.tmp 28) (.tmp 30) 52 Tryz.underlying52 rfl w2.heap.size _ _ (ps.take k) [(f,z)] rfl rfl E3 ((Ro (w:=w2) rfl (Z1 _) (by omega)).below (((ZZ _ _).drew).trans hb3)) (by simp;omega) (by omega) ?_;intro v4 w4 hown4 hg4 hat4;have X4:Below w2.heap.size w2 w4:=X3.trans ((ZZ _ _).grown hg4 (by omega) (fun i e=>(E3.lt e).1)))
     | (refine XM rfl (.tmp 31) (.tmp 32) 52 Tryz.underlying52 rfl w2.heap.size _ _ (ps.take k++[(f,z)]) (ps.drop k) rfl rfl hown4 ((uh Hi2).pc.below X4) (by simp;omega) (by have:=X4.size;omega) ?_;intro v5 w5 hown5 hg5 hat5)
     | (go_simp;go_at_call 204;refine (SD (ps:=ps.take k) ?_ (by simp;omega)).mono ?_;(exact (uh HC).below (by first | exact (ZZ _ _).drew | exact ((ba _ _)).drew));rintro e w3 ⟨v3,rfl,hi3,hb3⟩;obtain ⟨a3,cap3,hv3⟩:=hi3.shape;rw [hkl] at hv3;subst hv3;have E3:=hi3.mono (n₁:=w2.heap.size) (by simp);have X3:Below w2.heap.size w2 w3:=(by first | exact ((ZZ _ _).drew).trans (hb3.mono (by simp)) | exact (((ba _ _)).drew).trans (hb3.mono (by simp)));have hz3:=X3.size;have q0:=(X3.cell (p:=⟨w.heap.size,0,none⟩) hlt2).trans e0;have q1:=(X3.cell (p:=⟨w.heap.size,1,none⟩) hlt2).trans e1))
    all_goals
     have X5:Below w2.heap.size w2 w5:=X4.trans ((ZZ _ _).grown hg5 X4.size (fun i e=>(hown4.lt e).1));rw [uh HQ] at hown5;have HX5:=Z9 X5;have HO5:=Z9 hown5;clear hown5 hg5 hat5 X4 X5 hown4 hg4 hat4 X3 E3 hi3 hb3 q0 q1;go_wp2_with fail;go_ret;exact ⟨_,rfl,(uh HO5).mono (uh B2).size,(uh B2).trans ((uh HX5).mono (uh B2).size)⟩
   ·have hd:decide (k<ps.length)=false:=XE hlt
    clear hb g0 g1 hgo;go_wp2_with fail;refine wq ?_
    repeat (go_big_quiet_step (exact ZY (SW _ _ _ _ _)))
    refine wpQuiet_nil ?_;intro w1 hw';have Hb1:Hid (Below W0.heap.size W0 w1):=Z9 (by obtain ⟨q,rfl⟩:=hw';exact (uh Hb).trans ((Z0 _ _ _).mono (uh Hb).size));clear k0 k1;go_wp2_with fail;have B1:Hid (Below w.heap.size w w1):=Z9 ((uh HB0).trans ((uh Hb1).mono (by omega)));refine (SD ((uh Hfrom).below (uh B1)) (by simp;omega)).mono ?_;rintro e w2 ⟨v2,rfl,hi2,hb2⟩;obtain ⟨a2,cap2,hv2⟩:=hi2.shape;rw [List.length_drop] at hv2;subst hv2;have hz1:=(uh Hb1).size;have hz2:=hb2.size;have Hb2:Hid (Below W0.heap.size W0 w2):=Z9 ((uh Hb1).trans (hb2.mono hz1));have e0:=((uh Hb2).cell (p:=⟨w.heap.size,0,none⟩) hlt0).trans (uh D0);have e1:=((uh Hb2).cell (p:=⟨w.heap.size,1,none⟩) hlt0).trans (uh D1);have B2:Hid (Below w.heap.size w w2):=Z9 ((uh HB0).trans ((uh Hb2).mono (by omega)));have Hi2:=Z9 hi2;have HC:=Z9 ((uh Hcut).below (uh B2));clear hi2 hb2;have hlt2:w.heap.size<w2.heap.size:=by omega
    have hkl:(ps.take k).length=k:=by simp;omega
    go_wp2_with fail
    go_region_law (first
     | (refine XM rfl (.tmp 28) (.tmp 30) 52 Tryz.underlying52 rfl w2.heap.size _ _ (ps.take k) [(f,z)] rfl rfl (E3.later ((ba _ _))) (Ro rfl (Z1 _) (by omega)) (by simp;omega) (by simp;omega) ?_;intro v4 w4 hown4 hg4 hat4;have X4:Below w2.heap.size w2 w4:=(X3.alloc X3.size _).trans ((ZZ _ _).grown hg4 (by simp;omega) (fun i e=>(E3.lt e).1)))
     | (refine XM rfl (.tmp 28) (.tmp 30) 52 Tryz.underlying52 rfl w2.heap.size _ _ (ps.take k) [(f,z)] rfl rfl E3 ((Ro (w:=w2) rfl (Z1 _) (by omega)).below (((ZZ _ _).drew).trans hb3)) (by simp;omega) (by omega) ?_;intro v4 w4 hown4 hg4 hat4;have X4:Below w2.heap.size w2 w4:=X3.trans ((ZZ _ _).grown hg4 (by omega) (fun i e=>(E3.lt e).1)))
     | (refine XM rfl (.tmp 31) (.tmp 32) 52 Tryz.underlying52 rfl w2.heap.size _ _ (ps.take k++[(f,z)]) (ps.drop k) rfl rfl hown4 ((uh Hi2).pc.below X4) (by simp;omega) (by have:=X4.size;omega) ?_;intro v5 w5 hown5 hg5 hat5)
     | (go_simp;go_at_call 204;refine (SD (ps:=ps.take k) ?_ (by simp;omega)).mono ?_;(exact (uh HC).below (by first | exact (ZZ _ _).drew | exact ((ba _ _)).drew));rintro e w3 ⟨v3,rfl,hi3,hb3⟩;obtain ⟨a3,cap3,hv3⟩:=hi3.shape;rw [hkl] at hv3;subst hv3;have E3:=hi3.mono (n₁:=w2.heap.size) (by simp);have X3:Below w2.heap.size w2 w3:=(by first | exact ((ZZ _ _).drew).trans (hb3.mono (by simp)) | exact (((ba _ _)).drew).trans (hb3.mono (by simp)));have hz3:=X3.size;have q0:=(X3.cell (p:=⟨w.heap.size,0,none⟩) hlt2).trans e0;have q1:=(X3.cell (p:=⟨w.heap.size,1,none⟩) hlt2).trans e1))
    all_goals
     have X5:Below w2.heap.size w2 w5:=X4.trans ((ZZ _ _).grown hg5 X4.size (fun i e=>(hown4.lt e).1));rw [uh HQ] at hown5;have HX5:=Z9 X5;have HO5:=Z9 hown5;clear hown5 hg5 hat5 X4 X5 hown4 hg4 hat4 X3 E3 hi3 hb3 q0 q1;go_wp2_with fail;go_ret;exact ⟨_,rfl,(uh HO5).mono (uh B2).size,(uh B2).trans ((uh HX5).mono (uh B2).size)⟩
theorem Q2  (b:Int) (h:Smy w v0 v1 v2 v3 v4 m) (hl:m.sm.length<=800) :
  Calls Tryz.prog 86 #[.agg #[v0,v1,v2,v3,v4,.int .i64 m.now],.int .i64 b] w fun e w'=> ∃ v',e= .returned v'/\EntsAt w.heap.size w' v' (atV m.sm b m.sm.length)/\Below w.heap.size w w':=by
 obtain ⟨h0,h1,h2,h3,h4⟩:=h;obtain ⟨a0,p0,rfl,hc0,hm0,_⟩:=h0;obtain ⟨a1,p1,rfl,hc1,hm1,_⟩:=h1;obtain ⟨a2,p2,rfl,hc2,hm2,r2⟩:=h2;obtain ⟨a3,p3,rfl,hc3,hm3,_⟩:=h3;obtain ⟨a4,p4,rfl,hc4,hm4,_⟩:=h4;have R2:=Z9 r2;clear r2;have kb0:Hid (Blk ((w.alloc (.cells (S6 a0 p0 a1 p1 a2 p2 a3 p3 a4 p4 m) 32)).alloc (.cells #[] 91)) w.heap.size 32 (S6 a0 p0 a1 p1 a2 p2 a3 p3 a4 p4 m)):=Z9 ((Blk.new w _ _).alloc _);have BB0:Hid (Below w.heap.size w ((w.alloc (.cells (S6 a0 p0 a1 p1 a2 p2 a3 p3 a4 p4 m) 32)).alloc (.cells #[] 91))):=Z9 (((ba _ _)).alloc (by simp) _);have E0:Hid (EntsAt w.heap.size ((w.alloc (.cells (S6 a0 p0 a1 p1 a2 p2 a3 p3 a4 p4 m) 32)).alloc (.cells #[] 91)) (.slice (some ⟨w.heap.size+1,0,none⟩) 0 0) []):=Z9 (Vm (by simp) (by omega));go_enter Tryz.func86,Tryz.ntmps86;go_wp2_with fail
 go_loopw [5,6] (fun q i wr=> ∃ k:Nat,k<=m.sm.length/\i= .int .i64 k/\EntsAt w.heap.size wr q (atV m.sm b k)/\Blk wr w.heap.size 32 (S6 a0 p0 a1 p1 a2 p2 a3 p3 a4 p4 m)/\Below w.heap.size w wr) (fun _ i _=>m.sm.length-(intOf i).toNat)
 case atStart=>exact ⟨0,Zz _,rfl,uh E0,uh kb0,uh BB0⟩
 case round=>
  obtain ⟨k,hk,rfl,he,kb1,hb1⟩:=hrel;obtain ⟨qa,qcap,rfl⟩:=EntsAt.shape he;have kb:=Z9 kb1;have BB:=Z9 hb1;have He:=Z9 he;clear kb1 hb1 he kb0 BB0 E0;have hal:=Sk m.sm b k;have c2:=(uh kb).cell (i:=2) (v:= .slice a2 m.sm.length p2) rfl;by_cases hls:k<m.sm.length
  ·rcases uh R2 with e0 | ⟨sb,off,rfl,hbw,hcl⟩
   ·rw [e0] at hls;simp at hls
   obtain ⟨d0,d1,d2,d3,d4,d5,d6,d7,d8,d9,d10⟩:=ZA hcl hls;rw [<-(uh BB).cell (p:=⟨sb,off+k*11,none⟩) hbw] at d0;rw [<-(uh BB).cell (p:=⟨sb,off+k*11+1,none⟩) hbw] at d1;rw [<-(uh BB).cell (p:=⟨sb,off+k*11+2,none⟩) hbw] at d2;rw [<-(uh BB).cell (p:=⟨sb,off+k*11+3,none⟩) hbw] at d3;rw [<-(uh BB).cell (p:=⟨sb,off+k*11+4,none⟩) hbw] at d4;rw [<-(uh BB).cell (p:=⟨sb,off+k*11+5,none⟩) hbw] at d5;rw [<-(uh BB).cell (p:=⟨sb,off+k*11+6,none⟩) hbw] at d6;rw [<-(uh BB).cell (p:=⟨sb,off+k*11+7,none⟩) hbw] at d7;rw [<-(uh BB).cell (p:=⟨sb,off+k*11+8,none⟩) hbw] at d8;rw [<-(uh BB).cell (p:=⟨sb,off+k*11+9,none⟩) hbw] at d9;rw [<-(uh BB).cell (p:=⟨sb,off+k*11+10,none⟩) hbw] at d10;clear hcl;have S1:=Z9 (fun hs=>TD (ss:=m.sm) (b:=b) (k:=k) hs);have S2:=Z9 (fun h1 h2=>UD (ss:=m.sm) (b:=b) (k:=k) h1 h2);generalize Z8 m.sm k=ss at *;obtain ⟨st,be,rk,my,gu,lo,hi,hd,ca,ut,wk⟩:=ss;simp only at d0 d1 d2 d3 d4 d5 d6 d7 d8 d9 d10;have hl0:w.heap.size<wr.heap.size:=(uh kb).lt;by_cases hbe:be=b;rotate_left
   ·have hbn:(be ==b)=false:=by simpa using hbe
    go_wp2_with fail;go_roundw
    case rel=>exact ⟨k+1,by omega,by go_num,by rw [uh S1 (fun h9=>hbe h9.1)];exact EntsAt.later (uh He) ((ba _ _)),(uh kb).alloc _,(uh BB).alloc (uh BB).size _⟩
    case measure=>exact ms
   subst hbe;have hbn:(be ==be)=true:=by simp
   obtain ⟨ps,hps⟩:∃ q,ZK (st,be,rk,my,gu,lo,hi,hd,ca,ut,wk)=q:=⟨_,rfl⟩
   have Hps:=Z9 hps;clear hps;go_wp2_with fail;clear c2 d0 d1 d2 d3 d4 d5 d6 d7 d8 d9 d10;refine ck (Yv (uh Hps) _) fun w2 hb=> ?_;have ks:Hid (Blk w2 wr.heap.size 40 (I11 st be rk my gu lo hi hd ca ut wk)):=Z9 ((Blk.new wr _ _).below hb (by simp));replace kb:=Z9 (((uh kb).alloc (.cells (I11 st be rk my gu lo hi hd ca ut wk) 40)).below hb (by simp;omega));have hba:=((ZZ wr.heap.size wr).alloc (Z1 _) (.cells (I11 st be rk my gu lo hi hd ca ut wk) 40)).trans (hb.mono (by simp));replace He:=Z9 (EntsAt.later (uh He) hba);replace BB:=bt BB hba;clear hb hl0 hba;have d7:=(uh ks).cell (i:=7) (v:= .int .i64 hd) rfl;cases ps
   ·go_wp2_with fail
    go_roundw
    case rel=>exact ⟨k+1,by omega,by go_num,by rw [uh S1 (fun h9=>by have h8:=h9.2;rw [uh Hps] at h8;cases h8)];exact uh He,uh kb,uh BB⟩
    case measure=>exact ms
   go_wp2_with fail;refine (Cp hd (k:Int) (EntsAt.pc (uh He)) (by omega)).mono ?_;rintro e w3 ⟨v3,rfl,he3,hb⟩;have hsz:=(uh BB).size;have he4:=EntsAt.mono he3 hsz;replace kb:=bl kb hb;replace BB:=Z9 ((uh BB).trans (hb.mono hsz));obtain ⟨qa3,qcap3,rfl⟩:=EntsAt.shape he4;have He4:=Z9 he4;clear hb he3 he4 d7;go_wp2_with fail;go_roundw
   case rel=>exact ⟨k+1,by omega,by go_num,by rw [uh S2 (by first | rfl | trivial) (uh Hps)];exact uh He4,uh kb,uh BB⟩
   case measure=>exact ms
  ·obtain rfl:k=m.sm.length:=by omega
   go_wp2_with fail;go_ret;exact ⟨_,rfl,uh He,uh BB⟩
structure De (m:Z6):Prop where
 gd:Zh m.gd=true
 lo:∀ i,i<m.sm.length->(Z8 m.sm i).1 ≠ 0-> -1<=(Z8 m.sm i).2.2.2.2.1
 hi:∀ i,i<m.sm.length->(Z8 m.sm i).1 ≠ 0->(Z8 m.sm i).2.2.2.2.1<m.gd.length
theorem DJ {s:Z3} (h:ZK s=true):s.1 ≠ 0:=fun e=>by unfold ZK at h;rw [e] at h;cases h
theorem RA  {k:Nat} (h:Smy w v0 v1 v2 v3 v4 m) (hg:Zh m.gd=true) (hk:k<m.sm.length) (g0 : -1<=(Z8 m.sm k).2.2.2.2.1) (g1:(Z8 m.sm k).2.2.2.2.1<m.gd.length) :
  Calls Tryz.prog 168 #[.agg #[v0,v1,v2,v3,v4,.int .i64 m.now],.int .i64 (k:Int)] w fun e w'=>e= .returned (.int .i64 (Zs m (k:Int)))/\Below w.heap.size w w':=by
 have hw:Zs m (k:Int)=Qe m.gd (Z8 m.sm k):=rfl;rw [hw];clear hw;have Hv:=Z9 h;obtain ⟨h0,h1,h2,h3,h4⟩:=h;obtain ⟨a0,p0,rfl,hc0,hm0⟩:=IsRooms.shape h0;obtain ⟨a1,p1,rfl,hc1,hm1⟩:=IsRec.shape h1;obtain ⟨a2,p2,rfl,hc2,hm2,r2⟩:=h2;obtain ⟨a3,p3,rfl,hc3,hm3⟩:=IsRec.shape h3;obtain ⟨a4,p4,rfl,hc4,hm4⟩:=IsRec.shape h4;clear h0 h1 h3 h4
 rcases r2 with e0 | ⟨sb,off,rfl,hbw,hcl⟩
 ·rw [e0] at hk;simp at hk
 obtain ⟨d0,d1,d2,d3,d4,d5,d6,d7,d8,d9,d10⟩:=ZA hcl hk;clear hcl;generalize Z8 m.sm k=ss at *;obtain ⟨st,be,rk,my,gu,lo,hi,hd,ca,ut,wk⟩:=ss;simp only at d0 d1 d2 d3 d4 d5 d6 d7 d8 d9 d10 g0 g1;have Hg:=Z9 hg;clear hg;go_enter Tryz.func168,Tryz.ntmps168;go_wp2_with fail;have BB:Hid (Below w.heap.size w ((w.alloc (.cells #[.slice a0 m.rm.length p0,.slice a1 m.gd.length p1,.slice (some ⟨sb,off,none⟩) m.sm.length p2,.slice a3 m.dk.length p3,.slice a4 m.pc.length p4,.int .i64 m.now] 32)).alloc (.cells (I11 st be rk my gu lo hi hd ca ut wk) 40))):=Z9 (((ba _ _)).alloc (by simp) _);have Hv2:=Z9 ((uh Hv).below (uh BB)).gd;have ks:=Z9 (Blk.new (w.alloc (.cells #[.slice a0 m.rm.length p0,.slice a1 m.gd.length p1,.slice (some ⟨sb,off,none⟩) m.sm.length p2,.slice a3 m.dk.length p3,.slice a4 m.pc.length p4,.int .i64 m.now] 32)) 40 (I11 st be rk my gu lo hi hd ca ut wk));simp only [Y1] at ks;generalize (w.alloc (.cells #[.slice a0 m.rm.length p0,.slice a1 m.gd.length p1,.slice (some ⟨sb,off,none⟩) m.sm.length p2,.slice a3 m.dk.length p3,.slice a4 m.pc.length p4,.int .i64 m.now] 32)).alloc (.cells (I11 st be rk my gu lo hi hd ca ut wk) 40)=W at *;refine ck (Ov gu lo hi (uh Hv2) (Jv (uh Hg) m.gd.length gu (uh Hv2) g0 g1 g1)) fun w1 hb=> ?_;replace ks:=bl ks hb;replace BB:=bt BB hb;have x9:=(uh ks).cell (i:=9) (v:= .int .i64 ut) rfl;clear hb d0 d1 d2 d3 d4 d5 d6 d7 d8 d9 d10;go_wp2_with (go_at_call 220;refine (Se _ _ _ _).mono ?_;rintro e w' ⟨rfl,h9⟩;subst w')
 go_ret;exact ⟨rfl,uh BB⟩
theorem FB (m:Z6) (but:Int) {q:List Z4} {k:Nat} (hk:k<q.length):US m but (q.take (k+1))=if (Z7 q k).2=but then US m but (q.take k) else US m but (q.take k)+Zs m (Z7 q k).2:=by
 have:q.take (k+1)=q.take k++[Z7 q k]:=by
  rw [List.take_succ_eq_append_getElem hk];unfold Z7;simp [List.getD,hk]
 rw [this,FA]
theorem TO  (b but:Int) (h:Smy w v0 v1 v2 v3 v4 m) (hG:De m) (hl:m.sm.length<=800) :
  Calls Tryz.prog 110 #[.agg #[v0,v1,v2,v3,v4,.int .i64 m.now],.int .i64 b,.int .i64 but] w fun e w'=>e= .returned (.int .i64 (Zc m b but))/\Below w.heap.size w w':=by
 have Hv:=Z9 (h.alloc (.cells #[v0,v1,v2,v3,v4,.int .i64 m.now] 32));obtain ⟨a0,p0,a1,p1,a2,p2,a3,p3,a4,p4,rfl,rfl,rfl,rfl,rfl,_,_,_,_,_,_,_,_,_,_⟩:=h.five;clear h;have HG:=Z9 hG;clear hG;go_enter Tryz.func110,Tryz.ntmps110;go_wp2_with fail;refine (Q2 b (uh Hv) hl).mono ?_;rintro e w1 ⟨v',rfl,he,hb⟩;have kb:Hid (Blk w1 w.heap.size 32 (S6 a0 p0 a1 p1 a2 p2 a3 p3 a4 p4 m)):=Z9 ((Blk.new w _ _).below hb (by simp));have BB:Hid (Below w.heap.size w w1):=Z9 (((ba _ _)).trans (hb.mono (by simp)));replace Hv:=Z9 ((uh Hv).below hb);have hq:=Sk m.sm b m.sm.length;have hmem:=XC m.sm b;have Hu:Hid (Zc m b but=US m but (atV m.sm b m.sm.length)):=Z9 rfl
 have hmq:∀ x ∈ atV m.sm b m.sm.length,∃ j:Nat,j<m.sm.length/\ZK (Z8 m.sm j)=true/\x.2=(j:Int):=fun x hx=>by
  obtain ⟨j,hj,_,hp,rfl⟩:=(hmem x m.sm.length).1 hx;exact ⟨j,hj,hp,rfl⟩
 have Hm:=Z9 hmq;clear hmem hmq hb;have hp:=EntsAt.pc he;clear he;generalize atV m.sm b m.sm.length=q at *;obtain ⟨qa,qc,rfl,hqc,hqm,hr⟩:=hp;have Hr:=Z9 hr;clear hr;go_wp2_with fail
 go_loopw [7,9] (fun n i wr=> ∃ k:Nat,k<=q.length/\i= .int .i64 k/\n= .int .i64 (US m but (q.take k))/\Below w1.heap.size w1 wr) (fun _ i _=>q.length-(intOf i).toNat)
 case atStart=>exact ⟨0,Zz _,rfl,rfl,ZZ _ _⟩
 case round=>
  obtain ⟨k,hk,rfl,rfl,hbr⟩:=hrel;have hub:=IN m but (q.take k);have htl:(q.take k).length<=k:=by rw [List.length_take];omega
  by_cases hlt:k<q.length
  ·rcases uh Hr with e0 | ⟨eb,eo,rfl,hbw,hcl⟩
   ·rw [e0] at hlt;simp at hlt
   obtain ⟨c0,c1⟩:=hcl k hlt;rw [<-hbr.cell (p:=⟨eb,eo+k*2,none⟩) hbw] at c0;rw [<-hbr.cell (p:=⟨eb,eo+k*2+1,none⟩) hbw] at c1;obtain ⟨j,hj,hjp,hje⟩:=uh Hm _ (WR hlt);have Hjp:=Z9 (DJ hjp);clear hjp;have hst:=FB m but hlt;have hwb:=R1 m (j:Int);rw [hje] at c1 hst;clear hje hcl;generalize (Z7 q k).1=hd at *;have Hst:=Z9 hst;clear hst;generalize US m but (q.take k)=u at *;have u1:u<=1024*800:=by omega
   have kb1:=(uh kb).below hbr (uh kb).lt;have Hv1:=Z9 ((uh Hv).below hbr);have Kb1:=Z9 kb1;have Hbr:=Z9 hbr;clear hbr kb1;obtain ⟨x0,x1,x2,x3,x4,x5⟩:=(uh Kb1).c6;by_cases hbut:(j:Int)=but
   ·have hbn:((j:Int) ==but)=true:=by simpa using hbut
    go_wp2_with fail;go_roundw
    case rel=>exact ⟨k+1,by omega,by go_num,by rw [uh Hst,if_pos hbut],uh Hbr⟩
    case measure=>exact ms
   ·have hbn:((j:Int) ==but)=false:=by simpa using hbut
    have Hw:=Z9 (fun (W:World) (hW:Below wr.heap.size wr W)=>RA ((uh Hv1).below hW) (uh HG).gd hj ((uh HG).lo j hj (uh Hjp)) ((uh HG).hi j hj (uh Hjp)));generalize Zs m (j:Int)=wa at *;have y0:=Z2 x0;have y1:=Z2 x1;have y2:=Z2 x2;have y3:=Z2 x3;have y4:=Z2 x4;have y5:=Z2 x5;have z0:=Z2 c0;have z1:=Z2 c1;go_wp2_with fail;refine wq ?_
    repeat (go_big_quiet_step (exact ZY (uh Hw _ (Z0 _ _ _))))
    refine wpQuiet_nil ?_;intro _ hw';obtain ⟨⟨dq,osq⟩,hw''⟩:=hw';subst hw'';go_wp2_with fail;go_roundw
    case rel=>exact ⟨k+1,by omega,by go_num,by rw [uh Hst,if_neg hbut],(uh Hbr).trans ((Z0 _ _ _).mono (uh Hbr).size)⟩
    case measure=>exact ms
  ·obtain rfl:k=q.length:=by omega
   rw [List.take_length];go_wp2_with fail;go_ret;exact ⟨ZC (uh Hu).symm,(uh BB).trans (hbr.mono (uh BB).size)⟩
structure Sane (m:Z6):Prop where
 hall:Y2 m.rm=true
 dk:(m.dk.length:Int)=ZW m.rm
 guilded:De m
 few:m.sm.length<=12
theorem Sane.bench (h:Sane m) {b:Nat} (hb:b<m.dk.length):Yu m.rm (b:Int)=true:=J6 h.hall (by omega) (by have:=h.dk;omega)
theorem Sane.eight (h:Sane m):m.dk.length<=8:=by have:=(Zl h.hall).2.2.2;have:=h.dk;omega
theorem Loose.sane (h:Loose m):Sane m:=by
 have hd:=h.head;unfold YA at hd;simp only [ZP,Y0] at hd;obtain ⟨h1,h2,h3,h4,_⟩:=hd;refine ⟨h1,h4,⟨h2,fun i hi hs=> ?_,fun i hi hs=>(h.limits hi hs).2.1⟩,h3⟩;have hp:=(h.limits hi hs).1;generalize Z8 m.sm i=s at *;obtain ⟨st,be,rk,my,gu,lo',hi',hd,ca,ut,wk⟩:=s;exact (Zo hp).2.2.2.2.1.1
theorem Sane.with (h:Sane m) {k:Nat} (hk:k<m.sm.length) (hs:(Z8 m.sm k).1 ≠ 0) (b:Int):Sane (Wv m (k:Int) b):=by
 have hset:∀ i,Z8 (Wv m (k:Int) b).sm i=if i=k then QV (Z8 m.sm k) b else Z8 m.sm i:=fun i=>by
  unfold Wv;simp only [Zy];exact ZF hk i
 refine ⟨h.hall,h.dk,⟨h.guilded.gd,fun i hi hne=> ?_,fun i hi hne=> ?_⟩,by unfold Wv;simpa using h.few⟩
 ·have hi':i<m.sm.length:=by unfold Wv at hi;simpa using hi
  rw [hset] at hne ⊢;by_cases e:i=k
  ·rw [if_pos e];exact h.guilded.lo k hk hs
  ·rw [if_neg e] at hne ⊢;exact h.guilded.lo i hi' hne
 ·have hi':i<m.sm.length:=by unfold Wv at hi;simpa using hi
  rw [hset] at hne ⊢;by_cases e:i=k
  ·rw [if_pos e];exact h.guilded.hi k hk hs
  ·rw [if_neg e] at hne ⊢;exact h.guilded.hi i hi' hne
theorem Sane.few' (h:Sane m) (hp:m.pc.length<=1000):Few m:=by
 obtain ⟨r1,r2,r3,r4⟩:=Zl h.hall;have hg:=(Vo h.guilded.gd).2;refine ⟨by omega,fun r hr=> ?_,by omega,by have:=h.few;omega,by have:=h.eight;omega,hp⟩;have hrb:=List.all_eq_true.1 r3 r hr;unfold Ze at hrb;simp only [ZP] at hrb;have:=ZN hrb.2.1;omega
theorem Qp  {rs:List ZX} (n:Int) (h:IsRooms w v rs) (hbn:Yu rs n=true) :
  Calls Tryz.prog 172 #[.agg #[v],.int .i64 n] w fun e w'=>e= .returned (.int .i64 (Xr rs n))/\Below w.heap.size w w':=by
 obtain ⟨a,cap,rfl,hc,hm,hr⟩:=h;have Hr:=Z9 hr;have H:=Z9 hbn;have hh:=(WO hbn).1;have hn0:=(WO hbn).2.1;have hn1:n<12:=by have h1:=(WO hbn).2.2;have:=(Zl hh).2.2.2;omega
 have Hh:=Z9 hh;have hl3:rs.length<=3:=(Zl hh).2.1;clear hr hbn hh;go_enter Tryz.func172,Tryz.ntmps172;go_wp2_with fail
 go_loop [1,5] (fun q i=> ∃ r:Nat,r<=rs.length/\i= .int .i64 r/\q= .int .i64 (n-ZW (rs.take r))/\(∀ j,j<r->ZW (rs.take (j+1))<=n)) (fun _ i=>rs.length-(intOf i).toNat)
 case atStart=>exact ⟨0,Zz _,rfl,by simp [ZW],fun j hj=>by omega⟩
 case round=>
  obtain ⟨r,hr,rfl,rfl,hl⟩:=hrel;have hlt:=UA (uh H) hr hl
  rcases uh Hr with e0 | ⟨b,off,rfl,hbw,hcl⟩
  ·rw [e0] at hlt;simp at hlt
  obtain ⟨c0,pv,c1,hip⟩:=hcl r hlt;have hne:b ≠ w.heap.size:=U3 hbw;have Hl:=Z9 hl;have hb0:=WM (uh Hh) r hr;have hb1:=WM (uh Hh) (r+1) hlt;have Hs:=Z9 (XQ rs hlt);have HN:Hid (n<ZW (rs.take (r+1))->Xr rs n=r):=Z9 (fun hx=>RT hlt hx (uh Hl));have HM:Hid (ZW (rs.take (r+1))<=n-> ∀ j,j<r+1->ZW (rs.take (j+1))<=n):=Z9 (fun hx=>Yi (uh Hl) hx);rw [XQ rs hlt] at hb1 HN HM;generalize ZW (rs.take r)=s at *;generalize (ZQ rs r).1=rb at *;clear hcl hip hl;by_cases hq:rb<=n-s
  ·go_wp2_with fail
   go_round
   case rel=>exact ⟨r+1,by omega,by go_num,by rw [uh Hs];congr 1;omega,uh HM (by omega)⟩
   case measure=>exact ms
  ·go_wp2_with fail
   go_ret;exact ⟨ZC (by rw [uh HN (by omega)]),(ba _ _)⟩
theorem DP {a:Option Addr} {cap:Nat} {rs:List ZX} {r:Nat} (h:IsRooms w (.slice a rs.length cap) rs) (hr:r<rs.length) (hh:Y2 rs=true) :
  ∃ b off a' cap',a=some ⟨b,off,none⟩/\b<w.heap.size/\w.cell? ⟨b,off+r*2+1,none⟩=some (.slice (some a') (ZQ rs r).2.length cap')/\1<=(ZQ rs r).2.length/\(ZQ rs r).2.length<=4/\a'.spot=none/\a'.block<w.heap.size/\w.cell? ⟨a'.block,a'.off+((ZQ rs r).2.length-1)*2,none⟩=some (.int .i64 (Vq (ZQ rs r).2)):=by
 obtain ⟨a0,cap0,he,hc,hm,hr'⟩:=h;cases he
 rcases hr' with e0 | ⟨b,off,rfl,hbw,hcl⟩
 ·rw [e0] at hr;simp at hr
 obtain ⟨_,pv,c1,hip⟩:=hcl r hr;have hb:=PW (Rg (Zl hh).2.2.1 hr);obtain ⟨pa,pcap,rfl,_,_,hp⟩:=hip
 rcases hp with e1 | ⟨b',off',rfl,hbw',hcl'⟩
 ·rw [e1] at hb;simp at hb
 ·exact ⟨b,off,⟨b',off',none⟩,pcap,rfl,hbw,c1,hb.2.2.1,hb.2.2.2,rfl,hbw',(hcl' _ (by omega)).1⟩
theorem NR  {rs:List ZX} (n:Int) (h:IsRooms w v rs) :
  Calls Tryz.prog 293 #[.agg #[v],.int .i64 n] w fun e w'=>e= .returned (.int .i64 (Zd rs n))/\Below w.heap.size w w':=by
 have Hv:=Z9 h;obtain ⟨a,cap,rfl,hc,hm⟩:∃ a cap,v= .slice a rs.length cap/\rs.length<=cap/\cap<=9223372036854775807:=by obtain ⟨a,cap,rfl,hc,hm,_⟩:=h;exact ⟨a,cap,rfl,hc,hm⟩
 clear h;cases h1:Yu rs n
 ·have H2:=Z9 (Aq h1)
  have H3:=JJ h1;have H3':=Z9 H3;clear H3 h1;go_enter Tryz.func293,Tryz.ntmps293;go_wp2_with fail;refine (Rv n ((uh Hv).alloc _)).mono ?_;rw [uh H3'];rintro e w1 ⟨rfl,hb⟩;have Hb:=Z9 hb;clear hb;go_wp2_with fail;go_ret;exact ⟨ZC (uh H2).symm,((ba _ _)).trans ((uh Hb).mono (by simp))⟩
 ·have H2:=Z9 (Tc h1)
  have H3:=Z9 (DO h1);have hlt:=Qv h1;have Hh:=Z9 (WO h1).1;have hl3:rs.length<=3:=(Zl (WO h1).1).2.1;clear h1;go_enter Tryz.func293,Tryz.ntmps293;go_wp2_with fail;refine (Rv n ((uh Hv).alloc _)).mono ?_;rw [uh H3];rintro e w1 ⟨rfl,hb⟩;have hz:w.heap.size+1<=w1.heap.size:=by have:=hb.size;simpa using this
  have hbox:w1.cell? ⟨w.heap.size,0,none⟩=some (.slice a rs.length cap):=by rw [hb.cell (p:=⟨w.heap.size,0,none⟩) (by simp)];simp
  have hw1:=((uh Hv).alloc _).below hb;have Hb:=Z9 hb;obtain ⟨b,off,a',cap',rfl,hbw,d1,p1,p4,sp,hbw',d2⟩:=DP hw1 hlt (uh Hh);obtain ⟨b',off',sp'⟩:=a';simp only at sp hbw' d2;subst sp;clear hb hw1 H3;generalize Xr rs n=r at *;generalize Vq (ZQ rs r).2=fo at *;generalize (ZQ rs r).2.length=m at *;have hr0:((r:Int) == -1)=false:=beq_eq_false_iff_ne.2 (by omega);go_wp2_with fail;go_ret;exact ⟨ZC (uh H2).symm,((ba _ _)).trans ((uh Hb).mono (by simp))⟩
def Ue (rs:List ZX) (n:Int):Bool:=Y2 rs && inB n 0 ((rs.length:Int)-1)
def Dg (lo hi:Int):Int:=(2:Int) ^ hi.toNat-2 ^ lo.toNat
def Vf (rs:List ZX) (n:Int):Int:=if Ue rs n=true then Dg (ZW (rs.take n.toNat)) (ZW (rs.take (n.toNat+1))) else -1
theorem Be {rs:List ZX} {n:Int} (h:Ue rs n=true):Vf rs n=Dg (ZW (rs.take n.toNat)) (ZW (rs.take (n.toNat+1))):=by unfold Vf;rw [if_pos h]
theorem Fc {rs:List ZX} {n:Int} (h:Ue rs n=false):Vf rs n= -1:=by unfold Vf;rw [h];rfl
theorem Cj {rs:List ZX} {n:Int} (h:Y2 rs=false):Ue rs n=false:=by unfold Ue;rw [h];rfl
theorem J9 {rs:List ZX} {n:Int} (h:n<0\/rs.length<=n):Ue rs n=false:=by unfold Ue;rw [Wn (by omega)];simp
theorem O9 {s:Int} (h0:0<=s) (h1:s<=12):1<=(2:Int) ^ s.toNat/\(2:Int) ^ s.toNat<=4096:=by
 have key:∀ k:Fin 13,1<=(2:Int) ^ k.val/\(2:Int) ^ k.val<=4096:=by decide
 exact key ⟨s.toNat,by omega⟩
theorem S0 {x:Int} (h0 : -100000<=x) (h1:x<=100000):wrap64 x=x:=by unfold wrap64;omega
theorem Th  {rs:List ZX} (n:Int) (h:IsRooms w v rs) :
  Calls Tryz.prog 248 #[.agg #[v],.int .i64 n] w fun e w'=>e= .returned (.int .i64 (Vf rs n))/\Below w.heap.size w w':=by
 have Hv:=Z9 h;obtain ⟨a,cap,rfl,hc,hm⟩:∃ a cap,v= .slice a rs.length cap/\rs.length<=cap/\cap<=9223372036854775807:=by obtain ⟨a,cap,rfl,hc,hm,_⟩:=h;exact ⟨a,cap,rfl,hc,hm⟩
 clear h;have Hb0:Hid (Below w.heap.size w (w.alloc (.cells #[.slice a rs.length cap] 26))):=Z9 ((ba _ _));cases h1:Y2 rs
 ·have H2:=Z9 (Fc (Cj (n:=n) h1))
  go_enter Tryz.func248,Tryz.ntmps248;go_wp2_with fail;refine ck (XF ((uh Hv).alloc _)) fun w1 hb=> ?_;have Hb:=Z9 hb;clear hb;go_wp2_with fail;go_ret;exact ⟨ZC (uh H2).symm,(uh Hb0).trans ((uh Hb).mono (by simp))⟩
 by_cases h2:n<0
 ·have H2:=Z9 (Fc (J9 (rs:=rs) (.inl h2)))
  go_enter Tryz.func248,Tryz.ntmps248;go_wp2_with fail;refine ck (XF ((uh Hv).alloc _)) fun w1 hb=> ?_;have Hb:=Z9 hb;clear hb;go_wp2_with fail;go_ret;exact ⟨ZC (uh H2).symm,(uh Hb0).trans ((uh Hb).mono (by simp))⟩
 by_cases h3:(rs.length:Int)<=n
 ·have H2:=Z9 (Fc (J9 (rs:=rs) (.inr h3)))
  go_enter Tryz.func248,Tryz.ntmps248;go_wp2_with fail;refine ck (XF ((uh Hv).alloc _)) fun w1 hb=> ?_;have hbox:w1.cell? ⟨w.heap.size,0,none⟩=some (.slice a rs.length cap):=by rw [hb.cell (p:=⟨w.heap.size,0,none⟩) (by simp)];simp
  have Hb:=Z9 hb;clear hb;go_wp2_with fail;go_ret;exact ⟨ZC (uh H2).symm,(uh Hb0).trans ((uh Hb).mono (by simp))⟩
 have h4:Ue rs n=true:=by unfold Ue;rw [h1,Zp (by omega) (by omega)];rfl
 have H2:=Z9 (Be h4);obtain ⟨r,rfl⟩:=Int.eq_ofNat_of_zero_le (show 0<=n by omega);have H1:=Z9 h1;have Ha:=Z9 (S7 h1);have hl3:rs.length<=3:=(Zl h1).2.1;have hb0:=WM h1 r (by omega);have hb1:=WM h1 (r+1) (by omega);go_enter Tryz.func248,Tryz.ntmps248;go_wp2_with fail;refine ck (XF ((uh Hv).alloc _)) fun w1 hb=> ?_;have hbox:w1.cell? ⟨w.heap.size,0,none⟩=some (.slice a rs.length cap):=by rw [hb.cell (p:=⟨w.heap.size,0,none⟩) (by simp)];simp
 have k0:=Z2 hbox;have Hb:=Z9 hb;have Hw:=Z9 (((uh Hv).alloc _).below hb);clear hb h4;go_wp2_with fail;refine wq ?_
 repeat (go_big_quiet_step (first | exact ZY (V5 (((uh Hw).below (Z0 _ _ _)).taken (n:=r) (by omega)) ((uh Ha).taken _)) | exact ZY (V5 (((uh Hw).below (Z0 _ _ _)).taken (n:=r+1) (by omega)) ((uh Ha).taken _))))
 refine wpQuiet_nil ?_;intro _ hw';obtain ⟨⟨dq,osq⟩,hw''⟩:=hw';subst hw'';rw [Zy] at H2;generalize ZW (rs.take r)=s0 at *;generalize ZW (rs.take (r+1))=s1 at *;obtain ⟨x0,x1⟩:=hb0;obtain ⟨y0,y1⟩:=hb1;go_wp2_with fail;go_quiet (fail);go_wp2_with fail;go_ret;refine ⟨ZC ?_,(uh Hb0).trans (((uh Hb).trans (WZ ((Z0 _ _ _).mono (uh Hb).size) _)).mono (by simp))⟩;have p0:=O9 x0 x1;have p1:=O9 y0 y1;rw [uh H2,S0 (x:=2 ^ s1.toNat) (by omega) (by omega),S0 (x:=2 ^ s0.toNat) (by omega) (by omega),S0 (x:=2 ^ s1.toNat-2 ^ s0.toNat) (by omega) (by omega)];rfl
theorem Vh {rs:List ZX} (h:rs.all Ze=true) {i:Nat} : ∀ d,i+d<=rs.length->ZW (rs.take i)<=ZW (rs.take (i+d))
 | 0,_=>Int.le_refl _
 | d+1,hd=>by
  have ih:=Vh h (i:=i) d (by omega);have hb:=PW (Rg h (j:=i+d) (by omega));rw [<-Nat.add_assoc,XQ rs (by omega)];omega
theorem DQ {rs:List ZX} {n:Int} (h:Yu rs n=true) {r:Nat} (hr:r<rs.length):Xr rs n=r ↔ ZW (rs.take r)<=n/\n<ZW (rs.take (r+1)):=by
 have hb:=WO h;have ha:=(Zl hb.1).2.2.1
 have key:∀ d q:Nat,q+d=rs.length->(∀ j,j<q->ZW (rs.take (j+1))<=n)->ZW (rs.take (Xr rs n))<=n/\n<ZW (rs.take (Xr rs n+1)):=by
  intro d
  induction d with
  | zero=>intro q hq hl;have:=UA h (by omega) hl;omega
  | succ d ih=>
   intro q hq hl;have hlt:=UA h (r:=q) (by omega) hl;by_cases hc:n<ZW (rs.take (q+1))
   ·rw [RT hlt hc hl]
    refine ⟨?_,hc⟩;cases q with
    | zero=>simp [ZW];omega
    | succ q=>exact hl q (by omega)
   ·exact ih (q+1) (by omega) (Yi hl (by omega))
 constructor
 ·intro e;have:=key rs.length 0 (by omega) (fun j hj=>by omega);rwa [e] at this
 ·intro hx
  refine RT hr hx.2 (fun j hj=> ?_);have:=Vh ha (i:=j+1) (r-(j+1)) (by omega);rw [show j+1+(r-(j+1))=r by omega] at this;omega
theorem RH (b:Int) (h0:0<=b) (h1:b<=12) (w:World):Calls Tryz.prog 70 #[.int .i64 b] w fun e w'=>e= .returned (.int .i64 (2 ^ b.toNat))/\w'=w:=by
 go_enter Tryz.func70,Tryz.ntmps70
 go_wp2
 all_goals
  go_ret;refine ⟨ZC ?_,rfl⟩;have:=O9 h0 h1;exact S0 (by omega) (by omega)
open Go.ChangeShapes Go.WideShapes Go.ChangeAt Go.RowKit
def UP (s:Int):Nat->List Int
 | 0=>[]
 | k+1=>if Vx s k=true then UP s k++[(k:Int)] else UP s k
def SJ (s:Int):List Int:=UP s 8
def VE (s:Int):Int:=(SJ s).headD (-1)
theorem RZ {s:Int} {k:Nat} (h:Vx s k=true):UP s (k+1)=UP s k++[(k:Int)]:=by simp [UP,h]
theorem UB {s:Int} {k:Nat} (h:Vx s k=false):UP s (k+1)=UP s k:=by simp [UP,h]
theorem IL (s:Int):∀ k,(UP s k).length<=k
 | 0=>by simp [UP]
 | k+1=>by
  have:=IL s k;cases h:Vx s k
  ·rw [UB h];omega
  ·rw [RZ h];simp;omega
theorem KT {s:Int} (h:inB s 0 255=false):∀ k,UP s k=[]
 | 0=>rfl
 | k+1=>by rw [UB (MD (.inl h))];exact KT h k
theorem BC (s:Int):∀ k,k<=8->UP s k <+: SJ s:=by
 have step:∀ k,UP s k <+: UP s (k+1):=fun k=>by
  cases h:Vx s k
  ·rw [UB h];exact List.prefix_refl _
  ·rw [RZ h];exact List.prefix_append _ _
 have go:∀ d k,UP s k <+: UP s (k+d):=by
  intro d
  induction d with
  | zero=>intro k;exact List.prefix_refl _
  | succ d ih=>intro k;exact (ih k).trans (step (k+d))
 intro k hk;have:=go (8-k) k
 rwa [show k+(8-k)=8 by omega] at this
theorem Ab {lo hi b:Int} (h0:0<=lo) (h1:lo<=hi) (h2:hi<=8) (hb0 : -1<=b) (hb1:b<=8):Vx (Dg lo hi) b=decide (lo<=b/\b<hi):=by
 have key:∀ b:Fin 10,∀ hi:Fin 9,∀ lo:Fin 9,lo.val<=hi.val->Vx (Dg lo.val hi.val) ((b.val:Int)-1)=decide ((lo.val:Int)<=(b.val:Int)-1/\(b.val:Int)-1<hi.val):=by decide +kernel
 have:=key ⟨(b+1).toNat,by omega⟩ ⟨hi.toNat,by omega⟩ ⟨lo.toNat,by omega⟩ (by show lo.toNat<=hi.toNat;omega);simp only [show ((lo.toNat:Nat):Int)=lo by omega,show ((hi.toNat:Nat):Int)=hi by omega,show (((b+1).toNat:Nat):Int)-1=b by omega] at this;exact this
end Go.Proofs.YtamgfpdahadnfaaGreatDoor
