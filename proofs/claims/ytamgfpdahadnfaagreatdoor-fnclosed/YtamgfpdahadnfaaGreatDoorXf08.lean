/- Part 8 of what the proof rests on. No condition but those that a theorem names. -/
import Derived.Test.YtamgfpdahadnfaaGreatDoorXf03
import Derived.Deep.RegionLawGrows
set_option maxHeartbeats 8000000
set_option maxRecDepth 100000
namespace Go.Proofs.YtamgfpdahadnfaaGreatDoor
open Go.ChangeShapes Go.WideShapes Go.ChangeAt Go.RowKit Go.Sort
set_option linter.unusedVariables false
variable {w w' w0 w1 w2 w3 w₀ wr W W' X A B C : World} {v v0 v1 v2 v3 v4 u u0 u1 u2 u3 u4 : Value}
theorem AU {n₀ bx:Nat} {v v':Value} {ps qs:List Z4} (h:HeapIs n₀ bx v w ps) (hb:Fr bx v.ownBlock w W) (hc:W.cell? ⟨bx,0,none⟩=some v) (hf:W.frozen? ⟨bx,0,none⟩=false) (hr:EntsAt n₀ W v' qs) (ho:v'.ownBlock ≠ some bx) :
  HeapIs n₀ bx v' (W.setCell ⟨bx,0,none⟩ v') qs/\Fr bx v.ownBlock w (W.setCell ⟨bx,0,none⟩ v'):=by
 refine ⟨⟨World.cell?_setCell_same _ _ _ hc,by rw [World.frozen?_setCell];exact hf,by simpa using Zd h.lt hb.size,hr.same fun k hk=>Below.heap_setCell W ⟨bx,0,none⟩ v' k (fun e=>ho (by rw [hk];exact congrArg some e)),ho⟩,hb.trans (Fr.box W v')⟩
theorem AE {n₀ bx:Nat}  {ps:List Z4} {m:Nat} (h:HeapIs n₀ bx v w ps) (hm:ps.length=m+1) :
  Calls Tryz.prog 363 #[.pointer (some ⟨bx,0,none⟩)] w fun e w'=>e= .returned (.iface 91 (.agg #[.int .i64 (Z7 ps m).1,.int .i64 (Z7 ps m).2]))/\ ∃ v',HeapIs n₀ bx v' w' (ps.take m)/\v'.ownBlock=v.ownBlock/\Fr bx v.ownBlock w w':=by
 have H:=Z9 h;obtain ⟨g,cap,rfl,hne,hlt,hn0,hnc,hcm,hcl,hfz⟩:=h.view (by omega);have hc:=h.cell;have hbf:=h.free;have hbx:=h.lt;obtain ⟨a0,a1⟩:=hcl m (by omega);have HL:=Z9 (Pw h);clear hcl h hfz;rw [hm] at hnc hc;generalize Z7 ps m=p at *;obtain ⟨f,z⟩:=p;simp only at a0 a1;have hn1:g ≠ w.heap.size:=UZ hlt;have hn2:bx ≠ w.heap.size:=UZ hbx;go_enter Tryz.func363,Tryz.ntmps363;go_wp2_with fail;refine (uh HL).mono ?_;rw [hm];rintro e w' ⟨rfl,h1⟩;subst w';go_wp2_with fail;go_ret;have hcut:=(uh H).row.cut (n:=m) (by omega) (by simp);obtain ⟨r1,r2⟩:=AU (uh H) (Fr.refl _ _ _) (uh H).cell (uh H).free hcut (by simpa [Value.ownBlock] using hne);exact ⟨rfl,.slice (some ⟨g,0,none⟩) m cap,r1.later ((ba _ _)),rfl,r2.trans (Fr.of_below ((ba _ _)))⟩
theorem NU {ops:Array Oper} {o:Oper} {a:Act} {K:Act->World->Prop} {Q:Exit->Act->World->Prop} {E:Prop} (hgd:o.guard=none) (s x:Operand) (t:TypeId) (ht:Tryz.prog.underlying t=some (.slice 91))
  (ho:o.op= .call { callee:= .builtin .append,args:=#[s,x],argTypes:=#[t,t] }) (base:Nat)
  (v:Value) (ps:List Z4) (hs:a.eval s=v) (hown:EntsAt base w v ps)
  (ad:Addr) (c:Nat) (f z:Int) (hx:a.eval x= .slice (some ad) 1 c) (hnews:∀ (j:Nat) (u:Value),([.int .i64 f,.int .i64 z]:List Value)[j]?=some u->w.cell? (ad.add j)=some u)
  (hb:ps.length<=4000) (hbase:base<=w.heap.size)
  (h:∀ v' w',EntsAt base w' v' (ps++[(f,z)])->w.grownBy w' v.ownBlock->(v'.ownBlock=v.ownBlock\/v'.ownBlock=some w.heap.size)->K (a.put o.dst v') w') :
  if Region.wanted o (yielded ops a.tmps)=true then Oper.wp Tryz.prog o a w K Q else E:=by
 have hw:Region.wanted o (yielded ops a.tmps)=true:=by simp [Region.wanted,hgd]
 rw [if_pos hw];obtain ⟨i0,hi,hz0,hz1,hz2⟩:=info_parts Vn
 obtain ⟨v',w',hr,h2,h3,_,h5⟩:=run_append_own_at (P:=Tryz.prog) w base t o.type 91 i0 (.agg #[.int .i64 0,.int .i64 0]) 2 16 ht hi hz0 hz1 hz2 rfl (by decide) v ps.length _ hown ad 1 c [.int .i64 f,.int .i64 z] rfl
  hnews (by simp [Value.oneCell']) (by simp only [maxLen];omega) (by omega) hbase
 unfold Oper.wp execOp;simp only [ho,resolve,invoke,builtin,Sem.run_bind,Sem.run_pure,Result.andThen_ok,List.map_toArray,List.map_cons,List.map_nil,hs,hx,hr];refine h v' w' ?_ h3 h5;unfold EntsAt;rw [Qw,List.length_append];exact h2
theorem zv (w:World) (u u':Value) (t:TypeId) (b:Nat) (hb:b=w.heap.size):∀ (j:Nat) (x:Value),([u,u']:List Value)[j]?=some x->(w.alloc (.cells #[u,u'] t)).cell? ((⟨b,0,none⟩:Addr).add j)=some x:=by
 subst hb;intro j x hj
 match j,hj with
 | 0,hj=>simp at hj;subst hj;simp [Addr.add]
 | 1,hj=>simp at hj;subst hj;simp [Addr.add]
theorem Lw (f z:Int) (w:World):(Instr.typeAssert (.iface 91 (.agg #[.int .i64 f,.int .i64 z])) 20 91 false).run Tryz.prog w= .ok (.agg #[.int .i64 f,.int .i64 z]) w:=by kernel_rfl
theorem HeapIs.after {n₀ bx:Nat} {w W W1:World} {ps:List Z4} (h:HeapIs n₀ bx v w ps) (hb:Below w.heap.size w W) (hg:W.grownBy W1 v.ownBlock) :
  W1.cell? ⟨bx,0,none⟩=some v/\W1.frozen? ⟨bx,0,none⟩=false/\Fr bx v.ownBlock w W1:=by
 have hk:=hg.block bx (Zd h.lt hb.size) (fun e=>h.off e.symm);exact ⟨(World.cell?_of_block (w:=W) (a:=⟨bx,0,none⟩) hk).trans ((hb.cell (p:=⟨bx,0,none⟩) h.lt).trans h.cell),(World.frozen?_of_block (w:=W) (a:=⟨bx,0,none⟩) hk).trans ((hb.frozen (p:=⟨bx,0,none⟩) h.lt).trans h.free),(Fr.of_below hb).trans (Fr.of_grown hg)⟩
theorem Ct {n₀ bx:Nat}  {ps:List Z4} (f z:Int) (h:HeapIs n₀ bx v w ps) (hl:ps.length<=1000) (hn:n₀<=w.heap.size) :
  Calls Tryz.prog 364 #[.pointer (some ⟨bx,0,none⟩),.iface 91 (.agg #[.int .i64 f,.int .i64 z])] w fun e w'=>e= .returned (.tuple #[])/\ ∃ v',HeapIs n₀ bx v' w' (ps++[(f,z)])/\(v'.ownBlock=v.ownBlock\/ ∃ k,v'.ownBlock=some k/\w.heap.size<=k)/\Fr bx v.ownBlock w w':=by
 have H:=Z9 h;obtain ⟨a,cap,rfl⟩:=h.row.shape;have hc:=h.cell;have hbf:=h.free;have hbx:=h.lt;clear h;have hn2:bx ≠ w.heap.size:=UZ hbx;have hta:=Lw f z;go_enter Tryz.func364,Tryz.ntmps364;go_wp2_with fail
 go_region_law (refine NU rfl (.tmp 7) (.tmp 10) 256 Tryz.underlying256 rfl n₀ _ ps rfl ((uh H).row.later (((ba _ _)).drew)) ⟨w.heap.size,0,none⟩ _ f z rfl (zv _ _ _ _ _ rfl) (by omega) (by simp;omega) ?_;intro v' w1 hown hgrow hat;obtain ⟨hc1,hf1,hfr⟩:=(uh H).after (((ba _ _)).drew) hgrow;obtain ⟨a1,cap1,rfl⟩:=hown.shape)
 all_goals
  go_end0
  have hoff:(Value.slice a1 (ps++[(f,z)]).length cap1).ownBlock ≠ some bx:=by
   rcases hat with e | e
   ·rw [e];exact (uh H).off
   ·rw [e];simp;omega
  obtain ⟨r1,r2⟩:=AU (uh H) hfr hc1 hf1 hown hoff;have hle:(ps++[(f,z)]).length=ps.length+1:=by simp
  rw [hle] at r1 r2 hat;refine ⟨rfl,_,r1,?_,r2⟩
  rcases hat with e | e
  ·exact .inl e
  ·exact .inr ⟨_,e,by simp⟩
theorem yF (a : Addr) (w : World) : (method 428 231 (.pointer (some a)) "Len").run Tryz.prog w = .ok (277, .pointer (some a)) w := by kernel_rfl
theorem Ap (a : Addr) (w : World) : (method 428 231 (.pointer (some a)) "Less").run Tryz.prog w = .ok (362, .pointer (some a)) w := by kernel_rfl
theorem EB (a : Addr) (w : World) : (method 428 231 (.pointer (some a)) "Swap").run Tryz.prog w = .ok (365, .pointer (some a)) w := by kernel_rfl
theorem yf (a : Addr) (w : World) : (method 428 231 (.pointer (some a)) "Push").run Tryz.prog w = .ok (364, .pointer (some a)) w := by kernel_rfl
theorem xC (a : Addr) (w : World) : (method 428 231 (.pointer (some a)) "Pop").run Tryz.prog w = .ok (363, .pointer (some a)) w := by kernel_rfl
theorem yo {n₀ bx:Nat}  {ps:List Z4} {n j0:Nat} (h:HeapIs n₀ bx v w ps) (hu:UpTo ps n j0) (hj0:j0<n) (hn:n<=ps.length) (hl:ps.length<=1000) :
  Calls Tryz.prog 276 #[.iface 231 (.pointer (some ⟨bx,0,none⟩)),.int .i64 j0] w fun e w'=>e= .returned (.tuple #[])/\ ∃ qs,HeapIs n₀ bx v w' qs/\HeapTo qs n/\qs.Perm ps/\(∀ k,n<=k->Z7 qs k=Z7 ps k)/\Fr bx v.ownBlock w w':=by
 have H:=Z9 h;have HU:=Z9 hu;clear h hu;go_enter Tryz.func276,Tryz.ntmps276;go_wp2_with fail
 go_loopw [1,4] (fun q _ wr=> ∃ (j:Nat) (qs:List Z4),j<n/\q= .int .i64 j/\HeapIs n₀ bx v wr qs/\UpTo qs n j/\qs.Perm ps/\(∀ k,n<=k->Z7 qs k=Z7 ps k)/\Fr bx v.ownBlock w wr) (fun q _ _=>(intOf q).toNat)
 case atStart=>exact ⟨j0,ps,hj0,rfl,uh H,uh HU,List.Perm.refl _,fun _ _=>rfl,Fr.refl _ _ _⟩
 case round=>
  obtain ⟨j,qs,hj,rfl,hh,hup,hperm,hsame,hfr⟩:=hrel;have hql:qs.length=ps.length:=hperm.length_eq;have Hh:=Z9 hh;have Hup:=Z9 hup;have Hpe:=Z9 hperm;have Hsa:=Z9 hsame;have Hfr:=Z9 hfr;clear hh hup hperm hsame hfr;by_cases hz:j=0
  ·subst hz
   go_wp2_with fail
   go_end0
   exact ⟨rfl,qs,uh Hh,(uh Hup).done (.inl rfl),uh Hpe,uh Hsa,uh Hfr⟩
  ·obtain ⟨i,hi⟩:∃ i,i=(j-1) / 2:=⟨_,rfl⟩
   have hj1:(0:Int)<=(j:Int)-1:=by omega
   have hpar:((j:Int)-1) / 2=(i:Int):=by omega
   have hij:((i:Int) ==(j:Int))=false:=beq_eq_false_iff_ne.2 (by omega);have hm1:=Ap ⟨bx,0,none⟩;have hm2:=EB ⟨bx,0,none⟩;have hjl:j<qs.length:=by omega
   have hil:i<qs.length:=by omega
   have Hless:=Z9 (RC (uh Hh) hjl hil);have Hi:=Z9 hi;clear hi;cases hlt:ltB (Z7 qs j) (Z7 qs i)
   ·go_wp2_with fail
    refine (uh Hless).mono ?_;rw [hlt];rintro e w1 ⟨rfl,hb1⟩;have H1:=Z9 ((uh Hh).later hb1);have F1:=Z9 ((uh Hfr).trans (Fr.of_below hb1));clear hb1;go_wp2_with fail
    go_end0
    exact ⟨rfl,qs,uh H1,(uh Hup).done (.inr (by rw [<-uh Hi];exact hlt)),uh Hpe,uh Hsa,uh F1⟩
   ·go_wp2_with fail
    refine (uh Hless).mono ?_;rw [hlt];rintro e w1 ⟨rfl,hb1⟩;have H1:=Z9 ((uh Hh).later hb1);have F1:=Z9 ((uh Hfr).trans (Fr.of_below hb1));clear hb1;go_wp2_with fail;refine (RO (uh H1) hil hjl).mono ?_;rintro e w2 ⟨rfl,hh2,hf2⟩;have H2:=Z9 hh2;have F2:=Z9 ((uh F1).trans hf2);clear hh2 hf2;have HS:Hid (UpTo (swp qs i j) n i):=Z9 (by rw [uh Hi];exact (uh Hup).step (by omega) hj (by omega) (by rw [<-uh Hi];exact hlt));have HA:Hid (∀ k,n<=k->Z7 (swp qs i j) k=Z7 ps k):=Z9 (fun k hk=>by rw [RP hil hjl,if_neg (by omega),if_neg (by omega)];exact uh Hsa k hk);go_wp2_with fail;go_roundw
    case rel=>exact ⟨i,swp qs i j,by omega,rfl,uh H2,uh HS,(RQ hil hjl).trans (uh Hpe),uh HA,uh F2⟩
    case measure=>exact ms
def DownPost (n₀ bx:Nat) (v:Value) (w:World) (ps:List Z4) (n i0:Nat) (e:Ending) (w':World):Prop:=
 ∃ (b:Bool) (qs:List Z4),e= .returned (.bool b)/\HeapIs n₀ bx v w' qs/\qs.Perm ps/\(∀ k,n<=k->Z7 qs k=Z7 ps k)/\Fr bx v.ownBlock w w'/\(b=true->HeapTo qs n)/\(b=false->UpTo qs n i0)
theorem Pr {n₀ bx:Nat}  {ps qs:List Z4} {n i0 i:Nat} (hi:i0<=i) (hh:HeapIs n₀ bx v wr qs) (hdn:DnTo qs n i0 i) (hp:qs.Perm ps) (hs:∀ k,n<=k->Z7 qs k=Z7 ps k) (hf:Fr bx v.ownBlock w wr)
  (hd:∀ k,0<k->k<n->(k-1) / 2=i->ltB (Z7 qs k) (Z7 qs i)=false):DownPost n₀ bx v w ps n i0 (.returned (.bool (decide (i0<i)))) wr:=by
 refine ⟨_,qs,rfl,hh,hp,hs,hf,fun h=> ?_,fun h=> ?_⟩
 ·have:=of_decide_eq_true h
  exact hdn.moved (by omega) hd
 ·have:=of_decide_eq_false h
  obtain rfl:i=i0:=by omega
  exact hdn.still hd
theorem kid {k i:Nat} (h0:0<k) (h:(k-1) / 2=i):k=2*i+1\/k=2*i+2:=by omega
theorem zN {n₀ bx:Nat}  {ps:List Z4} {n i0:Nat} (h:HeapIs n₀ bx v w ps) (hu:DnTo ps n i0 i0) (hi0:i0<=n) (hn:n<=ps.length) (hl:ps.length<=1000) :
  Calls Tryz.prog 300 #[.iface 231 (.pointer (some ⟨bx,0,none⟩)),.int .i64 i0,.int .i64 n] w (DownPost n₀ bx v w ps n i0):=by
 have H:=Z9 h;have HU:=Z9 hu;have hm1:=Ap ⟨bx,0,none⟩;have hm2:=EB ⟨bx,0,none⟩;clear h hu;go_enter Tryz.func300,Tryz.ntmps300;go_wp2_with fail
 go_loopw [7] (fun q wr=> ∃ (i:Nat) (qs:List Z4),i0<=i/\i<=n/\q= .int .i64 i/\HeapIs n₀ bx v wr qs/\DnTo qs n i0 i/\qs.Perm ps/\(∀ k,n<=k->Z7 qs k=Z7 ps k)/\Fr bx v.ownBlock w wr) (fun q _=>n-(intOf q).toNat)
 case atStart=>exact ⟨i0,ps,Z2 _,hi0,rfl,uh H,uh HU,List.Perm.refl _,fun _ _=>rfl,Fr.refl _ _ _⟩
 case round=>
  obtain ⟨i,qs,hii,hin,rfl,hh,hdn,hperm,hsame,hfr⟩:=hrel;have hql:qs.length=ps.length:=hperm.length_eq;have Hh:=Z9 hh;have Hdn:=Z9 hdn;have Hpe:=Z9 hperm;have Hsa:=Z9 hsame;have Hfr:=Z9 hfr;clear hh hdn hperm hsame hfr;obtain ⟨j1,hj1⟩:∃ j1,j1=2*i+1:=⟨_,rfl⟩
  obtain ⟨j2,hj2⟩:∃ j2,j2=2*i+2:=⟨_,rfl⟩
  have e1:2*(i:Int)+1=(j1:Int):=by omega
  have e2:(j1:Int)+1=(j2:Int):=by omega
  have Hj1:=Z9 hj1;have Hj2:=Z9 hj2;by_cases hn1:n<=j1
  ·have hg1:(n:Int)<=(j1:Int):=by omega
   clear hj1 hj2;go_wp2_with fail;go_ret;exact Pr hii (uh Hh) (uh Hdn) (uh Hpe) (uh Hsa) (uh Hfr) (fun k k0 kn kp=>by have:=kid k0 kp;have:=uh Hj1;omega)
  ·have hg1:¬ (n:Int)<=(j1:Int):=by omega
   have hg2:¬ (j1:Int)<0:=by omega
   have hil:i<qs.length:=by omega
   have hjl:j1<qs.length:=by omega
   have hij1:i<j1:=by omega
   by_cases hn2:j2<n
   ·have hg3:(j2:Int)<(n:Int):=by omega
    have hkl:j2<qs.length:=by omega
    have hij2:i<j2:=by omega
    clear hj1 hj2;have HL:=Z9 (RC (uh Hh) hkl hjl);cases hlt:ltB (Z7 qs j2) (Z7 qs j1)
    ·have HM:Hid (∀ k,0<k->k<n->(k-1) / 2=i->ltB (Z7 qs k) (Z7 qs j1)=false):=Z9 (fun k k0 kn kp=>by
      have e3:=uh Hj1;have e4:=uh Hj2
      rcases kid k0 kp with e | e
      ·rw [show k=j1 by omega];exact Pz _
      ·rw [show k=j2 by omega];exact hlt)
     have HP:Hid ((j1-1) / 2=i):=Z9 (by have:=uh Hj1;omega);go_wp2_with fail;refine (uh HL).mono ?_;rw [hlt];rintro e w1 ⟨rfl,hb1⟩;have H1:=Z9 ((uh Hh).later hb1);have F1:=Z9 ((uh Hfr).trans (Fr.of_below hb1));clear hb1 hlt HL Hh Hfr;have HL2:=Z9 (RC (uh H1) hjl hil);cases hlt2:ltB (Z7 qs j1) (Z7 qs i)
     ·go_wp2_with fail
      refine (uh HL2).mono ?_;rw [hlt2];rintro e w2 ⟨rfl,hb2⟩;have H2:=Z9 ((uh H1).later hb2);have F2:=Z9 ((uh F1).trans (Fr.of_below hb2));clear hb2 HL2;go_wp2_with fail;go_ret;exact Pr hii (uh H2) (uh Hdn) (uh Hpe) (uh Hsa) (uh F2) (fun k k0 kn kp=>Sw hlt2 (uh HM k k0 kn kp))
     ·go_wp2_with fail
      refine (uh HL2).mono ?_;rw [hlt2];rintro e w2 ⟨rfl,hb2⟩;have H2:=Z9 ((uh H1).later hb2);have F2:=Z9 ((uh F1).trans (Fr.of_below hb2));clear hb2 HL2;go_wp2_with fail;refine (RO (uh H2) hil hjl).mono ?_;rintro e w3 ⟨rfl,hh3,hf3⟩;have H3:=Z9 hh3;have F3:=Z9 ((uh F2).trans hf3);clear hh3 hf3;have HS:Hid (DnTo (swp qs i j1) n i0 j1):=Z9 ((uh Hdn).step hii (by omega) (uh HP) (by omega) (by omega) hlt2 (uh HM));have HA:Hid (∀ k,n<=k->Z7 (swp qs i j1) k=Z7 ps k):=Z9 (fun k hk=>by rw [RP hil hjl,if_neg (by omega),if_neg (by omega)];exact uh Hsa k hk);go_wp2_with fail;go_roundw
      case rel=>exact ⟨j1,swp qs i j1,by omega,by omega,rfl,uh H3,uh HS,(RQ hil hjl).trans (uh Hpe),uh HA,uh F3⟩
      case measure=>exact ms
    ·have HM:Hid (∀ k,0<k->k<n->(k-1) / 2=i->ltB (Z7 qs k) (Z7 qs j2)=false):=Z9 (fun k k0 kn kp=>by
      have e3:=uh Hj1;have e4:=uh Hj2
      rcases kid k0 kp with e | e
      ·rw [show k=j1 by omega];exact QW hlt
      ·rw [show k=j2 by omega];exact Pz _)
     have HP:Hid ((j2-1) / 2=i):=Z9 (by have:=uh Hj2;omega);go_wp2_with fail;refine (uh HL).mono ?_;rw [hlt];rintro e w1 ⟨rfl,hb1⟩;have H1:=Z9 ((uh Hh).later hb1);have F1:=Z9 ((uh Hfr).trans (Fr.of_below hb1));clear hb1 hlt HL Hh Hfr;have HL2:=Z9 (RC (uh H1) hkl hil);cases hlt2:ltB (Z7 qs j2) (Z7 qs i)
     ·go_wp2_with fail
      refine (uh HL2).mono ?_;rw [hlt2];rintro e w2 ⟨rfl,hb2⟩;have H2:=Z9 ((uh H1).later hb2);have F2:=Z9 ((uh F1).trans (Fr.of_below hb2));clear hb2 HL2;go_wp2_with fail;go_ret;exact Pr hii (uh H2) (uh Hdn) (uh Hpe) (uh Hsa) (uh F2) (fun k k0 kn kp=>Sw hlt2 (uh HM k k0 kn kp))
     ·go_wp2_with fail
      refine (uh HL2).mono ?_;rw [hlt2];rintro e w2 ⟨rfl,hb2⟩;have H2:=Z9 ((uh H1).later hb2);have F2:=Z9 ((uh F1).trans (Fr.of_below hb2));clear hb2 HL2;go_wp2_with fail;refine (RO (uh H2) hil hkl).mono ?_;rintro e w3 ⟨rfl,hh3,hf3⟩;have H3:=Z9 hh3;have F3:=Z9 ((uh F2).trans hf3);clear hh3 hf3;have HS:Hid (DnTo (swp qs i j2) n i0 j2):=Z9 ((uh Hdn).step hii (by omega) (uh HP) (by omega) (by omega) hlt2 (uh HM));have HA:Hid (∀ k,n<=k->Z7 (swp qs i j2) k=Z7 ps k):=Z9 (fun k hk=>by rw [RP hil hkl,if_neg (by omega),if_neg (by omega)];exact uh Hsa k hk);go_wp2_with fail;go_roundw
      case rel=>exact ⟨j2,swp qs i j2,by omega,by omega,rfl,uh H3,uh HS,(RQ hil hkl).trans (uh Hpe),uh HA,uh F3⟩
      case measure=>exact ms
   ·have hg3:¬ (j2:Int)<(n:Int):=by omega
    have HM:Hid (∀ k,0<k->k<n->(k-1) / 2=i->ltB (Z7 qs k) (Z7 qs j1)=false):=Z9 (fun k k0 kn kp=>by
      have e3:=uh Hj1;have e4:=uh Hj2
      rcases kid k0 kp with e | e
      ·rw [show k=j1 by omega];exact Pz _
      ·omega)
    have HP:Hid ((j1-1) / 2=i):=Z9 (by have:=uh Hj1;omega);clear hj1 hj2;have HL2:=Z9 (RC (uh Hh) hjl hil);cases hlt2:ltB (Z7 qs j1) (Z7 qs i)
    ·go_wp2_with fail
     refine (uh HL2).mono ?_;rw [hlt2];rintro e w2 ⟨rfl,hb2⟩;have H2:=Z9 ((uh Hh).later hb2);have F2:=Z9 ((uh Hfr).trans (Fr.of_below hb2));clear hb2 HL2;go_wp2_with fail;go_ret;exact Pr hii (uh H2) (uh Hdn) (uh Hpe) (uh Hsa) (uh F2) (fun k k0 kn kp=>Sw hlt2 (uh HM k k0 kn kp))
    ·go_wp2_with fail
     refine (uh HL2).mono ?_;rw [hlt2];rintro e w2 ⟨rfl,hb2⟩;have H2:=Z9 ((uh Hh).later hb2);have F2:=Z9 ((uh Hfr).trans (Fr.of_below hb2));clear hb2 HL2;go_wp2_with fail;refine (RO (uh H2) hil hjl).mono ?_;rintro e w3 ⟨rfl,hh3,hf3⟩;have H3:=Z9 hh3;have F3:=Z9 ((uh F2).trans hf3);clear hh3 hf3;have HS:Hid (DnTo (swp qs i j1) n i0 j1):=Z9 ((uh Hdn).step hii (by omega) (uh HP) (by omega) (by omega) hlt2 (uh HM));have HA:Hid (∀ k,n<=k->Z7 (swp qs i j1) k=Z7 ps k):=Z9 (fun k hk=>by rw [RP hil hjl,if_neg (by omega),if_neg (by omega)];exact uh Hsa k hk);go_wp2_with fail;go_roundw
     case rel=>exact ⟨j1,swp qs i j1,by omega,by omega,rfl,uh H3,uh HS,(RQ hil hjl).trans (uh Hpe),uh HA,uh F3⟩
     case measure=>exact ms
theorem HeapTo.take {ps:List Z4} {n m:Nat} (h:HeapTo ps n) (hm:n<=m):HeapTo (ps.take m) n:=fun k k0 kn=>by
 rw [U9 (by omega),U9 (by omega)];exact h k k0 kn
theorem HeapIs.below {n₀ bx:Nat} {v v':Value} {ps qs:List Z4} (h:HeapIs n₀ bx v w ps) (hf:Fr bx v.ownBlock w w') (hx:n₀<=bx) (hn:n₀<=w.heap.size):Below n₀ w w':=
 hf.below hx (fun k e=>(h.row.lt e).1) hn
theorem Je {n₀ bx:Nat}  {ps:List Z4} (f z:Int) (h:HeapIs n₀ bx v w ps) (hp:HeapTo ps ps.length) (hl:ps.length<=900) (hx:n₀<=bx) (hn:n₀<=w.heap.size) :
  Calls Tryz.prog 245 #[.iface 231 (.pointer (some ⟨bx,0,none⟩)),.iface 91 (.agg #[.int .i64 f,.int .i64 z])] w fun e w'=>e= .returned (.tuple #[])/\ ∃ v' qs,HeapIs n₀ bx v' w' qs/\HeapTo qs qs.length/\qs.Perm (ps++[(f,z)])/\Below n₀ w w':=by
 have H:=Z9 h;have HP:=Z9 hp;have hm1:=yf ⟨bx,0,none⟩;have hm2:=yF ⟨bx,0,none⟩;clear h hp;go_enter Tryz.func245,Tryz.ntmps245;go_wp2_with fail;refine (Ct f z (uh H) (by omega) hn).mono ?_;rintro e w1 ⟨rfl,v1,hh1,hat,hf1⟩;have H1:=Z9 hh1;have B1:=Z9 ((uh H).below (v':=v1) (qs:=ps) hf1 hx hn);have hz1:=hf1.size;clear hh1 hat hf1;go_wp2_with fail;refine (Pw (uh H1)).mono ?_;rintro e w' ⟨rfl,h2⟩;subst w';have hlen:(ps++[(f,z)]).length=ps.length+1:=by simp
 rw [hlen];go_wp2_with fail;refine (yo (j0:=ps.length) (n:=ps.length+1) (uh H1) ((uh HP).push (f,z)) (by omega) (by rw [hlen];exact Z2 _) (by rw [hlen];omega)).mono ?_;rintro e w2 ⟨rfl,qs,hh2,hq,hpe,_,hf2⟩;have hql:qs.length=ps.length+1:=by rw [hpe.length_eq,hlen]
 have H2:=Z9 hh2;have HQ:=Z9 hq;have HE:=Z9 hpe;have B2:=Z9 ((uh B1).trans ((uh H1).below (v':=v1) (qs:=ps) hf2 hx (by omega)));clear hh2 hq hpe hf2;go_wp2_with fail
 go_end0
 exact ⟨rfl,v1,qs,uh H2,by rw [hql];exact uh HQ,uh HE,uh B2⟩
theorem DnTo.none {ps:List Z4} {i0 i:Nat} : DnTo ps 0 i0 i:=⟨fun k k0 kn=>by omega,fun k k0 kn=>by omega⟩
theorem DownPost.zero {n₀ bx:Nat}  {ps:List Z4} {n:Nat} {e:Ending} (h:DownPost n₀ bx v w ps n 0 e w') :
  ∃ (b:Bool) (qs:List Z4),e= .returned (.bool b)/\HeapIs n₀ bx v w' qs/\qs.Perm ps/\(∀ k,n<=k->Z7 qs k=Z7 ps k)/\Fr bx v.ownBlock w w'/\HeapTo qs n:=by
 obtain ⟨b,qs,he,hh,hp,hs,hf,h1,h2⟩:=h;refine ⟨b,qs,he,hh,hp,hs,hf,?_⟩;cases b
 ·exact (h2 rfl).done (.inl rfl)
 ·exact h1 rfl
theorem Gk {n₀ bx:Nat}  {ps:List Z4} {m:Nat} (h:HeapIs n₀ bx v w ps) (hp:HeapTo ps ps.length) (hm:ps.length=m+1) (hl:ps.length<=900) :
  Calls Tryz.prog 278 #[.iface 231 (.pointer (some ⟨bx,0,none⟩))] w fun e w'=>e= .returned (.iface 91 (.agg #[.int .i64 (Z7 ps 0).1,.int .i64 (Z7 ps 0).2]))/\ ∃ v' qs,HeapIs n₀ bx v' w' qs/\HeapTo qs qs.length/\(qs++[Z7 ps 0]).Perm ps/\v'.ownBlock=v.ownBlock/\Fr bx v.ownBlock w w':=by
 have H:=Z9 h;rw [hm] at hp;have HP:=Z9 hp;have hm1:=xC ⟨bx,0,none⟩;have hm2:=yF ⟨bx,0,none⟩;have hm3:=EB ⟨bx,0,none⟩;clear h hp;go_enter Tryz.func278,Tryz.ntmps278;go_wp2_with fail;refine (Pw (uh H)).mono ?_;rw [hm];rintro e w' ⟨rfl,h2⟩;subst w';go_wp2_with fail;refine (RO (i:=0) (j:=m) (uh H) (by omega) (by omega)).mono ?_;rintro e w1 ⟨rfl,hh1,hf1⟩;have H1:=Z9 hh1;have F1:=Z9 hf1;have hl1:(swp ps 0 m).length=m+1:=by rw [zu];exact hm
 have HD:Hid (DnTo (swp ps 0 m) m 0 0):=Z9 (by
  by_cases e:m=0
  ·subst e;exact DnTo.none
  ·exact (uh HP).swap hm (by omega))
 have HA:Hid (Z7 (swp ps 0 m) m=Z7 ps 0):=Z9 (by rw [RP (by omega) (by omega),if_pos rfl]);have HPm:Hid ((swp ps 0 m).Perm ps):=Z9 (RQ (by omega) (by omega));clear hh1 hf1;go_wp2_with fail;refine (zN (n:=m) (i0:=0) (uh H1) (uh HD) (by omega) (by omega) (by omega)).mono ?_;intro e w2 hpost;obtain ⟨b,qs,rfl,hh2,hp2,hs2,hf2,hq2⟩:=hpost.zero;have hql:qs.length=m+1:=by rw [hp2.length_eq,hl1]
 have H2:=Z9 hh2;have HE:Hid ((qs.take m++[Z7 ps 0]).Perm ps):=Z9 (by rw [<-uh HA,<-hs2 m (Nat.le_refl _),Nc hql];exact hp2.trans (uh HPm));have HV:Hid (Z7 qs m=Z7 ps 0):=Z9 ((hs2 m (Z2 _)).trans (uh HA));have HQ:Hid (HeapTo (qs.take m) (qs.take m).length):=Z9 (by rw [List.length_take,Nat.min_eq_left (by omega)];exact hq2.take (Z2 _));have F2:=Z9 ((uh F1).trans hf2);clear hpost hh2 hp2 hs2 hf2 hq2;go_wp2_with fail;refine (AE (uh H2) hql).mono ?_;rw [uh HV];rintro e w3 ⟨rfl,v3,hh3,ho3,hf3⟩;have H3:=Z9 hh3;have F3:=Z9 ((uh F2).trans hf3);clear hh3 hf3;go_wp2_with fail;go_ret;exact ⟨rfl,v3,qs.take m,uh H3,uh HQ,uh HE,ho3,uh F3⟩
end Go.Proofs.YtamgfpdahadnfaaGreatDoor
