/- Part 8 of what the proof rests on. No condition but those that a theorem names. -/
import Derived.Test.YtgdpaigcmoifbaaGreatXw03
import Derived.Deep.RegionLawGrows
set_option maxHeartbeats 8000000
set_option maxRecDepth 100000
namespace Go.Proofs.YtgdpaigcmoifbaaGreat
open Go.ChangeShapes Go.WideShapes Go.ChangeAt Go.RowKit Go.Sort Go.Proofs.Tryz
set_option linter.unusedVariables false
variable {w w' w0 w1 w2 w3 w₀ wr W W' X A B C : World} {v v0 v1 v2 v3 v4 u u0 u1 u2 u3 u4 : Value}
theorem RA {a p:Addr} (h:w.cell? p=some v):∃ c,(w.setCell a u).cell? p=some c:=by
 by_cases e:p=a
 ·subst e;exact ⟨_,World.cell?_setCell_same _ _ _ h⟩
 ·exact ⟨v,by rw [World.cell?_setCell_other _ _ _ _ (fun e2=>e e2.symm)];exact h⟩
theorem HeapIs.swapped {n₀ bx g cap n:Nat} {ps:List Z4} (h:HeapIs n₀ bx (.slice (some ⟨g,0,none⟩) n cap) w ps) (hn:n=ps.length) (hne:g ≠ bx) {i j:Nat} (hi:i<ps.length) (hj:j<ps.length) (f z f' z':Int) (W:World) (hW:W=((((w.setCell ⟨g,i*2,none⟩ (.int .i64 f')).setCell ⟨g,i*2+1,none⟩ (.int .i64 z')).setCell ⟨g,j*2,none⟩ (.int .i64 f)).setCell ⟨g,j*2+1,none⟩ (.int .i64 z))) :
  HeapIs n₀ bx (.slice (some ⟨g,0,none⟩) n cap) W ((ps.set i (f',z')).set j (f,z))/\Fr bx (some g) w W:=by
 subst hn;have r1:=GQ h.row (i*2) (.int .i64 f') (.int .i64 z');rw [yJ _ _ _ _ hi] at r1;have r2:=GQ r1.1 (j*2) (.int .i64 f) (.int .i64 z);rw [yJ _ _ _ _ (by simpa using hj),<-hW] at r2;have hg:=Ra r1.2 r2.2;clear r1 hW;have hlt:=h.lt;have hb:=hg.block bx hlt (by simpa using Ne.symm hne);refine ⟨⟨?_,?_,Y0 hlt hg.size,?_,h.off⟩,Fr.of_grown hg⟩
 ·exact (World.cell?_of_block (w:=w) (a:=⟨bx,0,none⟩) hb).trans h.cell
 ·exact (World.frozen?_of_block (w:=w) (a:=⟨bx,0,none⟩) hb).trans h.free
 ·unfold EntsAt
  rw [V1,V1];exact r2.1
theorem RE {n₀ bx:Nat}  {ps:List Z4} (h:HeapIs n₀ bx v w ps) {i j:Nat} (hi:i<ps.length) (hj:j<ps.length) :
  Calls prog 370 #[.pointer (some ⟨bx,0,none⟩),.int .i64 i,.int .i64 j] w fun e w'=>e= .returned (.tuple #[])/\HeapIs n₀ bx v w' (swp ps i j)/\Fr bx v.ownBlock w w':=by
 have H:=Z9 h;obtain ⟨g,cap,rfl,hne,hlt,hn0,hnc,hcm,hcl,hfz⟩:=h.view (by omega);have hc:=h.cell;obtain ⟨a0,a1⟩:=hcl i hi;obtain ⟨b0,b1⟩:=hcl j hj;have z0:=hfz (i*2);have z1:=hfz (i*2+1);have z2:=hfz (j*2);have z3:=hfz (j*2+1);have HX:Hid (swp ps i j=(ps.set i (Z7 ps j)).set j (Z7 ps i)):=Z9 rfl;generalize Z7 ps i=p at *;generalize Z7 ps j=q at *;obtain ⟨f,z⟩:=p;obtain ⟨f',z'⟩:=q;simp only at a0 a1 b0 b1;have hi0:(0:Int)<=(i:Int):=by omega
 have hj0:(0:Int)<=(j:Int):=by omega
 have hi1:(i:Int)<(ps.length:Int):=by omega
 have hj1:(j:Int)<(ps.length:Int):=by omega
 obtain ⟨c1,y1⟩:∃ c,(w.setCell ⟨g,i*2,none⟩ (.int .i64 f')).cell? ⟨g,j*2,none⟩=some c:=RA b0
 obtain ⟨c2,y2⟩:∃ c,((w.setCell ⟨g,i*2,none⟩ (.int .i64 f')).setCell ⟨g,i*2+1,none⟩ (.int .i64 z')).cell? ⟨g,j*2+1,none⟩=some c:=by
  obtain ⟨c,hc9⟩:=RA (a:=⟨g,i*2,none⟩) (u:= .int .i64 f') b1;exact RA hc9
 obtain ⟨c3,y3⟩:∃ c,((w.setCell ⟨g,i*2,none⟩ (.int .i64 f')).setCell ⟨g,i*2+1,none⟩ (.int .i64 z')).cell? ⟨g,j*2,none⟩=some c:=by
  obtain ⟨c,hc9⟩:=RA (a:=⟨g,i*2,none⟩) (u:= .int .i64 f') b0;exact RA hc9
 clear hcl h hfz;go_enter func370,ntmps370;go_wp2_with fail
 go_region
 go_end0
 generalize hW:((((w.setCell ⟨g,i*2,none⟩ (.int .i64 f')).setCell ⟨g,i*2+1,none⟩ (.int .i64 z')).setCell ⟨g,j*2,none⟩ (.int .i64 f)).setCell ⟨g,j*2+1,none⟩ (.int .i64 z))=W;obtain ⟨h1,h2⟩:=(uh H).swapped rfl hne hi hj f z f' z' W hW.symm;exact ⟨rfl,by rw [uh HX];exact h1.later ((Z3 _ _).drew),h2.trans (Fr.of_below ((Z3 _ _).drew))⟩
theorem A0 {n₀ bx:Nat} {v v':Value} {ps qs:List Z4} (h:HeapIs n₀ bx v w ps) (hb:Fr bx v.ownBlock w W) (hc:W.cell? ⟨bx,0,none⟩=some v) (hf:W.frozen? ⟨bx,0,none⟩=false) (hr:EntsAt n₀ W v' qs) (ho:v'.ownBlock ≠ some bx) :
  HeapIs n₀ bx v' (W.setCell ⟨bx,0,none⟩ v') qs/\Fr bx v.ownBlock w (W.setCell ⟨bx,0,none⟩ v'):=by
 refine ⟨⟨World.cell?_setCell_same _ _ _ hc,by rw [World.frozen?_setCell];exact hf,by simpa using Y0 h.lt hb.size,hr.same fun k hk=>Below.heap_setCell W ⟨bx,0,none⟩ v' k (fun e=>ho (by rw [hk];exact congrArg some e)),ho⟩,hb.trans (Fr.box W v')⟩
theorem AM {n₀ bx:Nat}  {ps:List Z4} {m:Nat} (h:HeapIs n₀ bx v w ps) (hm:ps.length=m+1) :
  Calls prog 368 #[.pointer (some ⟨bx,0,none⟩)] w fun e w'=>e= .returned (.iface 78 (.agg #[.int .i64 (Z7 ps m).1,.int .i64 (Z7 ps m).2]))/\ ∃ v',HeapIs n₀ bx v' w' (ps.take m)/\v'.ownBlock=v.ownBlock/\Fr bx v.ownBlock w w':=by
 have H:=Z9 h;obtain ⟨g,cap,rfl,hne,hlt,hn0,hnc,hcm,hcl,hfz⟩:=h.view (by omega);have hc:=h.cell;have hbf:=h.free;have hbx:=h.lt;obtain ⟨a0,a1⟩:=hcl m (by omega);have HL:=Z9 (PA h);clear hcl h hfz;rw [hm] at hnc hc;generalize Z7 ps m=p at *;obtain ⟨f,z⟩:=p;simp only at a0 a1;have hn1:g ≠ w.heap.size:=VH hlt;have hn2:bx ≠ w.heap.size:=VH hbx;go_enter func368,ntmps368;go_wp2_with fail;refine (uh HL).mono ?_;rw [hm];rintro e w' ⟨rfl,h1⟩;subst w';go_wp2_with fail;go_ret;have hcut:=(uh H).row.cut (n:=m) (by omega) (by simp);obtain ⟨r1,r2⟩:=A0 (uh H) (Fr.refl _ _ _) (uh H).cell (uh H).free hcut (by simpa [Value.ownBlock] using hne);exact ⟨rfl,.slice (some ⟨g,0,none⟩) m cap,r1.later ((ba _ _)),rfl,r2.trans (Fr.of_below ((ba _ _)))⟩
theorem N8 {ops:Array Oper} {o:Oper} {a:Act} {K:Act->World->Prop} {Q:Exit->Act->World->Prop} {E:Prop} (hgd:o.guard=none) (s x:Operand) (t:TypeId) (ht:prog.underlying t=some (.slice 78))
  (ho:o.op= .call { callee:= .builtin .append,args:=#[s,x],argTypes:=#[t,t] }) (base:Nat)
  (v:Value) (ps:List Z4) (hs:a.eval s=v) (hown:EntsAt base w v ps)
  (ad:Addr) (c:Nat) (f z:Int) (hx:a.eval x= .slice (some ad) 1 c) (hnews:∀ (j:Nat) (u:Value),([.int .i64 f,.int .i64 z]:List Value)[j]?=some u->w.cell? (ad.add j)=some u)
  (hb:ps.length<=4000) (hbase:base<=w.heap.size)
  (h:∀ v' w',EntsAt base w' v' (ps++[(f,z)])->w.grownBy w' v.ownBlock->(v'.ownBlock=v.ownBlock\/v'.ownBlock=some w.heap.size)->K (a.put o.dst v') w') :
  if Region.wanted o (yielded ops a.tmps)=true then Oper.wp prog o a w K Q else E:=by
 have hw:Region.wanted o (yielded ops a.tmps)=true:=by simp [Region.wanted,hgd]
 rw [if_pos hw];obtain ⟨i0,hi,hz0,hz1,hz2⟩:=info_parts Vi
 obtain ⟨v',w',hr,h2,h3,_,h5⟩:=run_append_own_at (P:=prog) w base t o.type 78 i0 (.agg #[.int .i64 0,.int .i64 0]) 2 16 ht hi hz0 hz1 hz2 rfl (by decide) v ps.length _ hown ad 1 c [.int .i64 f,.int .i64 z] rfl
  hnews (by simp [Value.oneCell']) (by simp only [maxLen];omega) (by omega) hbase
 unfold Oper.wp execOp;simp only [ho,resolve,invoke,builtin,Sem.run_bind,Sem.run_pure,Result.andThen_ok,List.map_toArray,List.map_cons,List.map_nil,hs,hx,hr];refine h v' w' ?_ h3 h5;unfold EntsAt;rw [Qt,List.length_append];exact h2
theorem zG (w:World) (u u':Value) (t:TypeId) (b:Nat) (hb:b=w.heap.size):∀ (j:Nat) (x:Value),([u,u']:List Value)[j]?=some x->(w.alloc (.cells #[u,u'] t)).cell? ((⟨b,0,none⟩:Addr).add j)=some x:=by
 subst hb;intro j x hj
 match j,hj with
 | 0,hj=>simp at hj;subst hj;simp [Addr.add]
 | 1,hj=>simp at hj;subst hj;simp [Addr.add]
theorem Lq (f z:Int) (w:World):(Instr.typeAssert (.iface 78 (.agg #[.int .i64 f,.int .i64 z])) 20 78 false).run prog w= .ok (.agg #[.int .i64 f,.int .i64 z]) w:=by kernel_rfl
theorem HeapIs.after {n₀ bx:Nat} {w W W1:World} {ps:List Z4} (h:HeapIs n₀ bx v w ps) (hb:Below w.heap.size w W) (hg:W.grownBy W1 v.ownBlock) :
  W1.cell? ⟨bx,0,none⟩=some v/\W1.frozen? ⟨bx,0,none⟩=false/\Fr bx v.ownBlock w W1:=by
 have hk:=hg.block bx (Y0 h.lt hb.size) (fun e=>h.off e.symm);exact ⟨(World.cell?_of_block (w:=W) (a:=⟨bx,0,none⟩) hk).trans ((hb.cell (p:=⟨bx,0,none⟩) h.lt).trans h.cell),(World.frozen?_of_block (w:=W) (a:=⟨bx,0,none⟩) hk).trans ((hb.frozen (p:=⟨bx,0,none⟩) h.lt).trans h.free),(Fr.of_below hb).trans (Fr.of_grown hg)⟩
theorem Cn {n₀ bx:Nat}  {ps:List Z4} (f z:Int) (h:HeapIs n₀ bx v w ps) (hl:ps.length<=1000) (hn:n₀<=w.heap.size) :
  Calls prog 369 #[.pointer (some ⟨bx,0,none⟩),.iface 78 (.agg #[.int .i64 f,.int .i64 z])] w fun e w'=>e= .returned (.tuple #[])/\ ∃ v',HeapIs n₀ bx v' w' (ps++[(f,z)])/\(v'.ownBlock=v.ownBlock\/ ∃ k,v'.ownBlock=some k/\w.heap.size<=k)/\Fr bx v.ownBlock w w':=by
 have H:=Z9 h;obtain ⟨a,cap,rfl⟩:=h.row.shape;have hc:=h.cell;have hbf:=h.free;have hbx:=h.lt;clear h;have hn2:bx ≠ w.heap.size:=VH hbx;have hta:=Lq f z;go_enter func369,ntmps369;go_wp2_with fail
 go_region_law (refine N8 rfl (.tmp 7) (.tmp 10) 263 underlying263 rfl n₀ _ ps rfl ((uh H).row.later (((ba _ _)).drew)) ⟨w.heap.size,0,none⟩ _ f z rfl (zG _ _ _ _ _ rfl) (by omega) (by simp;omega) ?_;intro v' w1 hown hgrow hat;obtain ⟨hc1,hf1,hfr⟩:=(uh H).after (((ba _ _)).drew) hgrow;obtain ⟨a1,cap1,rfl⟩:=hown.shape)
 all_goals
  go_end0
  have hoff:(Value.slice a1 (ps++[(f,z)]).length cap1).ownBlock ≠ some bx:=by
   rcases hat with e | e
   ·rw [e];exact (uh H).off
   ·rw [e];simp;omega
  obtain ⟨r1,r2⟩:=A0 (uh H) hfr hc1 hf1 hown hoff;have hle:(ps++[(f,z)]).length=ps.length+1:=by simp
  rw [hle] at r1 r2 hat;refine ⟨rfl,_,r1,?_,r2⟩
  rcases hat with e | e
  ·exact .inl e
  ·exact .inr ⟨_,e,by simp⟩
theorem yR (a : Addr) (w : World) : (method 414 238 (.pointer (some a)) "Len").run prog w = .ok (299, .pointer (some a)) w := by kernel_rfl
theorem Ay (a : Addr) (w : World) : (method 414 238 (.pointer (some a)) "Less").run prog w = .ok (367, .pointer (some a)) w := by kernel_rfl
theorem Ex (a : Addr) (w : World) : (method 414 238 (.pointer (some a)) "Swap").run prog w = .ok (370, .pointer (some a)) w := by kernel_rfl
theorem yF (a : Addr) (w : World) : (method 414 238 (.pointer (some a)) "Push").run prog w = .ok (369, .pointer (some a)) w := by kernel_rfl
theorem yn (a : Addr) (w : World) : (method 414 238 (.pointer (some a)) "Pop").run prog w = .ok (368, .pointer (some a)) w := by kernel_rfl
theorem yM {n₀ bx:Nat}  {ps:List Z4} {n j0:Nat} (h:HeapIs n₀ bx v w ps) (hu:UpTo ps n j0) (hj0:j0<n) (hn:n<=ps.length) (hl:ps.length<=1000) :
  Calls prog 298 #[.iface 238 (.pointer (some ⟨bx,0,none⟩)),.int .i64 j0] w fun e w'=>e= .returned (.tuple #[])/\ ∃ qs,HeapIs n₀ bx v w' qs/\HeapTo qs n/\qs.Perm ps/\(∀ k,n<=k->Z7 qs k=Z7 ps k)/\Fr bx v.ownBlock w w':=by
 have H:=Z9 h;have HU:=Z9 hu;clear h hu;go_enter func298,ntmps298;go_wp2_with fail
 go_loopw [1,4] (fun q _ wr=> ∃ (j:Nat) (qs:List Z4),j<n/\q= .int .i64 j/\HeapIs n₀ bx v wr qs/\UpTo qs n j/\qs.Perm ps/\(∀ k,n<=k->Z7 qs k=Z7 ps k)/\Fr bx v.ownBlock w wr) (fun q _ _=>(intOf q).toNat)
 case atStart=>exact ⟨j0,ps,hj0,rfl,uh H,uh HU,List.Perm.refl _,fun _ _=>rfl,Fr.refl _ _ _⟩
 case round=>
  obtain ⟨j,qs,hj,rfl,hh,hup,hperm,hsame,hfr⟩:=hrel;have hql:qs.length=ps.length:=hperm.length_eq;have Hh:=Z9 hh;have Hup:=Z9 hup;have Hpe:=Z9 hperm;have Hsa:=Z9 hsame;have Hfr:=Z9 hfr;clear hh hup hperm hsame hfr;by_cases hz:j=0
  ·subst hz
   go_wp2_with fail
   go_end0
   exact ⟨rfl,qs,uh Hh,(uh Hup).done (.inl rfl),uh Hpe,uh Hsa,uh Hfr⟩
  ·obtain ⟨i,hi⟩:∃ i,i=(j-1) / 2:=⟨_,rfl⟩
   have hj1:(0:Int)<=(j:Int)-1:=by omega
   have hpar:((j:Int)-1) / 2=(i:Int):=by omega
   have hij:((i:Int) ==(j:Int))=false:=beq_eq_false_iff_ne.2 (by omega);have hm1:=Ay ⟨bx,0,none⟩;have hm2:=Ex ⟨bx,0,none⟩;have hjl:j<qs.length:=by omega
   have hil:i<qs.length:=by omega
   have Hless:=Z9 (Rn (uh Hh) hjl hil);have Hi:=Z9 hi;clear hi;cases hlt:ltB (Z7 qs j) (Z7 qs i)
   ·go_wp2_with fail
    refine (uh Hless).mono ?_;rw [hlt];rintro e w1 ⟨rfl,hb1⟩;have H1:=Z9 ((uh Hh).later hb1);have F1:=Z9 ((uh Hfr).trans (Fr.of_below hb1));clear hb1;go_wp2_with fail
    go_end0
    exact ⟨rfl,qs,uh H1,(uh Hup).done (.inr (by rw [<-uh Hi];exact hlt)),uh Hpe,uh Hsa,uh F1⟩
   ·go_wp2_with fail
    refine (uh Hless).mono ?_;rw [hlt];rintro e w1 ⟨rfl,hb1⟩;have H1:=Z9 ((uh Hh).later hb1);have F1:=Z9 ((uh Hfr).trans (Fr.of_below hb1));clear hb1;go_wp2_with fail;refine (RE (uh H1) hil hjl).mono ?_;rintro e w2 ⟨rfl,hh2,hf2⟩;have H2:=Z9 hh2;have F2:=Z9 ((uh F1).trans hf2);clear hh2 hf2;have HS:Hid (UpTo (swp qs i j) n i):=Z9 (by rw [uh Hi];exact (uh Hup).step (by omega) hj (by omega) (by rw [<-uh Hi];exact hlt));have HA:Hid (∀ k,n<=k->Z7 (swp qs i j) k=Z7 ps k):=Z9 (fun k hk=>by rw [RF hil hjl,if_neg (by omega),if_neg (by omega)];exact uh Hsa k hk);go_wp2_with fail;go_roundw
    case rel=>exact ⟨i,swp qs i j,by omega,rfl,uh H2,uh HS,(RG hil hjl).trans (uh Hpe),uh HA,uh F2⟩
    case measure=>exact ms
def DownPost (n₀ bx:Nat) (v:Value) (w:World) (ps:List Z4) (n i0:Nat) (e:Ending) (w':World):Prop:=
 ∃ (b:Bool) (qs:List Z4),e= .returned (.bool b)/\HeapIs n₀ bx v w' qs/\qs.Perm ps/\(∀ k,n<=k->Z7 qs k=Z7 ps k)/\Fr bx v.ownBlock w w'/\(b=true->HeapTo qs n)/\(b=false->UpTo qs n i0)
theorem Pt {n₀ bx:Nat}  {ps qs:List Z4} {n i0 i:Nat} (hi:i0<=i) (hh:HeapIs n₀ bx v wr qs) (hdn:DnTo qs n i0 i) (hp:qs.Perm ps) (hs:∀ k,n<=k->Z7 qs k=Z7 ps k) (hf:Fr bx v.ownBlock w wr)
  (hd:∀ k,0<k->k<n->(k-1) / 2=i->ltB (Z7 qs k) (Z7 qs i)=false):DownPost n₀ bx v w ps n i0 (.returned (.bool (decide (i0<i)))) wr:=by
 refine ⟨_,qs,rfl,hh,hp,hs,hf,fun h=> ?_,fun h=> ?_⟩
 ·have:=of_decide_eq_true h
  exact hdn.moved (by omega) hd
 ·have:=of_decide_eq_false h
  obtain rfl:i=i0:=by omega
  exact hdn.still hd
theorem kid {k i:Nat} (h0:0<k) (h:(k-1) / 2=i):k=2*i+1\/k=2*i+2:=by omega
theorem zR {n₀ bx:Nat}  {ps:List Z4} {n i0:Nat} (h:HeapIs n₀ bx v w ps) (hu:DnTo ps n i0 i0) (hi0:i0<=n) (hn:n<=ps.length) (hl:ps.length<=1000) :
  Calls prog 323 #[.iface 238 (.pointer (some ⟨bx,0,none⟩)),.int .i64 i0,.int .i64 n] w (DownPost n₀ bx v w ps n i0):=by
 have H:=Z9 h;have HU:=Z9 hu;have hm1:=Ay ⟨bx,0,none⟩;have hm2:=Ex ⟨bx,0,none⟩;clear h hu;go_enter func323,ntmps323;go_wp2_with fail
 go_loopw [7] (fun q wr=> ∃ (i:Nat) (qs:List Z4),i0<=i/\i<=n/\q= .int .i64 i/\HeapIs n₀ bx v wr qs/\DnTo qs n i0 i/\qs.Perm ps/\(∀ k,n<=k->Z7 qs k=Z7 ps k)/\Fr bx v.ownBlock w wr) (fun q _=>n-(intOf q).toNat)
 case atStart=>exact ⟨i0,ps,Z0 _,hi0,rfl,uh H,uh HU,List.Perm.refl _,fun _ _=>rfl,Fr.refl _ _ _⟩
 case round=>
  obtain ⟨i,qs,hii,hin,rfl,hh,hdn,hperm,hsame,hfr⟩:=hrel;have hql:qs.length=ps.length:=hperm.length_eq;have Hh:=Z9 hh;have Hdn:=Z9 hdn;have Hpe:=Z9 hperm;have Hsa:=Z9 hsame;have Hfr:=Z9 hfr;clear hh hdn hperm hsame hfr;obtain ⟨j1,hj1⟩:∃ j1,j1=2*i+1:=⟨_,rfl⟩
  obtain ⟨j2,hj2⟩:∃ j2,j2=2*i+2:=⟨_,rfl⟩
  have e1:2*(i:Int)+1=(j1:Int):=by omega
  have e2:(j1:Int)+1=(j2:Int):=by omega
  have Hj1:=Z9 hj1;have Hj2:=Z9 hj2;by_cases hn1:n<=j1
  ·have hg1:(n:Int)<=(j1:Int):=by omega
   clear hj1 hj2;go_wp2_with fail;go_ret;exact Pt hii (uh Hh) (uh Hdn) (uh Hpe) (uh Hsa) (uh Hfr) (fun k k0 kn kp=>by have:=kid k0 kp;have:=uh Hj1;omega)
  ·have hg1:¬ (n:Int)<=(j1:Int):=by omega
   have hg2:¬ (j1:Int)<0:=by omega
   have hil:i<qs.length:=by omega
   have hjl:j1<qs.length:=by omega
   have hij1:i<j1:=by omega
   by_cases hn2:j2<n
   ·have hg3:(j2:Int)<(n:Int):=by omega
    have hkl:j2<qs.length:=by omega
    have hij2:i<j2:=by omega
    clear hj1 hj2;have HL:=Z9 (Rn (uh Hh) hkl hjl);cases hlt:ltB (Z7 qs j2) (Z7 qs j1)
    ·have HM:Hid (∀ k,0<k->k<n->(k-1) / 2=i->ltB (Z7 qs k) (Z7 qs j1)=false):=Z9 (fun k k0 kn kp=>by
      have e3:=uh Hj1;have e4:=uh Hj2
      rcases kid k0 kp with e | e
      ·rw [show k=j1 by omega];exact PD _
      ·rw [show k=j2 by omega];exact hlt)
     have HP:Hid ((j1-1) / 2=i):=Z9 (by have:=uh Hj1;omega);go_wp2_with fail;refine (uh HL).mono ?_;rw [hlt];rintro e w1 ⟨rfl,hb1⟩;have H1:=Z9 ((uh Hh).later hb1);have F1:=Z9 ((uh Hfr).trans (Fr.of_below hb1));clear hb1 hlt HL Hh Hfr;have HL2:=Z9 (Rn (uh H1) hjl hil);cases hlt2:ltB (Z7 qs j1) (Z7 qs i)
     ·go_wp2_with fail
      refine (uh HL2).mono ?_;rw [hlt2];rintro e w2 ⟨rfl,hb2⟩;have H2:=Z9 ((uh H1).later hb2);have F2:=Z9 ((uh F1).trans (Fr.of_below hb2));clear hb2 HL2;go_wp2_with fail;go_ret;exact Pt hii (uh H2) (uh Hdn) (uh Hpe) (uh Hsa) (uh F2) (fun k k0 kn kp=>Sm hlt2 (uh HM k k0 kn kp))
     ·go_wp2_with fail
      refine (uh HL2).mono ?_;rw [hlt2];rintro e w2 ⟨rfl,hb2⟩;have H2:=Z9 ((uh H1).later hb2);have F2:=Z9 ((uh F1).trans (Fr.of_below hb2));clear hb2 HL2;go_wp2_with fail;refine (RE (uh H2) hil hjl).mono ?_;rintro e w3 ⟨rfl,hh3,hf3⟩;have H3:=Z9 hh3;have F3:=Z9 ((uh F2).trans hf3);clear hh3 hf3;have HS:Hid (DnTo (swp qs i j1) n i0 j1):=Z9 ((uh Hdn).step hii (by omega) (uh HP) (by omega) (by omega) hlt2 (uh HM));have HA:Hid (∀ k,n<=k->Z7 (swp qs i j1) k=Z7 ps k):=Z9 (fun k hk=>by rw [RF hil hjl,if_neg (by omega),if_neg (by omega)];exact uh Hsa k hk);go_wp2_with fail;go_roundw
      case rel=>exact ⟨j1,swp qs i j1,by omega,by omega,rfl,uh H3,uh HS,(RG hil hjl).trans (uh Hpe),uh HA,uh F3⟩
      case measure=>exact ms
    ·have HM:Hid (∀ k,0<k->k<n->(k-1) / 2=i->ltB (Z7 qs k) (Z7 qs j2)=false):=Z9 (fun k k0 kn kp=>by
      have e3:=uh Hj1;have e4:=uh Hj2
      rcases kid k0 kp with e | e
      ·rw [show k=j1 by omega];exact QI hlt
      ·rw [show k=j2 by omega];exact PD _)
     have HP:Hid ((j2-1) / 2=i):=Z9 (by have:=uh Hj2;omega);go_wp2_with fail;refine (uh HL).mono ?_;rw [hlt];rintro e w1 ⟨rfl,hb1⟩;have H1:=Z9 ((uh Hh).later hb1);have F1:=Z9 ((uh Hfr).trans (Fr.of_below hb1));clear hb1 hlt HL Hh Hfr;have HL2:=Z9 (Rn (uh H1) hkl hil);cases hlt2:ltB (Z7 qs j2) (Z7 qs i)
     ·go_wp2_with fail
      refine (uh HL2).mono ?_;rw [hlt2];rintro e w2 ⟨rfl,hb2⟩;have H2:=Z9 ((uh H1).later hb2);have F2:=Z9 ((uh F1).trans (Fr.of_below hb2));clear hb2 HL2;go_wp2_with fail;go_ret;exact Pt hii (uh H2) (uh Hdn) (uh Hpe) (uh Hsa) (uh F2) (fun k k0 kn kp=>Sm hlt2 (uh HM k k0 kn kp))
     ·go_wp2_with fail
      refine (uh HL2).mono ?_;rw [hlt2];rintro e w2 ⟨rfl,hb2⟩;have H2:=Z9 ((uh H1).later hb2);have F2:=Z9 ((uh F1).trans (Fr.of_below hb2));clear hb2 HL2;go_wp2_with fail;refine (RE (uh H2) hil hkl).mono ?_;rintro e w3 ⟨rfl,hh3,hf3⟩;have H3:=Z9 hh3;have F3:=Z9 ((uh F2).trans hf3);clear hh3 hf3;have HS:Hid (DnTo (swp qs i j2) n i0 j2):=Z9 ((uh Hdn).step hii (by omega) (uh HP) (by omega) (by omega) hlt2 (uh HM));have HA:Hid (∀ k,n<=k->Z7 (swp qs i j2) k=Z7 ps k):=Z9 (fun k hk=>by rw [RF hil hkl,if_neg (by omega),if_neg (by omega)];exact uh Hsa k hk);go_wp2_with fail;go_roundw
      case rel=>exact ⟨j2,swp qs i j2,by omega,by omega,rfl,uh H3,uh HS,(RG hil hkl).trans (uh Hpe),uh HA,uh F3⟩
      case measure=>exact ms
   ·have hg3:¬ (j2:Int)<(n:Int):=by omega
    have HM:Hid (∀ k,0<k->k<n->(k-1) / 2=i->ltB (Z7 qs k) (Z7 qs j1)=false):=Z9 (fun k k0 kn kp=>by
      have e3:=uh Hj1;have e4:=uh Hj2
      rcases kid k0 kp with e | e
      ·rw [show k=j1 by omega];exact PD _
      ·omega)
    have HP:Hid ((j1-1) / 2=i):=Z9 (by have:=uh Hj1;omega);clear hj1 hj2;have HL2:=Z9 (Rn (uh Hh) hjl hil);cases hlt2:ltB (Z7 qs j1) (Z7 qs i)
    ·go_wp2_with fail
     refine (uh HL2).mono ?_;rw [hlt2];rintro e w2 ⟨rfl,hb2⟩;have H2:=Z9 ((uh Hh).later hb2);have F2:=Z9 ((uh Hfr).trans (Fr.of_below hb2));clear hb2 HL2;go_wp2_with fail;go_ret;exact Pt hii (uh H2) (uh Hdn) (uh Hpe) (uh Hsa) (uh F2) (fun k k0 kn kp=>Sm hlt2 (uh HM k k0 kn kp))
    ·go_wp2_with fail
     refine (uh HL2).mono ?_;rw [hlt2];rintro e w2 ⟨rfl,hb2⟩;have H2:=Z9 ((uh Hh).later hb2);have F2:=Z9 ((uh Hfr).trans (Fr.of_below hb2));clear hb2 HL2;go_wp2_with fail;refine (RE (uh H2) hil hjl).mono ?_;rintro e w3 ⟨rfl,hh3,hf3⟩;have H3:=Z9 hh3;have F3:=Z9 ((uh F2).trans hf3);clear hh3 hf3;have HS:Hid (DnTo (swp qs i j1) n i0 j1):=Z9 ((uh Hdn).step hii (by omega) (uh HP) (by omega) (by omega) hlt2 (uh HM));have HA:Hid (∀ k,n<=k->Z7 (swp qs i j1) k=Z7 ps k):=Z9 (fun k hk=>by rw [RF hil hjl,if_neg (by omega),if_neg (by omega)];exact uh Hsa k hk);go_wp2_with fail;go_roundw
     case rel=>exact ⟨j1,swp qs i j1,by omega,by omega,rfl,uh H3,uh HS,(RG hil hjl).trans (uh Hpe),uh HA,uh F3⟩
     case measure=>exact ms
end Go.Proofs.YtgdpaigcmoifbaaGreat
