/- Part 8 of what the proof rests on. No condition but those that a theorem names. -/
import Derived.Test.YtgdpaigcmoifbaaGreatDoorXr03
import Derived.Deep.RegionHeld3
import Derived.Deep.DrawnRows
import Derived.BigRegion
import Derived.Deep.RegionLawGrows
set_option maxHeartbeats 8000000
set_option maxRecDepth 100000
namespace Go.Proofs.YtgdpaigcmoifbaaGreatDoor
open Go.ChangeShapes Go.WideShapes Go.ChangeAt Go.RowKit Go.Sort Go.Proofs.Tryz
set_option linter.unusedVariables false
variable {w w' w0 w1 w2 w3 w₀ wr W W' X A B C : World} {v v0 v1 v2 v3 v4 u u0 u1 u2 u3 u4 : Value}
structure Fr (bx:Nat) (r:Option Nat) (w w':World):Prop where
 os:w'.os=w.os
 tape:w'.tape=w.tape
 output:w'.output=w.output
 size:w.heap.size<=w'.heap.size
 block:∀ k,k<w.heap.size->k ≠ bx->r ≠ some k->w'.heap[k]?=w.heap[k]?
theorem Fr.refl (bx:Nat) (r:Option Nat) (w:World):Fr bx r w w:=⟨rfl,rfl,rfl,ZY _,fun _ _ _ _=>rfl⟩
theorem Fr.trans {bx:Nat} {r:Option Nat} {a b c:World} (h:Fr bx r a b) (k:Fr bx r b c):Fr bx r a c:=
 ⟨k.os.trans h.os,k.tape.trans h.tape,k.output.trans h.output,YV h.size k.size,fun i hi hn hr=>(k.block i (ZD hi h.size) hn hr).trans (h.block i hi hn hr)⟩
theorem Fr.of_below {bx:Nat} {r:Option Nat} (h:Below w.heap.size w w'):Fr bx r w w':=⟨h.os,h.tape,h.output,h.size,fun k hk _ _=>h.block k hk⟩
theorem Fr.of_grown {bx:Nat} {r:Option Nat} (h:w.grownBy w' r):Fr bx r w w':=⟨h.os,h.tape,h.output,h.size,fun k hk _ hr=>h.block k hk (fun e=>hr e.symm)⟩
theorem Fr.box {bx:Nat} {r:Option Nat} (w:World) (v:Value):Fr bx r w (w.setCell ⟨bx,0,none⟩ v):=⟨rfl,rfl,rfl,by simp,fun k hk hn _=>Below.heap_setCell w ⟨bx,0,none⟩ v k hn⟩
theorem Fr.below {bx B:Nat} {r:Option Nat} (h:Fr bx r w w') (hx:B<=bx) (hr:∀ k,r=some k->B<=k) (hs:B<=w.heap.size):Below B w w':=
 ⟨h.os,h.tape,h.output,h.size,fun k hk=>h.block k (by omega) (by omega) (fun e=>by have:=hr k e;omega)⟩
theorem EntsAt.fr {n₀ bx:Nat} {r:Option Nat}  {ps:List Z6} (h:EntsAt n₀ w v ps) (hf:Fr bx r w w') (h1:v.ownBlock ≠ some bx) (h2:∀ k,v.ownBlock=some k->r ≠ some k):EntsAt n₀ w' v ps:=
 h.same fun k hk=>hf.block k (h.lt hk).2 (fun e=>h1 (by rw [hk,e])) (h2 k hk)
structure HeapIs (n₀ bx:Nat) (v:Value) (w:World) (ps:List Z6):Prop where
 cell:w.cell? ⟨bx,0,none⟩=some v
 free:w.frozen? ⟨bx,0,none⟩=false
 lt:bx<w.heap.size
 row:EntsAt n₀ w v ps
 off:v.ownBlock ≠ some bx
theorem HeapIs.later {n₀ bx:Nat}  {ps:List Z6} (h:HeapIs n₀ bx v w ps) (hb:Below w.heap.size w w'):HeapIs n₀ bx v w' ps:=
 ⟨(hb.cell (p:=⟨bx,0,none⟩) h.lt).trans h.cell,(hb.frozen (p:=⟨bx,0,none⟩) h.lt).trans h.free,ZD h.lt hb.size,h.row.later hb,h.off⟩
theorem HeapIs.view {n₀ bx:Nat}  {ps:List Z6} (h:HeapIs n₀ bx v w ps) (hl:0<ps.length):∃ g cap,v= .slice (some ⟨g,0,none⟩) ps.length cap/\g ≠ bx/\g<w.heap.size/\n₀<=g/\ps.length<=cap/\cap<=9223372036854775807/\
  (∀ k,k<ps.length->w.cell? ⟨g,k*2,none⟩=some (.int .i64 (Z7 ps k).1)/\w.cell? ⟨g,k*2+1,none⟩=some (.int .i64 (Z7 ps k).2))/\(∀ k,w.frozen? ⟨g,k,none⟩=false):=by
 have hr:=h.row
 rcases h.row.2 with ⟨hv,hz⟩ | ⟨g,cap,cur,rfl,hb,hg,hnc,hcm,r⟩
 ·omega
 ·obtain ⟨a,cap',he,_,_,hrr⟩:=hr.pc
  cases he;refine ⟨g,cap,rfl,fun e=>h.off (by rw [e];rfl),(Array.getElem?_eq_some_iff.1 hg).1,hb,hnc,by unfold maxLen at hcm;omega,?_,fun k=>World.ownsRow.frozenAt hr k⟩
  rcases hrr with h0 | ⟨b,off,he,_,hcl⟩
  ·rw [h0] at hl;simp at hl
  ·cases he
   intro k hk;have:=hcl k hk;simpa using this
theorem Rp {n₀ bx:Nat}  {ps:List Z6} (h:HeapIs n₀ bx v w ps):cE 248 #[.pointer (some ⟨bx,0,none⟩)] w (.int .i64 ps.length):=by
 have hc:=h.cell;obtain ⟨a,cap,rfl⟩:=h.row.shape;go_enter func248,ntmps248;go_wp2_with fail;go_ret;exact ⟨rfl,rfl⟩
theorem Ti {n₀ bx:Nat}  {ps:List Z6} (h:HeapIs n₀ bx v w ps) {i j:Nat} (hi:i<ps.length) (hj:j<ps.length) :
  cB 328 #[.pointer (some ⟨bx,0,none⟩),.int .i64 i,.int .i64 j] w (.bool (ltB (Z7 ps i) (Z7 ps j))):=by
 obtain ⟨g,cap,rfl,hne,hlt,_,hnc,hcm,hcl,_⟩:=h.view (by omega);have hc:=h.cell;obtain ⟨a0,a1⟩:=hcl i hi;obtain ⟨b0,b1⟩:=hcl j hj;generalize Z7 ps i=p at *;generalize Z7 ps j=q at *;obtain ⟨f,z⟩:=p;obtain ⟨f',z'⟩:=q;simp only at a0 a1 b0 b1;have hi0:(0:Int)<=(i:Int):=by omega
 have hj0:(0:Int)<=(j:Int):=by omega
 have hi1:(i:Int)<(ps.length:Int):=by omega
 have hj1:(j:Int)<(ps.length:Int):=by omega
 have k0:=Z1 a0;have k1:=Z1 a1;have k2:=Z1 b0;have k3:=Z1 b1;have k4:=Z1 hc;clear hcl h hc a0 a1 b0 b1;go_enter func328,ntmps328;go_wp2_with fail;refine wq ?_
 repeat (go_big_quiet_step (exact ZX (Xl _ _ _ _ _)))
 refine wpQuiet_nil ?_;intro _ hw';obtain ⟨⟨dq,osq⟩,hw''⟩:=hw';subst hw'';go_wp2_with fail;go_ret;exact ⟨rfl,Z2 _ _ _⟩
theorem Tx {a p:Addr} (h:w.cell? p=some v):∃ c,(w.setCell a u).cell? p=some c:=by
 by_cases e:p=a
 ·subst e;exact ⟨_,World.cell?_setCell_same _ _ _ h⟩
 ·exact ⟨v,by rw [World.cell?_setCell_other _ _ _ _ (fun e2=>e e2.symm)];exact h⟩
theorem HeapIs.swapped {n₀ bx g cap n:Nat} {ps:List Z6} (h:HeapIs n₀ bx (.slice (some ⟨g,0,none⟩) n cap) w ps) (hn:n=ps.length) (hne:g ≠ bx) {i j:Nat} (hi:i<ps.length) (hj:j<ps.length) (f z f' z':Int) (W:World) (hW:W=((((w.setCell ⟨g,i*2,none⟩ (.int .i64 f')).setCell ⟨g,i*2+1,none⟩ (.int .i64 z')).setCell ⟨g,j*2,none⟩ (.int .i64 f)).setCell ⟨g,j*2+1,none⟩ (.int .i64 z))) :
  HeapIs n₀ bx (.slice (some ⟨g,0,none⟩) n cap) W ((ps.set i (f',z')).set j (f,z))/\Fr bx (some g) w W:=by
 subst hn;have r1:=UB h.row (i*2) (.int .i64 f') (.int .i64 z');rw [Du _ _ _ _ hi] at r1;have r2:=UB r1.1 (j*2) (.int .i64 f) (.int .i64 z);rw [Du _ _ _ _ (by simpa using hj),<-hW] at r2;have hg:=XS r1.2 r2.2;clear r1 hW;have hlt:=h.lt;have hb:=hg.block bx hlt (by simpa using Ne.symm hne);refine ⟨⟨?_,?_,ZD hlt hg.size,?_,h.off⟩,Fr.of_grown hg⟩
 ·exact (World.cell?_of_block (w:=w) (a:=⟨bx,0,none⟩) hb).trans h.cell
 ·exact (World.frozen?_of_block (w:=w) (a:=⟨bx,0,none⟩) hb).trans h.free
 ·unfold EntsAt
  rw [UX,UX];exact r2.1
theorem Ty {n₀ bx:Nat}  {ps:List Z6} (h:HeapIs n₀ bx v w ps) {i j:Nat} (hi:i<ps.length) (hj:j<ps.length) :
  Calls prog 331 #[.pointer (some ⟨bx,0,none⟩),.int .i64 i,.int .i64 j] w fun e w'=>e= .returned (.tuple #[])/\HeapIs n₀ bx v w' (swp ps i j)/\Fr bx v.ownBlock w w':=by
 have H:=Z9 h;obtain ⟨g,cap,rfl,hne,hlt,hn0,hnc,hcm,hcl,hfz⟩:=h.view (by omega);have hc:=h.cell;obtain ⟨a0,a1⟩:=hcl i hi;obtain ⟨b0,b1⟩:=hcl j hj;have z0:=hfz (i*2);have z1:=hfz (i*2+1);have z2:=hfz (j*2);have z3:=hfz (j*2+1);have HX:Hid (swp ps i j=(ps.set i (Z7 ps j)).set j (Z7 ps i)):=Z9 rfl;generalize Z7 ps i=p at *;generalize Z7 ps j=q at *;obtain ⟨f,z⟩:=p;obtain ⟨f',z'⟩:=q;simp only at a0 a1 b0 b1;have hi0:(0:Int)<=(i:Int):=by omega
 have hj0:(0:Int)<=(j:Int):=by omega
 have hi1:(i:Int)<(ps.length:Int):=by omega
 have hj1:(j:Int)<(ps.length:Int):=by omega
 obtain ⟨c1,y1⟩:∃ c,(w.setCell ⟨g,i*2,none⟩ (.int .i64 f')).cell? ⟨g,j*2,none⟩=some c:=Tx b0
 obtain ⟨c2,y2⟩:∃ c,((w.setCell ⟨g,i*2,none⟩ (.int .i64 f')).setCell ⟨g,i*2+1,none⟩ (.int .i64 z')).cell? ⟨g,j*2+1,none⟩=some c:=by
  obtain ⟨c,hc9⟩:=Tx (a:=⟨g,i*2,none⟩) (u:= .int .i64 f') b1;exact Tx hc9
 obtain ⟨c3,y3⟩:∃ c,((w.setCell ⟨g,i*2,none⟩ (.int .i64 f')).setCell ⟨g,i*2+1,none⟩ (.int .i64 z')).cell? ⟨g,j*2,none⟩=some c:=by
  obtain ⟨c,hc9⟩:=Tx (a:=⟨g,i*2,none⟩) (u:= .int .i64 f') b0;exact Tx hc9
 clear hcl h hfz;go_enter func331,ntmps331;go_wp2_with fail
 go_region
 go_end0
 generalize hW:((((w.setCell ⟨g,i*2,none⟩ (.int .i64 f')).setCell ⟨g,i*2+1,none⟩ (.int .i64 z')).setCell ⟨g,j*2,none⟩ (.int .i64 f)).setCell ⟨g,j*2+1,none⟩ (.int .i64 z))=W;obtain ⟨h1,h2⟩:=(uh H).swapped rfl hne hi hj f z f' z' W hW.symm;exact ⟨rfl,by rw [uh HX];exact h1.later ((Z0 _ _).drew),h2.trans (Fr.of_below ((Z0 _ _).drew))⟩
theorem EH {n₀ bx:Nat} {v v':Value} {ps qs:List Z6} (h:HeapIs n₀ bx v w ps) (hb:Fr bx v.ownBlock w W) (hc:W.cell? ⟨bx,0,none⟩=some v) (hf:W.frozen? ⟨bx,0,none⟩=false) (hr:EntsAt n₀ W v' qs) (ho:v'.ownBlock ≠ some bx) :
  HeapIs n₀ bx v' (W.setCell ⟨bx,0,none⟩ v') qs/\Fr bx v.ownBlock w (W.setCell ⟨bx,0,none⟩ v'):=by
 refine ⟨⟨World.cell?_setCell_same _ _ _ hc,by rw [World.frozen?_setCell];exact hf,by simpa using ZD h.lt hb.size,hr.same fun k hk=>Below.heap_setCell W ⟨bx,0,none⟩ v' k (fun e=>ho (by rw [hk];exact congrArg some e)),ho⟩,hb.trans (Fr.box W v')⟩
theorem Ex {n₀ bx:Nat}  {ps:List Z6} {m:Nat} (h:HeapIs n₀ bx v w ps) (hm:ps.length=m+1) :
  Calls prog 329 #[.pointer (some ⟨bx,0,none⟩)] w fun e w'=>e= .returned (.iface 138 (.agg #[.int .i64 (Z7 ps m).1,.int .i64 (Z7 ps m).2]))/\ ∃ v',HeapIs n₀ bx v' w' (ps.take m)/\v'.ownBlock=v.ownBlock/\Fr bx v.ownBlock w w':=by
 have H:=Z9 h;obtain ⟨g,cap,rfl,hne,hlt,hn0,hnc,hcm,hcl,hfz⟩:=h.view (by omega);have hc:=h.cell;have hbf:=h.free;have hbx:=h.lt;obtain ⟨a0,a1⟩:=hcl m (by omega);have HL:=Z9 (Rp h);clear hcl h hfz;rw [hm] at hnc hc;generalize Z7 ps m=p at *;obtain ⟨f,z⟩:=p;simp only at a0 a1;have hn1:g ≠ w.heap.size:=Vd hlt;have hn2:bx ≠ w.heap.size:=Vd hbx;go_enter func329,ntmps329;go_wp2_with fail;refine (uh HL).mono ?_;rw [hm];rintro e w' ⟨rfl,h1⟩;subst w';go_wp2_with fail;go_ret;have hcut:=(uh H).row.cut (n:=m) (by omega) (by simp);obtain ⟨r1,r2⟩:=EH (uh H) (Fr.refl _ _ _) (uh H).cell (uh H).free hcut (by simpa [Value.ownBlock] using hne);exact ⟨rfl,.slice (some ⟨g,0,none⟩) m cap,r1.later ((ba _ _)),rfl,r2.trans (Fr.of_below ((ba _ _)))⟩
theorem P2 {ops:Array Oper} {o:Oper} {a:Act} {K:Act->World->Prop} {Q:Exit->Act->World->Prop} {E:Prop} (hgd:o.guard=none) (s x:Operand) (t:TypeId) (ht:prog.underlying t=some (.slice 138))
  (ho:o.op= .call { callee:= .builtin .append,args:=#[s,x],argTypes:=#[t,t] }) (base:Nat)
  (v:Value) (ps:List Z6) (hs:a.eval s=v) (hown:EntsAt base w v ps)
  (ad:Addr) (c:Nat) (f z:Int) (hx:a.eval x= .slice (some ad) 1 c) (hnews:∀ (j:Nat) (u:Value),([.int .i64 f,.int .i64 z]:List Value)[j]?=some u->w.cell? (ad.add j)=some u)
  (hb:ps.length<=4000) (hbase:base<=w.heap.size)
  (h:∀ v' w',EntsAt base w' v' (ps++[(f,z)])->w.grownBy w' v.ownBlock->(v'.ownBlock=v.ownBlock\/v'.ownBlock=some w.heap.size)->K (a.put o.dst v') w') :
  if Region.wanted o (yielded ops a.tmps)=true then Oper.wp prog o a w K Q else E:=by
 have hw:Region.wanted o (yielded ops a.tmps)=true:=by simp [Region.wanted,hgd]
 rw [if_pos hw];obtain ⟨i0,hi,hz0,hz1,hz2⟩:=info_parts Wm
 obtain ⟨v',w',hr,h2,h3,_,h5⟩:=run_append_own_at (P:=prog) w base t o.type 138 i0 (.agg #[.int .i64 0,.int .i64 0]) 2 16 ht hi hz0 hz1 hz2 rfl (by decide) v ps.length _ hown ad 1 c [.int .i64 f,.int .i64 z] rfl
  hnews (by simp [Value.oneCell']) (by simp only [maxLen];omega) (by omega) hbase
 unfold Oper.wp execOp;simp only [ho,resolve,invoke,builtin,Sem.run_bind,Sem.run_pure,Result.andThen_ok,List.map_toArray,List.map_cons,List.map_nil,hs,hx,hr];refine h v' w' ?_ h3 h5;unfold EntsAt;rw [Sl,List.length_append];exact h2
theorem DI (w:World) (u u':Value) (t:TypeId) (b:Nat) (hb:b=w.heap.size):∀ (j:Nat) (x:Value),([u,u']:List Value)[j]?=some x->(w.alloc (.cells #[u,u'] t)).cell? ((⟨b,0,none⟩:Addr).add j)=some x:=by
 subst hb;intro j x hj
 match j,hj with
 | 0,hj=>simp at hj;subst hj;simp [Addr.add]
 | 1,hj=>simp at hj;subst hj;simp [Addr.add]
theorem Oa (f z:Int) (w:World):(Instr.typeAssert (.iface 138 (.agg #[.int .i64 f,.int .i64 z])) 20 138 false).run prog w= .ok (.agg #[.int .i64 f,.int .i64 z]) w:=by kernel_rfl
theorem HeapIs.after {n₀ bx:Nat} {w W W1:World} {ps:List Z6} (h:HeapIs n₀ bx v w ps) (hb:Below w.heap.size w W) (hg:W.grownBy W1 v.ownBlock) :
  W1.cell? ⟨bx,0,none⟩=some v/\W1.frozen? ⟨bx,0,none⟩=false/\Fr bx v.ownBlock w W1:=by
 have hk:=hg.block bx (ZD h.lt hb.size) (fun e=>h.off e.symm);exact ⟨(World.cell?_of_block (w:=W) (a:=⟨bx,0,none⟩) hk).trans ((hb.cell (p:=⟨bx,0,none⟩) h.lt).trans h.cell),(World.frozen?_of_block (w:=W) (a:=⟨bx,0,none⟩) hk).trans ((hb.frozen (p:=⟨bx,0,none⟩) h.lt).trans h.free),(Fr.of_below hb).trans (Fr.of_grown hg)⟩
theorem FN {n₀ bx:Nat}  {ps:List Z6} (f z:Int) (h:HeapIs n₀ bx v w ps) (hl:ps.length<=1000) (hn:n₀<=w.heap.size) :
  Calls prog 330 #[.pointer (some ⟨bx,0,none⟩),.iface 138 (.agg #[.int .i64 f,.int .i64 z])] w fun e w'=>e= .returned (.tuple #[])/\ ∃ v',HeapIs n₀ bx v' w' (ps++[(f,z)])/\(v'.ownBlock=v.ownBlock\/ ∃ k,v'.ownBlock=some k/\w.heap.size<=k)/\Fr bx v.ownBlock w w':=by
 have H:=Z9 h;obtain ⟨a,cap,rfl⟩:=h.row.shape;have hc:=h.cell;have hbf:=h.free;have hbx:=h.lt;clear h;have hn2:bx ≠ w.heap.size:=Vd hbx;have hta:=Oa f z;go_enter func330,ntmps330;go_wp2_with fail
 go_region_law (refine P2 rfl (.tmp 7) (.tmp 10) 261 underlying261 rfl n₀ _ ps rfl ((uh H).row.later (((ba _ _)).drew)) ⟨w.heap.size,0,none⟩ _ f z rfl (DI _ _ _ _ _ rfl) (by omega) (by simp;omega) ?_;intro v' w1 hown hgrow hat;obtain ⟨hc1,hf1,hfr⟩:=(uh H).after (((ba _ _)).drew) hgrow;obtain ⟨a1,cap1,rfl⟩:=hown.shape)
 all_goals
  go_end0
  have hoff:(Value.slice a1 (ps++[(f,z)]).length cap1).ownBlock ≠ some bx:=by
   rcases hat with e | e
   ·rw [e];exact (uh H).off
   ·rw [e];simp;omega
  obtain ⟨r1,r2⟩:=EH (uh H) hfr hc1 hf1 hown hoff;have hle:(ps++[(f,z)]).length=ps.length+1:=by simp
  rw [hle] at r1 r2 hat;refine ⟨rfl,_,r1,?_,r2⟩
  rcases hat with e | e
  ·exact .inl e
  ·exact .inr ⟨_,e,by simp⟩
theorem C8 (a : Addr) (w : World) : (method 430 246 (.pointer (some a)) "Len").run prog w = .ok (248, .pointer (some a)) w := by kernel_rfl
theorem Em (a : Addr) (w : World) : (method 430 246 (.pointer (some a)) "Less").run prog w = .ok (328, .pointer (some a)) w := by kernel_rfl
theorem Iu (a : Addr) (w : World) : (method 430 246 (.pointer (some a)) "Swap").run prog w = .ok (331, .pointer (some a)) w := by kernel_rfl
theorem CG (a : Addr) (w : World) : (method 430 246 (.pointer (some a)) "Push").run prog w = .ok (330, .pointer (some a)) w := by kernel_rfl
theorem Cg (a : Addr) (w : World) : (method 430 246 (.pointer (some a)) "Pop").run prog w = .ok (329, .pointer (some a)) w := by kernel_rfl
theorem CP {n₀ bx:Nat}  {ps:List Z6} {n j0:Nat} (h:HeapIs n₀ bx v w ps) (hu:UpTo ps n j0) (hj0:j0<n) (hn:n<=ps.length) (hl:ps.length<=1000) :
  Calls prog 247 #[.iface 246 (.pointer (some ⟨bx,0,none⟩)),.int .i64 j0] w fun e w'=>e= .returned (.tuple #[])/\ ∃ qs,HeapIs n₀ bx v w' qs/\HeapTo qs n/\qs.Perm ps/\(∀ k,n<=k->Z7 qs k=Z7 ps k)/\Fr bx v.ownBlock w w':=by
 have H:=Z9 h;have HU:=Z9 hu;clear h hu;go_enter func247,ntmps247;go_wp2_with fail
 go_loopw [1,4] (fun q _ wr=> ∃ (j:Nat) (qs:List Z6),j<n/\q= .int .i64 j/\HeapIs n₀ bx v wr qs/\UpTo qs n j/\qs.Perm ps/\(∀ k,n<=k->Z7 qs k=Z7 ps k)/\Fr bx v.ownBlock w wr) (fun q _ _=>(intOf q).toNat)
 case atStart=>exact ⟨j0,ps,hj0,rfl,uh H,uh HU,List.Perm.refl _,fun _ _=>rfl,Fr.refl _ _ _⟩
 case round=>
  obtain ⟨j,qs,hj,rfl,hh,hup,hperm,hsame,hfr⟩:=hrel;have hql:qs.length=ps.length:=hperm.length_eq;have Hh:=Z9 hh;have Hup:=Z9 hup;have Hpe:=Z9 hperm;have Hsa:=Z9 hsame;have Hfr:=Z9 hfr;clear hh hup hperm hsame hfr;by_cases hz:j=0
  ·subst hz
   go_wp2_with fail
   go_end0
   exact ⟨rfl,qs,uh Hh,(uh Hup).done (.inl rfl),uh Hpe,uh Hsa,uh Hfr⟩
  ·obtain ⟨i,hi⟩:∃ i,i=(j-1) / 2:=⟨_,rfl⟩
   have hj1:(0:Int)<=(j:Int)-1:=by omega
   have hpar:((j:Int)-1) / 2=(i:Int):=by omega
   have hij:((i:Int) ==(j:Int))=false:=beq_eq_false_iff_ne.2 (by omega);have hm1:=Em ⟨bx,0,none⟩;have hm2:=Iu ⟨bx,0,none⟩;have hjl:j<qs.length:=by omega
   have hil:i<qs.length:=by omega
   have Hless:=Z9 (Ti (uh Hh) hjl hil);have Hi:=Z9 hi;clear hi;cases hlt:ltB (Z7 qs j) (Z7 qs i)
   ·go_wp2_with fail
    refine (uh Hless).mono ?_;rw [hlt];rintro e w1 ⟨rfl,hb1⟩;have H1:=Z9 ((uh Hh).later hb1);have F1:=Z9 ((uh Hfr).trans (Fr.of_below hb1));clear hb1;go_wp2_with fail
    go_end0
    exact ⟨rfl,qs,uh H1,(uh Hup).done (.inr (by rw [<-uh Hi];exact hlt)),uh Hpe,uh Hsa,uh F1⟩
   ·go_wp2_with fail
    refine (uh Hless).mono ?_;rw [hlt];rintro e w1 ⟨rfl,hb1⟩;have H1:=Z9 ((uh Hh).later hb1);have F1:=Z9 ((uh Hfr).trans (Fr.of_below hb1));clear hb1;go_wp2_with fail;refine (Ty (uh H1) hil hjl).mono ?_;rintro e w2 ⟨rfl,hh2,hf2⟩;have H2:=Z9 hh2;have F2:=Z9 ((uh F1).trans hf2);clear hh2 hf2;have HS:Hid (UpTo (swp qs i j) n i):=Z9 (by rw [uh Hi];exact (uh Hup).step (by omega) hj (by omega) (by rw [<-uh Hi];exact hlt));have HA:Hid (∀ k,n<=k->Z7 (swp qs i j) k=Z7 ps k):=Z9 (fun k hk=>by rw [Tz hil hjl,if_neg (by omega),if_neg (by omega)];exact uh Hsa k hk);go_wp2_with fail;go_roundw
    case rel=>exact ⟨i,swp qs i j,by omega,rfl,uh H2,uh HS,(TA hil hjl).trans (uh Hpe),uh HA,uh F2⟩
    case measure=>exact ms
def DownPost (n₀ bx:Nat) (v:Value) (w:World) (ps:List Z6) (n i0:Nat) (e:Ending) (w':World):Prop:=
 ∃ (b:Bool) (qs:List Z6),e= .returned (.bool b)/\HeapIs n₀ bx v w' qs/\qs.Perm ps/\(∀ k,n<=k->Z7 qs k=Z7 ps k)/\Fr bx v.ownBlock w w'/\(b=true->HeapTo qs n)/\(b=false->UpTo qs n i0)
theorem Rf {n₀ bx:Nat}  {ps qs:List Z6} {n i0 i:Nat} (hi:i0<=i) (hh:HeapIs n₀ bx v wr qs) (hdn:DnTo qs n i0 i) (hp:qs.Perm ps) (hs:∀ k,n<=k->Z7 qs k=Z7 ps k) (hf:Fr bx v.ownBlock w wr)
  (hd:∀ k,0<k->k<n->(k-1) / 2=i->ltB (Z7 qs k) (Z7 qs i)=false):DownPost n₀ bx v w ps n i0 (.returned (.bool (decide (i0<i)))) wr:=by
 refine ⟨_,qs,rfl,hh,hp,hs,hf,fun h=> ?_,fun h=> ?_⟩
 ·have:=of_decide_eq_true h
  exact hdn.moved (by omega) hd
 ·have:=of_decide_eq_false h
  obtain rfl:i=i0:=by omega
  exact hdn.still hd
theorem kid {k i:Nat} (h0:0<k) (h:(k-1) / 2=i):k=2*i+1\/k=2*i+2:=by omega
theorem DV {n₀ bx:Nat}  {ps:List Z6} {n i0:Nat} (h:HeapIs n₀ bx v w ps) (hu:DnTo ps n i0 i0) (hi0:i0<=n) (hn:n<=ps.length) (hl:ps.length<=1000) :
  Calls prog 266 #[.iface 246 (.pointer (some ⟨bx,0,none⟩)),.int .i64 i0,.int .i64 n] w (DownPost n₀ bx v w ps n i0):=by
 have H:=Z9 h;have HU:=Z9 hu;have hm1:=Em ⟨bx,0,none⟩;have hm2:=Iu ⟨bx,0,none⟩;clear h hu;go_enter func266,ntmps266;go_wp2_with fail
 go_loopw [7] (fun q wr=> ∃ (i:Nat) (qs:List Z6),i0<=i/\i<=n/\q= .int .i64 i/\HeapIs n₀ bx v wr qs/\DnTo qs n i0 i/\qs.Perm ps/\(∀ k,n<=k->Z7 qs k=Z7 ps k)/\Fr bx v.ownBlock w wr) (fun q _=>n-(intOf q).toNat)
 case atStart=>exact ⟨i0,ps,ZY _,hi0,rfl,uh H,uh HU,List.Perm.refl _,fun _ _=>rfl,Fr.refl _ _ _⟩
 case round=>
  obtain ⟨i,qs,hii,hin,rfl,hh,hdn,hperm,hsame,hfr⟩:=hrel;have hql:qs.length=ps.length:=hperm.length_eq;have Hh:=Z9 hh;have Hdn:=Z9 hdn;have Hpe:=Z9 hperm;have Hsa:=Z9 hsame;have Hfr:=Z9 hfr;clear hh hdn hperm hsame hfr;obtain ⟨j1,hj1⟩:∃ j1,j1=2*i+1:=⟨_,rfl⟩
  obtain ⟨j2,hj2⟩:∃ j2,j2=2*i+2:=⟨_,rfl⟩
  have e1:2*(i:Int)+1=(j1:Int):=by omega
  have e2:(j1:Int)+1=(j2:Int):=by omega
  have Hj1:=Z9 hj1;have Hj2:=Z9 hj2;by_cases hn1:n<=j1
  ·have hg1:(n:Int)<=(j1:Int):=by omega
   clear hj1 hj2;go_wp2_with fail;go_ret;exact Rf hii (uh Hh) (uh Hdn) (uh Hpe) (uh Hsa) (uh Hfr) (fun k k0 kn kp=>by have:=kid k0 kp;have:=uh Hj1;omega)
  ·have hg1:¬ (n:Int)<=(j1:Int):=by omega
   have hg2:¬ (j1:Int)<0:=by omega
   have hil:i<qs.length:=by omega
   have hjl:j1<qs.length:=by omega
   have hij1:i<j1:=by omega
   by_cases hn2:j2<n
   ·have hg3:(j2:Int)<(n:Int):=by omega
    have hkl:j2<qs.length:=by omega
    have hij2:i<j2:=by omega
    clear hj1 hj2;have HL:=Z9 (Ti (uh Hh) hkl hjl);cases hlt:ltB (Z7 qs j2) (Z7 qs j1)
    ·have HM:Hid (∀ k,0<k->k<n->(k-1) / 2=i->ltB (Z7 qs k) (Z7 qs j1)=false):=Z9 (fun k k0 kn kp=>by
      have e3:=uh Hj1;have e4:=uh Hj2
      rcases kid k0 kp with e | e
      ·rw [show k=j1 by omega];exact Rq _
      ·rw [show k=j2 by omega];exact hlt)
     have HP:Hid ((j1-1) / 2=i):=Z9 (by have:=uh Hj1;omega);go_wp2_with fail;refine (uh HL).mono ?_;rw [hlt];rintro e w1 ⟨rfl,hb1⟩;have H1:=Z9 ((uh Hh).later hb1);have F1:=Z9 ((uh Hfr).trans (Fr.of_below hb1));clear hb1 hlt HL Hh Hfr;have HL2:=Z9 (Ti (uh H1) hjl hil);cases hlt2:ltB (Z7 qs j1) (Z7 qs i)
     ·go_wp2_with fail
      refine (uh HL2).mono ?_;rw [hlt2];rintro e w2 ⟨rfl,hb2⟩;have H2:=Z9 ((uh H1).later hb2);have F2:=Z9 ((uh F1).trans (Fr.of_below hb2));clear hb2 HL2;go_wp2_with fail;go_ret;exact Rf hii (uh H2) (uh Hdn) (uh Hpe) (uh Hsa) (uh F2) (fun k k0 kn kp=>Uc hlt2 (uh HM k k0 kn kp))
     ·go_wp2_with fail
      refine (uh HL2).mono ?_;rw [hlt2];rintro e w2 ⟨rfl,hb2⟩;have H2:=Z9 ((uh H1).later hb2);have F2:=Z9 ((uh F1).trans (Fr.of_below hb2));clear hb2 HL2;go_wp2_with fail;refine (Ty (uh H2) hil hjl).mono ?_;rintro e w3 ⟨rfl,hh3,hf3⟩;have H3:=Z9 hh3;have F3:=Z9 ((uh F2).trans hf3);clear hh3 hf3;have HS:Hid (DnTo (swp qs i j1) n i0 j1):=Z9 ((uh Hdn).step hii (by omega) (uh HP) (by omega) (by omega) hlt2 (uh HM));have HA:Hid (∀ k,n<=k->Z7 (swp qs i j1) k=Z7 ps k):=Z9 (fun k hk=>by rw [Tz hil hjl,if_neg (by omega),if_neg (by omega)];exact uh Hsa k hk);go_wp2_with fail;go_roundw
      case rel=>exact ⟨j1,swp qs i j1,by omega,by omega,rfl,uh H3,uh HS,(TA hil hjl).trans (uh Hpe),uh HA,uh F3⟩
      case measure=>exact ms
    ·have HM:Hid (∀ k,0<k->k<n->(k-1) / 2=i->ltB (Z7 qs k) (Z7 qs j2)=false):=Z9 (fun k k0 kn kp=>by
      have e3:=uh Hj1;have e4:=uh Hj2
      rcases kid k0 kp with e | e
      ·rw [show k=j1 by omega];exact SE hlt
      ·rw [show k=j2 by omega];exact Rq _)
     have HP:Hid ((j2-1) / 2=i):=Z9 (by have:=uh Hj2;omega);go_wp2_with fail;refine (uh HL).mono ?_;rw [hlt];rintro e w1 ⟨rfl,hb1⟩;have H1:=Z9 ((uh Hh).later hb1);have F1:=Z9 ((uh Hfr).trans (Fr.of_below hb1));clear hb1 hlt HL Hh Hfr;have HL2:=Z9 (Ti (uh H1) hkl hil);cases hlt2:ltB (Z7 qs j2) (Z7 qs i)
     ·go_wp2_with fail
      refine (uh HL2).mono ?_;rw [hlt2];rintro e w2 ⟨rfl,hb2⟩;have H2:=Z9 ((uh H1).later hb2);have F2:=Z9 ((uh F1).trans (Fr.of_below hb2));clear hb2 HL2;go_wp2_with fail;go_ret;exact Rf hii (uh H2) (uh Hdn) (uh Hpe) (uh Hsa) (uh F2) (fun k k0 kn kp=>Uc hlt2 (uh HM k k0 kn kp))
     ·go_wp2_with fail
      refine (uh HL2).mono ?_;rw [hlt2];rintro e w2 ⟨rfl,hb2⟩;have H2:=Z9 ((uh H1).later hb2);have F2:=Z9 ((uh F1).trans (Fr.of_below hb2));clear hb2 HL2;go_wp2_with fail;refine (Ty (uh H2) hil hkl).mono ?_;rintro e w3 ⟨rfl,hh3,hf3⟩;have H3:=Z9 hh3;have F3:=Z9 ((uh F2).trans hf3);clear hh3 hf3;have HS:Hid (DnTo (swp qs i j2) n i0 j2):=Z9 ((uh Hdn).step hii (by omega) (uh HP) (by omega) (by omega) hlt2 (uh HM));have HA:Hid (∀ k,n<=k->Z7 (swp qs i j2) k=Z7 ps k):=Z9 (fun k hk=>by rw [Tz hil hkl,if_neg (by omega),if_neg (by omega)];exact uh Hsa k hk);go_wp2_with fail;go_roundw
      case rel=>exact ⟨j2,swp qs i j2,by omega,by omega,rfl,uh H3,uh HS,(TA hil hkl).trans (uh Hpe),uh HA,uh F3⟩
      case measure=>exact ms
   ·have hg3:¬ (j2:Int)<(n:Int):=by omega
    have HM:Hid (∀ k,0<k->k<n->(k-1) / 2=i->ltB (Z7 qs k) (Z7 qs j1)=false):=Z9 (fun k k0 kn kp=>by
      have e3:=uh Hj1;have e4:=uh Hj2
      rcases kid k0 kp with e | e
      ·rw [show k=j1 by omega];exact Rq _
      ·omega)
    have HP:Hid ((j1-1) / 2=i):=Z9 (by have:=uh Hj1;omega);clear hj1 hj2;have HL2:=Z9 (Ti (uh Hh) hjl hil);cases hlt2:ltB (Z7 qs j1) (Z7 qs i)
    ·go_wp2_with fail
     refine (uh HL2).mono ?_;rw [hlt2];rintro e w2 ⟨rfl,hb2⟩;have H2:=Z9 ((uh Hh).later hb2);have F2:=Z9 ((uh Hfr).trans (Fr.of_below hb2));clear hb2 HL2;go_wp2_with fail;go_ret;exact Rf hii (uh H2) (uh Hdn) (uh Hpe) (uh Hsa) (uh F2) (fun k k0 kn kp=>Uc hlt2 (uh HM k k0 kn kp))
    ·go_wp2_with fail
     refine (uh HL2).mono ?_;rw [hlt2];rintro e w2 ⟨rfl,hb2⟩;have H2:=Z9 ((uh Hh).later hb2);have F2:=Z9 ((uh Hfr).trans (Fr.of_below hb2));clear hb2 HL2;go_wp2_with fail;refine (Ty (uh H2) hil hjl).mono ?_;rintro e w3 ⟨rfl,hh3,hf3⟩;have H3:=Z9 hh3;have F3:=Z9 ((uh F2).trans hf3);clear hh3 hf3;have HS:Hid (DnTo (swp qs i j1) n i0 j1):=Z9 ((uh Hdn).step hii (by omega) (uh HP) (by omega) (by omega) hlt2 (uh HM));have HA:Hid (∀ k,n<=k->Z7 (swp qs i j1) k=Z7 ps k):=Z9 (fun k hk=>by rw [Tz hil hjl,if_neg (by omega),if_neg (by omega)];exact uh Hsa k hk);go_wp2_with fail;go_roundw
     case rel=>exact ⟨j1,swp qs i j1,by omega,by omega,rfl,uh H3,uh HS,(TA hil hjl).trans (uh Hpe),uh HA,uh F3⟩
     case measure=>exact ms
end Go.Proofs.YtgdpaigcmoifbaaGreatDoor
