/- Part 33 of what the proof rests on. No condition but those that a theorem names. -/
import Derived.Test.YtgdpaigcmoifbaaGreatXw28
import Derived.Test.YtgdpaigcmoifbaaGreatXw29
import Derived.Test.YtgdpaigcmoifbaaGreatXw30
import Derived.Test.YtgdpaigcmoifbaaGreatXw31
set_option maxHeartbeats 8000000
set_option maxRecDepth 100000
namespace Go.Proofs.YtgdpaigcmoifbaaGreat
open Go.ChangeShapes Go.WideShapes Go.ChangeAt Go.RowKit Go.Sort Go.Proofs.Tryz
set_option linter.unusedVariables false
set_option linter.unusedSimpArgs false
variable {w w' w0 w1 w2 w3 w₀ wr W W' X A B C : World} {v v0 v1 v2 v3 v4 u u0 u1 u2 u3 u4 : Value} {m : Z6}
theorem O5 (h:Loose m):0<m.pc.length:=by
 rw [VO h];have hd:=h.head;unfold Yx at hd;simp only [ZO,YZ] at hd;have:=(Zj hd.1).1;omega
theorem Om {R n₀:Nat}  {qs:List (ZY × Value)} {nw:Int} (hn:m.now=nw) (kb:Blk w R 32 #[v0,v1,v2,v3,v4,.int .i64 nw]) (hf:FullSmy n₀ w v0 v1 v2 v3 v4 m qs) (h2:v2.ownBlock ≠ some R) (h3:v3.ownBlock ≠ some R) (hl:m.sm.length<=800) (hd:m.dk.length<=1000) :
  Calls prog 305 #[.pointer (some ⟨R,0,none⟩)] w fun e w'=>e= .returned (.tuple #[.agg #[v0,v1,v2,v3,v4,.int .i64 nw],.int .i64 0])/\FullSmy n₀ w' v0 v1 v2 v3 v4 (ZH m) qs/\Two v2.ownBlock v3.ownBlock w w':=by
 subst hn;exact Rk kb hf h2 h3 hl hd
theorem Ek  (h:Smy w v0 v1 v2 v3 v4 m) (hok:ZM m=true) :
  Calls prog 279 #[.agg #[v0,v1,v2,v3,v4,.int .i64 m.now]] w fun e w'=>R1 w.heap.size (DN m) 0 e w'/\Below w.heap.size w w':=by
 obtain ⟨X,hX⟩:=ZJ (DN m);rw [hX];have HX:=Z9 hX;clear hX;obtain ⟨a0,p0,a1,p1,a2,p2,a3,p3,a4,p4,rfl,rfl,rfl,rfl,rfl,-⟩:=h.five;refine op1 h hok func279 ntmps279 ?_
 intros
 rename_i Hok HLo HFew b0 q0 b1 q1 b2 q2 b3 q3 b4 q4 oq W2 ob H
 obtain ⟨kb,kr,Hv,HO,ko,LO,hob,BB⟩:=H.out;clear H;have Hv0:=Z9 h;clear h;have hpp:=O5 (uh HLo);have hpr:=VO (uh HLo);have HSn:=Z9 (uh HLo).sane;have hp9:=(uh HFew).nums;obtain ⟨g4,hga,_,hg4w,_,_⟩:=RecAt.view Ze (by omega) (uh HO).pc rfl (by omega);cases hga;have hg4o:=(uh LO g4 (.inr (.inr (.inr (.inr (.inr rfl))))))
 have Hpr:=Z9 hpr;clear hpr;go_wp2_with fail
 go_loopw [5] (fun i wr=> ∃ k:Nat,k<=m.pc.length/\i= .int .i64 k/\FullSmy (w.heap.size+2) wr (.slice b0 m.rm.length q0) (.slice b1 m.gd.length q1) (.slice b2 m.sm.length q2) (.slice b3 m.dk.length q3) (.slice (some ⟨g4,0,none⟩) m.pc.length q4) (Pm m k) oq/\Two none (some g4) W2 wr) (fun i _=>m.pc.length-(intOf i).toNat)
 case atStart=>exact ⟨0,ZA _,rfl,uh HO,Two.refl _ _ _⟩
 case round=>
  obtain ⟨k,hk,rfl,hf1,htw⟩:=hrel;have hbw:=(uh BB).trans (htw.below (uh BB).size (fun _ e=>by cases e) (fun j e=>by cases e;omega));have B1:=Z9 hbw;have Hv1:=Z9 ((uh Hv0).below hbw);have kb1:=Z9 ((uh kb).two htw (by simp) (fun e=>by cases e;omega));have ko1:=Z9 ((uh ko).two htw (by simp) (fun e=>by cases e;omega));have kr1:=Z9 ((uh kr).two htw (by simp) (fun e=>by cases e;omega));have HF1:=Z9 hf1;have Tw:=Z9 htw;clear hbw hf1 htw;by_cases hlt:k<m.pc.length
  ·
   obtain ⟨c0,c1,c2,c3,c4,c5⟩:=(uh kb1).c6;have x4:=(uh ko1).cell (i:=4) (v:= .slice (some ⟨g4,0,none⟩) m.pc.length q4) rfl;have hkp1:(k:Int)<(m.pc.length:Int):=by omega
   go_wp2_with fail;refine ZI (S:=fun w'=>w'.cell? ⟨w.heap.size,0,none⟩=some (.slice a0 m.rm.length p0)/\w'.cell? ⟨w.heap.size,1,none⟩=some (.slice a1 m.gd.length p1)/\w'.cell? ⟨w.heap.size,2,none⟩=some (.slice a2 m.sm.length p2)/\w'.cell? ⟨w.heap.size,3,none⟩=some (.slice a3 m.dk.length p3)/\w'.cell? ⟨w.heap.size,4,none⟩=some (.slice a4 m.pc.length p4)/\w'.cell? ⟨w.heap.size,5,none⟩=some (.int .i64 m.now)/\w'.cell? ⟨ob,4,none⟩=some (.slice (some ⟨g4,0,none⟩) m.pc.length q4)) (by kernel_rfl) (Wz _ _) (by kernel_rfl) ⟨c0,c1,c2,c3,c4,c5,x4⟩ (fun hHeld=> ?_);clear c0 c1 c2 c3 c4 c5 x4;simp only [WA,WB,YL,YF,Nat.zero_add,Nat.reduceAdd]
   iterate 5 refine tz ?_
   refine rd 5 rfl (fun K hK=> ?_);go_simp;refine ck (KQ (r:=k) ((uh Hv1).below (Z3 _ _).drew) (uh HSn) (by rw [<-uh Hpr];exact hlt)) fun w9 hb8=> ?_;have hb9:Below wr.heap.size wr w9:=(Z3 wr.heap.size wr).drew.trans hb8;clear hb8;have kb9:=(uh kb1).below hb9 (uh kb1).lt;have ko9:=(uh ko1).below hb9 (uh ko1).lt;refine hK.out _ _ ⟨kb9.cell (i:=0) rfl,kb9.cell (i:=1) rfl,kb9.cell (i:=2) rfl,kb9.cell (i:=3) rfl,kb9.cell (i:=4) rfl,kb9.cell (i:=5) rfl,ko9.cell (i:=4) rfl⟩ (fun hHeld=> ?_);clear hK K kb9 ko9
   (try simp only [Act.put,sA,sZ,sS])
   have HF9:=Z9 ((uh HF1).below hb9);have T9:=Z9 ((uh Tw).trans (Two.of_below hb9));have hal:m.pc.length=(Pm m k).pc.length:=(Qx m k).2.2.2.2.2.symm;obtain ⟨_,hga,_,_,hc4,hz4⟩:=RecAt.view Ze (by omega) (uh HF9).pc hal (by omega);cases hga;have s0:=hc4 k (by omega) 0 _ rfl;have f0:=hz4 k;have hput:=(uh HF9).putP hal (j:=k) (by omega) (SH m k);simp only [Nat.add_zero,Nat.mul_one] at s0;have HP:=Z9 hput;clear hc4 hz4 hput hb9 hal;refine tp 6 ?_;refine wpAnyH_done (by kernel_rfl) ?_ _;refine ZK rfl rfl ?_;go_simp;clear hHeld;go_wp2_with fail;go_roundw
   case rel=>exact ⟨k+1,by omega,by go_num,uh HP,(uh T9).trans (Two.of_set _ (.inr rfl) _ _)⟩
   case measure=>exact ms
  ·
   obtain rfl:k=m.pc.length:=by omega
   have c4:=(uh kb1).cell (i:=4) (v:= .slice a4 m.pc.length p4) rfl;have hno:¬ ((m.pc.length:Nat):Int)<(m.pc.length:Int):=by omega
   obtain ⟨e1,e2,e3,e4,e5,e6⟩:=Qx m m.pc.length;have hfw:=uh HFew;go_wp2_with fail;have hofR:∀ k,V7 (.slice b0 m.rm.length q0) (.slice b1 m.gd.length q1) (.slice b2 m.sm.length q2) (.slice b3 m.dk.length q3) (.slice (some ⟨g4,0,none⟩) m.pc.length q4) oq k->k ≠ ob:=fun k e=>by have:=(uh LO k e).2;omega
   refine (Om (m:=Pm m m.pc.length) e5 (uh ko1) (uh HF1) (fun e=>hofR _ (.inr (.inr (.inr (.inl e)))) rfl) (fun e=>hofR _ (.inr (.inr (.inr (.inr (.inl e))))) rfl) (by rw [e3];have:=hfw.sm;omega) (by rw [e4];exact hfw.dk)).mono ?_;rintro e w3 ⟨rfl,hf9,ht9⟩;replace kr:=Z9 ((uh kr1).two ht9 (fun e=>by have:=(uh LO _ (.inr (.inr (.inr (.inl e))))).1;omega) (fun e=>by have:=(uh LO _ (.inr (.inr (.inr (.inr (.inl e)))))).1;omega));replace BB:=Z9 ((uh B1).trans (ht9.below (uh B1).size (fun k e=>by have:=(uh LO k (.inr (.inr (.inr (.inl e))))).1;omega) (fun k e=>by have:=(uh LO k (.inr (.inr (.inr (.inr (.inl e)))))).1;omega)));have hnow:(ZH (Pm m m.pc.length)).now=m.now:=(Zv _ _).2.2.2.1.trans e5;have HF9:=Z9 hf9;have Hn9:=Z9 hnow;clear hf9 ht9 hofR e1 e2 e3 e4 e5 e6 hnow c4;obtain ⟨o0,o1,o2,o3,o4,o5⟩:=(uh kr).c6;obtain ⟨f0,f1,f2,f3,f4,f5⟩:=(uh kr).f6;go_wp2_with fail;refine Zz (v:= .tuple #[.agg (S6 b0 q0 b1 q1 b2 q2 b3 q3 (some ⟨g4,0,none⟩) q4 m),.int .i64 0]) (by simp [results,results279,go_sem, *]) rfl ⟨?_,?_⟩
   ·rw [<-uh HX];refine ⟨_,_,_,_,_,oq,by unfold DN;rw [uh Hn9],?_⟩
    iterate 6 (refine FullSmy.set_off ?_ (fun k e=>by have:=(uh LO k e).1;omega) _ _)
    exact (uh HF9).mono (by omega)
   ·iterate 6 (refine Yv ?_ (by show _<=w.heap.size+1;omega) _)
    exact uh BB
set_option maxRecDepth 100000
theorem Ll {a0 a1 a2 a3 a4:Option Addr} {p0 p1 p2 p3 p4:Nat} {k:Nat} (b:Int) (h:Smy w (.slice a0 m.rm.length p0) (.slice a1 m.gd.length p1) (.slice a2 m.sm.length p2) (.slice a3 m.dk.length p3) (.slice a4 m.pc.length p4) m) (hl:m.sm.length<=1000) (hk:k<m.sm.length):Calls prog 128 #[.agg (S6 a0 p0 a1 p1 a2 p2 a3 p3 a4 p4 m),.int .i64 (k:Int),.int .i64 b] w fun e w'=> ∃ g gc,e= .returned (.agg (S6 a0 p0 a1 p1 (some ⟨g,0,none⟩) gc a3 p3 a4 p4 m))/\Smy w' (.slice a0 m.rm.length p0) (.slice a1 m.gd.length p1) (.slice (some ⟨g,0,none⟩) m.sm.length gc) (.slice a3 m.dk.length p3) (.slice a4 m.pc.length p4) (WJ m (k:Int) b)/\Below w.heap.size w w':=by
 have Hv0:=Z9 h;have hk1:(k:Int)<(m.sm.length:Int):=by omega
 clear h;go_enter func128,ntmps128;go_upto_region 1 with fail;obtain ⟨W,hW,kb,kr,BB⟩:=VP w 32 (S6 a0 p0 a1 p1 a2 p2 a3 p3 a4 p4 m) 32 E6;have Hv:=Z9 ((uh Hv0).below (uh BB));rw [hW];clear hW;obtain ⟨c0,c1,c2,c3,c4,c5⟩:=(uh kb).c6;go_wp2_with fail;refine ck (WS _ _ _ _ _ _ _ _ _ _ _ _ _ _ _ _ _) fun w1 hb=> ?_;replace kb:=bl kb hb;replace kr:=bl kr hb;replace Hv:=Z9 ((uh Hv).below hb);replace BB:=bt BB hb;clear hb c0 c1 c2 c3 c4 c5;go_wp2_with fail;refine (UH (uh Hv).sm hl).mono ?_;rintro e w2 ⟨v2,rfl,hs,hb⟩;have hlb:=(uh kb).lt;have hlr:=(uh kr).lt;have hlo:=(uh BB).size;replace kb:=bl kb hb;replace kr:=bl kr hb;replace BB:=bt BB hb;clear hb Hv;obtain ⟨ga,gc,rfl⟩:=RecAt.shape hs;obtain ⟨g,rfl,hg1,hg2,hcl,hfr⟩:=RecAt.view ZT (by omega) hs rfl (by omega);have hgb:g ≠ w.heap.size:=by omega
 have hgr:g ≠ w.heap.size+1:=by omega
 have hbg:w.heap.size ≠ g:=by omega
 have hrg:w.heap.size+1 ≠ g:=by omega
 have hwg:w.heap.size<=g:=by omega
 have HS:Hid (SmithsAt (w.heap.size+1) w2 (.slice (some ⟨g,0,none⟩) m.sm.length gc) (m.sm.set k (Z8 m.sm k))):=Z9 (by rw [MM hk];exact RecAt.mono hs (by omega));have s0:=hcl k hk 0 _ rfl;have s1:=hcl k hk 1 _ rfl;have f0:=hfr (k*11);have f1:=hfr (k*11+1);simp only [Nat.add_zero] at s0;clear hcl hfr hs hg1;obtain ⟨c0,c1,c2,c3,c4,c5⟩:=(uh kb).c6;obtain ⟨q0,q1,q2,q3,q4,q5⟩:=(uh kb).f6;obtain ⟨o0,o1,o2,o3,o4,o5⟩:=(uh kr).c6;obtain ⟨t0,t1,t2,t3,t4,t5⟩:=(uh kr).f6;go_wp2_with fail;refine Zz (v:= .agg (S6 a0 p0 a1 p1 (some ⟨g,0,none⟩) gc a3 p3 a4 p4 m)) (by simp [results,results128,go_sem, *]) rfl ⟨g,gc,rfl,?_,?_⟩
 ·have h1:SmithsAt (w.heap.size+1) (w2.setCell ⟨w.heap.size,2,none⟩ (.slice (some ⟨g,0,none⟩) m.sm.length gc)) (.slice (some ⟨g,0,none⟩) m.sm.length gc) (m.sm.set k (Z8 m.sm k)):=RecAt.same (uh HS) (fun i e=>by cases e;exact heap_setCell_other _ _ _ _ hgb)
  have h2:=h1.put rfl hk (i:=0) (by omega) (.int .i64 2) (2,(Z8 m.sm k).2) rfl;have h3:=h2.put rfl hk (i:=1) (by omega) (.int .i64 b) (2,b,(Z8 m.sm k).2.2) rfl;exact (uh Hv0).other (Below.put6 _ _ _ _ _ _ ((((uh BB).setCell (Z0 _) _).setCell (by show w.heap.size<=g;omega) _).setCell (by show w.heap.size<=g;omega) _) (Nat.le_succ _)) (RecAt.off6 (.slice a0 m.rm.length p0) (.slice a1 m.gd.length p1) (.slice (some ⟨g,0,none⟩) m.sm.length gc) (.slice a3 m.dk.length p3) (.slice a4 m.pc.length p4) (.int .i64 m.now) h3 (fun i e=>by cases e;exact hgr))
 ·exact Below.put6 _ _ _ _ _ _ ((((uh BB).setCell (Z0 _) _).setCell (by show w.heap.size<=g;omega) _).setCell (by show w.heap.size<=g;omega) _) (Nat.le_succ _)
theorem Nj {who q:Int} (h:YM m who=q):q= -1\/(0<=q/\ZM m=true/\Yn m who=true):=by
 subst h;unfold YM;by_cases hh:(ZM m && Yn m who)=true
 ·right
  rw [if_pos hh];simp only [ZO] at hh;exact ⟨(Wr m who).1,hh.1,hh.2⟩
 ·left;rw [if_neg hh]
theorem CO {who b:Int} (h:YM m who= -1):Zf m who b= -1:=by
 unfold Zf;unfold YM at h;have hb:=(Wr m who).1;cases h1:ZM m
 ·rfl
 ·cases h2:Yn m who
  ·rfl
  ·have h9:ZC m who= -1:=by simpa [h1,h2] using h
   omega
theorem LA  {k:Nat} {b q:Int} (hq2:ZS m (k:Int) b=q) (h:Smy w v0 v1 v2 v3 v4 m) (hS:Sane m) (hT:Wants m) (hk:k<m.sm.length) (hs:(Z8 m.sm k).1 ≠ 0):cB 62 #[.agg #[v0,v1,v2,v3,v4,.int .i64 m.now],.int .i64 (k:Int),.int .i64 b] w (.int .i64 q):=by
 replace hq2:WK (WJ m (k:Int) b)=q:=hq2;have HS:=Z9 (hS.with hk hs b);have HT:=Z9 (hT.with hk hs b);have hl:=hS.few;clear hS hT;obtain ⟨a0,p0,a1,p1,a2,p2,a3,p3,a4,p4,rfl,rfl,rfl,rfl,rfl,K⟩:=Bx.new h;clear h;go_enter func62,ntmps62;go_wp2_with fail;generalize w.alloc (.cells (S6 a0 p0 a1 p1 a2 p2 a3 p3 a4 p4 m) 32)=W at *;have HR:Hid (∀ {X:World} {R:Nat} {c0:Option Addr} {g gc r0:Nat} {W:World},Bx X W R a0 p0 a1 p1 (some ⟨g,0,none⟩) gc a3 p3 a4 p4 (WJ m (k:Int) b)->cB 126 #[.slice c0 m.rm.length r0,.func (Fn.func 186) #[] #[.pointer (some ⟨R,0,none⟩)]] W (.int .i64 q)):=Z9 (fun hK=>by rw [<-hq2];exact JD hK (uh HS) (uh HT))
 have HC:Hid (∀ (g gc:Nat) (W:World),Smy W (.slice a0 m.rm.length p0) (.slice a1 m.gd.length p1) (.slice (some ⟨g,0,none⟩) m.sm.length gc) (.slice a3 m.dk.length p3) (.slice a4 m.pc.length p4) (WJ m (k:Int) b)->Calls prog 127 #[.agg (S6 a0 p0 a1 p1 (some ⟨g,0,none⟩) gc a3 p3 a4 p4 m)] W fun e w'=>e= .returned (.func (Fn.func 186) #[] #[.pointer (some ⟨W.heap.size,0,none⟩)])/\Bx W w' W.heap.size a0 p0 a1 p1 (some ⟨g,0,none⟩) gc a3 p3 a4 p4 (WJ m (k:Int) b)):=Z9 (fun g gc W hs=>by
  have hwl:(WJ m (k:Int) b).sm.length=m.sm.length:=by unfold WJ;simp
  have h9:=FU (w:=W) (m:=WJ m (k:Int) b) (a0:=a0) (a1:=a1) (a2:=some ⟨g,0,none⟩) (a3:=a3) (a4:=a4) (p0:=p0) (p1:=p1) (p2:=gc) (p3:=p3) (p4:=p4) (by rw [hwl];exact hs)
  (try unfold S6 at h9)
  rw [hwl] at h9
  exact h9)
 clear HS HT hq2;have KD:=K.drew;obtain ⟨c0,c1,c2,c3,c4,c5⟩:=K.cells;go_wp2_with fail
 go_region_with (first
  | (go_at_call 128;refine (Ll b KD.smy (by omega) hk).mono ?_;rintro e w3 ⟨g,gc,rfl,hsm,hb3⟩;have K3:=KD.next hb3;have z0:=K3.blk.cell (i:=0) (v:= .slice a0 m.rm.length p0) rfl;have HS3:=Z9 hsm;clear hsm hb3)
  | (go_at_call 127;refine (uh HC _ _ _ (uh HS3)).mono ?_;rintro e w4 ⟨rfl,KX⟩;have K4:=K3.next KX.bb;have y0:=K4.blk.cell (i:=0) (v:= .slice a0 m.rm.length p0) rfl)
  | (go_at_call 126;refine (uh HR KX).mono ?_;rintro e w5 ⟨rfl,hb5⟩;have K5:=K4.next hb5;clear hb5))
 all_goals
  go_wp2_with fail;go_ret;exact ⟨rfl,K5.bb⟩
theorem OW  {who b q:Int} (hq:Zf m who b=q) (h:Smy w v0 v1 v2 v3 v4 m):cB 14 #[.agg #[v0,v1,v2,v3,v4,.int .i64 m.now],.int .i64 who,.int .i64 b] w (.int .i64 q):=by
 have Hq:=Z9 hq;clear hq;obtain ⟨wn,Hwn⟩:=YV (YM m who);obtain ⟨a0,p0,a1,p1,a2,p2,a3,p3,a4,p4,rfl,rfl,rfl,rfl,rfl,K⟩:=Bx.new h;clear h;go_enter func14,ntmps14;go_wp2_with fail;generalize w.alloc (.cells (S6 a0 p0 a1 p1 a2 p2 a3 p3 a4 p4 m) 32)=W at *;refine ck (Re (uh Hwn) K.smy) fun w1 hb=> ?_;replace K:=K.next hb;clear hb
 rcases Nj (uh Hwn) with rfl | ⟨hw0,hok,hwh⟩
 ·obtain rfl:q= -1:=(uh Hq).symm.trans (CO (uh Hwn))
  go_wp2_with fail;go_ret;exact ⟨rfl,K.bb⟩
 have hwb:(wn == -1)=false:=beq_eq_false_iff_ne.mpr (by omega);have hwd:¬ wn= -1:=by omega
 obtain ⟨op,Hop⟩:=YV (WG m b);obtain ⟨c0,c1,c2,c3,c4,c5⟩:=K.cells;go_wp2_with fail;refine ck (Tu (uh Hop) K.smy) fun w2 hb=> ?_;replace K:=K.next hb;clear hb c0 c1 c2 c3 c4 c5;cases op
 ·obtain rfl:q= -1:=by rw [<-uh Hq];unfold Zf;rw [uh Hop];simp
  go_wp2_with fail;go_ret;exact ⟨rfl,K.bb⟩
 obtain ⟨k,rfl,hk,hs⟩:=YK hwh;have hq2:ZS m (k:Int) b=q:=by rw [<-uh Hq];unfold Zf;rw [hok,hwh,uh Hop];rfl
 have HL:=Z9 (ZU hok);clear hwh Hq Hwn hok hwb hwd hw0;obtain ⟨c0,c1,c2,c3,c4,c5⟩:=K.cells;go_wp2_with fail;refine ck (LA hq2 K.smy (uh HL).sane (uh HL).wants hk hs) fun w3 hb=> ?_;replace K:=K.next hb;clear hb c0 c1 c2 c3 c4 c5;go_wp2_with fail;go_ret;exact ⟨rfl,K.bb⟩
open Go.ChangeShapes Go.WideShapes Go.ChangeAt Go.RowKit Go.Sort Go.Shelf Go.Proofs.Tryz
set_option maxRecDepth 100000
theorem Jk (x u f : Int) (w : World) : (method 414 225 (.agg #[.int .i64 x, .int .i64 u, .int .i64 f]) "loop.example/g00553/impl.place").run prog w = .ok (359, .agg #[.int .i64 x, .int .i64 u, .int .i64 f]) w := by kernel_rfl
theorem S9 (x u f:Int) (w:World):cB 359 #[.agg #[.int .i64 x,.int .i64 u,.int .i64 f]] w (.int .i64 x):=by
 go_enter func359,ntmps359;go_wp2_with fail;go_ret;exact ⟨rfl,(ba _ _)⟩
theorem zp (x u f : Int) (w : World) : (method 414 225 (.agg #[.int .i64 x, .int .i64 u, .int .i64 f]) "loop.example/g00553/impl.takes").run prog w = .ok (361, .agg #[.int .i64 x, .int .i64 u, .int .i64 f]) w := by kernel_rfl
theorem CE (n x u f:Int) (w:World):cB 361 #[.agg #[.int .i64 x,.int .i64 u,.int .i64 f],.int .i64 n] w (.bool (WW n u f)):=by
 go_enter func361,ntmps361;go_wp2_with fail;have BB:Hid (Below w.heap.size w (w.alloc (.cells #[.int .i64 x,.int .i64 u,.int .i64 f] 225))):=Z9 ((ba _ _));refine ck (Ma _ _ _ _) fun w1 hb=> ?_;replace BB:=bt BB hb;clear hb;go_wp2_with fail;go_ret;exact ⟨rfl,uh BB⟩
theorem Jj (x u f : Int) (w : World) : (method 414 225 (.agg #[.int .i64 x, .int .i64 u, .int .i64 f]) "loop.example/g00553/impl.hasTooMuch").run prog w = .ok (358, .agg #[.int .i64 x, .int .i64 u, .int .i64 f]) w := by kernel_rfl
theorem L6 (x u f:Int) (w:World):cB 358 #[.agg #[.int .i64 x,.int .i64 u,.int .i64 f]] w (.bool (V4 u f)):=by
 go_enter func358,ntmps358;go_wp2_with fail;have BB:Hid (Below w.heap.size w (w.alloc (.cells #[.int .i64 x,.int .i64 u,.int .i64 f] 225))):=Z9 ((ba _ _));refine ck (NU _ _ _) fun w1 hb=> ?_;replace BB:=bt BB hb;clear hb;go_wp2_with fail;go_ret;exact ⟨rfl,uh BB⟩
theorem zo (x u f : Int) (w : World) : (method 414 225 (.agg #[.int .i64 x, .int .i64 u, .int .i64 f]) "loop.example/g00553/impl.spare").run prog w = .ok (360, .agg #[.int .i64 x, .int .i64 u, .int .i64 f]) w := by kernel_rfl
theorem Ks (x u f:Int) (w:World):cB 360 #[.agg #[.int .i64 x,.int .i64 u,.int .i64 f]] w (.int .i64 (XX u f)):=by
 go_enter func360,ntmps360;go_wp2_with fail;have BB:Hid (Below w.heap.size w (w.alloc (.cells #[.int .i64 x,.int .i64 u,.int .i64 f] 225))):=Z9 ((ba _ _));refine ck (NT _ _ _) fun w1 hb=> ?_;replace BB:=bt BB hb;clear hb;go_wp2_with fail;go_ret;exact ⟨rfl,uh BB⟩
theorem yY (v:Value) (w:World):(Instr.typeAssert (.iface 225 v) 184 88 true).run prog w= .ok (.tuple #[.iface 225 v,.bool true]) w:=by kernel_rfl
theorem Mr {l:List String} (h:l ≠ []):∃ s,Instr.least l=some s:=by
 cases l with
 | nil=>exact absurd rfl h
 | cons s r=>exact ⟨_,rfl⟩
theorem Ck (p:String->Bool) (f:String->String) {ms:List String} (h:ms ≠ []):∃ s,(match ms.partition p with | (u,e)=>Instr.least e <|> Instr.least (u.map f))=some s:=by
 rw [List.partition_eq_filter_filter];dsimp only;by_cases he:ms.filter (not ∘ p)=[]
 ·have hu:ms.filter p ≠ []:=by
   intro e;apply h;have h1:=List.filter_eq_nil_iff.1 he;have h2:=List.filter_eq_nil_iff.1 e;refine List.eq_nil_iff_forall_not_mem.2 (fun x hx=> ?_);have k1:=h1 x hx;have k2:=h2 x hx;simp only [Function.comp_apply] at k1;cases hp:p x
   ·rw [hp] at k1;exact k1 rfl
   ·exact k2 hp
  obtain ⟨s,hs⟩:=Mr (l:=(ms.filter p).map f) (by simpa using hu);rw [he,hs];exact ⟨s,rfl⟩
 ·obtain ⟨s,hs⟩:=Mr he
  rw [hs];exact ⟨s,rfl⟩
theorem Jm {want:Array (String × TypeId)} {got:Array Method} (h:(want.toList.filter fun x=> !got.any fun m=>m.name ==x.1 && m.sig ==x.2).isEmpty=false):∃ s,Instr.missingMethod want got=some s:=by
 refine Ck _ _ (ms:=(want.toList.filter fun x=> !got.any fun m=>m.name ==x.1 && m.sig ==x.2).map (·.1)) ?_;intro e;rw [List.map_eq_nil_iff] at e;rw [e] at h;cases h
theorem FA {P:Program} {t xt asserted:TypeId} {v z:Value} {want:Array (String × TypeId)} {i j:TypeInfo} (hu:P.underlying asserted=some (.interface want)) (hi:P.info? t=some i) (hm:(want.toList.filter fun x=> !i.methods.any fun m=>m.name ==x.1 && m.sig ==x.2).isEmpty=false) (hj:P.info? asserted=some j) (hz:j.zero=some z):(Instr.typeAssert (.iface t v) xt asserted true).run P w= .ok (.tuple #[z,.bool false]) w:=by
 obtain ⟨s,hs⟩:=Jm hm;simp [Instr.typeAssert,run_underlying hu,typeInfo,hi,hs,zeroValue,hj,hz]
theorem BC:((prog.info? 223).bind fun i=>(prog.underlying 88).map fun d=>match d with | .interface want=>(want.toList.filter fun x=> !i.methods.any fun m=>m.name ==x.1 && m.sig ==x.2).isEmpty | _=>true)=some false:=by kernel_rfl
theorem Bv (v:Value) (w:World):(Instr.typeAssert (.iface 223 v) 184 88 true).run prog w= .ok (.tuple #[.nilIface,.bool false]) w:=by
 obtain ⟨j,hj,hz,_,_⟩:=PH JS;have h:=BC;cases hi:prog.info? 223 with
 | none=>rw [hi] at h;cases h
 | some i=>
  cases hu:prog.underlying 88 with
  | none=>rw [hi,hu] at h;cases h
  | some d=>
   rw [hi,hu] at h;cases d with
   | interface want=>exact FA hu hi (by simpa using h) hj hz
   | _=>cases h
def IY (m:Z6) (b:Int):Value:=if WG m b then .iface 225 (.agg #[.int .i64 b,.int .i64 (Zx m b (-1)),.int .i64 (Zo m.rm b)]) else .iface 223 (.agg #[.int .i64 b])
theorem FE  {b:Int} (h:Smy w v0 v1 v2 v3 v4 m) (hW:Wants m) (hl:m.sm.length<=12):cB 199 #[.agg #[v0,v1,v2,v3,v4,.int .i64 m.now],.int .i64 b] w (IY m b):=by
 have HW:=Z9 hW;clear hW;obtain ⟨op,hop⟩:=ZJ (WG m b);have Hop:=Z9 hop;unfold IY;rw [hop];clear hop;obtain ⟨us,hus⟩:=ZJ (Zx m b (-1));have Hus:=Z9 hus;rw [hus];clear hus;obtain ⟨a0,p0,a1,p1,a2,p2,a3,p3,a4,p4,rfl,rfl,rfl,rfl,rfl,K⟩:=Bx.new h;clear h;go_enter func199,ntmps199;go_wp2_with fail;generalize w.alloc (.cells (S6 a0 p0 a1 p1 a2 p2 a3 p3 a4 p4 m) 32)=W at *;refine ck (Tu (uh Hop) K.smy) fun w1 hb=> ?_;replace K:=K.next hb;clear hb;cases op
 ·go_wp2_with fail
  go_ret;exact ⟨rfl,K.bb⟩
 clear Hop;have HN:=Z9 (fun (X:World) (hX:Below w1.heap.size w1 X)=>Qk (uh Hus) (K.smy.below hX) (uh HW) hl);have HF:=Z9 (fun (X:World) (hX:Below w1.heap.size w1 X)=>NQ b (K.smy.below hX).rm);obtain ⟨c0,c1,c2,c3,c4,c5⟩:=K.cells;have k0:=ZX c0;have k1:=ZX c1;have k2:=ZX c2;have k3:=ZX c3;have k4:=ZX c4;have k5:=ZX c5;go_wp2_with fail;refine wq ?_
 repeat (go_big_quiet_step (first | exact ZZ (uh HN _ (Z1 _ _ _)) | exact ZZ (uh HF _ (Z1 _ _ _))))
 refine wpQuiet_nil ?_;intro _ hw';obtain ⟨⟨dq,osq⟩,hw''⟩:=hw';subst hw'';go_wp2_with fail;go_ret;exact ⟨rfl,K.bb.trans ((Z1 _ _ _).mono K.bb.size)⟩
attribute [local go_sem] yY Bv
theorem PY  (h:Smy w v0 v1 v2 v3 v4 m) (hW:Wants m) (hl:m.sm.length<=12) (hd:m.dk.length<=1000):Calls prog 140 #[.agg #[v0,v1,v2,v3,v4,.int .i64 m.now]] w fun e w'=> ∃ v',e= .returned v'/\Yo w.heap.size w' v' (XK m m.dk.length)/\Below w.heap.size w w':=by
 have HW:=Z9 hW;clear hW;have Hs:=Z9 h;obtain ⟨a0,p0,a1,p1,a2,p2,a3,p3,a4,p4,rfl,rfl,rfl,rfl,rfl,K⟩:=Bx.new h;clear h;go_enter func140,ntmps140;go_wp2_with fail
 go_loopw [3,11] (fun l i wr=> ∃ k:Nat,k<=m.dk.length/\i= .int .i64 k/\Yo (w.heap.size+1) wr l (XK m k)/\Bx w wr w.heap.size a0 p0 a1 p1 a2 p2 a3 p3 a4 p4 m) (fun _ i _=>m.dk.length-(intOf i).toNat)
 case atStart=>exact ⟨0,ZA _,rfl,Zq (by simp) (Z0 _),K.alloc _⟩
 case round=>
  obtain ⟨k,hk,rfl,hln,hK⟩:=hrel;clear K;have K:=hK;clear hK;obtain ⟨la,lc,rfl⟩:=RecAt.shape hln;have HL:=Z9 hln;have hfl:=Ss m k;clear hln;by_cases hlt:k<m.dk.length
  ·have hlt1:(k:Int)<(m.dk.length:Int):=by omega
   have HY:=Z9 (fun hh=>Qe (m:=m) (k:=k) hh);have HN:=Z9 (fun hh=>O4 (m:=m) (k:=k) hh);have hop:=Ds hlt;obtain ⟨op,hq⟩:=ZJ ((Z8 m.dk k).1);rw [hq] at hop HY HN;obtain ⟨bv,hbv⟩:=ZJ (IY m (k:Int));have HB:=Z9 (fun (X:World) (hX:Smy X (.slice a0 m.rm.length p0) (.slice a1 m.gd.length p1) (.slice a2 m.sm.length p2) (.slice a3 m.dk.length p3) (.slice a4 m.pc.length p4) m)=>FE (b:=(k:Int)) hX (uh HW) hl);rw [hbv] at HB;unfold IY at hbv;rw [hop] at hbv;unfold R8 at HY;generalize Zx m (k:Int) (-1)=us at *;generalize Zo m.rm (k:Int)=fo at *;subst hbv;clear hq hop;obtain ⟨c0,c1,c2,c3,c4,c5⟩:=K.cells;go_wp2_with fail;refine ck (uh HB _ K.smy) fun w1 hb=> ?_;replace K:=K.next hb;replace HL:=Z9 (RecAt.later (uh HL) hb);clear hb c0 c1 c2 c3 c4 c5 HB;cases op
   ·rw [if_neg (by simp)]
    go_wp2_with fail;go_roundw
    case rel=>exact ⟨k+1,by omega,by go_num,by rw [uh HN (by trivial)];exact uh HL,K⟩
    case measure=>exact ms
   ·rw [if_pos rfl]
    have hsx:=K.blk.lt;go_wp2_with (at_builtin;refine UF rfl (.tmp 22) (.tmp 24) 85 underlying85 rfl (w.heap.size+1) _ _ (XK m k) [((k:Int),us,fo)] rfl rfl (RecAt.later (uh HL) ((ba _ _))) (WH ((k:Int),us,fo) rfl (Z0 _) (by omega)) (by simp;omega) (by simp;omega) ?_;intro u9 w9 hp9 hg9 hat9;have HP9:=Z9 hp9;have HG9:=Z9 hg9;clear hp9 hg9 hat9)
    have hgo:∀ i,(Value.slice la (XK m k).length lc).ownBlock=some i->w.heap.size<=i/\i ≠ w.heap.size:=fun i e=>by have:=(RecAt.lt (uh HL) e).1;omega
    replace K:=(K.alloc _).grown (uh Hs) (uh HG9) hgo;go_wp2_with fail;go_roundw
    case rel=>exact ⟨k+1,by omega,by go_num,by rw [uh HY (by trivial)];exact uh HP9,K⟩
    case measure=>exact ms
  ·obtain rfl:k=m.dk.length:=by omega
   go_wp2_with fail;go_ret;exact ⟨_,rfl,RecAt.mono (uh HL) (Nat.le_succ _),K.bb⟩
theorem Nn {a0 a1 a2 a3 a4:Option Addr} {p0 p1 p2 p3 p4:Nat} {k:Nat} (h:Smy w (.slice a0 m.rm.length p0) (.slice a1 m.gd.length p1) (.slice a2 m.sm.length p2) (.slice a3 m.dk.length p3) (.slice a4 m.pc.length p4) m) (hl:m.sm.length<=1000) (hk:k<m.sm.length):Calls prog 141 #[.agg (S6 a0 p0 a1 p1 a2 p2 a3 p3 a4 p4 m),.int .i64 (k:Int)] w fun e w'=> ∃ g gc,e= .returned (.agg (S6 a0 p0 a1 p1 (some ⟨g,0,none⟩) gc a3 p3 a4 p4 m))/\Smy w' (.slice a0 m.rm.length p0) (.slice a1 m.gd.length p1) (.slice (some ⟨g,0,none⟩) m.sm.length gc) (.slice a3 m.dk.length p3) (.slice a4 m.pc.length p4) (WU m (k:Int))/\Below w.heap.size w w':=by
 have Hv0:=Z9 h;have hk1:(k:Int)<(m.sm.length:Int):=by omega
 clear h;go_enter func141,ntmps141;go_upto_region 1 with fail;obtain ⟨W,hW,kb,kr,BB⟩:=VP w 32 (S6 a0 p0 a1 p1 a2 p2 a3 p3 a4 p4 m) 32 E6;have Hv:=Z9 ((uh Hv0).below (uh BB));rw [hW];clear hW;obtain ⟨c0,c1,c2,c3,c4,c5⟩:=(uh kb).c6;go_wp2_with fail;refine ck (WS _ _ _ _ _ _ _ _ _ _ _ _ _ _ _ _ _) fun w1 hb=> ?_;replace kb:=bl kb hb;replace kr:=bl kr hb;replace Hv:=Z9 ((uh Hv).below hb);replace BB:=bt BB hb;clear hb c0 c1 c2 c3 c4 c5;go_wp2_with fail;refine (UH (uh Hv).sm hl).mono ?_;rintro e w2 ⟨v2,rfl,hs,hb⟩;have hlb:=(uh kb).lt;have hlr:=(uh kr).lt;have hlo:=(uh BB).size;replace kb:=bl kb hb;replace kr:=bl kr hb;replace BB:=bt BB hb;clear hb Hv;obtain ⟨ga,gc,rfl⟩:=RecAt.shape hs;obtain ⟨g,rfl,hg1,hg2,hcl,hfr⟩:=RecAt.view ZT (by omega) hs rfl (by omega);have hgb:g ≠ w.heap.size:=by omega
 have hgr:g ≠ w.heap.size+1:=by omega
 have hbg:w.heap.size ≠ g:=by omega
 have hrg:w.heap.size+1 ≠ g:=by omega
 have hwg:w.heap.size<=g:=by omega
 have HS:Hid (SmithsAt (w.heap.size+1) w2 (.slice (some ⟨g,0,none⟩) m.sm.length gc) (m.sm.set k (Z8 m.sm k))):=Z9 (by rw [MM hk];exact RecAt.mono hs (by omega));have s0:=hcl k hk 0 _ rfl;have f0:=hfr (k*11);simp only [Nat.add_zero] at s0;clear hcl hfr hs hg1;obtain ⟨c0,c1,c2,c3,c4,c5⟩:=(uh kb).c6;obtain ⟨q0,q1,q2,q3,q4,q5⟩:=(uh kb).f6;obtain ⟨o0,o1,o2,o3,o4,o5⟩:=(uh kr).c6;obtain ⟨t0,t1,t2,t3,t4,t5⟩:=(uh kr).f6;go_wp2_with fail;refine Zz (v:= .agg (S6 a0 p0 a1 p1 (some ⟨g,0,none⟩) gc a3 p3 a4 p4 m)) (by simp [results,results141,go_sem, *]) rfl ⟨g,gc,rfl,?_,?_⟩
 ·have h1:SmithsAt (w.heap.size+1) (w2.setCell ⟨w.heap.size,2,none⟩ (.slice (some ⟨g,0,none⟩) m.sm.length gc)) (.slice (some ⟨g,0,none⟩) m.sm.length gc) (m.sm.set k (Z8 m.sm k)):=RecAt.same (uh HS) (fun i e=>by cases e;exact heap_setCell_other _ _ _ _ hgb)
  have h2:=h1.put rfl hk (i:=0) (by omega) (.int .i64 1) (1,(Z8 m.sm k).2) rfl;exact (uh Hv0).other (Below.put6 _ _ _ _ _ _ (((uh BB).setCell (Z0 _) _).setCell (by show w.heap.size<=g;omega) _) (Nat.le_succ _)) (RecAt.off6 (.slice a0 m.rm.length p0) (.slice a1 m.gd.length p1) (.slice (some ⟨g,0,none⟩) m.sm.length gc) (.slice a3 m.dk.length p3) (.slice a4 m.pc.length p4) (.int .i64 m.now) h2 (fun i e=>by cases e;exact hgr))
 ·exact Below.put6 _ _ _ _ _ _ (((uh BB).setCell (Z0 _) _).setCell (by show w.heap.size<=g;omega) _) (Nat.le_succ _)
structure Asks (m:Z6) (k:Nat):Prop where
 sane:Sane m
 wants:Wants m
 hk:k<m.sm.length
 hs:(Z8 m.sm k).1 ≠ 0
 may:0<=(Z8 m.sm k).2.2.2.1/\(Z8 m.sm k).2.2.2.1<=255
theorem Loose.asks (h:Loose m) {k:Nat} (hk:k<m.sm.length) (hs:(Z8 m.sm k).1 ≠ 0):Asks m k:=⟨h.sane,h.wants,hk,hs,AA h hk hs⟩
theorem Asks.mem {k:Nat} (h:Asks m k) {x:YI} (hx:x ∈ XK (WU m (k:Int)) m.dk.length):UL (Z8 m.sm k).2.2.2.1 x.1=Tv m k x:=by
 obtain ⟨b,hb,_,rfl⟩:=(Su _ x _).1 hx;obtain ⟨y0,y1⟩:=h.may;have h8:=h.sane.eight;unfold UL Tv R8;rw [Zn y0 y1,Zn (show (0:Int)<=(b:Int) by omega) (show (b:Int)<=7 by omega)];rfl
theorem Asks.few {k:Nat} (h:Asks m k):(WE m (k:Int) m.dk.length).length<=8:=by
 have:=h.sane.eight;have:=O0 m (k:Int) m.dk.length;omega
theorem DV (m:Z6) (who:Int):Zl m who=if XT m || decide ((Zr m who).length=0) then (Ry (WE m who m.dk.length)).1 else (UG m who (Zr m who)).1:=by
 unfold Zl;rw [GG];cases hc:XT m
 ·by_cases hl:(Zr m who).length=0
  ·rw [if_neg (by simp [hl]),if_pos (by simp [hl])]
  ·rw [if_pos (by simp;omega),if_neg (by simp;intro e;rw [e] at hl;simp at hl)]
   rw [DT m who (by omega) (fun x hx=>by obtain ⟨b,_,rfl,_⟩:=F4 hx;omega)]
 ·rfl
attribute [local go_sem] Jk
theorem IZ  {k:Nat} {q:List YI} (hq:(XK (WU m (k:Int)) m.dk.length).filter (Tv m k)=q) (h:Smy w v0 v1 v2 v3 v4 m) (hS:Sane m) (hT:Wants m) (hk:k<m.sm.length) (hs:(Z8 m.sm k).1 ≠ 0) (hM:∀ x:YI,x ∈ XK (WU m (k:Int)) m.dk.length->UL (Z8 m.sm k).2.2.2.1 x.1=Tv m k x):Calls prog 74 #[.agg #[v0,v1,v2,v3,v4,.int .i64 m.now],.int .i64 (k:Int)] w fun e w'=> ∃ v',e= .returned v'/\Yo w.heap.size w' v' q/\Below w.heap.size w w':=by
 have HF:=Z9 hq;clear hq;have Hs:=Z9 h;obtain ⟨a0,p0,a1,p1,a2,p2,a3,p3,a4,p4,rfl,rfl,rfl,rfl,rfl,K⟩:=Bx.new h;clear h;have hl:=hS.few;have h8:=hS.eight;have HM:=Z9 hM;have HU:=Z9 (fun (g gc:Nat) (X:World) (hX:Smy X (.slice a0 m.rm.length p0) (.slice a1 m.gd.length p1) (.slice (some ⟨g,0,none⟩) m.sm.length gc) (.slice a3 m.dk.length p3) (.slice a4 m.pc.length p4) (WU m (k:Int)))=>PY (m:=WU m (k:Int)) hX (hT.away hk hs) (by rw [Lr];exact hl) (show m.dk.length<=1000 by omega));have hlen:=Ss (WU m (k:Int)) m.dk.length;clear hS hT hM hs;go_enter func74,ntmps74;go_upto_region 2 with fail;have HL:Hid (Yo (w.heap.size+1) ((w.alloc (.cells (S6 a0 p0 a1 p1 a2 p2 a3 p3 a4 p4 m) 32)).alloc (.cells #[] 88)) (.slice (some ⟨w.heap.size+1,0,none⟩) 0 0) []):=Z9 (Zq (by simp) (Z0 _));replace K:=K.alloc (.cells #[] 88);generalize (w.alloc (.cells (S6 a0 p0 a1 p1 a2 p2 a3 p3 a4 p4 m) 32)).alloc (.cells #[] 88)=W at *;obtain ⟨c0,c1,c2,c3,c4,c5⟩:=K.cells;go_wp2_with fail;refine (Nn K.smy (by omega) hk).mono ?_;rintro e w2 ⟨g,gc,rfl,hsm,hb⟩;replace K:=K.next hb;replace HL:=Z9 (RecAt.later (uh HL) hb);have HA:=Z9 hsm;clear hb c0 c1 c2 c3 c4 c5 hsm;go_wp2_with fail;refine (uh HU g gc _ (uh HA)).mono ?_;rintro e w3 ⟨v3,rfl,hu,hb⟩;have hu2:Yo w2.heap.size w3 v3 (XK (WU m (k:Int)) m.dk.length):=hu;have hlo2:∀ i,v3.ownBlock=some i->w2.heap.size<=i:=fun i e=>(RecAt.lt hu2 e).1;have hsp:∀ i,v3.ownBlock=some i->(Value.slice (some ⟨w.heap.size+1,0,none⟩) 0 0).ownBlock ≠ some i:=fun i e e2=>by have:=hlo2 i e;have:=(RecAt.lt (uh HL) e2).2;omega
 replace K:=K.next hb;replace HL:=Z9 (RecAt.later (uh HL) hb);clear hb HU HA hu hlo2;generalize XK (WU m (k:Int)) m.dk.length=us at *;obtain ⟨ua,uc,rfl⟩:=RecAt.shape hu2;have HU:=Z9 hu2;have Hsp:=Z9 hsp;clear hu2 hsp;have hus:us.length<=8:=by omega
 go_wp2_with fail
 go_loopw [5,14] (fun l i wr=> ∃ j:Nat,j<=us.length/\i= .int .i64 j/\Yo (w.heap.size+1) wr l ((us.take j).filter (Tv m k))/\Yo w2.heap.size wr (.slice ua us.length uc) us/\(∀ i,(Value.slice ua us.length uc).ownBlock=some i->l.ownBlock ≠ some i)/\Bx w wr w.heap.size a0 p0 a1 p1 a2 p2 a3 p3 a4 p4 m) (fun _ i _=>us.length-(intOf i).toNat)
 case atStart=>exact ⟨0,ZA _,rfl,uh HL,uh HU,uh Hsp,K⟩
 case round=>
  obtain ⟨j,hj,rfl,hln,hun,hsp,hK⟩:=hrel;clear K HL HU Hsp;have K:=hK;clear hK;obtain ⟨la,lc,rfl⟩:=RecAt.shape hln;have HL:=Z9 hln;have HU:=Z9 hun;have Hsp:=Z9 hsp;have hfl:((us.take j).filter (Tv m k)).length<=8:=by have e1:=List.length_filter_le (Tv m k) (us.take j);have e2:(us.take j).length<=us.length:=(by simp;omega);omega
  clear hln hun hsp;by_cases hlt:j<us.length
  ·have hlt1:(j:Int)<(us.length:Int):=by omega
   have HY:=Z9 (fun hh=>LR (p:=Tv m k) hlt hh);have HN:=Z9 (fun hh=>JP (p:=Tv m k) hlt hh);obtain ⟨q,hq⟩:=ZJ (Tv m k (Z8 us j));have hmm:=uh HM _ (Wd hlt);rw [hq] at HY HN hmm;generalize (us.take j).filter (Tv m k)=ls at *;obtain ⟨g,rfl,hgl,hgw,hcl,_⟩:=RecAt.view WM (by omega) (uh HU) rfl (by omega);have z0:=TN hcl hlt;clear hcl hq;generalize hx:Z8 us j=x at *;clear hx;obtain ⟨bx,ux,fx⟩:=x;simp only at z0 hmm;obtain ⟨_,_,hse,_,_,r2⟩:=K.smy.sm;cases hse
   rcases r2 with e0 | ⟨sb,off,rfl,hbw,hcs⟩
   ·rw [e0] at hk;simp at hk
   obtain ⟨d0,d1,d2,d3,d4,d5,d6,d7,d8,d9,d10⟩:=Zu hcs hk;clear hcs d0 d1 d2 d4 d5 d6 d7 d8 d9 d10;have hk1:(k:Int)<(m.sm.length:Int):=by omega
   have HI:=Z9 (fun X=>Calls.bool_of (Calls.same_below' (U9 (Z8 m.sm k).2.2.2.1 bx X)) hmm);clear hmm;generalize hmy:(Z8 m.sm k).2.2.2.1=my at *;clear hmy;go_upto_region 5 with fail;have c2:=K.blk.cell (i:=2) (v:= .slice (some ⟨sb,off,none⟩) m.sm.length p2) rfl;have k2:=ZX c2;have k3:=ZX d3;refine wq ?_
   repeat (go_big_quiet_step (first | exact ZZ (S9 _ _ _ _) | exact ZZ (uh HI _)))
   refine wqn fun wq hb=> ?_;replace K:=K.next hb;replace HL:=Z9 (RecAt.later (uh HL) hb);replace HU:=Z9 (RecAt.later (uh HU) hb);clear hb c2 k2 k3 d3 z0;cases q
   ·go_wp2_with fail
    go_roundw
    case rel=>exact ⟨j+1,by omega,by go_num,by rw [uh HN (by trivial)];exact uh HL,uh HU,uh Hsp,K⟩
    case measure=>exact ms
   ·have hsx:=K.blk.lt
    go_wp2_with (at_builtin;refine UF rfl (.tmp 27) (.tmp 29) 85 underlying85 rfl (w.heap.size+1) _ _ ls [(bx,ux,fx)] rfl rfl (RecAt.later (uh HL) ((ba _ _))) (WH (bx,ux,fx) rfl (Z0 _) (by omega)) (by simp;omega) (by simp;omega) ?_;intro u9 w9 hp9 hg9 hat9;have HP9:=Z9 hp9;have HG9:=Z9 hg9;have HA9:=Z9 hat9;clear hp9 hg9 hat9)
    have hgo:∀ i,(Value.slice la ls.length lc).ownBlock=some i->w.heap.size<=i/\i ≠ w.heap.size:=fun i e=>by have:=(RecAt.lt (uh HL) e).1;omega
    replace K:=(K.alloc _).grown (uh Hs) (uh HG9) hgo;have hul:=fun i e=>(RecAt.lt (uh HU) (i:=i) e).2
    have hsp9:∀ i,(Value.slice (some ⟨g,0,none⟩) us.length uc).ownBlock=some i->u9.ownBlock ≠ some i:=by
     intro i e e2
     rcases uh HA9 with h9 | h9
     ·rw [h9] at e2;exact uh Hsp i e e2
     ·rw [h9] at e2
      have:=hul i e;simp at e2;omega
    replace HU:=Z9 (RecAt.grown (RecAt.later (uh HU) ((ba _ _))) (uh HG9) (uh Hsp));go_wp2_with fail;go_roundw
    case rel=>exact ⟨j+1,by omega,by go_num,by rw [uh HY (by trivial)];exact uh HP9,uh HU,hsp9,K⟩
    case measure=>exact ms
  ·obtain rfl:j=us.length:=by omega
   have e9:(us.take us.length).filter (Tv m k)=q:=by rw [List.take_length];exact uh HF
   have E9:=Z9 e9;clear e9;go_wp2_with fail;go_ret;exact ⟨_,rfl,by rw [<-uh E9];exact RecAt.mono (uh HL) (Nat.le_succ _),K.bb⟩
theorem TO  {k:Nat} (h:Smy w v0 v1 v2 v3 v4 m) (A:Asks m k):Calls prog 74 #[.agg #[v0,v1,v2,v3,v4,.int .i64 m.now],.int .i64 (k:Int)] w fun e w'=> ∃ v',e= .returned v'/\Yo w.heap.size w' v' (WE m (k:Int) m.dk.length)/\Below w.heap.size w w':=IZ (GP m A.hk _) h A.sane A.wants A.hk A.hs (fun x hx=>A.mem hx)
end Go.Proofs.YtgdpaigcmoifbaaGreat
