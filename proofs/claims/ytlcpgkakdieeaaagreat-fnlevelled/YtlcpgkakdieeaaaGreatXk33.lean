/- Part 33 of what the proof rests on. No condition but those that a theorem names. -/
import Derived.Test.YtlcpgkakdieeaaaGreatXk28
import Derived.Test.YtlcpgkakdieeaaaGreatXk29
import Derived.Test.YtlcpgkakdieeaaaGreatXk31
import Derived.BigFrame
set_option maxHeartbeats 8000000
set_option maxRecDepth 100000
namespace Go.Proofs.YtlcpgkakdieeaaaGreat
open Go.ChangeShapes Go.WideShapes Go.ChangeAt Go.RowKit Go.Sort Go.Proofs.Tryz
set_option linter.unusedVariables false
set_option linter.unusedSimpArgs false
variable {w w' w0 w1 w2 w3 w₀ wr W W' X A B C : World} {v v0 v1 v2 v3 v4 u u0 u1 u2 u3 u4 : Value} {m : Z6}
theorem Qe (h:Loose m):0<m.pc.length:=by
 rw [Wk h];have hd:=h.head;unfold YO at hd;simp only [ZP,Zc] at hd;have:=(Zi hd.1).1;omega
theorem PD {R n₀:Nat}  {qs:List (ZW × Value)} {nw:Int} (hn:m.now=nw) (kb:Blk w R 32 #[v0,v1,v2,v3,v4,.int .i64 nw]) (hf:FullSmy n₀ w v0 v1 v2 v3 v4 m qs) (h2:v2.ownBlock ≠ some R) (h3:v3.ownBlock ≠ some R) (hl:m.sm.length<=800) (hd:m.dk.length<=1000) :
  Calls prog 218 #[.pointer (some ⟨R,0,none⟩)] w fun e w'=>e= .returned (.tuple #[.agg #[v0,v1,v2,v3,v4,.int .i64 nw],.int .i64 0])/\FullSmy n₀ w' v0 v1 v2 v3 v4 (ZJ m) qs/\Two v2.ownBlock v3.ownBlock w w':=by
 subst hn;exact Sx kb hf h2 h3 hl hd
theorem Gm  (h:Smy w v0 v1 v2 v3 v4 m) (hok:ZI m=true) :
  Calls prog 210 #[.agg #[v0,v1,v2,v3,v4,.int .i64 m.now]] w fun e w'=>S8 w.heap.size (FU m) 0 e w'/\Below w.heap.size w w':=by
 obtain ⟨X,hX⟩:=ZL (FU m);rw [hX];have HX:=Z9 hX;clear hX;obtain ⟨a0,p0,a1,p1,a2,p2,a3,p3,a4,p4,rfl,rfl,rfl,rfl,rfl,-⟩:=h.five;refine op1 h hok func210 ntmps210 ?_
 intros
 rename_i Hok HLo HFew b0 q0 b1 q1 b2 q2 b3 q3 b4 q4 oq W2 ob H
 obtain ⟨kb,kr,Hv,HO,ko,LO,hob,BB⟩:=H.out;clear H;have Hv0:=Z9 h;clear h;have hpp:=Qe (uh HLo);have hpr:=Wk (uh HLo);have HSn:=Z9 (uh HLo).sane;have hp9:=(uh HFew).nums;obtain ⟨g4,hga,_,hg4w,_,_⟩:=RecAt.view YP (by omega) (uh HO).pc rfl (by omega);cases hga;have hg4o:=(uh LO g4 (.inr (.inr (.inr (.inr (.inr rfl))))))
 have Hpr:=Z9 hpr;clear hpr;go_wp2_with fail
 go_loopw [5] (fun i wr=> ∃ k:Nat,k<=m.pc.length/\i= .int .i64 k/\FullSmy (w.heap.size+2) wr (.slice b0 m.rm.length q0) (.slice b1 m.gd.length q1) (.slice b2 m.sm.length q2) (.slice b3 m.dk.length q3) (.slice (some ⟨g4,0,none⟩) m.pc.length q4) (Qu m k) oq/\Two none (some g4) W2 wr) (fun i _=>m.pc.length-(intOf i).toNat)
 case atStart=>exact ⟨0,ZC _,rfl,uh HO,Two.refl _ _ _⟩
 case round=>
  obtain ⟨k,hk,rfl,hf1,htw⟩:=hrel;have hbw:=(uh BB).trans (htw.below (uh BB).size (fun _ e=>by cases e) (fun j e=>by cases e;omega));have B1:=Z9 hbw;have Hv1:=Z9 ((uh Hv0).below hbw);have kb1:=Z9 ((uh kb).two htw (by simp) (fun e=>by cases e;omega));have ko1:=Z9 ((uh ko).two htw (by simp) (fun e=>by cases e;omega));have kr1:=Z9 ((uh kr).two htw (by simp) (fun e=>by cases e;omega));have HF1:=Z9 hf1;have Tw:=Z9 htw;clear hbw hf1 htw;by_cases hlt:k<m.pc.length
  ·
   obtain ⟨c0,c1,c2,c3,c4,c5⟩:=(uh kb1).c6;have x4:=(uh ko1).cell (i:=4) (v:= .slice (some ⟨g4,0,none⟩) m.pc.length q4) rfl;have hkp1:(k:Int)<(m.pc.length:Int):=by omega
   go_wp2_with fail;refine ZK (S:=fun w'=>w'.cell? ⟨w.heap.size,0,none⟩=some (.slice a0 m.rm.length p0)/\w'.cell? ⟨w.heap.size,1,none⟩=some (.slice a1 m.gd.length p1)/\w'.cell? ⟨w.heap.size,2,none⟩=some (.slice a2 m.sm.length p2)/\w'.cell? ⟨w.heap.size,3,none⟩=some (.slice a3 m.dk.length p3)/\w'.cell? ⟨w.heap.size,4,none⟩=some (.slice a4 m.pc.length p4)/\w'.cell? ⟨w.heap.size,5,none⟩=some (.int .i64 m.now)/\w'.cell? ⟨ob,4,none⟩=some (.slice (some ⟨g4,0,none⟩) m.pc.length q4)) (by kernel_rfl) (WN _ _) (by kernel_rfl) ⟨c0,c1,c2,c3,c4,c5,x4⟩ (fun hHeld=> ?_);clear c0 c1 c2 c3 c4 c5 x4;simp only [WO,WR,YN,Yx,Nat.zero_add,Nat.reduceAdd]
   iterate 5 refine tz ?_
   refine rd 5 rfl (fun K hK=> ?_);go_simp;refine ck (ME (r:=k) ((uh Hv1).below (ZZ _ _).drew) (uh HSn) (by rw [<-uh Hpr];exact hlt)) fun w9 hb8=> ?_;have hb9:Below wr.heap.size wr w9:=(ZZ wr.heap.size wr).drew.trans hb8;clear hb8;have kb9:=(uh kb1).below hb9 (uh kb1).lt;have ko9:=(uh ko1).below hb9 (uh ko1).lt;refine hK.out _ _ ⟨kb9.cell (i:=0) rfl,kb9.cell (i:=1) rfl,kb9.cell (i:=2) rfl,kb9.cell (i:=3) rfl,kb9.cell (i:=4) rfl,kb9.cell (i:=5) rfl,ko9.cell (i:=4) rfl⟩ (fun hHeld=> ?_);clear hK K kb9 ko9
   (try simp only [Act.put,sA,sZ,sS])
   have HF9:=Z9 ((uh HF1).below hb9);have T9:=Z9 ((uh Tw).trans (Two.of_below hb9));have hal:m.pc.length=(Qu m k).pc.length:=(RJ m k).2.2.2.2.2.symm;obtain ⟨_,hga,_,_,hc4,hz4⟩:=RecAt.view YP (by omega) (uh HF9).pc hal (by omega);cases hga;have s0:=hc4 k (by omega) 0 _ rfl;have f0:=hz4 k;have hput:=(uh HF9).putP hal (j:=k) (by omega) (TB m k);simp only [Nat.add_zero,Nat.mul_one] at s0;have HP:=Z9 hput;clear hc4 hz4 hput hb9 hal;refine tp 6 ?_;refine wpAnyH_done (by kernel_rfl) ?_ _;refine Zu rfl rfl ?_;go_simp;clear hHeld;go_wp2_with fail;go_roundw
   case rel=>exact ⟨k+1,by omega,by go_num,uh HP,(uh T9).trans (Two.of_set _ (.inr rfl) _ _)⟩
   case measure=>exact ms
  ·
   obtain rfl:k=m.pc.length:=by omega
   have c4:=(uh kb1).cell (i:=4) (v:= .slice a4 m.pc.length p4) rfl;have hno:¬ ((m.pc.length:Nat):Int)<(m.pc.length:Int):=by omega
   obtain ⟨e1,e2,e3,e4,e5,e6⟩:=RJ m m.pc.length;have hfw:=uh HFew;go_wp2_with fail;have hofR:∀ k,WM (.slice b0 m.rm.length q0) (.slice b1 m.gd.length q1) (.slice b2 m.sm.length q2) (.slice b3 m.dk.length q3) (.slice (some ⟨g4,0,none⟩) m.pc.length q4) oq k->k ≠ ob:=fun k e=>by have:=(uh LO k e).2;omega
   refine (PD (m:=Qu m m.pc.length) e5 (uh ko1) (uh HF1) (fun e=>hofR _ (.inr (.inr (.inr (.inl e)))) rfl) (fun e=>hofR _ (.inr (.inr (.inr (.inr (.inl e))))) rfl) (by rw [e3];have:=hfw.sm;omega) (by rw [e4];exact hfw.dk)).mono ?_;rintro e w3 ⟨rfl,hf9,ht9⟩;replace kr:=Z9 ((uh kr1).two ht9 (fun e=>by have:=(uh LO _ (.inr (.inr (.inr (.inl e))))).1;omega) (fun e=>by have:=(uh LO _ (.inr (.inr (.inr (.inr (.inl e)))))).1;omega));replace BB:=Z9 ((uh B1).trans (ht9.below (uh B1).size (fun k e=>by have:=(uh LO k (.inr (.inr (.inr (.inl e))))).1;omega) (fun k e=>by have:=(uh LO k (.inr (.inr (.inr (.inr (.inl e)))))).1;omega)));have hnow:(ZJ (Qu m m.pc.length)).now=m.now:=(Zx _ _).2.2.2.1.trans e5;have HF9:=Z9 hf9;have Hn9:=Z9 hnow;clear hf9 ht9 hofR e1 e2 e3 e4 e5 e6 hnow c4;obtain ⟨o0,o1,o2,o3,o4,o5⟩:=(uh kr).c6;obtain ⟨f0,f1,f2,f3,f4,f5⟩:=(uh kr).f6;go_wp2_with fail;refine ZE (v:= .tuple #[.agg (S6 b0 q0 b1 q1 b2 q2 b3 q3 (some ⟨g4,0,none⟩) q4 m),.int .i64 0]) (by simp [results,results210,go_sem, *]) rfl ⟨?_,?_⟩
   ·rw [<-uh HX];refine ⟨_,_,_,_,_,oq,by unfold FU;rw [uh Hn9],?_⟩
    iterate 6 (refine FullSmy.set_off ?_ (fun k e=>by have:=(uh LO k e).1;omega) _ _)
    exact (uh HF9).mono (by omega)
   ·iterate 6 (refine XI ?_ (by show _<=w.heap.size+1;omega) _)
    exact uh BB
open Go.ChangeShapes Go.WideShapes Go.ChangeAt Go.RowKit Go.Sort
def putW (m:Z6) (s:Z2) (b:Int):Z2:=Qn s b (Zs (XK s) (XR m s.2.1) (XR m b))
open Go.ChangeShapes Go.WideShapes Go.ChangeAt Go.RowKit Go.Sort Go.Shelf Go.Proofs.Tryz
set_option maxRecDepth 100000
theorem Ou (m:Z6) (k:Nat) (s t:Z2):setS (setS m k s) k t=setS m k t:=by unfold setS;simp
def N5 (m:Z6) (w b:Nat):Z6:=setS m w (putW m (Z8 m.sm w) (b:Int))
theorem BL {k b:Nat} (h:Moves m k b):Uu (N5 m k b)=XZ m k b:=by
 have hlo:=ZM h.right;have hk:=h.who;have hs:=U7 h.pres;obtain ⟨p,g1,b1⟩:=hlo.limits hk hs;obtain ⟨a0,a1,a2,a3,a4⟩:=hlo.at hk h.pres;have hma:=h.may;unfold YA at hma;simp only [ZP,Zr] at hma;have hatP:∀ x:Z2,Z8 (setS m k x).sm k=x:=fun x=>by unfold setS;rw [ZD hk,if_pos rfl]
 have hlP:∀ x:Z2,k<(setS m k x).sm.length:=fun x=>by unfold setS;simpa using hk
 have hP:Loose (setS m k (putS m (Z8 m.sm k) (b:Int))):=h.loose;have h9:=hP.at (hlP _) (by rw [hatP];exact h.pres);rw [hatP] at h9
 have hks:=I9 (m:=m) (s:=Z8 m.sm k) (b:=b) (had:=Zs (XK (Z8 m.sm k)) (XR m (Z8 m.sm k).2.1) (XR m (b:Int))) hlo p g1 h.bench hma.1 hma.2 (by
  have h8:=h9.2.2.2.2
  exact h8)
 have hS:Loose (setS m k (putW m (Z8 m.sm k) (b:Int))):=hlo.setS hk hks.1 hks.2;unfold N5 XZ VM;rw [EW hS];refine EU (A:=setS m k (putS m (Z8 m.sm k) (b:Int))) (B:=setS m k (putW m (Z8 m.sm k) (b:Int))) rfl rfl rfl rfl rfl (by unfold setS;simp) (fun i hi=> ?_);by_cases hik:i=k
 ·right
  subst hik;rw [hatP,hatP];refine ⟨rfl,rfl,h.pres,?_,?_⟩
  ·show (0:Int)<=(b:Int);omega
  ·exact Int.ofNat_lt.2 h.bench
 ·left
  unfold setS;simp only;rw [ZD hk,ZD hk,if_neg hik,if_neg hik]
theorem FullSmy.two {n₀:Nat} {p q:Option Nat}  {qs:List (ZW × Value)} (h:FullSmy n₀ w v0 v1 v2 v3 v4 m qs) (ht:Two p q w w') (hp:∀ k,WM v0 v1 v2 v3 v4 qs k->p ≠ some k/\q ≠ some k):FullSmy n₀ w' v0 v1 v2 v3 v4 m qs:=h.keep fun k e=>ht.block k (h.own e).2 (hp k e).1 (hp k e).2
theorem Wy (w:World) (g o:Nat) (u:Value):Two (some g) none w (w.setCell ⟨g,o,none⟩ u):=Two.of_set w (.inl rfl) o u
theorem Ra (w:World) (g:Nat) (a b c:Value):Two (some g) none w (((w.setCell ⟨g,0,none⟩ a).setCell ⟨g,1,none⟩ b).setCell ⟨g,2,none⟩ c):=((Wy _ _ _ _).trans (Wy _ _ _ _)).trans (Wy _ _ _ _)
theorem J9 (w:World) (g:Nat) (a b c d e f:Value):Two (some g) none w ((((((w.setCell ⟨g,0,none⟩ a).setCell ⟨g,1,none⟩ b).setCell ⟨g,2,none⟩ c).setCell ⟨g,3,none⟩ d).setCell ⟨g,4,none⟩ e).setCell ⟨g,5,none⟩ f):=(((((Wy _ _ _ _).trans (Wy _ _ _ _)).trans (Wy _ _ _ _)).trans (Wy _ _ _ _)).trans (Wy _ _ _ _)).trans (Wy _ _ _ _)
theorem Two.up {p:Nat} (h:Below w.heap.size w W) (ht:Two (some p) none W X) (hp:w.heap.size<=p):Below w.heap.size w X:=h.trans (ht.below h.size (fun k e=>by cases e;exact hp) (fun k e=>by cases e))
theorem Blk.put3 {R:Nat} {t:TypeId} (v0 v1 v2:Value) (h:Blk w R t #[u0,u1,u2]):Blk (((w.setCell ⟨R,0,none⟩ v0).setCell ⟨R,1,none⟩ v1).setCell ⟨R,2,none⟩ v2) R t #[v0,v1,v2]:=by
 have h0:Blk _ R t #[v0,u1,u2]:=h.set 0 v0;have h1:Blk _ R t #[v0,v1,u2]:=h0.set 1 v1;exact h1.set 2 v2
theorem OQ {p:Option Nat} {R:Nat} (h:Two p none w W) (ht:Two (some R) none W X) (hR:w.heap.size<=R):Two p none w X:=
 ⟨ht.os.trans h.os,ht.tape.trans h.tape,ht.output.trans h.output,XN h.size ht.size,fun k hk hp hq=>(ht.block k (Zf hk h.size) (fun e=>by cases e;omega) (fun e=>by cases e)).trans (h.block k hk hp hq)⟩
theorem CZ {n₀:Nat} {g n cap:Nat}  {qs:List (ZW × Value)} (K:FullSmy n₀ W v0 v1 (.slice (some ⟨g,0,none⟩) n cap) v3 v4 m qs) (hn:n=m.sm.length) {k:Nat} (hk:k<m.sm.length) (b had:Int) :
  Calls prog 71 #[.pointer (some ⟨g,k*11,none⟩),.int .i64 b,.int .i64 had] W fun e W'=>e= .returned (.tuple #[])/\FullSmy n₀ W' v0 v1 (.slice (some ⟨g,0,none⟩) n cap) v3 v4 (setS m k (Qn (Z8 m.sm k) b had)) qs/\Two (some g) none W W':=by
 obtain ⟨⟨st,be,rk,my,gu,lo,hi,hd,ca,ut,wk⟩,hrk⟩:=ZL (Z8 m.sm k);have hl:∀ x:Z2,k<(setS m k x).sm.length:=fun x=>by unfold setS;simpa using hk
 have hlen:∀ x:Z2,n=(setS m k x).sm.length:=fun x=>by unfold setS;simpa using hn
 have hat:∀ x:Z2,Z8 (setS m k x).sm k=x:=fun x=>by unfold setS;rw [ZD hk,if_pos rfl]
 obtain ⟨_,hga,_,_,hc,hz⟩:=RecAt.view ZT (by omega) K.sm hn (by omega);cases hga;have s0:=hc k hk 0 _ rfl;have f0:=hz (k*11);have K1:FullSmy n₀ _ v0 v1 _ v3 v4 (setS m k (2,be,rk,my,gu,lo,hi,hd,ca,ut,wk)) qs:=K.putS hn hk (i:=0) (by omega) (.int .i64 2) (2,be,rk,my,gu,lo,hi,hd,ca,ut,wk) (by rw [hrk];rfl);obtain ⟨_,hga,_,_,hc1,hz1⟩:=RecAt.view ZT (by omega) K1.sm (hlen _) (by have:=hl (2,be,rk,my,gu,lo,hi,hd,ca,ut,wk);omega);cases hga;have s1:=hc1 k (hl _) 1 _ rfl;have f1:=hz1 (k*11+1);have K2:FullSmy n₀ _ v0 v1 _ v3 v4 (setS (setS m k (2,be,rk,my,gu,lo,hi,hd,ca,ut,wk)) k (2,b,rk,my,gu,lo,hi,hd,ca,ut,wk)) qs:=K1.putS (hlen _) (hl _) (i:=1) (by omega) (.int .i64 b) (2,b,rk,my,gu,lo,hi,hd,ca,ut,wk) (by rw [hat];rfl);rw [Ou] at K2;obtain ⟨_,hga,_,_,hc2,hz2⟩:=RecAt.view ZT (by omega) K2.sm (hlen _) (by have:=hl (2,b,rk,my,gu,lo,hi,hd,ca,ut,wk);omega);cases hga;have s7:=hc2 k (hl _) 7 _ rfl;have f7:=hz2 (k*11+7);have K3:FullSmy n₀ _ v0 v1 _ v3 v4 (setS (setS m k (2,b,rk,my,gu,lo,hi,hd,ca,ut,wk)) k (2,b,rk,my,gu,lo,hi,had,ca,ut,wk)) qs:=K2.putS (hlen _) (hl _) (i:=7) (by omega) (.int .i64 had) (2,b,rk,my,gu,lo,hi,had,ca,ut,wk) (by rw [hat];rfl);rw [Ou] at K3;simp only [Nat.add_zero] at s0 s1 s7 K3;simp only [Nat.add_zero] at f1 f7;have HK:=Z9 K3;have hres:Qn (st,be,rk,my,gu,lo,hi,hd,ca,ut,wk) b had=(2,b,rk,my,gu,lo,hi,had,ca,ut,wk):=rfl;rw [hrk,hres];clear K K1 K2 K3 hc hz hc1 hz1 hc2 hz2 hat hl hlen hres hrk;go_enter func71,ntmps71;go_wp2_with fail
 go_end0
 exact ⟨rfl,uh HK,((Wy _ _ _ _).trans (Wy _ _ _ _)).trans (Wy _ _ _ _)⟩
theorem AR {n₀:Nat} {R g2 p2:Nat}  {qs:List (ZW × Value)} (kb:Blk W R 32 #[v0,v1,.slice (some ⟨g2,0,none⟩) m.sm.length p2,v3,v4,.int .i64 m.now]) (K:FullSmy n₀ W v0 v1 (.slice (some ⟨g2,0,none⟩) m.sm.length p2) v3 v4 m qs) {k b bn:Nat} (hk:k<m.sm.length) (hb:b<m.dk.length) (hbn:(Z8 m.sm k).2.1=(bn:Int)) (hbl:bn<m.dk.length) :
  Calls prog 32 #[.pointer (some ⟨R,0,none⟩),.int .i64 (k:Int),.int .i64 (b:Int)] W fun e W'=>e= .returned (.tuple #[])/\FullSmy n₀ W' v0 v1 (.slice (some ⟨g2,0,none⟩) m.sm.length p2) v3 v4 (N5 m k b) qs/\Two (some g2) none W W':=by
 have hk1:(k:Int)<(m.sm.length:Int):=by omega
 have hb1:(b:Int)<(m.dk.length:Int):=by omega
 have hbl1:(bn:Int)<(m.dk.length:Int):=by omega
 obtain ⟨a3,p3,rfl⟩:=RecAt.shape K.dk;obtain ⟨g3,hga,_,_,hc3,hz3⟩:=RecAt.view Zy (by omega) K.dk rfl (by omega);cases hga;obtain ⟨_,hga,_,_,hc2,hz2⟩:=RecAt.view ZT (by omega) K.sm rfl (by omega);cases hga;obtain ⟨mk,hmk⟩:=ZL ((Z8 m.dk b).2.2);obtain ⟨mf,hmf⟩:=ZL ((Z8 m.dk bn).2.2);obtain ⟨hd,hhd⟩:=ZL (XK (Z8 m.sm k));have d1:=hc3 b hb 2 (.int .i64 mk) (by rw [<-hmk];rfl);have d2:=hc3 bn hbl 2 (.int .i64 mf) (by rw [<-hmf];rfl);have s1:=hc2 k hk 1 (.int .i64 (bn:Int)) (by rw [<-hbn];rfl);have s7:=hc2 k hk 7 (.int .i64 hd) (by rw [<-hhd];rfl)
 have hpw:putW m (Z8 m.sm k) (b:Int)=Qn (Z8 m.sm k) (b:Int) (Zs hd mf mk):=by
  unfold putW XR;rw [hhd,hbn,Zr,Zr,hmk,hmf]
 obtain ⟨hn,hhn⟩:=ZL (Zs hd mf mk);unfold N5;rw [hpw,hhn];have Hhn:=Z9 hhn;obtain ⟨_,_,c2,c3,_,_⟩:=kb.c6;clear hc2 hz2 hc3 hz3 hmk hmf hhd hpw hhn kb;go_enter func32,ntmps32;go_wp2_with fail;have k1:=ZY c3;have k2:=ZY d1;have k3:=ZY d2;have k4:=ZY s1;refine wq ?_
 repeat (go_big_quiet_step (fail))
 refine wqn fun wq hbb=> ?_;replace K:=K.below hbb;have Tw:Hid (Two (some g2) none W wq):=Z9 (Two.of_below hbb);replace s7:=(hbb.cell (World.block_lt_of_cell? _ _ s7)).trans s7;clear hbb c2 c3 d1 d2 s1 k1 k2 k3 k4;go_wp2_with fail;refine ck (Calls.int_of (MB hd mf mk _) (uh Hhn)) fun w1 hbb=> ?_;replace K:=K.below hbb;replace Tw:=Z9 ((uh Tw).trans (Two.of_below hbb));clear hbb s7;go_wp2_with fail;refine (CZ K rfl hk (b:Int) hn).mono ?_;rintro e w2 ⟨rfl,K2,T2⟩;have HK:=Z9 K2;replace Tw:=Z9 ((uh Tw).trans T2);clear K2 T2;go_wp2_with fail
 go_end0
 exact ⟨rfl,uh HK,uh Tw⟩
set_option maxRecDepth 100000
def Ce (r:Option (Nat × Nat)) (x y:Int) (f:Bool):Prop:=match r with
 | none=>x=0/\y=0/\f=false
 | some (a,b)=>x=(a:Int)/\y=(b:Int)/\f=true
attribute [local go_sem ↓] Qj Qk
theorem QT {n₀ n B:Nat}  {qs:List (ZW × Value)} {D:DataW Unit} (h:FullSmy n₀ w v0 v1 v2 v3 v4 m qs) (hoB:∀ k,WM v0 v1 v2 v3 v4 qs k->k ≠ B) (hm:ZI m=true) (hM:Mp w B n D) (hn:n<=500) (hS:∀ l,Maps.has D l=true-> ∃ i:Nat,l= .int .i64 (i:Int)/\Pp m i) :
  Calls prog 31 #[.agg #[v0,v1,v2,v3,v4,.int .i64 m.now],.map (some B)] w fun e w'=>(∃ x y f,e= .returned (.agg #[.int .i64 x,.int .i64 y,.bool f])/\Ce (Yf m) x y f)/\Two (some B) none w w'/\ ∃ n' D',Mp w' B n' D'/\n'<=n+1/\ ∀ l,Maps.has D' l=true-> ∃ i:Nat,l= .int .i64 (i:Int)/\AU m (Pp m) i:=by
 have hBl:=hM.lt;have hlo:=ZM hm;have h12:=Zj hlo;have h8:m.dk.length<=8:=hlo.sane.eight;clear hlo;have HF:=Z9 (fun (X:World) (T:Two (some B) none w X)=>h.two T (fun k e=>⟨fun e2=>hoB k e (by cases e2;rfl),fun e2=>by cases e2⟩));clear hoB;obtain ⟨r,Hr⟩:=Yt (Zb m);obtain ⟨a0,p0,a1,p1,a2,p2,a3,p3,a4,p4,rfl,rfl,rfl,rfl,rfl,K⟩:=Bx.new h.smy;clear h;go_enter func31,ntmps31;go_upto_region 1 with fail;replace K:=K.alloc (.cells Z3 58)
 have kr:Hid (Blk ((w.alloc (.cells (S6 a0 p0 a1 p1 a2 p2 a3 p3 a4 p4 m) 32)).alloc (.cells Z3 58)) (w.heap.size+1) 58 Z3):=Z9 (by
  have k:=Blk.new (w.alloc (.cells (S6 a0 p0 a1 p1 a2 p2 a3 p3 a4 p4 m) 32)) 58 Z3;rw [Yy] at k
  exact k)
 generalize (w.alloc (.cells (S6 a0 p0 a1 p1 a2 p2 a3 p3 a4 p4 m) 32)).alloc (.cells Z3 58)=W at *;have HM:Hid (Mp W B n D):=Z9 (hM.same (K.bb.block B hBl));clear hM;obtain ⟨c0,c1,c2,c3,c4,c5⟩:=K.cells;go_wp2_with fail
 refine (QR (mv:= .map (some B)) (S:=fun i=>Maps.has D (.int .i64 (i:Int))) (uh Hr) K.smy hm (.inr ⟨B,n,D,rfl,uh HM,fun _=>rfl⟩) (fun i e=>by
  obtain ⟨j,ej,hj⟩:=hS _ e;have e9:(i:Int)=(j:Int):=by injection ej
  rw [show i=j by omega]
  exact hj)).mono ?_
 rintro e w1 ⟨rfl,hb⟩;replace K:=K.next hb;replace kr:=bl kr hb;replace HM:=Z9 ((uh HM).below hb);clear hb c0 c1 c2 c3 c4 c5;cases r with
 | some q=>
  obtain ⟨wh,bb⟩:=q;have mv:=RS (uh Hr);have hw1:wh<=1000:=by have:=mv.who;omega
  have hb1:bb<=1000:=by have:=mv.bench;omega
  have hn1:n<=1000:=by omega
  clear mv;simp only [Option.map_some,Qz,TV];go_upto_region 3 with fail;obtain ⟨X,hX,hb,kt⟩:=Yn w1 58 #[.int .i64 (wh:Int),.int .i64 (bb:Int),.bool true];have hwx:w.heap.size+1<w1.heap.size:=(uh kr).lt;replace K:=K.next hb;replace kr:=bl kr hb;replace HM:=Z9 ((uh HM).below hb);clear hb;rw [hX];clear hX;generalize w1.heap.size=sx at *;obtain ⟨t0,t1,t2⟩:=(uh kt).c3;go_upto_region 4 with (at_mapUpdate;refine Km _ rfl _ _ _ rfl (b:=B) (n:=n) (D:=D) rfl (uh HM) hn1 wh bb hw1 hb1 rfl rfl ?_;intro w3 D3 hm3 hk3 ht3;have HM3:=Z9 hm3;have HK3:=Z9 hk3;have HT3:=Z9 ht3;clear hm3 hk3 ht3)
  clear t0 t1 t2;have hne:some B ≠ some (w.heap.size+1):=fun e=>by cases e;omega
  have hne2:some B ≠ some sx:=fun e=>by cases e;omega
  replace kr:=Z9 ((uh kr).two (uh HT3) hne (fun e=>by cases e));replace kt:=Z9 ((uh kt).two (uh HT3) hne2 (fun e=>by cases e));have HT:Hid (Two (some B) none w w3):=Z9 ((Two.of_below K.bb).trans (uh HT3));obtain ⟨t0,t1,t2⟩:=(uh kt).c3;obtain ⟨o0,o1,o2⟩:=(uh kr).c3;obtain ⟨f0,f1,f2⟩:=(uh kr).f3;go_wp2_with fail;have HT4:=Ra w3 (w.heap.size+1) (.int .i64 (wh:Int)) (.int .i64 (bb:Int)) (.bool true);refine ZE (v:= .agg #[.int .i64 (wh:Int),.int .i64 (bb:Int),.bool true]) (by simp [results,results31,go_sem, *]) rfl ⟨⟨_,_,_,rfl,by rw [Jq (uh Hr)];exact ⟨rfl,rfl,rfl⟩⟩,?_,n+1,D3,(uh HM3).two HT4 (fun e=>hne e.symm) (fun e=>by cases e),Z0 _,fun l hl=> ?_⟩
  ·exact OQ (uh HT) HT4 (Nat.le_succ _)
  ·rcases uh HK3 l hl with rfl | hl
   ·exact ⟨wh,rfl,_,uh Hr,.inl rfl⟩
   ·obtain ⟨i,rfl,hi⟩:=hS l hl
    exact ⟨i,rfl,_,uh Hr,.inr hi⟩
 | none=>
  obtain ⟨r2,hr2⟩:=ZL (YZ m);have Hr2:=Z9 hr2;have Hmv:Hid (Yf m=r2):=Z9 (by rw [Eu (uh Hr),hr2]);clear hr2;simp only [Option.map_none,TV];go_upto_region 5 with fail;replace K:=K.next ((ZZ _ _).alloc (Z0 _) (.cells #[.int .i64 0,.int .i64 0,.bool false] 58));replace HM:=Z9 ((uh HM).below ((ZZ _ _).alloc (Z0 _) (.cells #[.int .i64 0,.int .i64 0,.bool false] 58)));replace kr:=Z9 ((uh kr).alloc (.cells #[.int .i64 0,.int .i64 0,.bool false] 58));generalize w1.alloc (.cells #[.int .i64 0,.int .i64 0,.bool false] 58)=X at *;obtain ⟨w3,hrun,hm3,ht3⟩:=DR (uh HM);have HM3:=Z9 hm3;have HT3:=Z9 ht3;clear hm3 ht3;go_upto_region 6 with fail;clear hrun;have hne:some B ≠ some (w.heap.size+1):=fun e=>by cases e;omega
  have hne0:some B ≠ some w.heap.size:=fun e=>by cases e;omega
  replace kr:=Z9 ((uh kr).two (uh HT3) hne (fun e=>by cases e));have kb:=Z9 (K.blk.two (uh HT3) hne0 (fun e=>by cases e));have HT:Hid (Two (some B) none w w3):=Z9 ((Two.of_below K.bb).trans (uh HT3));have HS3:=Z9 (uh HF _ (uh HT)).smy;clear K HM HT3;obtain ⟨c0,c1,c2,c3,c4,c5⟩:=(uh kb).c6;go_wp2_with fail;refine ck (Rd (uh Hr2) (uh HS3) hm) fun w4 hb=> ?_;replace kr:=bl kr hb;replace HT:=Z9 ((uh HT).trans (Two.of_below hb));have HM4:Hid (Mp w4 B 0 (.map [])):=Z9 ((uh HM3).below hb);clear hb c0 c1 c2 c3 c4 c5 HM3 kb;obtain ⟨o0,o1,o2⟩:=(uh kr).c3;obtain ⟨f0,f1,f2⟩:=(uh kr).f3;cases r2 with
  | none=>
   simp only [Option.map_none,TV];go_wp2_with fail;have HT4:=Ra w4 (w.heap.size+1) (.int .i64 0) (.int .i64 0) (.bool false);refine ZE (v:= .agg #[.int .i64 0,.int .i64 0,.bool false]) (by simp [results,results31,go_sem, *]) rfl ⟨⟨_,_,_,rfl,by rw [uh Hmv];exact ⟨rfl,rfl,rfl⟩⟩,OQ (uh HT) HT4 (Nat.le_succ _),0,.map [],(uh HM4).two HT4 (fun e=>hne e.symm) (fun e=>by cases e),ZC _,fun l hl=>by simp [Maps.has] at hl⟩
  | some q=>
   obtain ⟨wh,bb⟩:=q;simp only [Option.map_some,Qz,TV];go_wp2_with fail;have HT4:=Ra w4 (w.heap.size+1) (.int .i64 (wh:Int)) (.int .i64 (bb:Int)) (.bool true);refine ZE (v:= .agg #[.int .i64 (wh:Int),.int .i64 (bb:Int),.bool true]) (by simp [results,results31,go_sem, *]) rfl ⟨⟨_,_,_,rfl,by rw [uh Hmv];exact ⟨rfl,rfl,rfl⟩⟩,OQ (uh HT) HT4 (Nat.le_succ _),0,.map [],(uh HM4).two HT4 (fun e=>hne e.symm) (fun e=>by cases e),ZC _,fun l hl=>by simp [Maps.has] at hl⟩
end Go.Proofs.YtlcpgkakdieeaaaGreat
