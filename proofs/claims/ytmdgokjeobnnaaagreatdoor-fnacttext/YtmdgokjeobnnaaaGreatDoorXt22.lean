/- Part 22 of what the proof rests on. No condition but those that a theorem names. -/
import Derived.Test.YtmdgokjeobnnaaaGreatDoorXt17
set_option maxHeartbeats 8000000
set_option maxRecDepth 100000
namespace Go.Proofs.YtmdgokjeobnnaaaGreatDoor
open Go.ChangeShapes Go.WideShapes Go.ChangeAt Go.RowKit Go.Sort Go.Proofs.Tryz
set_option linter.unusedVariables false
set_option linter.unusedSimpArgs false
theorem Two.set_new {p q:Option Nat} {w w':World} (h:Two p q w w') {g:Nat} (hg:w.heap.size<=g) (o:Nat) (u:Value):Two p q w (w'.setCell ⟨g,o,none⟩ u):=
 ⟨h.os,h.tape,h.output,by simpa using h.size,fun i hi hp hq=>(heap_setCell_other w' _ i u (by show i ≠ g;omega)).trans (h.block i hi hp hq)⟩
theorem FullSmy.lt {n₀:Nat} {w:World} {v0 v1 v2 v3 v4:Value} {m:Z7} {qs:List (Z5 × Value)} (h:FullSmy n₀ w v0 v1 v2 v3 v4 m qs) {k:Nat} (e:v0.ownBlock=some k\/(∃ q ∈ qs,q.2.ownBlock=some k)\/v1.ownBlock=some k\/v2.ownBlock=some k\/v3.ownBlock=some k\/v4.ownBlock=some k):n₀<=k/\k<w.heap.size:=by
 rcases e with e | e | e | e | e | e
 ·exact h.hall.lt (.inl e)
 ·exact h.hall.lt (.inr e)
 ·exact RecAt.lt h.gd e
 ·exact RecAt.lt h.sm e
 ·exact RecAt.lt h.dk e
 ·exact RecAt.lt h.pc e
theorem Ue {w:World} {R n₀:Nat} {v0 v1 v2 v3 v4:Value} {m:Z7} {qs:List (Z5 × Value)} (kb:Blk w R 40 #[v0,v1,v2,v3,v4,.int .i64 m.now]) (hf:FullSmy n₀ w v0 v1 v2 v3 v4 m qs) (h2:v2.ownBlock ≠ some R) (h3:v3.ownBlock ≠ some R) (hl:m.sm.length<=800) (hd:m.dk.length<=1000) :
  Calls prog 132 #[.pointer (some ⟨R,0,none⟩)] w fun e w'=>e= .returned (.tuple #[.agg #[v0,v1,v2,v3,v4,.int .i64 m.now],.int .i64 0])/\FullSmy n₀ w' v0 v1 v2 v3 v4 (ZL m) qs/\Two v2.ownBlock v3.ownBlock w w':=by
 have hfl:=fun k e=>(hf.lt (k:=k) e).2;obtain ⟨a0,p0,rfl⟩:=hf.hall.shape;obtain ⟨a1,p1,rfl⟩:=RecAt.shape hf.gd;obtain ⟨a2,p2,rfl⟩:=RecAt.shape hf.sm;obtain ⟨a3,p3,rfl⟩:=RecAt.shape hf.dk;obtain ⟨a4,p4,rfl⟩:=RecAt.shape hf.pc;have Kb:=Z9 kb;have HF:=Z9 hf;have H2:=Z9 h2;have H3:=Z9 h3;have HL:=Z9 hfl;have hR:=kb.lt;clear kb hf h2 h3 hfl;go_enter func132,ntmps132;go_wp2_with fail;have Ba:Below w.heap.size w (w.alloc (.cells E6 40)):=ba _ _;have kz:=Blk.new w 40 E6;refine (Ub ((uh Kb).below Ba hR) ((uh HF).below Ba) (uh H2) (uh H3) hl hd).mono ?_;rintro e w1 ⟨rfl,hf1,ht1⟩;have T1:=(Two.of_below Ba).trans ht1;have kb1:=(uh Kb).two T1 (uh H2) (uh H3);have hnz:∀ k,(_\/_\/_\/_\/_\/_)->k ≠ w.heap.size:=fun k e=>by have:=uh HL k e;omega
 have kz1:=kz.two ht1 (fun e=>hnz _ (.inr (.inr (.inr (.inl e)))) rfl) (fun e=>hnz _ (.inr (.inr (.inr (.inr (.inl e))))) rfl);obtain ⟨c0,c1,c2,c3,c4,c5⟩:=kb1.c6;have o0:=kz1.cell (i:=0) (v:= .slice none 0 0) rfl;have f0:=kz1.free 0;have o1:=kz1.cell (i:=1) (v:= .slice none 0 0) rfl;have f1:=kz1.free 1;have o2:=kz1.cell (i:=2) (v:= .slice none 0 0) rfl;have f2:=kz1.free 2;have o3:=kz1.cell (i:=3) (v:= .slice none 0 0) rfl;have f3:=kz1.free 3;have o4:=kz1.cell (i:=4) (v:= .slice none 0 0) rfl;have f4:=kz1.free 4;have o5:=kz1.cell (i:=5) (v:= .int .i64 0) rfl;have f5:=kz1.free 5;have HF1:=Z9 hf1;have TT:=Z9 T1;have HN:=Z9 hnz;clear hf1 ht1 T1 kb1 kz1 kz Ba hnz;go_wp2_with fail;refine Zz (v:= .tuple #[.agg #[.slice a0 qs.length p0,.slice a1 m.gd.length p1,.slice a2 m.sm.length p2,.slice a3 m.dk.length p3,.slice a4 m.pc.length p4,.int .i64 m.now],.int .i64 0]) (by simp [results,results132,go_sem, *]) rfl ⟨rfl,?_,?_⟩
 ·iterate 6 (refine FullSmy.set_off ?_ (uh HN) _ _)
  exact uh HF1
 ·iterate 6 (refine Two.set_new ?_ (Z3 _) _ _)
  exact uh TT
theorem Qt {w:World} {R n₀:Nat} {v0 v1 v2 v3 v4:Value} {m:Z7} {qs:List (Z5 × Value)} (kb:Blk w R 40 #[v0,v1,v2,v3,v4,.int .i64 m.now]) (hf:FullSmy n₀ w v0 v1 v2 v3 v4 m qs) (h2:v2.ownBlock ≠ some R) (h3:v3.ownBlock ≠ some R) {k:Nat} (hk:k<m.sm.length) (b:Int) :
  Calls prog 131 #[.pointer (some ⟨R,0,none⟩),.int .i64 (k:Int),.int .i64 b] w fun e w'=>e= .returned (.tuple #[])/\FullSmy n₀ w' v0 v1 v2 v3 v4 (setS m k (2,b,(Z8 m.sm k).2.2)) qs/\Two v2.ownBlock v3.ownBlock w w':=by
 obtain ⟨a2,p2,rfl⟩:=RecAt.shape hf.sm;obtain ⟨g2,rfl,hg2,hg2w,hc2,hz2⟩:=RecAt.view ZT (by omega) hf.sm rfl (by omega);have s0:=hc2 k hk 0 _ rfl;have f0:=hz2 (k*11);have c2:=kb.cell (i:=2) (v:= .slice (some ⟨g2,0,none⟩) m.sm.length p2) rfl;have hp1:=hf.putS rfl (j:=k) (i:=0) hk (by omega) (.int .i64 2) (stS (Z8 m.sm k) 2) rfl;have hlen:(m.sm.set k (stS (Z8 m.sm k) 2)).length=m.sm.length:=by simp
 have hs1:Z8 (m.sm.set k (stS (Z8 m.sm k) 2)) k=stS (Z8 m.sm k) 2:=by rw [ZC hk,if_pos rfl]
 have hp2:=hp1.putS hlen.symm (j:=k) (i:=1) (by show k<(m.sm.set k _).length;omega) (by omega) (.int .i64 b) (2,b,(Z8 m.sm k).2.2) (by show ZZ (2,b,(Z8 m.sm k).2.2)=(ZZ (Z8 (m.sm.set k (stS (Z8 m.sm k) 2)) k)).set 1 _;rw [hs1];rfl);obtain ⟨_,hga,_,_,hc3,hz3⟩:=RecAt.view ZT (by omega) hp1.sm hlen.symm (by show 0<(m.sm.set k _).length;omega);cases hga;have s1:=hc3 k (by show k<(m.sm.set k _).length;omega) 1 _ rfl;have f1:=hz3 (k*11+1);have hgR:g2 ≠ R:=fun e=>h2 (by rw [e];rfl);have c2':=(kb.other (a:=⟨g2,k*11,none⟩) (fun e=>hgR e.symm) (.int .i64 2)).cell (i:=2) (v:= .slice (some ⟨g2,0,none⟩) m.sm.length p2) rfl;simp only [Nat.add_zero,List.set_set] at s0 hp1 hp2 s1 f1;have HP2:=Z9 hp2;have hk1:(k:Int)<(m.sm.length:Int):=by omega
 clear hc2 hz2 hc3 hz3 hp1 hp2 hf kb hs1 hlen h2 h3 hgR;go_enter func131,ntmps131;go_wp2_with fail
 go_end0
 exact ⟨rfl,uh HP2,(Two.of_set w (.inl rfl) _ _).trans (Two.of_set _ (.inl rfl) _ _)⟩
theorem VO {w:World} {R n₀:Nat} {v0 v1 v2 v3 v4:Value} {m:Z7} {qs:List (Z5 × Value)} (kb:Blk w R 40 #[v0,v1,v2,v3,v4,.int .i64 m.now]) (hf:FullSmy n₀ w v0 v1 v2 v3 v4 m qs) (h2:v2.ownBlock ≠ some R) (h3:v3.ownBlock ≠ some R) {k bn b:Nat} (hk:k<m.sm.length) (hbn:(Z8 m.sm k).2.1=(bn:Int)) (hbn1:bn<m.dk.length) (hb:b<m.dk.length) :
  Calls prog 137 #[.pointer (some ⟨R,0,none⟩),.int .i64 (k:Int),.int .i64 (b:Int)] w fun e w'=>e= .returned (.tuple #[])/\FullSmy n₀ w' v0 v1 v2 v3 v4 (setS m k (putS m (Z8 m.sm k) b)) qs/\Two v2.ownBlock v3.ownBlock w w':=by
 obtain ⟨a2,p2,rfl⟩:=RecAt.shape hf.sm;obtain ⟨a3,p3,rfl⟩:=RecAt.shape hf.dk;obtain ⟨g2,rfl,hg2,hg2w,hc2,hz2⟩:=RecAt.view ZT (by omega) hf.sm rfl (by omega);obtain ⟨g3,rfl,hg3,hg3w,hc3,hz3⟩:=RecAt.view Zx (by omega) hf.dk rfl (by omega);have s1:=hc2 k hk 1 _ rfl;have s7:=hc2 k hk 7 _ rfl;have f1:=hz2 (k*11+1);have f7:=hz2 (k*11+7);have d1:=hc3 bn hbn1 2 _ rfl;have d2:=hc3 b hb 2 _ rfl;have c2:=kb.cell (i:=2) (v:= .slice (some ⟨g2,0,none⟩) m.sm.length p2) rfl;have c3:=kb.cell (i:=3) (v:= .slice (some ⟨g3,0,none⟩) m.dk.length p3) rfl;have hmv:Zu (WB (Z8 m.sm k)) (XP m (Z8 m.sm k).2.1) (XP m (b:Int))=Zu (Z8 m.sm k).2.2.2.2.2.2.2.1 (Z8 m.dk bn).2.2 (Z8 m.dk b).2.2:=by unfold XP WB;rw [hbn];simp
 have hx1:∃ x1:Z6,x1=((Z8 m.sm k).1,(Z8 m.sm k).2.1,(Z8 m.sm k).2.2.1,(Z8 m.sm k).2.2.2.1,(Z8 m.sm k).2.2.2.2.1,(Z8 m.sm k).2.2.2.2.2.1,(Z8 m.sm k).2.2.2.2.2.2.1,Zu (Z8 m.sm k).2.2.2.2.2.2.2.1 (Z8 m.dk bn).2.2 (Z8 m.dk b).2.2,(Z8 m.sm k).2.2.2.2.2.2.2.2):=⟨_,rfl⟩
 obtain ⟨x1,hx1⟩:=hx1;have hp1:=hf.putS rfl (j:=k) (i:=7) hk (by omega) (.int .i64 (Zu (Z8 m.sm k).2.2.2.2.2.2.2.1 (Z8 m.dk bn).2.2 (Z8 m.dk b).2.2)) x1 (by rw [hx1];rfl);have hlen:(m.sm.set k x1).length=m.sm.length:=by simp
 have hs1:Z8 (m.sm.set k x1) k=x1:=by rw [ZC hk,if_pos rfl]
 have hp2:=hp1.putS hlen.symm (j:=k) (i:=1) (by show k<(m.sm.set k _).length;omega) (by omega) (.int .i64 (b:Int)) (putS m (Z8 m.sm k) b) (by show ZZ (putS m (Z8 m.sm k) b)=(ZZ (Z8 (m.sm.set k x1) k)).set 1 _;rw [hs1,hx1];unfold putS;rw [hmv];rfl);obtain ⟨_,hga,_,_,hc4,hz4⟩:=RecAt.view ZT (by omega) hp1.sm hlen.symm (by show 0<(m.sm.set k _).length;omega);cases hga;have s2:=hc4 k (by show k<(m.sm.set k _).length;omega) 1 _ rfl;have f2:=hz4 (k*11+1);simp only [List.set_set] at hp2;have HP2:=Z9 hp2;have hk1:(k:Int)<(m.sm.length:Int):=by omega
 have hbn2:(bn:Int)<(m.dk.length:Int):=by omega
 have hb2:(b:Int)<(m.dk.length:Int):=by omega
 rw [hbn] at s1;clear hc2 hz2 hc3 hz3 hc4 hz4 hp1 hp2 hf kb hs1 hlen h2 h3 hmv hx1 hbn;generalize (Z8 m.sm k).2.2.2.2.2.2.2.1=hd0 at *;generalize (Z8 m.dk bn).2.2=mk1 at *;generalize (Z8 m.dk b).2.2=mk2 at *;go_enter func137,ntmps137;go_wp2_with fail;refine ZN (S:=fun w'=>w'.cell? ⟨g2,k*11+7,none⟩=some (.int .i64 hd0)/\w'.cell? ⟨R,3,none⟩=some (.slice (some ⟨g3,0,none⟩) m.dk.length p3)/\w'.cell? ⟨g2,k*11+1,none⟩=some (.int .i64 (bn:Int))/\w'.cell? ⟨g3,bn*3+2,none⟩=some (.int .i64 mk1)/\w'.cell? ⟨g3,b*3+2,none⟩=some (.int .i64 mk2)) (by kernel_rfl) (WV _ _) (by kernel_rfl) ⟨s7,c3,s1,d1,d2⟩ (fun hHeld=> ?_);simp only [WW,WX,Zn,Y2,Nat.zero_add,Nat.reduceAdd]
 iterate 24 refine tz ?_
 refine rd 24 rfl (fun K hK=> ?_);go_simp;refine ck (TE hd0 mk1 mk2 _) fun w9 hw9=> ?_;subst w9;refine hK.out _ _ hHeld (fun hHeld=> ?_);clear hK K
 (try simp only [Act.put,sA,sZ,sS])
 refine tp 25 ?_;refine tp 26 ?_;refine wpAnyH_done (by kernel_rfl) ?_ _;refine ZH rfl rfl ?_;go_simp;clear hHeld;go_wp2_with fail
 go_end0
 exact ⟨rfl,(uh HP2).below (Z2 _ _).drew,((Two.of_set w (.inl rfl) _ _).trans (Two.of_set _ (.inl rfl) _ _)).trans (Two.of_below (Z2 _ _).drew)⟩
theorem Qs {w:World} {v0 v1 v2 v3 v4:Value} {m:Z7} (h:Smy w v0 v1 v2 v3 v4 m) :
  cB 102 #[.agg #[v0,v1,v2,v3,v4,.int .i64 m.now]] w (.tuple #[.agg E6,.int .i64 3]):=by
 obtain ⟨a0,p0,a1,p1,a2,p2,a3,p3,a4,p4,rfl,rfl,rfl,rfl,rfl,_,_,_,_,_,_,_,_,_,_⟩:=h.five;clear h;go_enter func102,ntmps102;go_wp2_with fail;exact Zz (v:= .tuple #[.agg E6,.int .i64 3]) (by simp [results,results102,go_sem]) rfl ⟨rfl,((ba _ _)).alloc (by simp) _⟩
theorem Ir {w W:World} {X:Z7 × Int} {M:Z7} {c nw:Int} {v0 v1 v2 v3 v4 u0 u1 u2 u3 u4 u5:Value} {oq:List (Z5 × Value)} (hX:X=(M,c)) (hn:M.now=nw) (hF:FullSmy (w.heap.size+2) W v0 v1 v2 v3 v4 M oq) (hB:Below w.heap.size w W):UF w.heap.size X.1 X.2 (.returned (.tuple #[.agg #[v0,v1,v2,v3,v4,.int .i64 nw],.int .i64 c])) ((((((W.setCell ⟨w.heap.size+1,0,none⟩ u0).setCell ⟨w.heap.size+1,1,none⟩ u1).setCell ⟨w.heap.size+1,2,none⟩ u2).setCell ⟨w.heap.size+1,3,none⟩ u3).setCell ⟨w.heap.size+1,4,none⟩ u4).setCell ⟨w.heap.size+1,5,none⟩ u5)/\Below w.heap.size w ((((((W.setCell ⟨w.heap.size+1,0,none⟩ u0).setCell ⟨w.heap.size+1,1,none⟩ u1).setCell ⟨w.heap.size+1,2,none⟩ u2).setCell ⟨w.heap.size+1,3,none⟩ u3).setCell ⟨w.heap.size+1,4,none⟩ u4).setCell ⟨w.heap.size+1,5,none⟩ u5):=by
 constructor
 ·rw [hX];refine ⟨_,_,_,_,_,oq,by rw [hn],?_⟩
  refine FullSmy.mono (n₀:=w.heap.size+2) ?_ (by omega)
  iterate 6 (refine FullSmy.set_off ?_ (fun k e=>by have:=(hF.own e).1;omega) _ _)
  exact hF
 ·iterate 6 (refine YU ?_ (by show _<=w.heap.size+1;omega) _)
  exact hB
theorem Gm {w W:World} {ob:Nat} {v0 v1 v2 v3 v4:Value} {m:Z7} {oq:List (Z5 × Value)} (ko:Blk W ob 40 #[v0,v1,v2,v3,v4,.int .i64 m.now]) (hF:FullSmy (w.heap.size+2) W v0 v1 v2 v3 v4 m oq) (lo:∀ k,WE v0 v1 v2 v3 v4 oq k->k ≠ ob) (kr:Blk W (w.heap.size+1) 40 E6) (BB:Below w.heap.size w W) (hl:m.sm.length<=800) (hd:m.dk.length<=1000):Calls prog 132 #[.pointer (some ⟨ob,0,none⟩)] W fun e w'=>e= .returned (.tuple #[.agg #[v0,v1,v2,v3,v4,.int .i64 m.now],.int .i64 0])/\Hid (FullSmy (w.heap.size+2) w' v0 v1 v2 v3 v4 (ZL m) oq)/\Hid (Blk w' (w.heap.size+1) 40 E6)/\Hid (Below w.heap.size w w'):=by
 refine (Ue ko hF (fun e=>lo _ (.inr (.inr (.inr (.inl e)))) rfl) (fun e=>lo _ (.inr (.inr (.inr (.inr (.inl e))))) rfl) hl hd).mono ?_;rintro e w' ⟨rfl,h1,h2⟩;have g2:∀ k,v2.ownBlock=some k->w.heap.size+2<=k:=fun k e=>(hF.own (.inr (.inr (.inr (.inl e))))).1;have g3:∀ k,v3.ownBlock=some k->w.heap.size+2<=k:=fun k e=>(hF.own (.inr (.inr (.inr (.inr (.inl e)))))).1;exact ⟨rfl,Z9 h1,Z9 (kr.two h2 (fun e=>by have:=g2 _ e;omega) (fun e=>by have:=g3 _ e;omega)),Z9 (BB.trans (h2.below BB.size (fun k e=>by have:=g2 k e;omega) (fun k e=>by have:=g3 k e;omega)))⟩
theorem Gl {w W:World} {a0 a1 a2 a3 a4:Option Addr} {p0 p1 p2 p3 p4:Nat} {m:Z7} (h:Smy W (.slice a0 m.rm.length p0) (.slice a1 m.gd.length p1) (.slice a2 m.sm.length p2) (.slice a3 m.dk.length p3) (.slice a4 m.pc.length p4) m) (hf:Few m) (kb:Blk W w.heap.size 40 (S6 a0 p0 a1 p1 a2 p2 a3 p3 a4 p4 m)) (kr:Blk W (w.heap.size+1) 40 E6) (BB:Below w.heap.size w W):Calls prog 117 #[.agg (S6 a0 p0 a1 p1 a2 p2 a3 p3 a4 p4 m)] W fun e w'=> ∃ b0 q0 b1 q1 b2 q2 b3 q3 b4 q4 oq,e= .returned (.agg (S6 b0 q0 b1 q1 b2 q2 b3 q3 b4 q4 m))/\ ∃ W2 ob,w'.alloc (.cells (S6 b0 q0 b1 q1 b2 q2 b3 q3 b4 q4 m) 40)=W2/\w'.heap.size=ob/\Hid (Blk W2 w.heap.size 40 (S6 a0 p0 a1 p1 a2 p2 a3 p3 a4 p4 m))/\Hid (Blk W2 (w.heap.size+1) 40 E6)/\Hid (Smy W2 (.slice a0 m.rm.length p0) (.slice a1 m.gd.length p1) (.slice a2 m.sm.length p2) (.slice a3 m.dk.length p3) (.slice a4 m.pc.length p4) m)/\Hid (FullSmy (w.heap.size+2) W2 (.slice b0 m.rm.length q0) (.slice b1 m.gd.length q1) (.slice b2 m.sm.length q2) (.slice b3 m.dk.length q3) (.slice b4 m.pc.length q4) m oq)/\Hid (Blk W2 ob 40 (S6 b0 q0 b1 q1 b2 q2 b3 q3 b4 q4 m))/\Hid (∀ k,WE (.slice b0 m.rm.length q0) (.slice b1 m.gd.length q1) (.slice b2 m.sm.length q2) (.slice b3 m.dk.length q3) (.slice b4 m.pc.length q4) oq k->w.heap.size+2<=k/\k<ob)/\w.heap.size+2<=ob/\Hid (Below w.heap.size w W2):=by
 have hs:w.heap.size+2<=W.heap.size:=by have:=kr.lt;omega
 refine (XU h hf).mono ?_;rintro e w2 ⟨y0,y1,y2,y3,y4,oq,rfl,ho,hb⟩;obtain ⟨b0,q0,b1,q1,b2,q2,b3,q3,b4,q4,rfl,rfl,rfl,rfl,rfl,_⟩:=ho.smy.five;have hba:Below w2.heap.size w2 (w2.alloc (.cells (S6 b0 q0 b1 q1 b2 q2 b3 q3 b4 q4 m) 40)):=ba _ _;have h2:Below W.heap.size W (w2.alloc (.cells (S6 b0 q0 b1 q1 b2 q2 b3 q3 b4 q4 m) 40)):=hb.trans (hba.mono hb.size);have hO:=ho.mono hs;exact ⟨b0,q0,b1,q1,b2,q2,b3,q3,b4,q4,oq,rfl,_,_,rfl,rfl,Z9 (kb.below h2 kb.lt),Z9 (kr.below h2 kr.lt),Z9 (h.below h2),Z9 (hO.below hba),Z9 (Blk.new _ _ _),Z9 (fun k e=>hO.own e),XA hs hb.size,Z9 (BB.trans (h2.mono BB.size))⟩
structure OpA (w W:World) (a0:Option Addr) (p0:Nat) (a1:Option Addr) (p1:Nat) (a2:Option Addr) (p2:Nat) (a3:Option Addr) (p3:Nat) (a4:Option Addr) (p4:Nat) (m:Z7):Prop where
 kb:Blk W w.heap.size 40 (S6 a0 p0 a1 p1 a2 p2 a3 p3 a4 p4 m)
 kr:Blk W (w.heap.size+1) 40 E6
 Hv:Smy W (.slice a0 m.rm.length p0) (.slice a1 m.gd.length p1) (.slice a2 m.sm.length p2) (.slice a3 m.dk.length p3) (.slice a4 m.pc.length p4) m
 BB:Below w.heap.size w W
structure OpC (w W:World) (v0 v1 v2 v3 v4:Value) (nw:Int) (oq:List (Z5 × Value)) (ob:Nat):Prop where
 ko:Blk W ob 40 #[v0,v1,v2,v3,v4,.int .i64 nw]
 kr:Blk W (w.heap.size+1) 40 E6
 LO:∀ k,WE v0 v1 v2 v3 v4 oq k->w.heap.size+2<=k/\k ≠ ob
 hob:w.heap.size+2<=ob
 BB:Below w.heap.size w W
structure OpB (w W:World) (a0:Option Addr) (p0:Nat) (a1:Option Addr) (p1:Nat) (a2:Option Addr) (p2:Nat) (a3:Option Addr) (p3:Nat) (a4:Option Addr) (p4:Nat) (m:Z7) (v0 v1 v2 v3 v4:Value) (oq:List (Z5 × Value)) (ob:Nat):Prop where
 c:OpC w W v0 v1 v2 v3 v4 m.now oq ob
 kb:Blk W w.heap.size 40 (S6 a0 p0 a1 p1 a2 p2 a3 p3 a4 p4 m)
 Hv:Smy W (.slice a0 m.rm.length p0) (.slice a1 m.gd.length p1) (.slice a2 m.sm.length p2) (.slice a3 m.dk.length p3) (.slice a4 m.pc.length p4) m
 HO:FullSmy (w.heap.size+2) W v0 v1 v2 v3 v4 m oq
 lt:∀ k,WE v0 v1 v2 v3 v4 oq k->k<ob
section
variable {w W W' : World} {a0 : Option Addr} {p0 : Nat} {a1 : Option Addr} {p1 : Nat} {a2 : Option Addr} {p2 : Nat} {a3 : Option Addr} {p3 : Nat} {a4 : Option Addr} {p4 : Nat} {m : Z7} {v0 v1 v2 v3 v4 : Value} {nw : Int} {oq : List (Z5 × Value)} {ob : Nat}
theorem OpA.next (h:OpA w W a0 p0 a1 p1 a2 p2 a3 p3 a4 p4 m) (hb:Below W.heap.size W W'):OpA w W' a0 p0 a1 p1 a2 p2 a3 p3 a4 p4 m:=⟨h.kb.below hb h.kb.lt,h.kr.below hb h.kr.lt,h.Hv.below hb,h.BB.trans (hb.mono h.BB.size)⟩
theorem OpC.next (h:OpC w W v0 v1 v2 v3 v4 nw oq ob) (hb:Below W.heap.size W W'):OpC w W' v0 v1 v2 v3 v4 nw oq ob:=⟨h.ko.below hb h.ko.lt,h.kr.below hb h.kr.lt,h.LO,h.hob,h.BB.trans (hb.mono h.BB.size)⟩
theorem OpB.next (h:OpB w W a0 p0 a1 p1 a2 p2 a3 p3 a4 p4 m v0 v1 v2 v3 v4 oq ob) (hb:Below W.heap.size W W'):OpB w W' a0 p0 a1 p1 a2 p2 a3 p3 a4 p4 m v0 v1 v2 v3 v4 oq ob:=⟨h.c.next hb,h.kb.below hb h.kb.lt,h.Hv.below hb,h.HO.below hb,h.lt⟩
theorem OpC.set (h:OpC w W v0 v1 v2 v3 v4 nw oq ob) {g:Nat} (hg:w.heap.size+2<=g/\g ≠ ob) (o:Nat) (u:Value):OpC w (W.setCell ⟨g,o,none⟩ u) v0 v1 v2 v3 v4 nw oq ob:=⟨h.ko.other (a:=⟨g,o,none⟩) (by show ob ≠ g;omega) _,h.kr.other (a:=⟨g,o,none⟩) (by show w.heap.size+1 ≠ g;omega) _,h.LO,h.hob,h.BB.setCell (p:=⟨g,o,none⟩) (by show w.heap.size<=g;omega) _⟩
theorem OpC.setw {g:Nat} (hg:w.heap.size+2<=g/\g ≠ ob):∀ (l:List Value) {W:World} {o:Nat},OpC w W v0 v1 v2 v3 v4 nw oq ob->OpC w (Sz W g o l) v0 v1 v2 v3 v4 nw oq ob
 | [],_,_,h=>h
 | u::l,W,o,h=>OpC.setw hg l (h.set hg o u)
theorem OpB.out (h:OpB w W a0 p0 a1 p1 a2 p2 a3 p3 a4 p4 m v0 v1 v2 v3 v4 oq ob):Hid (Blk W w.heap.size 40 (S6 a0 p0 a1 p1 a2 p2 a3 p3 a4 p4 m))/\Hid (Blk W (w.heap.size+1) 40 E6)/\Hid (Smy W (.slice a0 m.rm.length p0) (.slice a1 m.gd.length p1) (.slice a2 m.sm.length p2) (.slice a3 m.dk.length p3) (.slice a4 m.pc.length p4) m)/\Hid (FullSmy (w.heap.size+2) W v0 v1 v2 v3 v4 m oq)/\Hid (Blk W ob 40 #[v0,v1,v2,v3,v4,.int .i64 m.now])/\Hid (∀ k,WE v0 v1 v2 v3 v4 oq k->w.heap.size+2<=k/\k<ob)/\w.heap.size+2<=ob/\Hid (Below w.heap.size w W):=⟨Z9 h.kb,Z9 h.c.kr,Z9 h.Hv,Z9 h.HO,Z9 h.c.ko,Z9 (fun k e=>⟨(h.c.LO k e).1,h.lt k e⟩),h.c.hob,Z9 h.c.BB⟩
theorem GG (h:Smy w (.slice a0 m.rm.length p0) (.slice a1 m.gd.length p1) (.slice a2 m.sm.length p2) (.slice a3 m.dk.length p3) (.slice a4 m.pc.length p4) m):∃ W,(w.alloc (.cells (S6 a0 p0 a1 p1 a2 p2 a3 p3 a4 p4 m) 40)).alloc (.cells E6 40)=W/\OpA w W a0 p0 a1 p1 a2 p2 a3 p3 a4 p4 m:=by
 obtain ⟨W,hW,kb,kr,BB⟩:=SH w 40 (S6 a0 p0 a1 p1 a2 p2 a3 p3 a4 p4 m) 40 E6;exact ⟨W,hW,uh kb,uh kr,h.below (uh BB),uh BB⟩
theorem bq {P:Program} {fn:Func} {R:Ending->World->Prop} {a:Act} {w:World} {v:Value} {x:Array ResultVar} (e:fn.results=x) (hR:R (.returned v) w) (hr:fn.results=x->(results fn a.tmps).run P w= .ok v w:=by intro hres;simp [results,hres,go_sem,setS,N7,XW,pushS, *]) (hd:a.defers=[]:=by rfl):bodyPost P fn R .ret a w:=Zz (hr e) hd hR
def Gc (w W:World) (X:Z7 × Int) (v0 v1 v2 v3 v4:Value) (nw c:Int):Prop:= ∀ u0 u1 u2 u3 u4 u5,UF w.heap.size X.1 X.2 (.returned (.tuple #[.agg #[v0,v1,v2,v3,v4,.int .i64 nw],.int .i64 c])) ((((((W.setCell ⟨w.heap.size+1,0,none⟩ u0).setCell ⟨w.heap.size+1,1,none⟩ u1).setCell ⟨w.heap.size+1,2,none⟩ u2).setCell ⟨w.heap.size+1,3,none⟩ u3).setCell ⟨w.heap.size+1,4,none⟩ u4).setCell ⟨w.heap.size+1,5,none⟩ u5)/\Below w.heap.size w ((((((W.setCell ⟨w.heap.size+1,0,none⟩ u0).setCell ⟨w.heap.size+1,1,none⟩ u1).setCell ⟨w.heap.size+1,2,none⟩ u2).setCell ⟨w.heap.size+1,3,none⟩ u3).setCell ⟨w.heap.size+1,4,none⟩ u4).setCell ⟨w.heap.size+1,5,none⟩ u5)
theorem OpC.fin (h:OpC w W v0 v1 v2 v3 v4 nw oq ob) (X:Z7 × Int) (c:Int) {fn:Func} {x:Array ResultVar} (e:fn.results=x) {M:Z7} (hX:X=(M,c)) (hn:M.now=nw) (hF:FullSmy (w.heap.size+2) W v0 v1 v2 v3 v4 M oq) {G:Prop} (s:Hid (fn.results=x)->Gc w W X v0 v1 v2 v3 v4 nw c->W.cell? ⟨w.heap.size+1,0,none⟩=some (.slice none 0 0)->W.cell? ⟨w.heap.size+1,1,none⟩=some (.slice none 0 0)->W.cell? ⟨w.heap.size+1,2,none⟩=some (.slice none 0 0)->W.cell? ⟨w.heap.size+1,3,none⟩=some (.slice none 0 0)->W.cell? ⟨w.heap.size+1,4,none⟩=some (.slice none 0 0)->W.cell? ⟨w.heap.size+1,5,none⟩=some (.int .i64 0)->W.frozen? ⟨w.heap.size+1,0,none⟩=false->W.frozen? ⟨w.heap.size+1,1,none⟩=false->W.frozen? ⟨w.heap.size+1,2,none⟩=false->W.frozen? ⟨w.heap.size+1,3,none⟩=false->W.frozen? ⟨w.heap.size+1,4,none⟩=false->W.frozen? ⟨w.heap.size+1,5,none⟩=false->W.cell? ⟨ob,0,none⟩=some v0->W.cell? ⟨ob,1,none⟩=some v1->W.cell? ⟨ob,2,none⟩=some v2->W.cell? ⟨ob,3,none⟩=some v3->W.cell? ⟨ob,4,none⟩=some v4->W.cell? ⟨ob,5,none⟩=some (.int .i64 nw)->G:=by intro hres hE o0 o1 o2 o3 o4 o5 f0 f1 f2 f3 f4 f5 x0 x1 x2 x3 x4 x5;go_wp2_with fail;exact bq (uh hres) (hE _ _ _ _ _ _)):G:=by
 obtain ⟨o0,o1,o2,o3,o4,o5⟩:=h.kr.c6;obtain ⟨f0,f1,f2,f3,f4,f5⟩:=h.kr.f6;obtain ⟨x0,x1,x2,x3,x4,x5⟩:=h.ko.c6;exact s (Z9 e) (fun _ _ _ _ _ _=>Ir hX hn hF h.BB) o0 o1 o2 o3 o4 o5 f0 f1 f2 f3 f4 f5 x0 x1 x2 x3 x4 x5
theorem OpA.bad (h:OpA w W a0 p0 a1 p1 a2 p2 a3 p3 a4 p4 m) (X:Z7 × Int) {fn:Func} {x:Array ResultVar} (e:fn.results=x) (hX:X=(XG,3)) {G:Prop} (s:OpA w W a0 p0 a1 p1 a2 p2 a3 p3 a4 p4 m->Hid (fn.results=x)->Hid (X=(XG,3))->G:=by
  intro H hres hX;obtain ⟨c0,c1,c2,c3,c4,c5⟩:=H.kb.c6;go_wp2_with fail;clear c0 c1 c2 c3 c4 c5;refine ck (Qs H.Hv) fun w2 hb=> ?_;replace H:=H.next hb;clear hb;obtain ⟨o0,o1,o2,o3,o4,o5⟩:=H.kr.c6;obtain ⟨f0,f1,f2,f3,f4,f5⟩:=H.kr.f6;go_wp2_with fail
  exact bq (uh hres) (Ir (nw:=0) (uh hX) rfl (TN _ _) H.BB)):G:=s h (Z9 e) (Z9 hX)
theorem OpA.copy (h:OpA w W a0 p0 a1 p1 a2 p2 a3 p3 a4 p4 m) (hf:Few m):Calls prog 117 #[.agg (S6 a0 p0 a1 p1 a2 p2 a3 p3 a4 p4 m)] W fun e w'=> ∃ b0 q0 b1 q1 b2 q2 b3 q3 b4 q4 oq,e= .returned (.agg (S6 b0 q0 b1 q1 b2 q2 b3 q3 b4 q4 m))/\ ∃ W2 ob,w'.alloc (.cells (S6 b0 q0 b1 q1 b2 q2 b3 q3 b4 q4 m) 40)=W2/\w'.heap.size=ob/\OpB w W2 a0 p0 a1 p1 a2 p2 a3 p3 a4 p4 m (.slice b0 m.rm.length q0) (.slice b1 m.gd.length q1) (.slice b2 m.sm.length q2) (.slice b3 m.dk.length q3) (.slice b4 m.pc.length q4) oq ob:=by
 refine (Gl h.Hv hf h.kb h.kr h.BB).mono ?_;rintro e w2 ⟨b0,q0,b1,q1,b2,q2,b3,q3,b4,q4,oq,rfl,W2,ob,hW2,hob2,kb,kr,Hv,HO,ko,LO,hob,BB⟩;exact ⟨b0,q0,b1,q1,b2,q2,b3,q3,b4,q4,oq,rfl,W2,ob,hW2,hob2,⟨uh ko,uh kr,fun k e=>by have:=uh LO k e;omega,hob,uh BB⟩,uh kb,uh Hv,uh HO,fun k e=>(uh LO k e).2⟩
theorem OpC.done (h:OpC w W v0 v1 v2 v3 v4 nw oq ob) {M:Z7} (hn:M.now=nw) (hF:FullSmy (w.heap.size+2) W v0 v1 v2 v3 v4 M oq) (hl:M.sm.length<=800) (hd:M.dk.length<=1000):Calls prog 132 #[.pointer (some ⟨ob,0,none⟩)] W fun e w'=>e= .returned (.tuple #[.agg #[v0,v1,v2,v3,v4,.int .i64 nw],.int .i64 0])/\FullSmy (w.heap.size+2) w' v0 v1 v2 v3 v4 (ZL M) oq/\Blk w' (w.heap.size+1) 40 E6/\Below w.heap.size w w':=by
 subst hn;refine (Gm h.ko hF (fun k e=>(h.LO k e).2) h.kr h.BB hl hd).mono ?_;rintro e w' ⟨rfl,h1,h2,h3⟩;exact ⟨rfl,uh h1,uh h2,uh h3⟩
theorem Uw (X:Z7 × Int) {fn:Func} {x:Array ResultVar} (e:fn.results=x) {M:Z7} (hF:FullSmy (w.heap.size+2) W v0 v1 v2 v3 v4 (ZL M) oq) (kr:Blk W (w.heap.size+1) 40 E6) (BB:Below w.heap.size w W) (hX:X=(ZL M,0)) (hn:M.now=nw) {G:Prop} (s:Hid (fn.results=x)->Gc w W X v0 v1 v2 v3 v4 nw 0->W.cell? ⟨w.heap.size+1,0,none⟩=some (.slice none 0 0)->W.cell? ⟨w.heap.size+1,1,none⟩=some (.slice none 0 0)->W.cell? ⟨w.heap.size+1,2,none⟩=some (.slice none 0 0)->W.cell? ⟨w.heap.size+1,3,none⟩=some (.slice none 0 0)->W.cell? ⟨w.heap.size+1,4,none⟩=some (.slice none 0 0)->W.cell? ⟨w.heap.size+1,5,none⟩=some (.int .i64 0)->W.frozen? ⟨w.heap.size+1,0,none⟩=false->W.frozen? ⟨w.heap.size+1,1,none⟩=false->W.frozen? ⟨w.heap.size+1,2,none⟩=false->W.frozen? ⟨w.heap.size+1,3,none⟩=false->W.frozen? ⟨w.heap.size+1,4,none⟩=false->W.frozen? ⟨w.heap.size+1,5,none⟩=false->G:=by intro hres hE o0 o1 o2 o3 o4 o5 f0 f1 f2 f3 f4 f5;go_wp2_with fail;exact bq (uh hres) (hE _ _ _ _ _ _)):G:=by
 obtain ⟨o0,o1,o2,o3,o4,o5⟩:=kr.c6;obtain ⟨f0,f1,f2,f3,f4,f5⟩:=kr.f6;exact s (Z9 e) (fun _ _ _ _ _ _=>Ir hX ((Zp _ _).2.2.2.1.trans hn) hF BB) o0 o1 o2 o3 o4 o5 f0 f1 f2 f3 f4 f5
end
theorem op0 {w:World} {a0:Option Addr} {p0:Nat} {a1:Option Addr} {p1:Nat} {a2:Option Addr} {p2:Nat} {a3:Option Addr} {p3:Nat} {a4:Option Addr} {p4:Nat} {m:Z7} (h:Smy w (.slice a0 m.rm.length p0) (.slice a1 m.gd.length p1) (.slice a2 m.sm.length p2) (.slice a3 m.dk.length p3) (.slice a4 m.pc.length p4) m) (X:Z7 × Int) {f:FuncId} {fn:Func} {x:Array ResultVar} {n:Nat} (hf:prog.funcs[f]?=some fn) (hn:fn.ntmps=n) (hr:fn.results=x) (hb:ZJ m=false->X=(XG,3)) {G K:Prop} (k:K) (s:Hid K->Smy w (.slice a0 m.rm.length p0) (.slice a1 m.gd.length p1) (.slice a2 m.sm.length p2) (.slice a3 m.dk.length p3) (.slice a4 m.pc.length p4) m->prog.funcs[f]?=some fn->fn.ntmps=n->Hid (fn.results=x)->Hid (ZJ m=false->X=(XG,3))->G:=by
  intro k h hf hn hr hb;have Hv0:=Z9 h;clear h;obtain ⟨ok,Hok⟩:=WG (ZJ m);go_enter hf,hn;clear hf hn;go_wp2_with fail;obtain ⟨W,hW,H⟩:=GG (uh Hv0);clear Hv0;rw [hW];clear hW;refine ck (Tv (uh Hok) H.Hv) fun w1 hb=> ?_;replace H:=H.next hb;clear hb;cases ok
  ·exact H.bad X (uh hr) (uh hb (uh Hok))
  have hlo:=ZI (uh Hok);have HLo:=Z9 hlo;have HFew:=Z9 (OK hlo);clear hlo hr hb;obtain ⟨c0,c1,c2,c3,c4,c5⟩:=H.kb.c6;go_wp2_with fail;clear c0 c1 c2 c3 c4 c5;refine (H.copy (uh HFew)).mono ?_;clear H;rintro e w2 ⟨b0,q0,b1,q1,b2,q2,b3,q3,b4,q4,oq,rfl,W2,ob,hW2,hob2,H⟩;go_upto_region 4 with fail
  (try rw [hW2])
  (try rw [hob2])
  clear hW2 hob2
  revert Hok HLo HFew b0 q0 b1 q1 b2 q2 b3 q3 b4 q4 oq W2 ob H
  clear w2 w1 W
  repeat (rename_i y;revert y)
  exact uh k):G:=s (Z9 k) h hf hn (Z9 hr) (Z9 hb)
theorem op1 {w:World} {a0:Option Addr} {p0:Nat} {a1:Option Addr} {p1:Nat} {a2:Option Addr} {p2:Nat} {a3:Option Addr} {p3:Nat} {a4:Option Addr} {p4:Nat} {m:Z7} (h:Smy w (.slice a0 m.rm.length p0) (.slice a1 m.gd.length p1) (.slice a2 m.sm.length p2) (.slice a3 m.dk.length p3) (.slice a4 m.pc.length p4) m) (hok:ZJ m=true) {f:FuncId} {fn:Func} {n:Nat} (hf:prog.funcs[f]?=some fn) (hn:fn.ntmps=n) {G K:Prop} (k:K) (s:Hid K->Smy w (.slice a0 m.rm.length p0) (.slice a1 m.gd.length p1) (.slice a2 m.sm.length p2) (.slice a3 m.dk.length p3) (.slice a4 m.pc.length p4) m->prog.funcs[f]?=some fn->fn.ntmps=n->Hid (ZJ m=true)->G:=by
  intro k h hf hn Hok;have Hv0:=Z9 h;clear h;go_enter hf,hn;clear hf hn;go_wp2_with fail;obtain ⟨W,hW,H⟩:=GG (uh Hv0);clear Hv0;rw [hW];clear hW;have hlo:=ZI (uh Hok);have HLo:=Z9 hlo;have HFew:=Z9 (OK hlo);clear hlo;refine (H.copy (uh HFew)).mono ?_;clear H;rintro e w2 ⟨b0,q0,b1,q1,b2,q2,b3,q3,b4,q4,oq,rfl,W2,ob,hW2,hob2,H⟩;go_upto_region 2 with fail
  (try rw [hW2])
  (try rw [hob2])
  clear hW2 hob2
  revert Hok HLo HFew b0 q0 b1 q1 b2 q2 b3 q3 b4 q4 oq W2 ob H
  clear w2 W
  repeat (rename_i y;revert y)
  exact uh k):G:=s (Z9 k) h hf hn (Z9 hok)
end Go.Proofs.YtmdgokjeobnnaaaGreatDoor
namespace Go.Proofs.YtmdgokjeobnnaaaGreatDoor
open Go.ChangeShapes Go.WideShapes Go.ChangeAt Go.RowKit Go.Sort Go.Proofs.Tryz
set_option linter.unusedVariables false
set_option linter.unusedSimpArgs false
def VL (m:Z7) (room pace:Int):Z7 × Int:=
 if ZJ m then (if Ro m room then (if inB pace 0 (((ZO m.rm room.toNat).2.length:Int)-1) then (ZL (N7 m room.toNat pace),0) else (m,3)) else (m,1)) else (XG,3)
theorem Nh {m:Z7} (h:ZJ m=true) (room pace:Int):ZJ (VL m room pace).1=true:=by
 unfold VL;rw [h];simp only [if_true]
 split
 ·rename_i hw
  obtain ⟨k,rfl,hk⟩:=Ll hw;rw [show ((k:Int)).toNat=k by simp]
  split
  ·rename_i hp
   have:=ZS hp;exact Y1 (Pk (ZI h) hk (by omega) (by omega))
  ·exact h
 ·exact h
theorem Xc {m:Z7} (h:Loose m):m.pc.length=m.rm.length:=by
 have hd:=h.head;unfold YI at hd;simp only [ZR,YV] at hd;exact hd.2.2.2.2.1
theorem RC {w:World} {v0 v1 v2 v3 v4:Value} {m:Z7} (room:Int) (pace:Int) (h:Smy w v0 v1 v2 v3 v4 m) :
  Calls prog 113 #[.agg #[v0,v1,v2,v3,v4,.int .i64 m.now],.int .i64 room,.int .i64 pace] w fun e w'=>UF w.heap.size (VL m room pace).1 (VL m room pace).2 e w'/\Below w.heap.size w w':=by
 obtain ⟨X,hX⟩:=ZE (VL m room pace);rw [hX];have HX:=Z9 hX;clear hX;obtain ⟨a0,p0,a1,p1,a2,p2,a3,p3,a4,p4,rfl,rfl,rfl,rfl,rfl,-⟩:=h.five;refine op0 h X func113 ntmps113 results113 (fun h=>by rw [<-uh HX];unfold VL;rw [h];rfl) ?_;clear h
 intros
 rename_i Hok HLo HFew b0 q0 b1 q1 b2 q2 b3 q3 b4 q4 oq W2 ob H
 obtain ⟨qw,Hqw⟩:=WG (Ro m room);obtain ⟨c0,c1,c2,c3,c4,c5⟩:=H.kb.c6;go_wp2_with fail;clear c0 c1 c2 c3 c4 c5;refine ck (JT (uh Hqw) H.Hv) fun w3 hb=> ?_;replace H:=H.next hb;clear hb;cases qw
 ·
  exact H.c.fin X 1 results113 (by rw [<-uh HX];unfold VL;rw [uh Hok,uh Hqw];rfl) rfl H.HO
 obtain ⟨k,rfl,hk⟩:=Ll (uh Hqw);have hk1:(k:Int)<(m.rm.length:Int):=by omega
 have hkp:k<m.pc.length:=by rw [Xc (uh HLo)];exact hk
 have hkp1:(k:Int)<(m.pc.length:Int):=by omega
 obtain ⟨_,_,hre,_,_,r0⟩:=H.Hv.rm;cases hre
 rcases r0 with e0 | ⟨rb,off,rfl,hbw,hcl⟩
 ·rw [e0] at hk;simp at hk
 obtain ⟨_,pv,d1,pa,pc,rfl,hpc,hpm,_⟩:=hcl k hk;clear hcl;obtain ⟨op,hop⟩:=ZE (inB pace 0 (((ZO m.rm k).2.length:Int)-1));have Hop:=Z9 hop;have hpl:(ZO m.rm k).2.length<=9223372036854775807:=by omega
 have c0:=H.kb.cell (i:=0) (v:= .slice (some ⟨rb,off,none⟩) m.rm.length p0) rfl;obtain ⟨nl,hnl⟩:=ZE ((ZO m.rm k).2.length);rw [hnl] at hop d1 hpl;have Hop2:=Z9 hop;clear hop hnl hpc;go_wp2_with fail;refine (Z4 _ _ _ _).mono ?_;rw [uh Hop2];rintro e w9 ⟨rfl,hw9⟩;subst w9;cases op
 ·
  exact H.c.fin X 3 results113 (by rw [<-uh HX];unfold VL;rw [uh Hok,uh Hqw];simp only [if_true,Zl];rw [uh Hop];rfl) rfl H.HO
 obtain ⟨g4,hga,_,_,hc4,hz4⟩:=RecAt.view Yo (by omega) H.HO.pc rfl (by omega);cases hga;have s0:=hc4 k hkp 0 _ rfl;have f0:=hz4 k;have x4:=H.c.ko.cell (i:=4) (v:= .slice (some ⟨g4,0,none⟩) m.pc.length q4) rfl;have hput:=H.HO.putP rfl (j:=k) hkp pace;simp only [Nat.add_zero,Nat.mul_one] at s0;have hg4o:=(H.c.LO g4 (.inr (.inr (.inr (.inr (.inr rfl))))))
 clear hc4 hz4;go_upto_region 9 with fail;clear s0 f0 x4 c0 d1;have HP:=hput;have HC:=H.c.set hg4o k (.int .i64 pace);clear H hput;generalize w3.setCell ⟨g4,k,none⟩ (.int .i64 pace)=W3 at *;have hfw:=uh HFew;go_wp2_with fail;refine (HC.done (M:=N7 m k pace) rfl (HP) (by show m.sm.length<=800;have:=hfw.sm;omega) hfw.dk).mono ?_;clear HC;rintro e w4 ⟨rfl,HF9,kr,BB⟩;exact Uw X results113 HF9 kr BB (by rw [<-uh HX];unfold VL;rw [uh Hok,uh Hqw];simp only [if_true,Zl];rw [uh Hop];rfl) rfl
theorem Q9 {w:World} {v0 v1 v2 v3 v4:Value} {m:Z7} (who:Int) (rank:Int) (h:Smy w v0 v1 v2 v3 v4 m) :
  Calls prog 107 #[.agg #[v0,v1,v2,v3,v4,.int .i64 m.now],.int .i64 who,.int .i64 rank] w fun e w'=>UF w.heap.size (VW m who rank).1 (VW m who rank).2 e w'/\Below w.heap.size w w':=by
 obtain ⟨X,hX⟩:=ZE (VW m who rank);rw [hX];have HX:=Z9 hX;clear hX;obtain ⟨a0,p0,a1,p1,a2,p2,a3,p3,a4,p4,rfl,rfl,rfl,rfl,rfl,-⟩:=h.five;refine op0 h X func107 ntmps107 results107 (fun h=>by rw [<-uh HX];unfold VW;rw [h];rfl) ?_;clear h
 intros
 rename_i Hok HLo HFew b0 q0 b1 q1 b2 q2 b3 q3 b4 q4 oq W2 ob H
 obtain ⟨qw,Hqw⟩:=WG (Vq m who);obtain ⟨c0,c1,c2,c3,c4,c5⟩:=H.kb.c6;go_wp2_with fail;clear c0 c1 c2 c3 c4 c5;refine ck (VN (uh Hqw) H.Hv) fun w3 hb=> ?_;replace H:=H.next hb;clear hb;cases qw
 ·
  exact H.c.fin X 1 results107 (by rw [<-uh HX];unfold VW;rw [uh Hok,uh Hqw];rfl) rfl H.HO
 obtain ⟨k,rfl,hk,hs0⟩:=Xz (uh Hqw);have hk1:(k:Int)<(m.sm.length:Int):=by omega
 obtain ⟨_,_,hse,_,_,r2⟩:=H.Hv.sm;cases hse
 rcases r2 with e0 | ⟨sb,off,rfl,hbw,hcl⟩
 ·rw [e0] at hk;simp at hk
 obtain ⟨d0,d1,d2,d3,d4,d5,d6,d7,d8,d9,d10⟩:=YM hcl hk;clear hcl;obtain ⟨⟨⟨t0,t1,t2,t3,t4,t5,t6,t7,t8,t9,t10⟩,iq⟩,hre⟩:=ZE (Yr (Z8 m.sm k) rank);have Hre:=Z9 hre;obtain ⟨⟨st,be,rk,my,gu,lo,hi,hd,ca,ut,wk⟩,hrk⟩:=ZE (Z8 m.sm k);rw [hrk] at d0 d1 d2 d3 d4 d5 d6 d7 d8 d9 d10 hre;simp only at d0 d1 d2 d3 d4 d5 d6 d7 d8 d9 d10;have c2:=H.kb.cell (i:=2) (v:= .slice (some ⟨sb,off,none⟩) m.sm.length p2) rfl;have Hr2:=Z9 hre;clear hre;go_wp2_with fail;refine ck (Ra (uh Hr2) _) fun w4 hb=> ?_;replace H:=H.next hb;clear hb d0 d1 d2 d3 d4 d5 d6 d7 d8 d9 d10 c2;simp only [ZZ];go_upto_region 7 with fail;obtain ⟨W5,hW5,hba,ks⟩:=YW w4 79 (I11 t0 t1 t2 t3 t4 t5 t6 t7 t8 t9 t10);replace H:=H.next hba;clear hba;rw [hW5];clear hW5;generalize w4.heap.size=sb5 at *;cases iq
 ·
  exact H.c.fin X 3 results107 (by rw [<-uh HX];unfold VW;rw [uh Hok,uh Hqw];simp only [if_true,Zl];rw [uh Hre];rfl) rfl H.HO
 obtain ⟨z0,z1,z2,z3,z4,z5,z6,z7,z8,z9,z10⟩:=(uh ks).c11;obtain ⟨g2,hga,_,_,hc2,hz2⟩:=RecAt.view ZT (by omega) H.HO.sm rfl (by omega);cases hga;have hg2o:=(H.c.LO g2 (.inr (.inr (.inr (.inl rfl)))))
 have x2:=H.c.ko.cell (i:=2) (v:= .slice (some ⟨g2,0,none⟩) m.sm.length q2) rfl;obtain ⟨s0,s1,s2,s3,s4,s5,s6,s7,s8,s9,s10⟩:=I9 (hc2 k hk);obtain ⟨g0,g1,g2,g3,g4,g5,g6,g7,g8,g9,g10⟩:=Iy hz2 (k*11);simp only [Nat.add_zero] at s0 g0;have HP:=H.HO.putW rfl hk (t0,t1,t2,t3,t4,t5,t6,t7,t8,t9,t10);clear hc2 hz2;go_upto_region 10 with fail;clear x2 s0 g0 s1 g1 s2 g2 s3 g3 s4 g4 s5 g5 s6 g6 s7 g7 s8 g8 s9 g9 s10 g10;rw [Jb];have HC:=OpC.setw hg2o (ZZ (t0,t1,t2,t3,t4,t5,t6,t7,t8,t9,t10)) (o:=k*11) H.c;clear H;generalize Sz W5 g2 (k*11) (ZZ (t0,t1,t2,t3,t4,t5,t6,t7,t8,t9,t10))=W3 at *;have hfw:=uh HFew;go_wp2_with fail;refine (HC.done (M:=setS m k (t0,t1,t2,t3,t4,t5,t6,t7,t8,t9,t10)) rfl (HP) (by show (m.sm.set k _).length<=800;have:=hfw.sm;simp;omega) hfw.dk).mono ?_;clear HC;rintro e w5 ⟨rfl,HF9,kr,BB⟩;exact Uw X results107 HF9 kr BB (by rw [<-uh HX];unfold VW;rw [uh Hok,uh Hqw];simp only [if_true,Zl];rw [uh Hre];rfl) rfl
def Ul (m:Z7) (b:Int):Z7 × Int:=
 if ZJ m then (if VM m b then (if (Z8 m.dk b.toNat).1 then (m,2) else (ZL (XW m b.toNat true),0)) else (m,1)) else (XG,3)
theorem MV {m:Z7} {b:Int} (h:VM m b=true):∃ k:Nat,b=(k:Int)/\k<m.dk.length:=by
 have:=ZS (show inB b 0 ((m.dk.length:Int)-1)=true from h);exact ⟨b.toNat,by omega,by omega⟩
theorem L7 {m:Z7} (h:ZJ m=true) (b:Int):ZJ (Ul m b).1=true:=by
 unfold Ul;rw [h];simp only [if_true]
 split
 ·rename_i hw
  obtain ⟨k,rfl,hk⟩:=MV hw;rw [show ((k:Int)).toNat=k by simp]
  split
  ·exact h
  ·exact Y1 (JQ (ZI h) hk)
 ·exact h
theorem Q7 {w:World} {v0 v1 v2 v3 v4:Value} {m:Z7} (bench:Int) (h:Smy w v0 v1 v2 v3 v4 m) :
  Calls prog 111 #[.agg #[v0,v1,v2,v3,v4,.int .i64 m.now],.int .i64 bench] w fun e w'=>UF w.heap.size (Ul m bench).1 (Ul m bench).2 e w'/\Below w.heap.size w w':=by
 obtain ⟨X,hX⟩:=ZE (Ul m bench);rw [hX];have HX:=Z9 hX;clear hX;obtain ⟨a0,p0,a1,p1,a2,p2,a3,p3,a4,p4,rfl,rfl,rfl,rfl,rfl,-⟩:=h.five;refine op0 h X func111 ntmps111 results111 (fun h=>by rw [<-uh HX];unfold Ul;rw [h];rfl) ?_;clear h
 intros
 rename_i Hok HLo HFew b0 q0 b1 q1 b2 q2 b3 q3 b4 q4 oq W2 ob H
 obtain ⟨qw,Hqw⟩:=WG (VM m bench);obtain ⟨c0,c1,c2,c3,c4,c5⟩:=H.kb.c6;go_wp2_with fail;clear c0 c1 c2 c3 c4 c5;refine ck (Qp (uh Hqw) H.Hv) fun w3 hb=> ?_;replace H:=H.next hb;clear hb;cases qw
 ·
  exact H.c.fin X 1 results111 (by rw [<-uh HX];unfold Ul;rw [uh Hok,uh Hqw];rfl) rfl H.HO
 obtain ⟨k,rfl,hk⟩:=MV (uh Hqw);have hk1:(k:Int)<(m.dk.length:Int):=by omega
 obtain ⟨_,_,hde,_,_,r3⟩:=H.Hv.dk;cases hde
 rcases r3 with e0 | ⟨db,off,rfl,hbw,hcl⟩
 ·rw [e0] at hk;simp at hk
 obtain ⟨d0,_,_⟩:=Yv hcl hk;clear hcl;obtain ⟨op,hop⟩:=ZE ((Z8 m.dk k).1);rw [hop] at d0;have Hop:=Z9 hop;clear hop;have c3:=H.kb.cell (i:=3) (v:= .slice (some ⟨db,off,none⟩) m.dk.length p3) rfl;cases op;rotate_left
 ·
  exact H.c.fin X 2 results111 (by rw [<-uh HX];unfold Ul;rw [uh Hok,uh Hqw];simp only [if_true,Zl];rw [uh Hop];rfl) rfl H.HO
 obtain ⟨g3,hga,_,_,hc3,hz3⟩:=RecAt.view Zx (by omega) H.HO.dk rfl (by omega);cases hga;have s0:=hc3 k hk 0 _ rfl;have f0:=hz3 (k*3);have x3:=H.c.ko.cell (i:=3) (v:= .slice (some ⟨g3,0,none⟩) m.dk.length q3) rfl;have hput:=H.HO.putD rfl (j:=k) (i:=0) hk (by omega) (.bool true) (true,(Z8 m.dk k).2) rfl;simp only [Nat.add_zero] at s0 hput;have hg3o:=(H.c.LO g3 (.inr (.inr (.inr (.inr (.inl rfl))))))
 clear hc3 hz3;go_upto_region 9 with fail;clear s0 f0 x3 c3 d0;have HP:=hput;have HC:=H.c.set hg3o (k*3) (.bool true);clear H hput;generalize w3.setCell ⟨g3,k*3,none⟩ (.bool true)=W3 at *;have hfw:=uh HFew;go_wp2_with fail;refine (HC.done (M:=XW m k true) rfl (HP) (by show m.sm.length<=800;have:=hfw.sm;omega) (by show (m.dk.set k _).length<=_;rw [VH];exact hfw.dk)).mono ?_;clear HC;rintro e w4 ⟨rfl,HF9,kr,BB⟩;exact Uw X results111 HF9 kr BB (by rw [<-uh HX];unfold Ul;rw [uh Hok,uh Hqw];simp only [if_true,Zl];rw [uh Hop];rfl) rfl
theorem O3 {w:World} {v0 v1 v2 v3 v4:Value} {m:Z7} (who:Int) (h:Smy w v0 v1 v2 v3 v4 m) :
  Calls prog 104 #[.agg #[v0,v1,v2,v3,v4,.int .i64 m.now],.int .i64 who] w fun e w'=>UF w.heap.size (Up m who).1 (Up m who).2 e w'/\Below w.heap.size w w':=by
 obtain ⟨X,hX⟩:=ZE (Up m who);rw [hX];have HX:=Z9 hX;clear hX;obtain ⟨a0,p0,a1,p1,a2,p2,a3,p3,a4,p4,rfl,rfl,rfl,rfl,rfl,-⟩:=h.five;refine op0 h X func104 ntmps104 results104 (fun h=>by rw [<-uh HX];unfold Up;rw [h];rfl) ?_;clear h
 intros
 rename_i Hok HLo HFew b0 q0 b1 q1 b2 q2 b3 q3 b4 q4 oq W2 ob H
 obtain ⟨qw,Hqw⟩:=WG (Vq m who);obtain ⟨c0,c1,c2,c3,c4,c5⟩:=H.kb.c6;go_wp2_with fail;clear c0 c1 c2 c3 c4 c5;refine ck (VN (uh Hqw) H.Hv) fun w3 hb=> ?_;replace H:=H.next hb;clear hb;cases qw
 ·
  exact H.c.fin X 1 results104 (by rw [<-uh HX];unfold Up;rw [uh Hok,uh Hqw];rfl) rfl H.HO
 obtain ⟨k,rfl,hk,hs0⟩:=Xz (uh Hqw);have hk1:(k:Int)<(m.sm.length:Int):=by omega
 obtain ⟨_,_,hse,_,_,r2⟩:=H.Hv.sm;cases hse
 rcases r2 with e0 | ⟨sb,off,rfl,hbw,hcl⟩
 ·rw [e0] at hk;simp at hk
 obtain ⟨d0,d1,d2,d3,d4,d5,d6,d7,d8,d9,d10⟩:=YM hcl hk;clear hcl;obtain ⟨ps,hps⟩:=ZE (ZP (Z8 m.sm k));have Hps:=Z9 hps;obtain ⟨⟨st,be,rk,my,gu,lo,hi,hd,ca,ut,wk⟩,hrk⟩:=ZE (Z8 m.sm k);rw [hrk] at d0 d1 d2 d3 d4 d5 d6 d7 d8 d9 d10 hps;simp only at d0 d1 d2 d3 d4 d5 d6 d7 d8 d9 d10;have c2:=H.kb.cell (i:=2) (v:= .slice (some ⟨sb,off,none⟩) m.sm.length p2) rfl;have Hpt:=Z9 hps;clear hps;go_wp2_with fail;refine ck (YQ (uh Hpt) _) fun w4 hb=> ?_;replace H:=H.next hb;clear hb d0 d1 d2 d3 d4 d5 d6 d7 d8 d9 d10 c2;cases ps
 ·
  exact H.c.fin X 2 results104 (by rw [<-uh HX];unfold Up;rw [uh Hok,uh Hqw];simp only [if_true,Zl];rw [uh Hps];rfl) rfl H.HO
 obtain ⟨g2,hga,_,_,hc2,hz2⟩:=RecAt.view ZT (by omega) H.HO.sm rfl (by omega);cases hga;have s0:=hc2 k hk 0 _ rfl;have f0:=hz2 (k*11);have x2:=H.c.ko.cell (i:=2) (v:= .slice (some ⟨g2,0,none⟩) m.sm.length q2) rfl;have hput:=H.HO.putS rfl (j:=k) (i:=0) hk (by omega) (.int .i64 1) (stS (Z8 m.sm k) 1) rfl;simp only [Nat.add_zero] at s0 hput;have hg2o:=(H.c.LO g2 (.inr (.inr (.inr (.inl rfl)))))
 clear hc2 hz2;go_upto_region 9 with fail;clear s0 f0 x2;have HP:=hput;have HC:=H.c.set hg2o (k*11) (.int .i64 1);clear H hput;generalize w4.setCell ⟨g2,k*11,none⟩ (.int .i64 1)=W3 at *;have hfw:=uh HFew;go_wp2_with fail;refine (HC.done (M:=setS m k (stS (Z8 m.sm k) 1)) rfl (HP) (by show (m.sm.set k _).length<=800;have:=hfw.sm;simp;omega) hfw.dk).mono ?_;clear HC;rintro e w5 ⟨rfl,HF9,kr,BB⟩;exact Uw X results104 HF9 kr BB (by rw [<-uh HX];unfold Up;rw [uh Hok,uh Hqw];simp only [if_true,Zl];rw [uh Hps];rfl) rfl
theorem PZ {w:World} {v0 v1 v2 v3 v4:Value} {m:Z7} (who:Int) (h:Smy w v0 v1 v2 v3 v4 m) :
  Calls prog 106 #[.agg #[v0,v1,v2,v3,v4,.int .i64 m.now],.int .i64 who] w fun e w'=>UF w.heap.size (Vm m who).1 (Vm m who).2 e w'/\Below w.heap.size w w':=by
 obtain ⟨X,hX⟩:=ZE (Vm m who);rw [hX];have HX:=Z9 hX;clear hX;obtain ⟨a0,p0,a1,p1,a2,p2,a3,p3,a4,p4,rfl,rfl,rfl,rfl,rfl,-⟩:=h.five;refine op0 h X func106 ntmps106 results106 (fun h=>by rw [<-uh HX];unfold Vm;rw [h];rfl) ?_;clear h
 intros
 rename_i Hok HLo HFew b0 q0 b1 q1 b2 q2 b3 q3 b4 q4 oq W2 ob H
 obtain ⟨qw,Hqw⟩:=WG (Vq m who);obtain ⟨c0,c1,c2,c3,c4,c5⟩:=H.kb.c6;go_wp2_with fail;clear c0 c1 c2 c3 c4 c5;refine ck (VN (uh Hqw) H.Hv) fun w3 hb=> ?_;replace H:=H.next hb;clear hb;cases qw
 ·
  exact H.c.fin X 1 results106 (by rw [<-uh HX];unfold Vm;rw [uh Hok,uh Hqw];rfl) rfl H.HO
 obtain ⟨k,rfl,hk,hs0⟩:=Xz (uh Hqw);have hk1:(k:Int)<(m.sm.length:Int):=by omega
 obtain ⟨g2,hga,_,_,hc2,hz2⟩:=RecAt.view ZT (by omega) H.HO.sm rfl (by omega);cases hga;have hg2o:=(H.c.LO g2 (.inr (.inr (.inr (.inl rfl)))))
 have x2:=H.c.ko.cell (i:=2) (v:= .slice (some ⟨g2,0,none⟩) m.sm.length q2) rfl;obtain ⟨s0,s1,s2,s3,s4,s5,s6,s7,s8,s9,s10⟩:=I9 (hc2 k hk);obtain ⟨g0,g1,g2,g3,g4,g5,g6,g7,g8,g9,g10⟩:=Iy hz2 (k*11);simp only [Nat.add_zero] at s0 g0;have HP:=H.HO.putW rfl hk (0,0,0,0,0,0,0,0,0,0,0);clear hc2 hz2;go_upto_region 7 with fail;clear x2 s0 g0 s1 g1 s2 g2 s3 g3 s4 g4 s5 g5 s6 g6 s7 g7 s8 g8 s9 g9 s10 g10;rw [Jb];have HC:=OpC.setw hg2o (ZZ (0,0,0,0,0,0,0,0,0,0,0)) (o:=k*11) H.c;clear H;generalize Sz w3 g2 (k*11) (ZZ (0,0,0,0,0,0,0,0,0,0,0))=W3 at *;have hfw:=uh HFew;go_wp2_with fail;refine (HC.done (M:=setS m k Vk) rfl (HP) (by show (m.sm.set k _).length<=800;have:=hfw.sm;simp;omega) hfw.dk).mono ?_;clear HC;rintro e w4 ⟨rfl,HF9,kr,BB⟩;exact Uw X results106 HF9 kr BB (by rw [<-uh HX];unfold Vm;rw [uh Hok,uh Hqw];simp only [if_true,Zl]) rfl
theorem RD {w:World} {v0 v1 v2 v3 v4:Value} {m:Z7} (who:Int) (lo:Int) (hi:Int) (h:Smy w v0 v1 v2 v3 v4 m) :
  Calls prog 109 #[.agg #[v0,v1,v2,v3,v4,.int .i64 m.now],.int .i64 who,.int .i64 lo,.int .i64 hi] w fun e w'=>UF w.heap.size (VR m who lo hi).1 (VR m who lo hi).2 e w'/\Below w.heap.size w w':=by
 obtain ⟨X,hX⟩:=ZE (VR m who lo hi);rw [hX];have HX:=Z9 hX;clear hX;obtain ⟨a0,p0,a1,p1,a2,p2,a3,p3,a4,p4,rfl,rfl,rfl,rfl,rfl,-⟩:=h.five;refine op0 h X func109 ntmps109 results109 (fun h=>by rw [<-uh HX];unfold VR;rw [h];rfl) ?_;clear h
 intros
 rename_i Hok HLo HFew b0 q0 b1 q1 b2 q2 b3 q3 b4 q4 oq W2 ob H
 obtain ⟨qw,Hqw⟩:=WG (Vq m who);obtain ⟨c0,c1,c2,c3,c4,c5⟩:=H.kb.c6;go_wp2_with fail;clear c0 c1 c2 c3 c4 c5;refine ck (VN (uh Hqw) H.Hv) fun w3 hb=> ?_;replace H:=H.next hb;clear hb;cases qw
 ·
  exact H.c.fin X 1 results109 (by rw [<-uh HX];unfold VR;rw [uh Hok,uh Hqw];rfl) rfl H.HO
 obtain ⟨k,rfl,hk,hs0⟩:=Xz (uh Hqw);have hk1:(k:Int)<(m.sm.length:Int):=by omega
 obtain ⟨pb,Hpb⟩:=WG (Xd lo hi);go_wp2_with fail;refine (YZ lo hi _).mono ?_;rw [uh Hpb];rintro e w9 ⟨rfl,hw9⟩;subst w9;cases pb
 ·
  exact H.c.fin X 3 results109 (by rw [<-uh HX];unfold VR;rw [uh Hok,uh Hqw];simp only [if_true];rw [uh Hpb];rfl) rfl H.HO
 obtain ⟨g2,hga,_,_,hc2,hz2⟩:=RecAt.view ZT (by omega) H.HO.sm rfl (by omega);cases hga;have hg2o:=(H.c.LO g2 (.inr (.inr (.inr (.inl rfl)))))
 have x2:=H.c.ko.cell (i:=2) (v:= .slice (some ⟨g2,0,none⟩) m.sm.length q2) rfl;have s0:=hc2 k hk 5 _ rfl;have f0:=hz2 (k*11+5);have hp0:=H.HO.putS rfl (j:=k) (i:=5) hk (by omega) (.int .i64 lo) (((Z8 m.sm k).1,(Z8 m.sm k).2.1,(Z8 m.sm k).2.2.1,(Z8 m.sm k).2.2.2.1,(Z8 m.sm k).2.2.2.2.1,lo,(Z8 m.sm k).2.2.2.2.2.2)) rfl;have hl1:(m.sm.set k (((Z8 m.sm k).1,(Z8 m.sm k).2.1,(Z8 m.sm k).2.2.1,(Z8 m.sm k).2.2.2.1,(Z8 m.sm k).2.2.2.2.1,lo,(Z8 m.sm k).2.2.2.2.2.2))).length=m.sm.length:=by simp
 have hr1:Z8 (m.sm.set k (((Z8 m.sm k).1,(Z8 m.sm k).2.1,(Z8 m.sm k).2.2.1,(Z8 m.sm k).2.2.2.1,(Z8 m.sm k).2.2.2.2.1,lo,(Z8 m.sm k).2.2.2.2.2.2))) k=(((Z8 m.sm k).1,(Z8 m.sm k).2.1,(Z8 m.sm k).2.2.1,(Z8 m.sm k).2.2.2.1,(Z8 m.sm k).2.2.2.2.1,lo,(Z8 m.sm k).2.2.2.2.2.2)):=by rw [ZC hk,if_pos rfl]
 have hp1:=hp0.putS hl1.symm (j:=k) (i:=6) (by show k<(m.sm.set k _).length;omega) (by omega) (.int .i64 hi) (IJ (Z8 m.sm k) lo hi) (by show ZZ (IJ (Z8 m.sm k) lo hi)=(ZZ (Z8 (m.sm.set k (((Z8 m.sm k).1,(Z8 m.sm k).2.1,(Z8 m.sm k).2.2.1,(Z8 m.sm k).2.2.2.1,(Z8 m.sm k).2.2.2.2.1,lo,(Z8 m.sm k).2.2.2.2.2.2))) k)).set 6 _;rw [hr1];rfl);obtain ⟨_,hga,_,_,hd1,hy1⟩:=RecAt.view ZT (by omega) hp0.sm hl1.symm (by show 0<(m.sm.set k _).length;omega);cases hga;have s1:=hd1 k (by show k<(m.sm.set k _).length;omega) 6 _ rfl;have f1:=hy1 (k*11+6);simp only [List.set_set] at hp1;have x2':=(H.c.ko.other (a:=⟨g2,k*11+5,none⟩) (by show ob ≠ g2;omega) (.int .i64 lo)).cell (i:=2) (v:= .slice (some ⟨g2,0,none⟩) m.sm.length q2) rfl;have HP:=hp1;clear hc2 hz2 hp0 hp1;go_upto_region 10 with fail;clear s0 s1 f0 f1 x2;have HC:=(H.c.set hg2o (k*11+5) (.int .i64 lo)).set hg2o (k*11+6) (.int .i64 hi);clear H;generalize ((w3).setCell ⟨g2,k*11+5,none⟩ (.int .i64 lo)).setCell ⟨g2,k*11+6,none⟩ (.int .i64 hi)=W3 at *;have hfw:=uh HFew;go_wp2_with fail;refine (HC.done (M:=setS m k (IJ (Z8 m.sm k) lo hi)) rfl (HP) (by show (m.sm.set k _).length<=800;have:=hfw.sm;simp;omega) hfw.dk).mono ?_;clear HC;rintro e w4 ⟨rfl,HF9,kr,BB⟩;exact Uw X results109 HF9 kr BB (by rw [<-uh HX];unfold VR;rw [uh Hok,uh Hqw];simp only [if_true,Zl];rw [uh Hpb];rfl) rfl
theorem Nx {w:World} {v0 v1 v2 v3 v4:Value} {m:Z7} (who:Int) (gu:Int) (h:Smy w v0 v1 v2 v3 v4 m) (hok:ZJ m=true) :
  Calls prog 116 #[.agg #[v0,v1,v2,v3,v4,.int .i64 m.now],.int .i64 who,.int .i64 gu] w fun e w'=>UF w.heap.size (TA m who gu).1 (TA m who gu).2 e w'/\Below w.heap.size w w':=by
 obtain ⟨X,hX⟩:=ZE (TA m who gu);rw [hX];have HX:=Z9 hX;clear hX;obtain ⟨a0,p0,a1,p1,a2,p2,a3,p3,a4,p4,rfl,rfl,rfl,rfl,rfl,-⟩:=h.five;refine op1 h hok func116 ntmps116 ?_;clear h
 intros
 rename_i Hok HLo HFew b0 q0 b1 q1 b2 q2 b3 q3 b4 q4 oq W2 ob H
 obtain ⟨qw,Hqw⟩:=WG (Vq m who);obtain ⟨c0,c1,c2,c3,c4,c5⟩:=H.kb.c6;go_wp2_with fail;clear c0 c1 c2 c3 c4 c5;refine ck (VN (uh Hqw) H.Hv) fun w3 hb=> ?_;replace H:=H.next hb;clear hb;cases qw
 ·
  exact H.c.fin X 1 results116 (by rw [<-uh HX];unfold TA;rw [uh Hqw];rfl) rfl H.HO
 obtain ⟨k,rfl,hk,hs0⟩:=Xz (uh Hqw);have hk1:(k:Int)<(m.sm.length:Int):=by omega
 obtain ⟨qg,Hqg⟩:=WG (inB gu (-1) ((m.gd.length:Int)-1));have hgl:=(uh HFew).gd;have c1:=H.kb.cell (i:=1) (v:= .slice a1 m.gd.length p1) rfl;go_wp2_with fail;refine (Z4 _ _ _ _).mono ?_;rw [uh Hqg];rintro e w9 ⟨rfl,hw9⟩;subst w9;clear c1;cases qg
 ·
  exact H.c.fin X 3 results116 (by rw [<-uh HX];unfold TA;rw [uh Hqw];simp only [if_true];rw [uh Hqg];rfl) rfl H.HO
 obtain ⟨g2,hga,_,_,hc2,hz2⟩:=RecAt.view ZT (by omega) H.HO.sm rfl (by omega);cases hga;have hg2o:=(H.c.LO g2 (.inr (.inr (.inr (.inl rfl)))))
 have x2:=H.c.ko.cell (i:=2) (v:= .slice (some ⟨g2,0,none⟩) m.sm.length q2) rfl;have s0:=hc2 k hk 4 _ rfl;have f0:=hz2 (k*11+4);have hp0:=H.HO.putS rfl (j:=k) (i:=4) hk (by omega) (.int .i64 gu) (OM (Z8 m.sm k) gu) rfl;have HP:=hp0;clear hc2 hz2 hp0;go_upto_region 7 with fail;clear s0 f0 x2;have HC:=H.c.set hg2o (k*11+4) (.int .i64 gu);clear H;generalize (w3).setCell ⟨g2,k*11+4,none⟩ (.int .i64 gu)=W3 at *;have hfw:=uh HFew;go_wp2_with fail;refine (HC.done (M:=setS m k (OM (Z8 m.sm k) gu)) rfl (HP) (by show (m.sm.set k _).length<=800;have:=hfw.sm;simp;omega) hfw.dk).mono ?_;clear HC;rintro e w4 ⟨rfl,HF9,kr,BB⟩;exact Uw X results116 HF9 kr BB (by rw [<-uh HX];unfold TA;rw [uh Hqw];simp only [if_true,Zl];rw [uh Hqg];rfl) rfl
end Go.Proofs.YtmdgokjeobnnaaaGreatDoor
