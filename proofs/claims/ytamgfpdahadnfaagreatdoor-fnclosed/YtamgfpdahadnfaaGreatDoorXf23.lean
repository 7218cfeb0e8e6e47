/- Part 23 of what the proof rests on. No condition but those that a theorem names. -/
import Derived.Test.YtamgfpdahadnfaaGreatDoorXf18
import Derived.Test.YtamgfpdahadnfaaGreatDoorXf19
set_option maxHeartbeats 8000000
set_option maxRecDepth 100000
namespace Go.Proofs.YtamgfpdahadnfaaGreatDoor
open Go.ChangeShapes Go.WideShapes Go.ChangeAt Go.RowKit Go.Sort
set_option linter.unusedVariables false
set_option linter.unusedSimpArgs false
variable {w w' w0 w1 w2 w3 w₀ wr W W' X A B C : World} {v v0 v1 v2 v3 v4 u u0 u1 u2 u3 u4 : Value} {m : Z6}
theorem Two.set_new {p q:Option Nat} (h:Two p q w w') {g:Nat} (hg:w.heap.size<=g) (o:Nat) (u:Value):Two p q w (w'.setCell ⟨g,o,none⟩ u):=
 ⟨h.os,h.tape,h.output,by simpa using h.size,fun i hi hp hq=>(heap_setCell_other w' _ i u (by show i ≠ g;omega)).trans (h.block i hi hp hq)⟩
theorem FullSmy.lt {n₀:Nat}  {qs:List (ZZ × Value)} (h:FullSmy n₀ w v0 v1 v2 v3 v4 m qs) {k:Nat} (e:v0.ownBlock=some k\/(∃ q ∈ qs,q.2.ownBlock=some k)\/v1.ownBlock=some k\/v2.ownBlock=some k\/v3.ownBlock=some k\/v4.ownBlock=some k):n₀<=k/\k<w.heap.size:=by
 rcases e with e | e | e | e | e | e
 ·exact h.hall.lt (.inl e)
 ·exact h.hall.lt (.inr e)
 ·exact RecAt.lt h.gd e
 ·exact RecAt.lt h.sm e
 ·exact RecAt.lt h.dk e
 ·exact RecAt.lt h.pc e
theorem Rx {R n₀:Nat}  {qs:List (ZZ × Value)} (kb:Blk w R 32 #[v0,v1,v2,v3,v4,.int .i64 m.now]) (hf:FullSmy n₀ w v0 v1 v2 v3 v4 m qs) (h2:v2.ownBlock ≠ some R) (h3:v3.ownBlock ≠ some R) (hl:m.sm.length<=800) (hd:m.dk.length<=1000) :
  Calls Tryz.prog 51 #[.pointer (some ⟨R,0,none⟩)] w fun e w'=>e= .returned (.tuple #[.agg #[v0,v1,v2,v3,v4,.int .i64 m.now],.int .i64 0])/\FullSmy n₀ w' v0 v1 v2 v3 v4 (ZP m) qs/\Two v2.ownBlock v3.ownBlock w w':=by
 have hfl:=fun k e=>(hf.lt (k:=k) e).2;obtain ⟨a0,p0,rfl⟩:=hf.hall.shape;obtain ⟨a1,p1,rfl⟩:=RecAt.shape hf.gd;obtain ⟨a2,p2,rfl⟩:=RecAt.shape hf.sm;obtain ⟨a3,p3,rfl⟩:=RecAt.shape hf.dk;obtain ⟨a4,p4,rfl⟩:=RecAt.shape hf.pc;have Kb:=Z9 kb;have HF:=Z9 hf;have H2:=Z9 h2;have H3:=Z9 h3;have HL:=Z9 hfl;have hR:=kb.lt;clear kb hf h2 h3 hfl;go_enter Tryz.func51,Tryz.ntmps51;go_wp2_with fail;have Ba:Below w.heap.size w (w.alloc (.cells E6 32)):=ba _ _;have kz:=Blk.new w 32 E6;refine (Ru ((uh Kb).below Ba hR) ((uh HF).below Ba) (uh H2) (uh H3) hl hd).mono ?_;rintro e w1 ⟨rfl,hf1,ht1⟩;have T1:=(Two.of_below Ba).trans ht1;have kb1:=(uh Kb).two T1 (uh H2) (uh H3);have hnz:∀ k,(_\/_\/_\/_\/_\/_)->k ≠ w.heap.size:=fun k e=>by have:=uh HL k e;omega
 have kz1:=kz.two ht1 (fun e=>hnz _ (.inr (.inr (.inr (.inl e)))) rfl) (fun e=>hnz _ (.inr (.inr (.inr (.inr (.inl e))))) rfl);obtain ⟨c0,c1,c2,c3,c4,c5⟩:=kb1.c6;have o0:=kz1.cell (i:=0) (v:= .slice none 0 0) rfl;have f0:=kz1.free 0;have o1:=kz1.cell (i:=1) (v:= .slice none 0 0) rfl;have f1:=kz1.free 1;have o2:=kz1.cell (i:=2) (v:= .slice none 0 0) rfl;have f2:=kz1.free 2;have o3:=kz1.cell (i:=3) (v:= .slice none 0 0) rfl;have f3:=kz1.free 3;have o4:=kz1.cell (i:=4) (v:= .slice none 0 0) rfl;have f4:=kz1.free 4;have o5:=kz1.cell (i:=5) (v:= .int .i64 0) rfl;have f5:=kz1.free 5;have HF1:=Z9 hf1;have TT:=Z9 T1;have HN:=Z9 hnz;clear hf1 ht1 T1 kb1 kz1 kz Ba hnz;go_wp2_with fail;refine ZQ (v:= .tuple #[.agg #[.slice a0 qs.length p0,.slice a1 m.gd.length p1,.slice a2 m.sm.length p2,.slice a3 m.dk.length p3,.slice a4 m.pc.length p4,.int .i64 m.now],.int .i64 0]) (by simp [results,Tryz.results51,go_sem, *]) rfl ⟨rfl,?_,?_⟩
 ·iterate 6 (refine FullSmy.set_off ?_ (uh HN) _ _)
  exact uh HF1
 ·iterate 6 (refine Two.set_new ?_ (Z2 _) _ _)
  exact uh TT
theorem Mq {R n₀:Nat}  {qs:List (ZZ × Value)} (kb:Blk w R 32 #[v0,v1,v2,v3,v4,.int .i64 m.now]) (hf:FullSmy n₀ w v0 v1 v2 v3 v4 m qs) (h2:v2.ownBlock ≠ some R) (h3:v3.ownBlock ≠ some R) {k:Nat} (hk:k<m.sm.length) (b:Int) :
  Calls Tryz.prog 50 #[.pointer (some ⟨R,0,none⟩),.int .i64 (k:Int),.int .i64 b] w fun e w'=>e= .returned (.tuple #[])/\FullSmy n₀ w' v0 v1 v2 v3 v4 (setS m k (2,b,(Z8 m.sm k).2.2)) qs/\Two v2.ownBlock v3.ownBlock w w':=by
 obtain ⟨a2,p2,rfl⟩:=RecAt.shape hf.sm;obtain ⟨g2,rfl,hg2,hg2w,hc2,hz2⟩:=RecAt.view ZT (by omega) hf.sm rfl (by omega);have s0:=hc2 k hk 0 _ rfl;have f0:=hz2 (k*11);have c2:=kb.cell (i:=2) (v:= .slice (some ⟨g2,0,none⟩) m.sm.length p2) rfl;have hp1:=hf.putS rfl (j:=k) (i:=0) hk (by omega) (.int .i64 2) (stS (Z8 m.sm k) 2) rfl;have hlen:(m.sm.set k (stS (Z8 m.sm k) 2)).length=m.sm.length:=by simp
 have hs1:Z8 (m.sm.set k (stS (Z8 m.sm k) 2)) k=stS (Z8 m.sm k) 2:=by rw [ZI hk,if_pos rfl]
 have hp2:=hp1.putS hlen.symm (j:=k) (i:=1) (by show k<(m.sm.set k _).length;omega) (by omega) (.int .i64 b) (2,b,(Z8 m.sm k).2.2) (by show ZV (2,b,(Z8 m.sm k).2.2)=(ZV (Z8 (m.sm.set k (stS (Z8 m.sm k) 2)) k)).set 1 _;rw [hs1];rfl);obtain ⟨_,hga,_,_,hc3,hz3⟩:=RecAt.view ZT (by omega) hp1.sm hlen.symm (by show 0<(m.sm.set k _).length;omega);cases hga;have s1:=hc3 k (by show k<(m.sm.set k _).length;omega) 1 _ rfl;have f1:=hz3 (k*11+1);have hgR:g2 ≠ R:=fun e=>h2 (by rw [e];rfl);have c2':=(kb.other (a:=⟨g2,k*11,none⟩) (fun e=>hgR e.symm) (.int .i64 2)).cell (i:=2) (v:= .slice (some ⟨g2,0,none⟩) m.sm.length p2) rfl;simp only [Nat.add_zero,List.set_set] at s0 hp1 hp2 s1 f1;have HP2:=Z9 hp2;have hk1:(k:Int)<(m.sm.length:Int):=by omega
 clear hc2 hz2 hc3 hz3 hp1 hp2 hf kb hs1 hlen h2 h3 hgR;go_enter Tryz.func50,Tryz.ntmps50;go_wp2_with fail
 go_end0
 exact ⟨rfl,uh HP2,(Two.of_set w (.inl rfl) _ _).trans (Two.of_set _ (.inl rfl) _ _)⟩
theorem Uf {R n₀:Nat}  {qs:List (ZZ × Value)} (kb:Blk w R 32 #[v0,v1,v2,v3,v4,.int .i64 m.now]) (hf:FullSmy n₀ w v0 v1 v2 v3 v4 m qs) (h2:v2.ownBlock ≠ some R) (h3:v3.ownBlock ≠ some R) {k bn b:Nat} (hk:k<m.sm.length) (hbn:(Z8 m.sm k).2.1=(bn:Int)) (hbn1:bn<m.dk.length) (hb:b<m.dk.length) :
  Calls Tryz.prog 77 #[.pointer (some ⟨R,0,none⟩),.int .i64 (k:Int),.int .i64 (b:Int)] w fun e w'=>e= .returned (.tuple #[])/\FullSmy n₀ w' v0 v1 v2 v3 v4 (setS m k (putS m (Z8 m.sm k) b)) qs/\Two v2.ownBlock v3.ownBlock w w':=by
 obtain ⟨a2,p2,rfl⟩:=RecAt.shape hf.sm;obtain ⟨a3,p3,rfl⟩:=RecAt.shape hf.dk;obtain ⟨g2,rfl,hg2,hg2w,hc2,hz2⟩:=RecAt.view ZT (by omega) hf.sm rfl (by omega);obtain ⟨g3,rfl,hg3,hg3w,hc3,hz3⟩:=RecAt.view ZH (by omega) hf.dk rfl (by omega);have s1:=hc2 k hk 1 _ rfl;have s7:=hc2 k hk 7 _ rfl;have f1:=hz2 (k*11+1);have f7:=hz2 (k*11+7);have d1:=hc3 bn hbn1 2 _ rfl;have d2:=hc3 b hb 2 _ rfl;have c2:=kb.cell (i:=2) (v:= .slice (some ⟨g2,0,none⟩) m.sm.length p2) rfl;have c3:=kb.cell (i:=3) (v:= .slice (some ⟨g3,0,none⟩) m.dk.length p3) rfl;have hmv:Zr (Yn (Z8 m.sm k)) (YJ m (Z8 m.sm k).2.1) (YJ m (b:Int))=Zr (Z8 m.sm k).2.2.2.2.2.2.2.1 (Z8 m.dk bn).2.2 (Z8 m.dk b).2.2:=by unfold YJ Yn;rw [hbn];simp
 have hx1:∃ x1:Z3,x1=((Z8 m.sm k).1,(Z8 m.sm k).2.1,(Z8 m.sm k).2.2.1,(Z8 m.sm k).2.2.2.1,(Z8 m.sm k).2.2.2.2.1,(Z8 m.sm k).2.2.2.2.2.1,(Z8 m.sm k).2.2.2.2.2.2.1,Zr (Z8 m.sm k).2.2.2.2.2.2.2.1 (Z8 m.dk bn).2.2 (Z8 m.dk b).2.2,(Z8 m.sm k).2.2.2.2.2.2.2.2):=⟨_,rfl⟩
 obtain ⟨x1,hx1⟩:=hx1;have hp1:=hf.putS rfl (j:=k) (i:=7) hk (by omega) (.int .i64 (Zr (Z8 m.sm k).2.2.2.2.2.2.2.1 (Z8 m.dk bn).2.2 (Z8 m.dk b).2.2)) x1 (by rw [hx1];rfl);have hlen:(m.sm.set k x1).length=m.sm.length:=by simp
 have hs1:Z8 (m.sm.set k x1) k=x1:=by rw [ZI hk,if_pos rfl]
 have hp2:=hp1.putS hlen.symm (j:=k) (i:=1) (by show k<(m.sm.set k _).length;omega) (by omega) (.int .i64 (b:Int)) (putS m (Z8 m.sm k) b) (by show ZV (putS m (Z8 m.sm k) b)=(ZV (Z8 (m.sm.set k x1) k)).set 1 _;rw [hs1,hx1];unfold putS;rw [hmv];rfl);obtain ⟨_,hga,_,_,hc4,hz4⟩:=RecAt.view ZT (by omega) hp1.sm hlen.symm (by show 0<(m.sm.set k _).length;omega);cases hga;have s2:=hc4 k (by show k<(m.sm.set k _).length;omega) 1 _ rfl;have f2:=hz4 (k*11+1);simp only [List.set_set] at hp2;have HP2:=Z9 hp2;have hk1:(k:Int)<(m.sm.length:Int):=by omega
 have hbn2:(bn:Int)<(m.dk.length:Int):=by omega
 have hb2:(b:Int)<(m.dk.length:Int):=by omega
 rw [hbn] at s1;clear hc2 hz2 hc3 hz3 hc4 hz4 hp1 hp2 hf kb hs1 hlen h2 h3 hmv hx1 hbn;generalize (Z8 m.sm k).2.2.2.2.2.2.2.1=hd0 at *;generalize (Z8 m.dk bn).2.2=mk1 at *;generalize (Z8 m.dk b).2.2=mk2 at *;go_enter Tryz.func77,Tryz.ntmps77;go_wp2_with fail;refine ZS (S:=fun w'=>w'.cell? ⟨g2,k*11+7,none⟩=some (.int .i64 hd0)/\w'.cell? ⟨R,3,none⟩=some (.slice (some ⟨g3,0,none⟩) m.dk.length p3)/\w'.cell? ⟨g2,k*11+1,none⟩=some (.int .i64 (bn:Int))/\w'.cell? ⟨g3,bn*3+2,none⟩=some (.int .i64 mk1)/\w'.cell? ⟨g3,b*3+2,none⟩=some (.int .i64 mk2)) (by kernel_rfl) (XM _ _) (by kernel_rfl) ⟨s7,c3,s1,d1,d2⟩ (fun hHeld=> ?_);simp only [XN,XO,Y4,YQ,Nat.zero_add,Nat.reduceAdd]
 iterate 24 refine tz ?_
 refine rd 24 rfl (fun K hK=> ?_);go_simp;refine ck (Qy hd0 mk1 mk2 _) fun w9 hw9=> ?_;subst w9;refine hK.out _ _ hHeld (fun hHeld=> ?_);clear hK K
 (try simp only [Act.put,sA,sZ,sS])
 refine tp 25 ?_;refine tp 26 ?_;refine wpAnyH_done (by kernel_rfl) ?_ _;refine ZK rfl rfl ?_;go_simp;clear hHeld;go_wp2_with fail
 go_end0
 exact ⟨rfl,(uh HP2).below (Z1 _ _).drew,((Two.of_set w (.inl rfl) _ _).trans (Two.of_set _ (.inl rfl) _ _)).trans (Two.of_below (Z1 _ _).drew)⟩
theorem XT  (h:Smy w v0 v1 v2 v3 v4 m) :
  Calls Tryz.prog 46 #[.agg #[v0,v1,v2,v3,v4,.int .i64 m.now]] w fun e w'=>e= .returned (.tuple #[.agg E6,.int .i64 3])/\Below w.heap.size w w':=by
 obtain ⟨a0,p0,a1,p1,a2,p2,a3,p3,a4,p4,rfl,rfl,rfl,rfl,rfl,_,_,_,_,_,_,_,_,_,_⟩:=h.five;clear h;go_enter Tryz.func46,Tryz.ntmps46;go_wp2_with fail;exact ZQ (v:= .tuple #[.agg E6,.int .i64 3]) (by simp [results,Tryz.results46,go_sem]) rfl ⟨rfl,((ba _ _)).alloc (by simp) _⟩
end Go.Proofs.YtamgfpdahadnfaaGreatDoor
