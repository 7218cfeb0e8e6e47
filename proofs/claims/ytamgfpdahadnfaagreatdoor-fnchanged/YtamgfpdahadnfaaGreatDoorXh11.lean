/- Part 11 of what the proof rests on. No condition but those that a theorem names. -/
import Derived.Test.YtamgfpdahadnfaaGreatDoorXh10
set_option maxHeartbeats 8000000
set_option maxRecDepth 100000
namespace Go.Proofs.YtamgfpdahadnfaaGreatDoor
open Go.ChangeShapes Go.WideShapes Go.ChangeAt Go.RowKit Go.Sort
set_option linter.unusedVariables false
set_option linter.unusedSimpArgs false
set_option maxRecDepth 100000
variable {w w' w0 w1 w2 w3 w₀ wr W W' X A B C : World} {v v0 v1 v2 v3 v4 u u0 u1 u2 u3 u4 : Value} {m : Z6}
theorem Ff {b:Nat} {e:Z4} {t:List Z4} (h:atV m.sm b m.sm.length=e::t):Xe m b={ m with sm:=ZD (m.sm.set e.2.toNat (stS (Z8 m.sm e.2.toNat) 3)) t,dk:=m.dk.set b ((Z8 m.dk b).1,e.2,Zv (Z8 m.dk b).2.2 e.1) }:=by
 rw [MT h,Bh h]
theorem DR {n₀:Nat}  {qs:List (ZZ × Value)} {b:Nat} (hf:FullSmy n₀ w v0 v1 v2 v3 v4 m qs) (hL:Loose m) (hb:b<m.dk.length) :
  Calls Tryz.prog 162 #[.agg #[v0,v1,v2,v3,v4,.int .i64 m.now],.int .i64 (b:Int)] w fun e w'=>e= .returned (.tuple #[])/\FullSmy n₀ w' v0 v1 v2 v3 v4 (Xe m b) qs/\Two v2.ownBlock v3.ownBlock w w':=by
 have h:=hf.smy;obtain ⟨a0,p0,a1,p1,a2,p2,a3,p3,a4,p4,rfl,rfl,rfl,rfl,rfl,_,_,_,_,_,_,_,_,_,_⟩:=h.five;have hl12:=Yz hL;have heig:=hL.sane.eight;obtain ⟨g3,hga,hg3,hg3w,_,_⟩:=RecAt.view Zu (by omega) hf.dk rfl (by omega);cases hga;have L2:Hid (∀ i,(Value.slice a2 m.sm.length p2).ownBlock=some i->i<w.heap.size):=Z9 (fun i e=>(RecAt.lt hf.sm e).2);have HQ:=Z9 (FC hL (b:Int) m.sm.length (Z2 _));have HN:Hid (atV m.sm (b:Int) m.sm.length=[]->Xe m b={ m with dk:=m.dk.set b ((Z8 m.dk b).1,-1,(Z8 m.dk b).2.2) }):=Z9 (fun h=>Kp h);have HC:Hid (∀ e t,atV m.sm (b:Int) m.sm.length=e::t->Xe m b={ m with sm:=ZD (m.sm.set e.2.toNat (stS (Z8 m.sm e.2.toNat) 3)) t,dk:=m.dk.set b ((Z8 m.dk b).1,e.2,Zv (Z8 m.dk b).2.2 e.1) }):=Z9 (fun e t h=>Ff h)
 have Hm:Hid (∀ x ∈ atV m.sm (b:Int) m.sm.length,∃ j:Nat,j<m.sm.length/\x.2=(j:Int)):=Z9 (fun x hx=>by
  obtain ⟨j,hj,_,_,rfl⟩:=(XF m.sm (b:Int) x m.sm.length).1 hx
  exact ⟨j,hj,rfl⟩)
 have Hql:=Z9 (Si m.sm (b:Int) m.sm.length);have HF:=Z9 hf;have HL:=Z9 hL;have hb1:(b:Int)<(m.dk.length:Int):=by omega
 clear h hf hL hg3;go_enter Tryz.func162,Tryz.ntmps162;go_upto_region 1 with fail;have hba:Below w.heap.size w (w.alloc (.cells (S6 a0 p0 a1 p1 a2 p2 (some ⟨g3,0,none⟩) p3 a4 p4 m) 32)):=ba _ _;have kb:Hid (Blk (w.alloc (.cells (S6 a0 p0 a1 p1 a2 p2 (some ⟨g3,0,none⟩) p3 a4 p4 m) 32)) w.heap.size 32 (S6 a0 p0 a1 p1 a2 p2 (some ⟨g3,0,none⟩) p3 a4 p4 m)):=Z9 (Blk.new _ _ _);replace HF:=Z9 ((uh HF).below hba);have Tw:Hid (Two (Value.slice a2 m.sm.length p2).ownBlock (some g3) w (w.alloc (.cells (S6 a0 p0 a1 p1 a2 p2 (some ⟨g3,0,none⟩) p3 a4 p4 m) 32))):=Z9 (Two.of_below hba);have hgW:g3<(w.alloc (.cells (S6 a0 p0 a1 p1 a2 p2 (some ⟨g3,0,none⟩) p3 a4 p4 m) 32)).heap.size:=Zf hg3w hba.size;have hRW:w.heap.size<(w.alloc (.cells (S6 a0 p0 a1 p1 a2 p2 (some ⟨g3,0,none⟩) p3 a4 p4 m) 32)).heap.size:=(uh kb).lt;clear hba;generalize w.alloc (.cells (S6 a0 p0 a1 p1 a2 p2 (some ⟨g3,0,none⟩) p3 a4 p4 m) 32)=W at *;have H2:Hid ((Value.slice a2 m.sm.length p2).ownBlock ≠ some w.heap.size):=Z9 (fun e=>by have:=uh L2 _ e;omega);have H3:Hid (some g3 ≠ some w.heap.size):=Z9 (fun e=>by cases e;omega);have Low2:Hid (∀ i,(Value.slice a2 m.sm.length p2).ownBlock=some i->i<W.heap.size):=Z9 (fun i e=>by have:=uh L2 i e;omega);obtain ⟨c0,c1,c2,c3,c4,c5⟩:=(uh kb).c6;go_wp2_with fail;refine (G8 (b:Int) (uh HF).smy (uh HL)).mono ?_;rintro e w1 ⟨v',rfl,he,hb⟩;clear c0 c1 c2 c3 c4 c5;generalize atV m.sm (b:Int) m.sm.length=q at *;obtain ⟨qa,qc,rfl⟩:=EntsAt.shape he;have HE:=Z9 he;replace HF:=Z9 ((uh HF).below hb);replace kb:=bl kb hb;replace Tw:=Z9 ((uh Tw).trans (Two.of_below hb));have hgw1:g3<w1.heap.size:=Zf hgW hb.size;have hw1:=hb.size;clear he hb;go_wp2_with fail;refine ck (Np (uh HE).pc) fun w2 hb=> ?_;replace HE:=Z9 ((uh HE).later hb);replace HF:=Z9 ((uh HF).below hb);replace kb:=bl kb hb;replace Tw:=Z9 ((uh Tw).trans (Two.of_below hb));have hgw2:g3<w2.heap.size:=Zf hgw1 hb.size;have hw2:W.heap.size<=w2.heap.size:=XH hw1 hb.size;clear hb hw1 hgw1;obtain ⟨⟨op,wh,mk⟩,hrk⟩:∃ d,Z8 m.dk b=d:=⟨_,rfl⟩
 rw [hrk] at HN HC;simp only at HN HC;have Hrk:=Z9 hrk;clear hrk;have Hset:Hid (∀ d,Z8 (m.dk.set b d) b=d):=Z9 (fun d=>by rw [ZJ hb,if_pos rfl]);cases q with
 | nil=>
  have hfv:Sq []=((0,0),false):=QT rfl;rw [hfv];clear HC hfv;go_upto_region 4 with fail;have hba:Below w2.heap.size w2 (w2.alloc (.cells #[.int .i64 0,.int .i64 0] 91)):=ba _ _;replace HF:=Z9 ((uh HF).below hba);replace kb:=bl kb hba;replace Tw:=Z9 ((uh Tw).trans (Two.of_below hba));clear hba;generalize w2.alloc (.cells #[.int .i64 0,.int .i64 0] 91)=X at *;obtain ⟨_,hga,_,_,hc3,hz3⟩:=RecAt.view Zu (by omega) (uh HF).dk rfl (by omega);cases hga;have d1:=hc3 b hb 1 _ rfl;rw [uh Hrk] at d1;have f1:=hz3 (b*3+1);have c3:=(uh kb).cell (i:=3) (v:= .slice (some ⟨g3,0,none⟩) m.dk.length p3) rfl;have hput:=(uh HF).putD rfl (j:=b) (i:=1) hb (by omega) (.int .i64 (-1)) (op,-1,mk) (by rw [uh Hrk];rfl);have HP:=Z9 hput;clear hput hc3 hz3;go_wp2_with fail;refine ZS (results_none rfl _ _ _) rfl ?_;exact ⟨rfl,by rw [uh HN (by first | rfl | trivial)];exact uh HP,(uh Tw).trans (Two.of_set X (.inr rfl) _ _)⟩
 | cons e t=>
  have hfv:Sq (e::t)=(e,true):=LF (uh HQ) (by simp);obtain ⟨i0,hi0,hie⟩:=uh Hm e (by simp);obtain ⟨hd0,ei⟩:=e;simp only at hie;subst hie;rw [hfv];have hcons:=uh HC (hd0,(i0:Int)) t rfl;simp only [show ((i0:Int)).toNat=i0 by simp] at hcons;have Hcons:=Z9 hcons;have hi1:(i0:Int)<(m.sm.length:Int):=by omega
  have htl:t.length<=12:=by have:=uh Hql;simp at this;omega
  have Hmt:Hid (∀ x ∈ t,∃ j:Nat,j<m.sm.length/\x.2=(j:Int)):=Z9 (fun x hx=>uh Hm x (List.mem_cons_of_mem _ hx));clear HN HC hfv hcons Hm HQ Hql;obtain ⟨n1,hn1⟩:∃ n,n=((hd0,(i0:Int))::t).length:=⟨_,rfl⟩
  rw [<-hn1] at HE;rw [<-hn1];clear hn1;dsimp only;go_upto_region 5 with fail;have hba:Below w2.heap.size w2 (w2.alloc (.cells #[.int .i64 hd0,.int .i64 (i0:Int)] 91)):=ba _ _;have ke:Hid (Blk (w2.alloc (.cells #[.int .i64 hd0,.int .i64 (i0:Int)] 91)) w2.heap.size 91 #[.int .i64 hd0,.int .i64 (i0:Int)]):=Z9 (Blk.new _ _ _);replace HE:=Z9 ((uh HE).later hba);replace HF:=Z9 ((uh HF).below hba);replace kb:=bl kb hba;replace Tw:=Z9 ((uh Tw).trans (Two.of_below hba));have hgX:w2.heap.size<(w2.alloc (.cells #[.int .i64 hd0,.int .i64 (i0:Int)] 91)).heap.size:=(uh ke).lt;clear hba;generalize w2.alloc (.cells #[.int .i64 hd0,.int .i64 (i0:Int)] 91)=X at *;obtain ⟨g2,hga,_,_,hc2,hz2⟩:=RecAt.view ZX (by omega) (uh HF).sm rfl (by omega);cases hga;have hg2W:=uh Low2 g2 rfl;have hn23:g2 ≠ g3:=fun e=>(uh HF).a23 g2 rfl (by rw [e];rfl);have s0:=hc2 i0 hi0 0 _ rfl;have f0:=hz2 (i0*11);have hput:=(uh HF).putS rfl (j:=i0) (i:=0) hi0 (by omega) (.int .i64 3) (stS (Z8 m.sm i0) 3) rfl;simp only [Nat.add_zero] at s0 hput;have HF1:=Z9 hput;have c2:=(uh kb).cell (i:=2) (v:= .slice (some ⟨g2,0,none⟩) m.sm.length p2) rfl;have e1:=(uh ke).cell (i:=1) (v:= .int .i64 (i0:Int)) rfl;clear hput hc2 hz2;have ht:Two (some g2) (some g3) X (X.setCell ⟨g2,i0*11,none⟩ (.int .i64 3)):=Two.of_set X (.inl rfl) _ _;have h2R:(some g2:Option Nat) ≠ some w.heap.size:=uh H2;have h3R:(some g3:Option Nat) ≠ some w.heap.size:=uh H3;have h2E:(some g2:Option Nat) ≠ some w2.heap.size:=fun e=>by cases e;omega
  have h3E:(some g3:Option Nat) ≠ some w2.heap.size:=fun e=>by cases e;omega
  replace kb:=Z9 ((uh kb).two ht h2R h3R);replace ke:=Z9 ((uh ke).two ht h2E h3E);replace HE:=Z9 (Two.ents (uh HE) ht (fun i e=>by cases e;omega) (fun i e=>by cases e;omega));have Tw1:Hid (Two (some g2) (some g3) w (X.setCell ⟨g2,i0*11,none⟩ (.int .i64 3))):=Z9 ((uh Tw).trans ht);clear ht Tw HF;go_upto_region 6 with fail;clear s0 f0 c2 e1;generalize X.setCell ⟨g2,i0*11,none⟩ (.int .i64 3)=X1 at *;obtain ⟨ss,hss⟩:∃ q,m.sm.set i0 (stS (Z8 m.sm i0) 3)=q:=⟨_,rfl⟩
  have hsl:ss.length=m.sm.length:=by rw [<-hss];simp
  rw [hss] at Hcons HF1;clear hss;obtain ⟨_,hga,_,_,hc3,hz3⟩:=RecAt.view Zu (by omega) (uh HF1).dk rfl (by show 0<m.dk.length;omega);cases hga;have d1:=hc3 b hb 1 _ rfl;have hrk2:Z8 ({ m with sm:=ss } : Z6).dk b=(op,wh,mk):=uh Hrk;rw [hrk2] at d1;have f1:=hz3 (b*3+1);have c3:=(uh kb).cell (i:=3) (v:= .slice (some ⟨g3,0,none⟩) m.dk.length p3) rfl;have e1:=(uh ke).cell (i:=1) (v:= .int .i64 (i0:Int)) rfl;have hput:=(uh HF1).putD rfl (j:=b) (i:=1) hb (by omega) (.int .i64 (i0:Int)) (op,(i0:Int),mk) (by rw [hrk2];rfl);have HF2:=Z9 hput;clear hput hc3 hz3 hrk2;have ht:Two (some g2) (some g3) X1 (X1.setCell ⟨g3,b*3+1,none⟩ (.int .i64 (i0:Int))):=Two.of_set X1 (.inr rfl) _ _;replace kb:=Z9 ((uh kb).two ht h2R h3R);replace ke:=Z9 ((uh ke).two ht h2E h3E);replace HE:=Z9 (Two.ents (uh HE) ht (fun i e=>by cases e;omega) (fun i e=>by cases e;omega));have Tw2:Hid (Two (some g2) (some g3) w (X1.setCell ⟨g3,b*3+1,none⟩ (.int .i64 (i0:Int)))):=Z9 ((uh Tw1).trans ht);clear ht Tw1 HF1;go_upto_region 7 with fail;clear d1 f1 c3 e1;generalize X1.setCell ⟨g3,b*3+1,none⟩ (.int .i64 (i0:Int))=X2 at *;have hD1:(m.dk.set b (op,(i0:Int),mk)).length=m.dk.length:=by simp
  obtain ⟨_,hga,_,_,hc3,hz3⟩:=RecAt.view Zu (by omega) (uh HF2).dk hD1.symm (by show 0<(m.dk.set b _).length;omega);cases hga;have hrk2:Z8 ({ m with sm:=ss,dk:=m.dk.set b (op,(i0:Int),mk) } : Z6).dk b=(op,(i0:Int),mk):=uh Hset _;have d2:=hc3 b (by show b<(m.dk.set b _).length;omega) 2 _ rfl;rw [hrk2] at d2;simp only at d2;have f2:=hz3 (b*3+2);have c3:=(uh kb).cell (i:=3) (v:= .slice (some ⟨g3,0,none⟩) m.dk.length p3) rfl;have e0:=(uh ke).cell (i:=0) (v:= .int .i64 hd0) rfl;have hput:=(uh HF2).putD hD1.symm (j:=b) (i:=2) (by show b<(m.dk.set b _).length;omega) (by omega) (.int .i64 (Zv mk hd0)) (op,(i0:Int),(Zv mk hd0)) (by rw [hrk2];rfl);simp only [List.set_set] at hput;clear hc3 hz3 hrk2;refine ZP (S:=fun w'=>w'.cell? ⟨w.heap.size,3,none⟩=some (.slice (some ⟨g3,0,none⟩) m.dk.length p3)/\w'.cell? ⟨g3,b*3+2,none⟩=some (.int .i64 mk)/\w'.cell? ⟨w2.heap.size,0,none⟩=some (.int .i64 hd0)/\w'.frozen? ⟨g3,b*3+2,none⟩=false) (by kernel_rfl) (Xs _ _) (by kernel_rfl) ⟨c3,d2,e0,f2⟩ (fun hHeld=> ?_);simp only [Xt,Xu,YT,YM,Nat.zero_add,Nat.reduceAdd];have hbd:Below X2.heap.size X2 X2.drew:=(Z1 _ _).drew
  iterate 11 refine tz ?_
  refine rd 11 rfl (fun K hK=> ?_);go_simp;refine (LS mk hd0 _).mono ?_;rintro e9 w9 ⟨rfl,hb9'⟩;have hb9:Below X2.heap.size X2 w9:=hbd.trans hb9';clear hb9' hbd;replace kb:=Z9 ((uh kb).below hb9 (uh kb).lt);replace ke:=Z9 ((uh ke).below hb9 (uh ke).lt);replace HE:=Z9 ((uh HE).later hb9);replace Tw2:=Z9 ((uh Tw2).trans (Two.of_below hb9));have HF3:Hid (FullSmy n₀ w9 (.slice a0 m.rm.length p0) (.slice a1 m.gd.length p1) (.slice (some ⟨g2,0,none⟩) m.sm.length p2) (.slice (some ⟨g3,0,none⟩) m.dk.length p3) (.slice a4 m.pc.length p4) { m with sm:=ss,dk:=m.dk.set b (op,(i0:Int),mk) } qs):=Z9 ((uh HF2).below hb9);clear hput;obtain ⟨_,hga,_,_,hc3,hz3⟩:=RecAt.view Zu (by omega) (uh HF3).dk hD1.symm (by show 0<(m.dk.set b _).length;omega);cases hga;have hrk2:Z8 ({ m with sm:=ss,dk:=m.dk.set b (op,(i0:Int),mk) } : Z6).dk b=(op,(i0:Int),mk):=uh Hset _;have d3:=hc3 b (by show b<(m.dk.set b _).length;omega) 2 _ rfl;rw [hrk2] at d3;simp only at d3;have f3:=hz3 (b*3+2);have hput:=(uh HF3).putD hD1.symm (j:=b) (i:=2) (by show b<(m.dk.set b _).length;omega) (by omega) (.int .i64 (Zv mk hd0)) (op,(i0:Int),(Zv mk hd0)) (by rw [hrk2];rfl);simp only [List.set_set] at hput;have HF4:=Z9 hput;clear hput hc3 hz3 hrk2;refine hK.out _ _ ⟨(uh kb).cell (i:=3) rfl,d3,(uh ke).cell (i:=0) rfl,f3⟩ (fun hHeld=> ?_);clear hK K c3 e0 d2 f2 hb9
  (try simp only [Act.put,sA,sZ,sS])
  refine tp 12 ?_;refine tp 13 ?_;refine wpAnyH_done (by kernel_rfl) ?_ _;refine ZF rfl rfl ?_;go_simp;clear hHeld d3 f3;have ht:Two (some g2) (some g3) w9 (w9.setCell ⟨g3,b*3+2,none⟩ (.int .i64 (Zv mk hd0))):=Two.of_set w9 (.inr rfl) _ _;replace kb:=Z9 ((uh kb).two ht h2R h3R);replace HE:=Z9 (Two.ents (uh HE) ht (fun i e=>by cases e;omega) (fun i e=>by cases e;omega));have Tw4:Hid (Two (some g2) (some g3) w (w9.setCell ⟨g3,b*3+2,none⟩ (.int .i64 (Zv mk hd0)))):=Z9 ((uh Tw2).trans ht);clear ht Tw2 HF3 HF2 ke;generalize w9.setCell ⟨g3,b*3+2,none⟩ (.int .i64 (Zv mk hd0))=X4 at *;obtain ⟨ds,hds⟩:∃ q,m.dk.set b (op,(i0:Int),(Zv mk hd0))=q:=⟨_,rfl⟩
  rw [hds] at Hcons HF4;clear hds hD1;have h2X:g2<X4.heap.size:=by have h9:=(uh HF4).sm;exact (RecAt.lt h9 rfl).2
  have h3X:g3<X4.heap.size:=by have h9:=(uh HF4).dk;exact (RecAt.lt h9 rfl).2
  go_wp2_with fail;refine (Ld (uh HE).pc (by omega)).mono ?_;rintro e w5 ⟨v5,rfl,he5,hb5⟩;obtain ⟨ya,yc,rfl⟩:=EntsAt.shape he5;have HE5:=Z9 he5;have hX4:w.heap.size<X4.heap.size:=(uh kb).lt;replace kb:=Z9 ((uh kb).below hb5 (uh kb).lt);replace HF4:=Z9 ((uh HF4).below hb5);replace Tw4:=Z9 ((uh Tw4).trans (Two.of_below hb5));clear he5 hb5 HE;go_wp2_with fail
  go_loopw [54] (fun i wi=> ∃ j:Nat,j<=t.length/\i= .int .i64 j/\FullSmy n₀ wi (.slice a0 m.rm.length p0) (.slice a1 m.gd.length p1) (.slice (some ⟨g2,0,none⟩) m.sm.length p2) (.slice (some ⟨g3,0,none⟩) m.dk.length p3) (.slice a4 m.pc.length p4) { m with sm:=ZD ss (t.take j),dk:=ds } qs/\Two (some g2) (some g3) w5 wi) (fun i _=>t.length-(intOf i).toNat)
  case atStart=>exact ⟨0,ZA _,rfl,by simpa [ZD] using uh HF4,Two.refl _ _ _⟩
  case round=>
   obtain ⟨j,hj,rfl,hf3,htw3⟩:=hrel;have HF5:=Z9 hf3;have Tw5:=Z9 htw3;have K5:=Z9 ((uh kb).two htw3 h2R h3R);have HE6:=Z9 (Two.ents (uh HE5) htw3 (fun i e=>by cases e;exact h2X) (fun i e=>by cases e;exact h3X));have hzr:=htw3.size;clear hf3 htw3;by_cases hjl:j<t.length
   ·obtain ⟨_,_,hqe,_,_,hr⟩:=EntsAt.pc (uh HE6)
    cases hqe
    rcases hr with e0 | ⟨eb,eo,rfl,hbw,hcl⟩
    ·rw [e0] at hjl;simp at hjl
    obtain ⟨d0,d1⟩:=hcl j hjl;obtain ⟨i2,hi2,hie⟩:=uh Hmt _ (WZ hjl);rw [hie] at d1;have Htk:Hid (ZD ss (t.take (j+1))=(ZD ss (t.take j)).set i2 (stS (Z8 (ZD ss (t.take j)) i2) 2)):=Z9 (by rw [It hjl,PX,hie];simp);obtain ⟨hh,hhh⟩:∃ q,(Z7 t j).1=q:=⟨_,rfl⟩
    rw [hhh] at d0;have hjl1:(j:Int)<(t.length:Int):=by omega
    clear hcl hie hhh;go_upto_region 11 with fail;clear d0 d1;obtain ⟨Y,hY,hba,ke⟩:=YF wr 91 #[.int .i64 hh,.int .i64 (i2:Int)];replace K5:=bl K5 hba;replace HF5:=Z9 ((uh HF5).below hba);replace Tw5:=Z9 ((uh Tw5).trans (Two.of_below hba));clear hba;rw [hY];clear hY;have hwl:(ZD ss (t.take j)).length=m.sm.length:=by rw [XC,hsl]
    obtain ⟨_,hga,_,_,hc2,hz2⟩:=RecAt.view ZX (by omega) (uh HF5).sm hwl.symm (by show 0<(ZD ss (t.take j)).length;omega);cases hga;have s0:=hc2 i2 (by show i2<(ZD ss (t.take j)).length;omega) 0 _ rfl;have f0:=hz2 (i2*11);have hput:=(uh HF5).putS hwl.symm (j:=i2) (i:=0) (by show i2<(ZD ss (t.take j)).length;omega) (by omega) (.int .i64 2) (stS (Z8 (ZD ss (t.take j)) i2) 2) rfl;simp only [Nat.add_zero] at s0 hput;have HF6:=Z9 hput;have c2:=(uh K5).cell (i:=2) (v:= .slice (some ⟨g2,0,none⟩) m.sm.length p2) rfl;have e1:=(uh ke).cell (i:=1) (v:= .int .i64 (i2:Int)) rfl;have hi3:(i2:Int)<(m.sm.length:Int):=by omega
    clear hput hc2 hz2 hwl;go_wp2_with fail;go_roundw
    case rel=>exact ⟨j+1,by omega,by go_num,by rw [uh Htk];exact uh HF6,(uh Tw5).trans (Two.of_set _ (.inl rfl) _ _)⟩
    case measure=>exact ms
   ·obtain rfl:j=t.length:=by omega
    rw [List.take_length] at HF5;go_wp2_with fail
    go_end0
    exact ⟨rfl,by rw [uh Hcons];exact uh HF5,(uh Tw4).trans (uh Tw5)⟩
theorem LZ (w:World) (v0 v1 v2 v3 v4:Value) (m:Z6) (h:Smy w v0 v1 v2 v3 v4 m) :
  Calls Tryz.prog 95 #[.agg #[v0,v1,v2,v3,v4,.int .i64 m.now]] w fun e w'=> ∃ u0 u1 u2 u3 u4 rs,e= .returned (.agg #[u0,u1,u2,u3,u4,.int .i64 (YX m).now])/\FullSmy w.heap.size w' u0 u1 u2 u3 u4 (YX m) rs/\Below w.heap.size w w':=by
 obtain ⟨M,hM⟩:∃ x,YX m=x:=⟨_,rfl⟩
 rw [hM];have HM:=Z9 hM;clear hM;have Hv0:=Z9 h;obtain ⟨a0,p0,a1,p1,a2,p2,a3,p3,a4,p4,rfl,rfl,rfl,rfl,rfl,_,_,_,_,_,_,_,_,_,_⟩:=h.five;clear h;obtain ⟨ok,hok⟩:∃ q,Yv m=q:=⟨_,rfl⟩
 have Hok:=Z9 hok;have Hok2:Hid (VU m=ok):=Z9 (by rw [Qd];exact hok);clear hok;go_enter Tryz.func95,Tryz.ntmps95;go_wp2_with fail;obtain ⟨W,hW,kb,kr,BB⟩:=YG w 32 (S6 a0 p0 a1 p1 a2 p2 a3 p3 a4 p4 m) 32 E6;have Hv:=Z9 ((uh Hv0).below (uh BB));rw [hW];clear hW;refine (Rb (uh Hv)).mono ?_;rw [uh Hok2];rintro e w1 ⟨rfl,hb⟩;replace Hv:=Z9 ((uh Hv).below hb);replace kb:=bl kb hb;replace kr:=bl kr hb;replace BB:=bt BB hb;clear hb;cases ok
 ·
  obtain rfl:M=Yj:=by rw [<-uh HM];unfold YX;rw [uh Hok];rfl
  obtain ⟨o0,o1,o2,o3,o4,o5⟩:=(uh kr).c6;obtain ⟨f0,f1,f2,f3,f4,f5⟩:=(uh kr).f6;go_wp2_with fail;refine ZS (v:= .agg E6) (by simp [results,Tryz.results95,go_sem, *]) rfl ⟨_,_,_,_,_,[],rfl,Yr _ _,?_⟩
  iterate 6 (refine YS ?_ (by show _<=w.heap.size+1;omega) _)
  exact uh BB
 obtain rfl:M=ZN m:=by rw [<-uh HM];unfold YX;rw [uh Hok];rfl
 have hlo:=Pz (uh Hok);have HLo:=Z9 hlo;have HFew:=Z9 (WK hlo);clear hlo;obtain ⟨c0,c1,c2,c3,c4,c5⟩:=(uh kb).c6;go_wp2_with fail;clear c0 c1 c2 c3 c4 c5;have hWs:w.heap.size+2<=w1.heap.size:=by have:=(uh kr).lt;omega
 refine (Vm (uh Hv) (uh HFew)).mono ?_;rintro e w2 ⟨y0,y1,y2,y3,y4,oq,rfl,ho,hb⟩;have k9:=ho.smy;obtain ⟨b0,q0,b1,q1,b2,q2,b3,q3,b4,q4,rfl,rfl,rfl,rfl,rfl,_,_,_,_,_,_,_,_,_,_⟩:=k9.five;replace Hv:=Z9 ((uh Hv).below hb);replace kb:=bl kb hb;replace kr:=bl kr hb;replace BB:=bt BB hb;have HO:=Z9 (ho.mono hWs);have LO:Hid (∀ k,Wg (.slice b0 m.rm.length q0) (.slice b1 m.gd.length q1) (.slice b2 m.sm.length q2) (.slice b3 m.dk.length q3) (.slice b4 m.pc.length q4) oq k->w.heap.size+2<=k/\k<w2.heap.size):=Z9 (fun k e=>(uh HO).own e);have hsz9:=hb.size;clear ho hb k9;go_upto_region 4 with fail;obtain ⟨W2,hW2,hb,ko⟩:=YF w2 32 (S6 b0 q0 b1 q1 b2 q2 b3 q3 b4 q4 m);replace Hv:=Z9 ((uh Hv).below hb);replace kb:=bl kb hb;replace kr:=bl kr hb;replace BB:=bt BB hb;replace HO:=Z9 ((uh HO).below hb);have hob:w.heap.size+2<=w2.heap.size:=XH hWs hsz9;clear hb hsz9 hWs;rw [hW2];clear hW2;generalize w2.heap.size=ob at *;have x3:=(uh ko).cell (i:=3) (v:= .slice b3 m.dk.length q3) rfl;go_wp2_with fail;clear x3
 go_loopw [4,14] (fun u i wr=> ∃ k:Nat,k<=m.dk.length/\i= .int .i64 k/\FullSmy (w.heap.size+2) wr (.slice b0 m.rm.length q0) (.slice b1 m.gd.length q1) (.slice b2 m.sm.length q2) (.slice b3 m.dk.length q3) (.slice b4 m.pc.length q4) (Zj m k) oq/\Two (Value.slice b2 m.sm.length q2).ownBlock (Value.slice b3 m.dk.length q3).ownBlock W2 wr) (fun _ i _=>m.dk.length-(intOf i).toNat)
 case atStart=>exact ⟨0,ZA _,rfl,uh HO,Two.refl _ _ _⟩
 case round=>
  obtain ⟨k,hk,rfl,hf1,htw⟩:=hrel;have H2:(Value.slice b2 m.sm.length q2).ownBlock ≠ some ob:=fun e=>by have:=(uh LO _ (.inr (.inr (.inr (.inl e))))).2;omega
  have H3:(Value.slice b3 m.dk.length q3).ownBlock ≠ some ob:=fun e=>by have:=(uh LO _ (.inr (.inr (.inr (.inr (.inl e)))))).2;omega
  have ko1:=Z9 ((uh ko).two htw H2 H3);have HF1:=Z9 hf1;have Tw:=Z9 htw;clear hf1 htw H2 H3;have hnow:(Zj m k).now=m.now:=(ZG m k).2.2.2.1;have hdl:(Zj m k).dk.length=m.dk.length:=(ZG m k).2.2.2.2.2;by_cases hlt:k<m.dk.length
  ·have hlt1:(k:Int)<(m.dk.length:Int):=by omega
   have hc:=DR (b:=k) (uh HF1) (Ix (uh HLo) k hk) (by omega);rw [hnow] at hc;have Hc:=Z9 hc;clear hc hnow hdl;obtain ⟨x0,x1,x2,x3,x4,x5⟩:=(uh ko1).c6;go_wp2_with fail;clear x0 x1 x2 x3 x4 x5;refine (uh Hc).mono ?_;rintro e w5 ⟨rfl,hf5,ht5⟩;have HF5:=Z9 hf5;have T5:=Z9 ((uh Tw).trans ht5);clear hf5 ht5;go_wp2_with fail;go_roundw
   case rel=>exact ⟨k+1,by omega,by go_num,uh HF5,uh T5⟩
   case measure=>exact ms
  ·
   obtain rfl:k=m.dk.length:=by omega
   replace kr:=Z9 ((uh kr).two (uh Tw) (fun e=>by have:=(uh LO _ (.inr (.inr (.inr (.inl e))))).1;omega) (fun e=>by have:=(uh LO _ (.inr (.inr (.inr (.inr (.inl e)))))).1;omega));replace BB:=Z9 ((uh BB).trans ((uh Tw).below (uh BB).size (fun k e=>by have:=(uh LO k (.inr (.inr (.inr (.inl e))))).1;omega) (fun k e=>by have:=(uh LO k (.inr (.inr (.inr (.inr (.inl e)))))).1;omega)));obtain ⟨x0,x1,x2,x3,x4,x5⟩:=(uh ko1).c6;obtain ⟨o0,o1,o2,o3,o4,o5⟩:=(uh kr).c6;obtain ⟨f0,f1,f2,f3,f4,f5⟩:=(uh kr).f6;have Hnow:Hid ((ZN m).now=m.now):=Z9 hnow;clear hnow hdl;go_wp2_with fail;refine ZS (v:= .agg (S6 b0 q0 b1 q1 b2 q2 b3 q3 b4 q4 m)) (by simp [results,Tryz.results95,go_sem, *]) rfl ⟨_,_,_,_,_,oq,by rw [uh Hnow],?_,?_⟩
   ·iterate 6 (refine FullSmy.set_off ?_ (fun k e=>by have:=(uh LO k e).1;omega) _ _)
    exact (uh HF1).mono (by omega)
   ·iterate 6 (refine YS ?_ (by show _<=w.heap.size+1;omega) _)
    exact uh BB
open Go.ChangeShapes Go.WideShapes Go.ChangeAt Go.RowKit Go.Sort Go.Shelf
set_option maxRecDepth 100000
theorem CH  {m X:Z6} {c:Int} {q:Int->Addr} {cb:Nat} (h:Smy w v0 v1 v2 v3 v4 m) (he:Errs w q) (H:∀ (w1 W:World) (R:Nat) (v0 v1 v2 v3 v4:Value) (rs:List (ZZ × Value)),Below w.heap.size w w1->ZI m=true->Nx w1 W R v0 v1 v2 v3 v4 m rs->Calls Tryz.prog 130 #[.pointer (some ⟨R,0,none⟩),.pointer (some ⟨cb,0,none⟩)] W fun e W'=>Chg w1 R q X c e W'):Calls Tryz.prog 43 #[.agg #[v0,v1,v2,v3,v4,.int .i64 m.now],.func (Fn.func 130) #[] #[.pointer (some ⟨cb,0,none⟩)]] w fun e w'=>Tr w q m X c e w':=by
 obtain ⟨ok,hok⟩:∃ x,ZI m=x:=⟨_,rfl⟩
 have Hok:=Z9 hok;clear hok;have HE:=Z9 he;have HH:=Z9 H;have Hlow:Hid (0<w.heap.size):=Z9 (World.block_lt_of_cell? _ _ he.c3);clear he H;obtain ⟨a0,p0,a1,p1,a2,p2,a3,p3,a4,p4,rfl,rfl,rfl,rfl,rfl,K⟩:=Bx.new h;clear h;replace K:=K.alloc (.cells E6 32)
 have kr:Hid (Blk ((w.alloc (.cells (S6 a0 p0 a1 p1 a2 p2 a3 p3 a4 p4 m) 32)).alloc (.cells E6 32)) (w.heap.size+1) 32 E6):=Z9 (by
  have k:=Blk.new (w.alloc (.cells (S6 a0 p0 a1 p1 a2 p2 a3 p3 a4 p4 m) 32)) 32 E6;rw [ZB] at k
  exact k)
 replace HE:=Z9 ((uh HE).below K.bb);go_enter Tryz.func43,Tryz.ntmps43;go_wp2_with fail;generalize ((w.alloc (.cells (S6 a0 p0 a1 p1 a2 p2 a3 p3 a4 p4 m) 32)).alloc (.cells E6 32))=W1 at *;refine ck (VI _ _ _ _ _ _ _ _ (uh Hok) K.smy) fun w1 hb=> ?_;replace K:=K.next hb;replace kr:=bl kr hb;replace HE:=Z9 ((uh HE).below hb);clear hb;cases ok
 ·
  have x1:=(uh HE).c3;obtain ⟨o0,o1,o2,o3,o4,o5⟩:=(uh kr).c6;obtain ⟨f0,f1,f2,f3,f4,f5⟩:=(uh kr).f6;go_wp2_with fail
  go_region
  all_goals (try go_wp2_with fail)
  all_goals (refine ZS (v:= .tuple #[.agg E6,YJ (q 3)]) (by simp [results,Tryz.results43,go_sem, *]) rfl ⟨?_,.inl ⟨uh Hok,rfl⟩⟩)
  all_goals (refine Below.drew ?_)
  all_goals (iterate 6 (refine YS ?_ (by show _<=w.heap.size+1;omega) _))
  all_goals (exact K.bb)
 have HFew:=Z9 (WK (ZK (uh Hok)));have Hbw:=K.bb;obtain ⟨c0,c1,c2,c3,c4,c5⟩:=K.cells;go_wp2_with fail;have hw1:w.heap.size+2<=w1.heap.size:=by have:=(uh kr).lt;omega
 refine (Vm K.smy (uh HFew)).mono ?_;rintro e w2 ⟨u0,u1,u2,u3,u4,rs,rfl,hf,hb⟩;clear c0 c1 c2 c3 c4 c5;obtain ⟨b0,r0,b1,r1,b2,r2,b3,r3,b4,r4,rfl,rfl,rfl,rfl,rfl⟩:=WN hf
 have N1:Nx w1 (w2.alloc (.cells (S6 b0 r0 b1 r1 b2 r2 b3 r3 b4 r4 m) 32)) w2.heap.size (.slice b0 m.rm.length r0) (.slice b1 m.gd.length r1) (.slice b2 m.sm.length r2) (.slice b3 m.dk.length r3) (.slice b4 m.pc.length r4) m rs:=by
  have hba:Below w2.heap.size w2 (w2.alloc (.cells (S6 b0 r0 b1 r1 b2 r2 b3 r3 b4 r4 m) 32)):=ba _ _;exact ⟨hf.below hba,Blk.new _ _ _,fun k e=>by have:=(hf.own e).2;omega,hb.trans (hba.mono hb.size),hb.size⟩
 have HN:=Z9 N1;clear N1 hf hb;go_upto_region 4 with fail;generalize w2.alloc (.cells (S6 b0 r0 b1 r1 b2 r2 b3 r3 b4 r4 m) 32)=W3 at *;generalize w2.heap.size=R at *;go_wp2_with fail;refine (uh HH _ _ _ _ _ _ _ _ _ (Hbw) (uh Hok) (uh HN)).mono ?_;rintro e w4 ⟨hb4,h9⟩;have hKs:=K.smy.below hb4;have hKb:=K.blk.below hb4 K.blk.lt;have hrb:=(uh kr).below hb4 (uh kr).lt;have hbb:=K.bb.trans (hb4.mono K.bb.size);have K4:Bx w w4 w.heap.size a0 p0 a1 p1 a2 p2 a3 p3 a4 p4 m:=⟨hKs,hKb,hbb⟩
 clear K;have K:=K4;replace kr:=Z9 hrb;clear K4 hKs hKb hrb hbb
 rcases h9 with ⟨hc0,rfl,v0,v1,v2,v3,v4,rs4,N4⟩ | ⟨hc0,rfl⟩
 ·
  obtain ⟨d0,s0,d1,s1,d2,s2,d3,s3,d4,s4,rfl,rfl,rfl,rfl,rfl⟩:=WN N4.full;have HN4:=Z9 N4;obtain ⟨c0,c1,c2,c3,c4,c5⟩:=N4.cells;clear N4 HN;go_wp2_with fail;refine (LZ _ _ _ _ _ _ _ (uh HN4).full.smy).mono ?_;rintro e w5 ⟨u0,u1,u2,u3,u4,rs5,rfl,hf,hb⟩;clear c0 c1 c2 c3 c4 c5;obtain ⟨e0,g0,e1,g1,e2,g2,e3,g3,e4,g4,rfl,rfl,rfl,rfl,rfl⟩:=WN hf;have hsz:w.heap.size+2<=w4.heap.size:=by have:=(uh kr).lt;omega
  have HF:=Z9 (hf.mono (n₁:=w.heap.size+2) hsz);replace K:=K.next hb;replace kr:=bl kr hb;clear hb hf;obtain ⟨o0,o1,o2,o3,o4,o5⟩:=(uh kr).c6;obtain ⟨f0,f1,f2,f3,f4,f5⟩:=(uh kr).f6;go_wp2_with fail;refine ZS (v:= .tuple #[.agg #[.slice e0 (YX X).rm.length g0,.slice e1 (YX X).gd.length g1,.slice e2 (YX X).sm.length g2,.slice e3 (YX X).dk.length g3,.slice e4 (YX X).pc.length g4,.int .i64 (YX X).now],.nilIface]) (by simp [results,Tryz.results43,go_sem, *]) rfl ⟨?_,.inr (.inl ⟨uh Hok,hc0,e0,g0,e1,g1,e2,g2,e3,g3,e4,g4,rs5,rfl,?_⟩)⟩
  ·iterate 6 (refine YS ?_ (by show _<=w.heap.size+1;omega) _)
   exact K.bb
  ·refine FullSmy.mono (n₀:=w.heap.size+2) ?_ (by omega)
   iterate 6 (refine FullSmy.set_off ?_ (fun k e=>by have:=((uh HF).own e).1;omega) _ _)
   exact uh HF
 ·
  clear HN;obtain ⟨c0,c1,c2,c3,c4,c5⟩:=K.cells;go_wp2_with fail;refine (Vm K.smy (uh HFew)).mono ?_;rintro e w5 ⟨u0,u1,u2,u3,u4,rs5,rfl,hf,hb⟩;clear c0 c1 c2 c3 c4 c5;obtain ⟨e0,g0,e1,g1,e2,g2,e3,g3,e4,g4,rfl,rfl,rfl,rfl,rfl⟩:=WN hf;have hsz:w.heap.size+2<=w4.heap.size:=by have:=(uh kr).lt;omega
  have hba:Below w5.heap.size w5 (w5.alloc (.cells #[.slice e0 m.rm.length g0,.slice e1 m.gd.length g1,.slice e2 m.sm.length g2,.slice e3 m.dk.length g3,.slice e4 m.pc.length g4,.int .i64 m.now,YJ (q c)] 100)):=ba _ _;have kp:Hid (Blk (w5.alloc (.cells #[.slice e0 m.rm.length g0,.slice e1 m.gd.length g1,.slice e2 m.sm.length g2,.slice e3 m.dk.length g3,.slice e4 m.pc.length g4,.int .i64 m.now,YJ (q c)] 100)) w5.heap.size 100 #[.slice e0 m.rm.length g0,.slice e1 m.gd.length g1,.slice e2 m.sm.length g2,.slice e3 m.dk.length g3,.slice e4 m.pc.length g4,.int .i64 m.now,YJ (q c)]):=Z9 (Blk.new _ _ _);have HF:=Z9 ((hf.mono (n₁:=w.heap.size+2) hsz).below hba);have h5:w.heap.size+2<=w5.heap.size:=XH hsz hb.size;replace K:=(K.next hb).next hba;replace kr:=bl (bl kr hb) hba;clear hb hf hba;obtain ⟨o0,o1,o2,o3,o4,o5⟩:=(uh kr).c6;obtain ⟨f0,f1,f2,f3,f4,f5⟩:=(uh kr).f6;go_wp2_with fail;refine ZS (v:= .tuple #[.agg E6,OT w5.heap.size]) (by simp [results,Tryz.results43,go_sem, *]) rfl ⟨?_,.inr (.inr ⟨uh Hok,hc0,w5.heap.size,e0,g0,e1,g1,e2,g2,e3,g3,e4,g4,rs5,rfl,?_,?_⟩)⟩
  ·iterate 6 (refine YS ?_ (by show _<=w.heap.size+1;omega) _)
   exact K.bb
  ·iterate 6 (refine Blk.other ?_ (by show w5.heap.size ≠ w.heap.size+1;omega) _)
   exact uh kp
  ·refine FullSmy.mono (n₀:=w.heap.size+2) ?_ (by omega)
   iterate 6 (refine FullSmy.set_off ?_ (fun k e=>by have:=((uh HF).own e).1;omega) _ _)
   exact uh HF
theorem TB  {ff:Nat} {cap:Array Value} {m X:Z6} {c:Int} {q:Int->Addr} (he:Errs w q) (h:Smy w v0 v1 v2 v3 v4 m) (H:∀ (cb:Nat) (w1 W:World) (R:Nat) (v0 v1 v2 v3 v4:Value) (rs:List (ZZ × Value)),Below w.heap.size w w1->w1.cell? ⟨cb,0,none⟩=some (.func (Fn.func ff) #[] cap)->ZI m=true->Nx w1 W R v0 v1 v2 v3 v4 m rs->Calls Tryz.prog 130 #[.pointer (some ⟨R,0,none⟩),.pointer (some ⟨cb,0,none⟩)] W fun e W'=>Chg w1 R q X c e W'):Calls Tryz.prog 67 #[.agg #[v0,v1,v2,v3,v4,.int .i64 m.now],.func (Fn.func ff) #[] cap] w fun e w'=>TX w.heap.size (Ua m X c).1 (Ua m X c).2 e w'/\Below w.heap.size w w':=by
 have HE:=Z9 he;have HH:=Z9 H;clear he H;obtain ⟨a0,p0,a1,p1,a2,p2,a3,p3,a4,p4,rfl,rfl,rfl,rfl,rfl,K⟩:=Bx.new h;clear h;replace K:=(K.alloc (.cells #[.func (Fn.func ff) #[] cap] 83)).alloc (.cells E6 32)
 have kr:Hid (Blk (((w.alloc (.cells (S6 a0 p0 a1 p1 a2 p2 a3 p3 a4 p4 m) 32)).alloc (.cells #[.func (Fn.func ff) #[] cap] 83)).alloc (.cells E6 32)) (w.heap.size+1+1) 32 E6):=Z9 (by
  have k:=Blk.new ((w.alloc (.cells (S6 a0 p0 a1 p1 a2 p2 a3 p3 a4 p4 m) 32)).alloc (.cells #[.func (Fn.func ff) #[] cap] 83)) 32 E6;rw [ZB,ZB] at k
  exact k)
 have kc:Hid (Blk (((w.alloc (.cells (S6 a0 p0 a1 p1 a2 p2 a3 p3 a4 p4 m) 32)).alloc (.cells #[.func (Fn.func ff) #[] cap] 83)).alloc (.cells E6 32)) (w.heap.size+1) 83 #[.func (Fn.func ff) #[] cap]):=Z9 (by
  have k:=Blk.new (w.alloc (.cells (S6 a0 p0 a1 p1 a2 p2 a3 p3 a4 p4 m) 32)) 83 #[.func (Fn.func ff) #[] cap];rw [ZB] at k
  exact k.alloc _)
 replace HE:=Z9 ((uh HE).below K.bb);have hsz:(((w.alloc (.cells (S6 a0 p0 a1 p1 a2 p2 a3 p3 a4 p4 m) 32)).alloc (.cells #[.func (Fn.func ff) #[] cap] 83)).alloc (.cells E6 32)).heap.size=w.heap.size+1+1+1:=by simp
 obtain ⟨X9,hX9⟩:∃ x,Ua m X c=x:=⟨_,rfl⟩
 rw [hX9];have HX9:=Z9 hX9;clear hX9;go_enter Tryz.func67,Tryz.ntmps67;go_upto_region 1 with fail;generalize (((w.alloc (.cells (S6 a0 p0 a1 p1 a2 p2 a3 p3 a4 p4 m) 32)).alloc (.cells #[.func (Fn.func ff) #[] cap] 83)).alloc (.cells E6 32))=W1 at *;obtain ⟨c0,c1,c2,c3,c4,c5⟩:=K.cells;go_wp2_with fail;refine (CH (X:=X) (c:=c) K.smy (uh HE) (fun w1 W R v0 v1 v2 v3 v4 rs h1 h2 h3=>uh HH _ w1 W R v0 v1 v2 v3 v4 rs (K.bb.trans (h1.mono K.bb.size)) (((uh kc).below h1 (uh kc).lt).cell (i:=0) rfl) h2 h3)).mono ?_;rintro e w2 ⟨hb,h9⟩;replace K:=K.next hb;replace kr:=bl kr hb;replace HE:=Z9 ((uh HE).below hb);clear c0 c1 c2 c3 c4 c5 kc
 rcases h9 with ⟨hm,rfl⟩ | ⟨hm,hc0,b0,r0,b1,r1,b2,r2,b3,r3,b4,r4,rs,rfl,hf⟩ | ⟨hm,hc0,p,b0,r0,b1,r1,b2,r2,b3,r3,b4,r4,rs,rfl,kp,hf⟩
 ·
  have hX0:=Z9 ((uh HX9).symm.trans (Pq hm _ _));clear hb;go_wp2_with fail;refine ck (CE (uh HE)) fun w3 hb=> ?_;replace K:=K.next hb;replace kr:=bl kr hb;clear hb;obtain ⟨o0,o1,o2,o3,o4,o5⟩:=(uh kr).c6;obtain ⟨f0,f1,f2,f3,f4,f5⟩:=(uh kr).f6;go_wp2_with fail;refine ZS (v:= .tuple #[.agg E6,.int .i64 3]) (by simp [results,Tryz.results67,go_sem, *]) rfl ⟨by rw [uh hX0];exact ⟨_,_,_,_,_,[],rfl,Yr _ _⟩,?_⟩
  iterate 6 (refine YS ?_ (by show _<=w.heap.size+1+1;omega) _)
  exact K.bb
 ·
  have hX0:Hid (X9=(YX X,0)):=Z9 (by rw [<-uh HX9,hc0];exact Rl hm _);have HF:=Z9 (hf.mono (n₁:=w.heap.size+1+1+1) (by omega));clear hf hb HX9;generalize YX X=Y at *;go_wp2_with fail;refine Bf.mono ?_;rintro e w3 ⟨rfl,hb⟩;replace K:=K.next hb;replace kr:=bl kr hb;replace HF:=Z9 ((uh HF).below hb);clear hb;obtain ⟨o0,o1,o2,o3,o4,o5⟩:=(uh kr).c6;obtain ⟨f0,f1,f2,f3,f4,f5⟩:=(uh kr).f6;go_wp2_with fail;refine ZS (v:= .tuple #[.agg (S6 b0 r0 b1 r1 b2 r2 b3 r3 b4 r4 Y),.int .i64 0]) (by simp [results,Tryz.results67,go_sem, *]) rfl ⟨?_,?_⟩
  ·rw [uh hX0]
   refine ⟨_,_,_,_,_,rs,rfl,?_⟩;refine FullSmy.mono (n₀:=w.heap.size+1+1+1) ?_ (by omega)
   iterate 6 (refine FullSmy.set_off ?_ (fun k e=>by have:=((uh HF).own e).1;omega) _ _)
   exact uh HF
  ·iterate 6 (refine YS ?_ (by show _<=w.heap.size+1+1;omega) _)
   exact K.bb
 ·
  have hcn:c ≠ 0:=by omega
  have hX0:=Z9 ((uh HX9).symm.trans (TL hm _ hcn));have HF:=Z9 (hf.mono (n₁:=w.heap.size+1+1+1) (by omega));have Hkp:=Z9 kp;clear hf hb kp hcn HX9;go_wp2_with fail;refine ck (CF (uh HE) hc0 (uh Hkp)) fun w3 hb=> ?_;replace K:=K.next hb;replace kr:=bl kr hb;replace HF:=Z9 ((uh HF).below hb);clear hb Hkp;obtain ⟨o0,o1,o2,o3,o4,o5⟩:=(uh kr).c6;obtain ⟨f0,f1,f2,f3,f4,f5⟩:=(uh kr).f6;go_wp2_with fail;refine ZS (v:= .tuple #[.agg (S6 b0 r0 b1 r1 b2 r2 b3 r3 b4 r4 m),.int .i64 c]) (by simp [results,Tryz.results67,go_sem, *]) rfl ⟨?_,?_⟩
  ·rw [uh hX0]
   refine ⟨_,_,_,_,_,rs,rfl,?_⟩;refine FullSmy.mono (n₀:=w.heap.size+1+1+1) ?_ (by omega)
   iterate 6 (refine FullSmy.set_off ?_ (fun k e=>by have:=((uh HF).own e).1;omega) _ _)
   exact uh HF
  ·iterate 6 (refine YS ?_ (by show _<=w.heap.size+1+1;omega) _)
   exact K.bb
theorem LW  {q:Int->Addr} (who rank:Int) (he:Errs w q) (h:Smy w v0 v1 v2 v3 v4 m):Calls Tryz.prog 21 #[.agg #[v0,v1,v2,v3,v4,.int .i64 m.now],.int .i64 who,.int .i64 rank] w fun e w'=>TX w.heap.size (XE m who rank).1 (XE m who rank).2 e w'/\Below w.heap.size w w':=by
 have HE:=Z9 he;clear he;obtain ⟨a0,p0,a1,p1,a2,p2,a3,p3,a4,p4,rfl,rfl,rfl,rfl,rfl,K⟩:=Bx.new h;clear h;replace K:=K.alloc (.cells #[.int .i64 who] 2);replace K:=K.alloc (.cells #[.int .i64 rank] 2);replace K:=K.alloc (.cells E6 32)
 have kc0:Hid (Blk ((((w.alloc (.cells (S6 a0 p0 a1 p1 a2 p2 a3 p3 a4 p4 m) 32)).alloc (.cells #[.int .i64 who] 2)).alloc (.cells #[.int .i64 rank] 2)).alloc (.cells E6 32)) (w.heap.size+1) 2 #[.int .i64 who]):=Z9 (by
  have k:=Blk.new (w.alloc (.cells (S6 a0 p0 a1 p1 a2 p2 a3 p3 a4 p4 m) 32)) 2 #[.int .i64 who];rw [ZB] at k
  exact (k.alloc _).alloc _)
 have kc1:Hid (Blk ((((w.alloc (.cells (S6 a0 p0 a1 p1 a2 p2 a3 p3 a4 p4 m) 32)).alloc (.cells #[.int .i64 who] 2)).alloc (.cells #[.int .i64 rank] 2)).alloc (.cells E6 32)) (w.heap.size+1+1) 2 #[.int .i64 rank]):=Z9 (by
  have k:=Blk.new ((w.alloc (.cells (S6 a0 p0 a1 p1 a2 p2 a3 p3 a4 p4 m) 32)).alloc (.cells #[.int .i64 who] 2)) 2 #[.int .i64 rank];rw [ZB,ZB] at k
  exact k.alloc _)
 have kr:Hid (Blk ((((w.alloc (.cells (S6 a0 p0 a1 p1 a2 p2 a3 p3 a4 p4 m) 32)).alloc (.cells #[.int .i64 who] 2)).alloc (.cells #[.int .i64 rank] 2)).alloc (.cells E6 32)) (w.heap.size+1+1+1) 32 E6):=Z9 (by
  have k:=Blk.new (((w.alloc (.cells (S6 a0 p0 a1 p1 a2 p2 a3 p3 a4 p4 m) 32)).alloc (.cells #[.int .i64 who] 2)).alloc (.cells #[.int .i64 rank] 2)) 32 E6;rw [ZB,ZB,ZB] at k
  exact k)
 replace HE:=Z9 ((uh HE).below K.bb);have hsz:((((w.alloc (.cells (S6 a0 p0 a1 p1 a2 p2 a3 p3 a4 p4 m) 32)).alloc (.cells #[.int .i64 who] 2)).alloc (.cells #[.int .i64 rank] 2)).alloc (.cells E6 32)).heap.size=(w.heap.size+1+1+1+1):=by simp
 obtain ⟨⟨M,cd⟩,hD⟩:∃ D,Ua m (R6 m who rank) (VY m who rank)=D:=⟨_,rfl⟩
 rw [zp,hD];have HD:=Z9 hD;clear hD;go_enter Tryz.func21,Tryz.ntmps21;go_upto_region 1 with fail;generalize ((((w.alloc (.cells (S6 a0 p0 a1 p1 a2 p2 a3 p3 a4 p4 m) 32)).alloc (.cells #[.int .i64 who] 2)).alloc (.cells #[.int .i64 rank] 2)).alloc (.cells E6 32))=W1 at *;obtain ⟨c0,c1,c2,c3,c4,c5⟩:=K.cells;go_wp2_with fail;refine (TB (X:=R6 m who rank) (c:=VY m who rank) (uh HE) K.smy (fun cb w1 W R v0 v1 v2 v3 v4 rs h0 h1 h2 h3=>Bv h3 ((uh HE).below h0) h2 ((h3.bb.cell (World.block_lt_of_cell? _ _ h1)).trans h1) (h3.bb.cell (World.block_lt_of_cell? _ _ (((uh kc0).below h0 (uh kc0).lt).cell (i:=0) (v:= .int .i64 who) rfl)) |>.trans (((uh kc0).below h0 (uh kc0).lt).cell (i:=0) rfl)) (h3.bb.cell (World.block_lt_of_cell? _ _ (((uh kc1).below h0 (uh kc1).lt).cell (i:=0) (v:= .int .i64 rank) rfl)) |>.trans (((uh kc1).below h0 (uh kc1).lt).cell (i:=0) rfl)))).mono ?_;rintro e w2 ⟨⟨u0,u1,u2,u3,u4,rs,he9,hf⟩,hb⟩;rw [uh HD] at he9 hf;simp only at he9 hf;subst he9;have HF:=Z9 hf;clear hf c0 c1 c2 c3 c4 c5;replace K:=K.next hb;replace kr:=bl kr hb;clear hb;obtain ⟨e0,g0,e1,g1,e2,g2,e3,g3,e4,g4,rfl,rfl,rfl,rfl,rfl⟩:=WN (uh HF);obtain ⟨o0,o1,o2,o3,o4,o5⟩:=(uh kr).c6;obtain ⟨f0,f1,f2,f3,f4,f5⟩:=(uh kr).f6;go_wp2_with fail;refine ZS (v:= .tuple #[.agg (S6 e0 g0 e1 g1 e2 g2 e3 g3 e4 g4 M),.int .i64 cd]) (by simp [results,Tryz.results21,go_sem, *]) rfl ⟨?_,?_⟩
 ·refine ⟨_,_,_,_,_,rs,rfl,?_⟩
  refine FullSmy.mono (n₀:=(w.heap.size+1+1+1+1)) ?_ (by omega)
  iterate 6 (refine FullSmy.set_off ?_ (fun k e=>by have:=((uh HF).own e).1;omega) _ _)
  exact (uh HF).mono (Nat.le_of_eq hsz.symm)
 ·iterate 6 (refine YS ?_ (by show _<=w.heap.size+1+1+1;omega) _)
  exact K.bb
theorem Ns  {q:Int->Addr} (who low high:Int) (he:Errs w q) (h:Smy w v0 v1 v2 v3 v4 m):Calls Tryz.prog 25 #[.agg #[v0,v1,v2,v3,v4,.int .i64 m.now],.int .i64 who,.int .i64 low,.int .i64 high] w fun e w'=>TX w.heap.size (XD m who low high).1 (XD m who low high).2 e w'/\Below w.heap.size w w':=by
 have HE:=Z9 he;clear he;obtain ⟨a0,p0,a1,p1,a2,p2,a3,p3,a4,p4,rfl,rfl,rfl,rfl,rfl,K⟩:=Bx.new h;clear h;replace K:=K.alloc (.cells #[.int .i64 who] 2);replace K:=K.alloc (.cells #[.int .i64 low] 2);replace K:=K.alloc (.cells #[.int .i64 high] 2);replace K:=K.alloc (.cells E6 32)
 have kc0:Hid (Blk (((((w.alloc (.cells (S6 a0 p0 a1 p1 a2 p2 a3 p3 a4 p4 m) 32)).alloc (.cells #[.int .i64 who] 2)).alloc (.cells #[.int .i64 low] 2)).alloc (.cells #[.int .i64 high] 2)).alloc (.cells E6 32)) (w.heap.size+1) 2 #[.int .i64 who]):=Z9 (by
  have k:=Blk.new (w.alloc (.cells (S6 a0 p0 a1 p1 a2 p2 a3 p3 a4 p4 m) 32)) 2 #[.int .i64 who];rw [ZB] at k
  exact ((k.alloc _).alloc _).alloc _)
 have kc1:Hid (Blk (((((w.alloc (.cells (S6 a0 p0 a1 p1 a2 p2 a3 p3 a4 p4 m) 32)).alloc (.cells #[.int .i64 who] 2)).alloc (.cells #[.int .i64 low] 2)).alloc (.cells #[.int .i64 high] 2)).alloc (.cells E6 32)) (w.heap.size+1+1) 2 #[.int .i64 low]):=Z9 (by
  have k:=Blk.new ((w.alloc (.cells (S6 a0 p0 a1 p1 a2 p2 a3 p3 a4 p4 m) 32)).alloc (.cells #[.int .i64 who] 2)) 2 #[.int .i64 low];rw [ZB,ZB] at k
  exact (k.alloc _).alloc _)
 have kc2:Hid (Blk (((((w.alloc (.cells (S6 a0 p0 a1 p1 a2 p2 a3 p3 a4 p4 m) 32)).alloc (.cells #[.int .i64 who] 2)).alloc (.cells #[.int .i64 low] 2)).alloc (.cells #[.int .i64 high] 2)).alloc (.cells E6 32)) (w.heap.size+1+1+1) 2 #[.int .i64 high]):=Z9 (by
  have k:=Blk.new (((w.alloc (.cells (S6 a0 p0 a1 p1 a2 p2 a3 p3 a4 p4 m) 32)).alloc (.cells #[.int .i64 who] 2)).alloc (.cells #[.int .i64 low] 2)) 2 #[.int .i64 high];rw [ZB,ZB,ZB] at k
  exact k.alloc _)
 have kr:Hid (Blk (((((w.alloc (.cells (S6 a0 p0 a1 p1 a2 p2 a3 p3 a4 p4 m) 32)).alloc (.cells #[.int .i64 who] 2)).alloc (.cells #[.int .i64 low] 2)).alloc (.cells #[.int .i64 high] 2)).alloc (.cells E6 32)) (w.heap.size+1+1+1+1) 32 E6):=Z9 (by
  have k:=Blk.new ((((w.alloc (.cells (S6 a0 p0 a1 p1 a2 p2 a3 p3 a4 p4 m) 32)).alloc (.cells #[.int .i64 who] 2)).alloc (.cells #[.int .i64 low] 2)).alloc (.cells #[.int .i64 high] 2)) 32 E6;rw [ZB,ZB,ZB,ZB] at k
  exact k)
 replace HE:=Z9 ((uh HE).below K.bb);have hsz:(((((w.alloc (.cells (S6 a0 p0 a1 p1 a2 p2 a3 p3 a4 p4 m) 32)).alloc (.cells #[.int .i64 who] 2)).alloc (.cells #[.int .i64 low] 2)).alloc (.cells #[.int .i64 high] 2)).alloc (.cells E6 32)).heap.size=(w.heap.size+1+1+1+1+1):=by simp
 obtain ⟨⟨M,cd⟩,hD⟩:∃ D,Ua m (Nz m who low high) (Ti m who low high)=D:=⟨_,rfl⟩
 rw [Ap,hD];have HD:=Z9 hD;clear hD;go_enter Tryz.func25,Tryz.ntmps25;go_upto_region 1 with fail;generalize (((((w.alloc (.cells (S6 a0 p0 a1 p1 a2 p2 a3 p3 a4 p4 m) 32)).alloc (.cells #[.int .i64 who] 2)).alloc (.cells #[.int .i64 low] 2)).alloc (.cells #[.int .i64 high] 2)).alloc (.cells E6 32))=W1 at *;obtain ⟨c0,c1,c2,c3,c4,c5⟩:=K.cells;go_wp2_with fail;refine (TB (X:=Nz m who low high) (c:=Ti m who low high) (uh HE) K.smy (fun cb w1 W R v0 v1 v2 v3 v4 rs h0 h1 h2 h3=>DN h3 ((uh HE).below h0) h2 ((h3.bb.cell (World.block_lt_of_cell? _ _ h1)).trans h1) (h3.bb.cell (World.block_lt_of_cell? _ _ (((uh kc0).below h0 (uh kc0).lt).cell (i:=0) (v:= .int .i64 who) rfl)) |>.trans (((uh kc0).below h0 (uh kc0).lt).cell (i:=0) rfl)) (h3.bb.cell (World.block_lt_of_cell? _ _ (((uh kc1).below h0 (uh kc1).lt).cell (i:=0) (v:= .int .i64 low) rfl)) |>.trans (((uh kc1).below h0 (uh kc1).lt).cell (i:=0) rfl)) (h3.bb.cell (World.block_lt_of_cell? _ _ (((uh kc2).below h0 (uh kc2).lt).cell (i:=0) (v:= .int .i64 high) rfl)) |>.trans (((uh kc2).below h0 (uh kc2).lt).cell (i:=0) rfl)))).mono ?_;rintro e w2 ⟨⟨u0,u1,u2,u3,u4,rs,he9,hf⟩,hb⟩;rw [uh HD] at he9 hf;simp only at he9 hf;subst he9;have HF:=Z9 hf;clear hf c0 c1 c2 c3 c4 c5;replace K:=K.next hb;replace kr:=bl kr hb;clear hb;obtain ⟨e0,g0,e1,g1,e2,g2,e3,g3,e4,g4,rfl,rfl,rfl,rfl,rfl⟩:=WN (uh HF);obtain ⟨o0,o1,o2,o3,o4,o5⟩:=(uh kr).c6;obtain ⟨f0,f1,f2,f3,f4,f5⟩:=(uh kr).f6;go_wp2_with fail;refine ZS (v:= .tuple #[.agg (S6 e0 g0 e1 g1 e2 g2 e3 g3 e4 g4 M),.int .i64 cd]) (by simp [results,Tryz.results25,go_sem, *]) rfl ⟨?_,?_⟩
 ·refine ⟨_,_,_,_,_,rs,rfl,?_⟩
  refine FullSmy.mono (n₀:=(w.heap.size+1+1+1+1+1)) ?_ (by omega)
  iterate 6 (refine FullSmy.set_off ?_ (fun k e=>by have:=((uh HF).own e).1;omega) _ _)
  exact (uh HF).mono (Nat.le_of_eq hsz.symm)
 ·iterate 6 (refine YS ?_ (by show _<=w.heap.size+1+1+1+1;omega) _)
  exact K.bb
theorem CJ {A B:Z6} (h1:B.rm=A.rm) (h2:B.gd=A.gd) (h3:B.dk=A.dk) (h4:B.pc=A.pc) (h5:B.now=A.now) (hl:B.sm.length=A.sm.length)
  (ha:∀ i,i<A.sm.length->Z8 B.sm i=Z8 A.sm i\/((Z8 B.sm i).2=(Z8 A.sm i).2/\ZL (Z8 B.sm i)=true/\ZL (Z8 A.sm i)=true/\0<=(Z8 A.sm i).2.1/\(Z8 A.sm i).2.1<(A.dk.length:Int))):ZN B=ZN A:=by
 have hal:Alike A.sm B.sm A.sm.length:=fun i hi=>by
  rcases ha i hi with e | ⟨e,p,p',_⟩
  ·rw [e];exact ⟨rfl,rfl,rfl⟩
  ·unfold Xq;rw [e,p,p'];exact ⟨rfl,rfl,rfl⟩
 have hat:∀ b:Int,atV B.sm b B.sm.length=atV A.sm b A.sm.length:=fun b=>by rw [hl];exact Ov b _ hal
 have hf:∀ b:Int,WW B.sm b=WW A.sm b:=fun b=>by unfold WW;rw [hat]
 obtain ⟨a1,a2,a3,a4,a5,a6⟩:=ZG A A.dk.length;obtain ⟨b1,b2,b3,b4,b5,b6⟩:=ZG B B.dk.length
 have hsm:(ZN B).sm=(ZN A).sm:=by
  refine PI ((b5.trans hl).trans a5.symm) fun i hi=> ?_;have hi':i<(Zj B B.dk.length).sm.length:=hi;have hiB:i<B.sm.length:=by omega
  have hiA:i<A.sm.length:=by omega
  show Z8 (Zj B B.dk.length).sm i=Z8 (Zj A A.dk.length).sm i;rw [XB B hiB,XB A hiA,hf,h3]
  rcases ha i hiA with e | ⟨e,p,p',q0,q1⟩
  ·rw [e]
  ·rw [p,p',e]
   have hc:(0<=(Z8 A.sm i).2.1/\(Z8 A.sm i).2.1<(A.dk.length:Int))/\true=true:=⟨⟨q0,q1⟩,rfl⟩
   rw [if_pos hc,if_pos hc];unfold stS;rw [e]
 have hds:(ZN B).dk=(ZN A).dk:=by
  refine PI ((b6.trans (by rw [h3])).trans a6.symm) fun j hj=> ?_;have hj':j<(Zj B B.dk.length).dk.length:=hj;show Z8 (Zj B B.dk.length).dk j=Z8 (Zj A A.dk.length).dk j;rw [V1 B j _ (Nat.le_refl _),V1 A j _ (Nat.le_refl _),h3];unfold WH;rw [hat]
 have key:∀ x y:Z6,x.rm=y.rm->x.gd=y.gd->x.sm=y.sm->x.dk=y.dk->x.pc=y.pc->x.now=y.now->x=y:=by
  rintro ⟨_,_,_,_,_,_⟩ ⟨_,_,_,_,_,_⟩ rfl rfl rfl rfl rfl rfl;rfl
 exact key _ _ ((b1.trans h1).trans a1.symm) ((b2.trans h2).trans a2.symm) hsm hds ((b3.trans h4).trans a3.symm) ((b4.trans h5).trans a4.symm)
def putW (m:Z6) (s:Z3) (b:Int):Z3:=Qk s b (Zq (Xq s) (Xy m s.2.1) (Xy m b))
def RF (m:Z6) (k:Nat) (may:Int):Bool:=ZL (Z8 m.sm k) && !WI may (Z8 m.sm k).2.1
def XU (m:Z6) (who may:Int):Int:=if WU m who then (if inB may 1 255 then (if RF m who.toNat may then (if YQ (Y3 m who.toNat may) who= -1 then 2 else 0) else 0) else 3) else 1
def VB (m:Z6) (who may:Int):Z6:=if RF m who.toNat may then setS (Y3 m who.toNat may) who.toNat (putW (Y3 m who.toNat may) (Wk (Z8 m.sm who.toNat) may) (YQ (Y3 m who.toNat may) who)) else Y3 m who.toNat may
theorem zD (m:Z6) (who may:Int):XW m who may=Ua m (VB m who may) (XU m who may):=by
 cases h:ZI m
 ·rw [Pq h];unfold XW;rw [h];rfl
 have hlo:=ZK h;unfold XW XU VB;rw [h];simp only [if_true];by_cases hw:WU m who=true;rotate_left
 ·rw [if_neg hw,if_neg hw,TL h _ (by omega)]
 rw [if_pos hw,if_pos hw];obtain ⟨k,rfl,hk,hs⟩:=Yl hw;rw [Zz];by_cases hm:inB may 1 255=true;rotate_left
 ·rw [if_neg hm,if_neg hm,TL h _ (by omega)]
 rw [if_pos hm,if_pos hm];obtain ⟨m0,m1⟩:=ZO hm;have hmg:RF m k may=(ZL (Z8 m.sm k) && !WI may (Z8 m.sm k).2.1):=rfl;rw [<-hmg];cases hg:RF m k may
 ·simp only [Bool.false_eq_true,if_false]
  have hl:Loose (Y3 m k may):=Gr hlo hk hs m0 m1 (by
   rw [hmg] at hg;cases h1:ZL (Z8 m.sm k)
   ·exact .inl rfl
   ·right
    cases h2:WI may (Z8 m.sm k).2.1
    ·rw [h1,h2] at hg;exact absurd hg (by decide)
    ·rfl)
  rw [Rl h,Ra hl]
 ·simp only [if_true]
  rw [hmg] at hg;simp only [ZM,Bool.not_eq_true'] at hg
  rcases VS (Y3 m k may) (k:Int) with ⟨e,_⟩ | ⟨b,hbl,e,hma⟩
  ·rw [e,if_pos (by omega),if_pos rfl,TL h _ (by omega)]
  ·rw [e,if_neg (by omega),if_neg (by omega),Rl h]
   obtain ⟨p,g1,b1⟩:=hlo.limits hk hs;obtain ⟨a0,a1,a2,a3,a4⟩:=hlo.at hk hg.1;unfold Yw at hma;simp only [ZM,Zz] at hma
   have hat:Z8 (Y3 m k may).sm k=Wk (Z8 m.sm k) may:=by
    show Z8 (m.sm.set k _) k=_;rw [ZJ hk,if_pos rfl]
   rw [hat] at hma;have hkp:=Pv (m:=m) hlo (s:=Wk (Z8 m.sm k) may) (b:=b) (QZ p m0 m1) hg.1 g1 a0 a1 a4 hbl hma.1 hma.2;have hP:Loose (setS m k (putS m (Wk (Z8 m.sm k) may) (b:Int))):=hlo.setS hk hkp.1 hkp.2;have hatP:∀ x:Z3,Z8 (setS m k x).sm k=x:=fun x=>by unfold setS;rw [ZJ hk,if_pos rfl]
   have hlP:∀ x:Z3,k<(setS m k x).sm.length:=fun x=>by unfold setS;simpa using hk
   have h9:=hP.at (hlP _) (by rw [hatP];exact hg.1);rw [hatP] at h9
   have hks:=Gs (m:=m) (s:=Wk (Z8 m.sm k) may) (b:=b) (had:=Zq (Xq (Wk (Z8 m.sm k) may)) (Xy m (Wk (Z8 m.sm k) may).2.1) (Xy m (b:Int))) hlo (QZ p m0 m1) g1 hbl hma.1 hma.2 (by
    have h8:=h9.2.2.2.2
    exact h8)
   have hS:Loose (setS m k (putW m (Wk (Z8 m.sm k) may) (b:Int))):=hlo.setS hk hks.1 hks.2;have e1:setS (Y3 m k may) k (putW (Y3 m k may) (Wk (Z8 m.sm k) may) (b:Int))=setS m k (putW m (Wk (Z8 m.sm k) may) (b:Int)):=by unfold Y3;rw [Q7];rfl
   have e2:setS (Y3 m k may) k (putS (Y3 m k may) (Wk (Z8 m.sm k) may) (b:Int))=setS m k (putS m (Wk (Z8 m.sm k) may) (b:Int)):=by unfold Y3;rw [Q7];rfl
   rw [e1,e2,Ra hS];refine congrArg (fun x=>(x,(0:Int))) (CJ (A:=setS m k (putS m (Wk (Z8 m.sm k) may) (b:Int))) (B:=setS m k (putW m (Wk (Z8 m.sm k) may) (b:Int))) rfl rfl rfl rfl rfl (by unfold setS;simp) (fun i hi=> ?_)).symm;by_cases hik:i=k
   ·right
    subst hik;rw [hatP,hatP];refine ⟨rfl,rfl,hg.1,?_,?_⟩
    ·show (0:Int)<=(b:Int);omega
    ·exact Int.ofNat_lt.2 hbl
   ·left
    unfold setS;simp only;rw [ZJ hk,ZJ hk,if_neg hik,if_neg hik]
def S8 (x:Ym):List Value:=[.iface 273 (.agg #[.int .i64 x.1,.int .i64 x.2.1,.int .i64 x.2.2])]
theorem Wh (x:Ym):(S8 x).length=1:=rfl
abbrev Yp (n₀:Nat) (w:World) (v:Value) (xs:List Ym):Prop:=RecAt 227 1 S8 n₀ w v xs
theorem JN:(Tryz.prog.info? 227).map (fun i=>(i.zero,i.size,i.bytes))=some (some .nilIface,1,16):=by kernel_rfl
theorem Sl {g:Nat} {xs:List Ym} (h:∀ j,j<xs.length-> ∀ i u,(S8 (Z8 xs j))[i]?=some u->w.cell? ⟨g,j*1+i,none⟩=some u) {j:Nat} (hj:j<xs.length):w.cell? ⟨g,j,none⟩=some (.iface 273 (.agg #[.int .i64 (Z8 xs j).1,.int .i64 (Z8 xs j).2.1,.int .i64 (Z8 xs j).2.2])):=by
 have:=h j hj 0 _ rfl;simpa using this
theorem OY {base t ty:Nat} (ht:Tryz.prog.underlying t=some (.slice 227)) {v x:Value} {ps qs:List Ym} (hown:Yp base w v ps) (hx:IsRec 1 S8 w x qs) (hb:ps.length+qs.length<=4000) (hbase:base<=w.heap.size) :
  ∃ v' w',(Builtin.append_ #[t,t] ty #[v,x]).run Tryz.prog w= .ok v' w'/\Yp base w' v' (ps++qs)/\w.grownBy w' v.ownBlock/\(v'.ownBlock=v.ownBlock\/v'.ownBlock=some w.heap.size):=by
 obtain ⟨i0,hi,hz0,hz1,hz2⟩:=PF JN;obtain ⟨a,c,rfl,hc,hm,hr⟩:=hx;by_cases h0:qs=[]
 ·subst h0
  refine ⟨v,w,R8 ht hi hown a c,by simpa using hown,Ss _ _,.inl rfl⟩
 ·rcases hr with hr | ⟨b,off,rfl,hlt,hcl⟩
  ·exact absurd hr h0
  ·obtain ⟨v',w',hr,h2,h3,_,h5⟩:=run_append_own_at (P:=Tryz.prog) w base t ty 227 i0 .nilIface 1 16 ht hi hz0 hz1 hz2 rfl (by omega) v ps.length _ hown ⟨b,off,none⟩ qs.length c (UK S8 qs) (V9 Wh qs)
    (Kc Wh (by omega) hcl) (F5 (fun x u hu=>by rcases List.mem_singleton.1 hu with rfl;rfl) qs) (by simp only [maxLen];omega) (by omega) hbase
   refine ⟨v',w',hr,?_,h3,h5⟩;unfold Yp RecAt;rw [NT,List.length_append];exact h2
theorem UW {ops:Array Oper} {rest:List Oper} {o:Oper} {a:Act} {Q:Exit->Act->World->Prop} (hgd:o.guard=none) (s x:Operand) (t:TypeId) (ht:Tryz.prog.underlying t=some (.slice 227))
  (ho:o.op= .call { callee:= .builtin .append,args:=#[s,x],argTypes:=#[t,t] }) (base:Nat) (v u:Value) (ps qs:List Ym) (hs:a.eval s=v) (hx:a.eval x=u) (hown:Yp base w v ps) (hr:IsRec 1 S8 w u qs)
  (hb:ps.length+qs.length<=4000) (hbase:base<=w.heap.size)
  (h:∀ v' w',Yp base w' v' (ps++qs)->w.grownBy w' v.ownBlock->(v'.ownBlock=v.ownBlock\/v'.ownBlock=some w.heap.size)->wpList Tryz.prog ops Q rest (a.put o.dst v') w') :
  wpList Tryz.prog ops Q (o::rest) a w:=by
 refine wpList_plain hgd fun K hK=> ?_;obtain ⟨v',w',hrun,h2,h3,h5⟩:=OY (ty:=o.type) ht hown hr hb hbase;unfold Oper.wp execOp;simp only [ho,resolve,invoke,builtin,Sem.run_bind,Sem.run_pure,Result.andThen_ok,List.map_toArray,List.map_cons,List.map_nil,hs,hx,hrun];exact hK _ _ (h v' w' h2 h3 h5)
set_option maxRecDepth 100000
theorem Qp  {b q:Int} (hq:Zc m b (-1)=q) (h:Smy w v0 v1 v2 v3 v4 m) (hW:Wants m) (hl:m.sm.length<=12):Calls Tryz.prog 292 #[.agg #[v0,v1,v2,v3,v4,.int .i64 m.now],.int .i64 b] w fun e w'=>e= .returned (.int .i64 q)/\Below w.heap.size w w':=by
 have Hq:=Z9 hq;clear hq;have HW:=Z9 hW;clear hW;obtain ⟨a0,p0,a1,p1,a2,p2,a3,p3,a4,p4,rfl,rfl,rfl,rfl,rfl,K⟩:=Bx.new h;clear h;go_enter Tryz.func292,Tryz.ntmps292;go_upto_region 2 with fail;generalize w.alloc (.cells (S6 a0 p0 a1 p1 a2 p2 a3 p3 a4 p4 m) 32)=W at *;obtain ⟨c0,c1,c2,c3,c4,c5⟩:=K.cells;go_wp2_with fail;refine (RX b K.smy (by omega)).mono ?_;rintro e w1 ⟨vn,rfl,hn,hb⟩;obtain ⟨na,nc,rfl⟩:=RecAt.shape hn;have HN:=Z9 hn;replace K:=K.next hb;clear hb hn c0 c1 c2 c3 c4 c5;have Hwh:=Z9 (fun k hk=>IG (m:=m) (b:=b) (k:=k) hk);have Hat:=Z9 (fun x hx=>(WC (atB b) m.sm x m.sm.length).1 hx);have hwl:=VZ (atB b) m.sm m.sm.length;rw [<-Fo] at Hq;generalize ZQ (atB b) m.sm m.sm.length=ws at *;go_wp2_with fail
 go_loopw [5,12] (fun u i wr=> ∃ k:Nat,k<=ws.length/\i= .int .i64 k/\u= .int .i64 (U2 m (ws.take k))/\Bx w wr w.heap.size a0 p0 a1 p1 a2 p2 a3 p3 a4 p4 m/\Below w1.heap.size w1 wr) (fun _ i _=>ws.length-(intOf i).toNat)
 case atStart=>exact ⟨0,ZA _,rfl,rfl,K,Z1 _ _⟩
 case round=>
  obtain ⟨k,hk,rfl,rfl,hK,hb0⟩:=hrel;clear K;have K:=hK;have BB:=Z9 hb0;clear hK hb0;have hub:=DD m (ws.take k);have htl:(ws.take k).length<=ws.length:=by simp;omega
  by_cases hlt:k<ws.length
  ·have hlt1:(k:Int)<(ws.length:Int):=by omega
   obtain ⟨g,hga,_,hgl,hcl,_⟩:=RecAt.view YH (by omega) (uh HN) rfl (by omega);cases hga;have z0:=hcl k hlt 0 _ rfl;simp only [Nat.mul_one,Nat.add_zero] at z0;have hgw:g<w1.heap.size:=hgl;rw [<-(uh BB).cell (p:=⟨g,k,none⟩) hgw] at z0;obtain ⟨i,hi,hiw⟩:=uh Hwh k hlt;obtain ⟨_,_,hi2,hat⟩:=uh Hat _ (Vu hlt)
   have hpi:(Z8 m.sm i).1 ≠ 0:=by
    rw [hiw] at hi2;obtain rfl:=Int.ofNat.inj hi2;intro e;unfold atB at hat;rw [e] at hat;simp at hat
   clear hcl hi2 hat;have HS:Hid (U2 m (ws.take (k+1))=U2 m (ws.take k)+Zs m (i:Int)):=Z9 (by rw [CB m hlt,hiw]);rw [hiw] at z0;have hwb:=PZ m (i:Int);have HC:=Z9 (fun (X:World) (hX:Smy X (.slice a0 m.rm.length p0) (.slice a1 m.gd.length p1) (.slice a2 m.sm.length p2) (.slice a3 m.dk.length p3) (.slice a4 m.pc.length p4) m)=>IE hX (uh HW) hi hpi);generalize U2 m (ws.take k)=us at *;generalize Zs m (i:Int)=wa at *;have hgr:g<wr.heap.size:=Zf hgw (uh BB).size;obtain ⟨c0,c1,c2,c3,c4,c5⟩:=K.cells;go_wp2_with fail;refine ck (uh HC _ K.smy) fun w2 hb=> ?_;replace K:=K.next hb;replace BB:=bt BB hb;clear hb c0 c1 c2 c3 c4 c5 z0;have hlen12:(ws.length:Int)<=12:=by omega
   go_wp2_with fail;go_roundw
   case rel=>exact ⟨k+1,by omega,by go_num,by rw [uh HS],K,uh BB⟩
   case measure=>exact ms
  ·obtain rfl:k=ws.length:=by omega
   rw [List.take_length] at *;obtain rfl:q=U2 m ws:=(uh Hq).symm;go_wp2_with fail;go_ret;exact ⟨rfl,K.bb⟩
theorem NW  {b:Int} {q:Bool} (hq:Ur m b=q) (h:Smy w v0 v1 v2 v3 v4 m):Calls Tryz.prog 291 #[.agg #[v0,v1,v2,v3,v4,.int .i64 m.now],.int .i64 b] w fun e w'=>e= .returned (.bool q)/\Below w.heap.size w w':=by
 have Hq:=Z9 hq;clear hq;obtain ⟨a0,p0,a1,p1,a2,p2,a3,p3,a4,p4,rfl,rfl,rfl,rfl,rfl,K⟩:=Bx.new h;clear h;go_enter Tryz.func291,Tryz.ntmps291;go_wp2_with fail;generalize w.alloc (.cells (S6 a0 p0 a1 p1 a2 p2 a3 p3 a4 p4 m) 32)=W at *;refine ck (NP _ _ _ _ _ _ _ _ _ _ _ _ _ _ _ _ _) fun w2 hb=> ?_;replace K:=K.next hb;clear hb;obtain ⟨qh,hqh⟩:∃ q,WX m.dk.length b=q:=⟨_,rfl⟩
 have Hh:=Z9 hqh;clear hqh;go_wp2_with fail;refine (Rr _ _ _ b _).mono ?_;rw [uh Hh];rintro e w3 ⟨rfl,h9⟩;subst w3;cases qh
 ·obtain rfl:q=false:=by rw [<-uh Hq];unfold Ur;rw [uh Hh];rfl
  go_wp2_with fail;go_ret;exact ⟨rfl,K.bb⟩
 have hbb:0<=b/\b<(m.dk.length:Int):=by have:=uh Hh;unfold WX at this;simpa using this
 obtain ⟨k,rfl⟩:∃ k:Nat,b=k:=⟨b.toNat,by omega⟩
 have hk:k<m.dk.length:=by omega
 have hk1:(k:Int)<(m.dk.length:Int):=by omega
 obtain ⟨_,_,hde,_,_,r3⟩:=K.smy.dk;cases hde
 rcases r3 with e0 | ⟨db,off,rfl,hbw,hcl⟩
 ·rw [e0] at hk;simp at hk
 obtain ⟨d0,d1,d2⟩:=Y4 hcl hk;have hq2:(Z8 m.dk k).1=q:=by rw [<-uh Hq];unfold Ur;rw [uh Hh,Zz];rfl
 clear hcl Hq;generalize Z8 m.dk k=dd at *;obtain ⟨op,wo,mk⟩:=dd;simp only at d0 d1 d2 hq2;subst hq2;obtain ⟨c0,c1,c2,c3,c4,c5⟩:=K.cells;go_wp2_with fail;refine ck (P9 op wo mk _) fun w4 hb=> ?_;replace K:=K.next hb;clear hb c0 c1 c2 c3 c4 c5 d0 d1 d2;go_wp2_with fail;go_ret;exact ⟨rfl,K.bb⟩
theorem D5 (f c need:Int) (w:World) (f0:1<=f) (f1:f<=1024) (n0:0<=need) (n1:need<=1000000) :
  Calls Tryz.prog 315 #[.int .i64 f,.int .i64 need] w fun e w'=>e= .returned (.bool (UJ need (f,c)))/\Below w.heap.size w w':=
 (Sw f need w (by omega) (by omega) n0 (by omega)).mono fun _ _ ⟨he,hw⟩=>⟨he,hw ▸ Z1 _ _⟩
theorem In  {ps:List Z4} (b need:Int) (h:IsPaces w v ps) (hr:Ze (b,ps)=true) (hn:inB need 0 1000000=true) :
  Calls Tryz.prog 311 #[v,.int .i64 need] w fun e w'=>e= .returned (.int .i64 (Qz need ps))/\Below w.heap.size w w':=by
 obtain ⟨a,cap,rfl,hc,hm,hrow⟩:=h;have hbd:=PK hr;simp only at hbd;obtain ⟨_,_,hl1,hl4⟩:=hbd;obtain ⟨n0,n1⟩:=ZO hn
 rcases hrow with h0 | ⟨bk,off,rfl,hbw,hcl⟩
 ·rw [h0] at hl1;simp at hl1
 have Hcl:=Z9 hcl;have Hr:=Z9 hr;clear hcl hr hn;go_enter Tryz.func311,Tryz.ntmps311;go_wp2_with fail
 go_step3
 go_wp2_with fail
 go_step3
 go_wp2_with fail
 go_loopw [5] (fun i wr=> ∃ k:Nat,k+1<=ps.length/\i= .int .i64 k/\(∀ j,j<k->UJ need (Z7 ps j)=false)/\Below w.heap.size w wr) (fun i _=>ps.length-(intOf i).toNat)
 case atStart=>exact ⟨0,by omega,rfl,fun j hj=>by omega,Z1 _ _⟩
 case round=>
  obtain ⟨k,hk,rfl,hlo,hb⟩:=hrel;have Hlo:=Z9 hlo;have Hb:=Z9 hb;clear hlo;by_cases hlast:k+1=ps.length
  ·clear hb
   have he:(k:Int)=(ps.length:Int)-1:=by omega
   have Hp:=Z9 (RJ need ps k hk (uh Hlo) (.inl hlast));go_wp2_with fail
   (try rw [Exit.noGoto_ret])
   go_ret;exact ⟨ZC (by rw [uh Hp]),uh Hb⟩
  ·have hne:¬ (k:Int)=(ps.length:Int)-1:=by omega
   obtain ⟨c0,c1⟩:=uh Hcl k (by omega);rw [<-hb.cell (p:=⟨bk,off+k*2,none⟩) hbw] at c0;rw [<-hb.cell (p:=⟨bk,off+k*2+1,none⟩) hbw] at c1;have hpb:=OX (uh Hr) (k:=k) (show k<ps.length by omega);simp only at hpb;generalize hp:Z7 ps k=p at c0 c1 hpb;have Hp:=Z9 hp;clear hp hb;obtain ⟨f,c⟩:=p;simp only at c0 c1 hpb;obtain ⟨f0,f1,_,_⟩:=hpb;go_wp2_with fail;refine ck (D5 f c need _ f0 f1 n0 n1) fun w1 hb1=> ?_;have Hb1:=Z9 hb1;clear hb1;cases hen:UJ need (f,c)
   ·go_wp2_with fail
    go_roundw
    case rel=>exact ⟨k+1,by omega,by go_num,Yh (uh Hlo) (by rw [uh Hp];exact hen),(uh Hb).trans ((uh Hb1).mono (uh Hb).size)⟩
    case measure=>exact ms
   ·have Hq:=Z9 (RJ need ps k hk (uh Hlo) (.inr (by rw [uh Hp];exact hen)))
    go_wp2_with fail
    (try rw [Exit.noGoto_ret])
    go_ret;exact ⟨ZC (by rw [uh Hq]),(uh Hb).trans ((uh Hb1).mono (uh Hb).size)⟩
theorem Nt  {ps:List Z4} (b need:Int) (h:IsPaces w v ps) :
  Calls Tryz.prog 308 #[.agg #[.int .i64 b,v],.int .i64 need] w fun e w'=>e= .returned (.int .i64 (Xn (b,ps) need))/\Below w.heap.size w w':=by
 have Hv:=Z9 h;obtain ⟨a,cap,rfl,hc,hm,hrow⟩:=h;clear hrow;cases hr:Ze (b,ps)
 ·rw [Ob hr]
  go_enter Tryz.func308,Tryz.ntmps308;go_wp2_with fail;refine ck (YO b ((uh Hv).below ((ba _ _)))) fun w1 hb=> ?_;have B1:Hid (Below w.heap.size w w1):=Z9 (((ba _ _)).trans (hb.mono (by simp)));clear hb;go_wp2_with fail;go_ret;exact ⟨rfl,uh B1⟩
 cases hn:inB need 0 1000000
 ·rw [Oc hn]
  go_enter Tryz.func308,Tryz.ntmps308;go_wp2_with fail;refine ck (YO b ((uh Hv).below ((ba _ _)))) fun w1 hb=> ?_;have B1:Hid (Below w.heap.size w w1):=Z9 (((ba _ _)).trans (hb.mono (by simp)));clear hb;go_wp2_with (go_at_call 181;refine (Zy _ _ _ _).mono ?_;rintro e w' ⟨rfl,rfl⟩)
  go_ret;exact ⟨rfl,uh B1⟩
 ·rw [Mm hr hn]
  have Hr:=Z9 hr;go_enter Tryz.func308,Tryz.ntmps308;go_wp2_with fail;refine ck (YO b ((uh Hv).below ((ba _ _)))) fun w1 hb=> ?_;have x1:w1.cell? ⟨w.heap.size,1,none⟩=some (.slice a ps.length cap):=(hb.cell (p:=⟨w.heap.size,1,none⟩) (by simp)).trans (by simp);have B1:Hid (Below w.heap.size w w1):=Z9 (((ba _ _)).trans (hb.mono (by simp)));clear hb;go_wp2_with (go_at_call 181;refine (Zy _ _ _ _).mono ?_;rintro e w' ⟨rfl,rfl⟩)
  refine ck (In b need ((uh Hv).below (uh B1)) (uh Hr) hn) fun w2 hb2=> ?_;have Hb2:=Z9 hb2;clear hb2;go_wp2_with fail;go_ret;exact ⟨rfl,(uh B1).trans ((uh Hb2).mono (uh B1).size)⟩
theorem Un (x:Int) (w:World):Calls Tryz.prog 171 #[.int .i64 x] w fun e w'=>e= .returned (.bool (inB x 0 1000000))/\w'=w:=by
 go_enter Tryz.func171,Tryz.ntmps171;go_wp2_with (go_at_call 59;refine (ZT _ _ _ _).mono ?_;rintro e w' ⟨rfl,rfl⟩)
 go_ret;exact ⟨rfl,rfl⟩
theorem Se  {ps:List Z4} (b need:Int) (h:IsPaces w v ps) :
  Calls Tryz.prog 287 #[.agg #[.int .i64 b,v],.int .i64 need] w fun e w'=>e= .returned (.int .i64 (Xn (b,ps) need))/\Below w.heap.size w w':=by
 have Hv:=Z9 h;obtain ⟨a,cap,rfl,hc,hm,hrow⟩:=h;clear hrow;cases hr:Ze (b,ps)
 ·rw [Ob hr]
  go_enter Tryz.func287,Tryz.ntmps287;go_wp2_with fail;refine ck (YA b ((uh Hv).below ((ba _ _)))) fun w1 hb=> ?_;have B1:Hid (Below w.heap.size w w1):=Z9 (((ba _ _)).trans (hb.mono (by simp)));clear hb;go_wp2_with fail;go_ret;exact ⟨rfl,uh B1⟩
 cases hn:inB need 0 1000000
 ·rw [Oc hn]
  go_enter Tryz.func287,Tryz.ntmps287;go_wp2_with fail;refine ck (YA b ((uh Hv).below ((ba _ _)))) fun w1 hb=> ?_;have B1:Hid (Below w.heap.size w w1):=Z9 (((ba _ _)).trans (hb.mono (by simp)));clear hb;go_wp2_with (go_at_call 171;refine (Un _ _).mono ?_;rintro e w' ⟨rfl,rfl⟩)
  go_ret;exact ⟨rfl,uh B1⟩
 rw [Mm hr hn];have Hr:=Z9 hr;have hn':=hn;obtain ⟨n0,n1⟩:=ZO hn';clear hn';go_enter Tryz.func287,Tryz.ntmps287;go_wp2_with fail;refine ck (YA b ((uh Hv).below ((ba _ _)))) fun w1 hb=> ?_;have x1:w1.cell? ⟨w.heap.size,1,none⟩=some (.slice a ps.length cap):=(hb.cell (p:=⟨w.heap.size,1,none⟩) (by simp)).trans (by simp);have B1:Hid (Below w.heap.size w w1):=Z9 (((ba _ _)).trans (hb.mono (by simp)));clear hb;have hv1:=(uh Hv).below (uh B1);obtain ⟨a',cap',he,_,_,hrow⟩:=hv1;cases he;have hbd:=PK (uh Hr);simp only at hbd;obtain ⟨_,_,hl1,hl4⟩:=hbd
 rcases hrow with h0 | ⟨bk,off,rfl,hbw,hcl⟩
 ·rw [h0] at hl1;simp at hl1
 have Hcl:=Z9 hcl;clear hcl;go_wp2_with (go_at_call 171;refine (Un _ _).mono ?_;rintro e w' ⟨rfl,rfl⟩)
 clear hr hn
 go_loop [5] (fun i=> ∃ k:Nat,k+1<=ps.length/\i= .int .i64 k/\(∀ j,j<k->UJ need (Z7 ps j)=false)) (fun i=>ps.length-(intOf i).toNat)
 case atStart=>exact ⟨0,by omega,rfl,fun j hj=>by omega⟩
 case round=>
  obtain ⟨k,hk,rfl,hlo⟩:=hrel;have Hlo:=Z9 hlo;clear hlo;by_cases hlast:k+1=ps.length
  ·have Hp:=Z9 (RJ need ps k hk (uh Hlo) (.inl hlast))
   have hd:¬ (k:Int)+1<(ps.length:Int):=by omega
   go_wp2_with fail;go_ret;exact ⟨ZC (by rw [uh Hp]),uh B1⟩
  ·have hd:(k:Int)+1<(ps.length:Int):=by omega
   obtain ⟨c0,c1⟩:=uh Hcl k (by omega);have hpb:=OX (uh Hr) (k:=k) (show k<ps.length by omega);simp only at hpb;generalize hp:Z7 ps k=p at c0 c1 hpb;have Hp:=Z9 hp;clear hp;obtain ⟨f,c⟩:=p;simp only at c0 c1 hpb;obtain ⟨f0,f1,_,_⟩:=hpb;by_cases hen:4*f<5*need
   ·go_wp2_with fail
    go_round
    case rel=>exact ⟨k+1,by omega,by go_num,Yh (uh Hlo) (by rw [uh Hp];exact zV hen)⟩
    case measure=>exact ms
   ·have Hq:=Z9 (RJ need ps k hk (uh Hlo) (.inr (by rw [uh Hp];exact zW (by simp only;omega))))
    go_wp2_with fail;go_ret;exact ⟨ZC (by rw [uh Hq]),uh B1⟩
theorem Nn  {ps:List Z4} (b pace work:Int) (h:IsPaces w v ps) :
  Calls Tryz.prog 307 #[.agg #[.int .i64 b,v],.int .i64 pace,.int .i64 work] w fun e w'=>e= .returned (.int .i64 (Xi (b,ps) pace work))/\Below w.heap.size w w':=by
 have Hv:=Z9 h;obtain ⟨a,cap,rfl,hc,hm,hrow⟩:=h;clear hrow;have hl:(ps.length:Int)<=9223372036854775807:=by omega
 cases hr:Ze (b,ps)
 ·rw [Rh hr]
  go_enter Tryz.func307,Tryz.ntmps307;go_wp2_with fail;refine ck (YO b ((uh Hv).below ((ba _ _)))) fun w1 hb=> ?_;have B1:Hid (Below w.heap.size w w1):=Z9 (((ba _ _)).trans (hb.mono (by simp)));clear hb;go_wp2_with fail;go_ret;exact ⟨rfl,uh B1⟩
 by_cases hp0:pace<0
 ·rw [TK (Wv (by omega))]
  go_enter Tryz.func307,Tryz.ntmps307;go_wp2_with fail;refine ck (YO b ((uh Hv).below ((ba _ _)))) fun w1 hb=> ?_;have B1:Hid (Below w.heap.size w w1):=Z9 (((ba _ _)).trans (hb.mono (by simp)));clear hb;go_wp2_with fail;go_ret;exact ⟨rfl,uh B1⟩
 by_cases hp1:(ps.length:Int)<=pace
 ·rw [TK (Wv (by simp only;omega))]
  go_enter Tryz.func307,Tryz.ntmps307;go_wp2_with fail;refine ck (YO b ((uh Hv).below ((ba _ _)))) fun w1 hb=> ?_;have x1:w1.cell? ⟨w.heap.size,1,none⟩=some (.slice a ps.length cap):=(hb.cell (p:=⟨w.heap.size,1,none⟩) (by simp)).trans (by simp);have B1:Hid (Below w.heap.size w w1):=Z9 (((ba _ _)).trans (hb.mono (by simp)));clear hb;go_wp2_with fail;go_ret;exact ⟨rfl,uh B1⟩
 cases hn:inB work 0 1000000
 ·rw [Ri hn]
  go_enter Tryz.func307,Tryz.ntmps307;go_wp2_with fail;refine ck (YO b ((uh Hv).below ((ba _ _)))) fun w1 hb=> ?_;have x1:w1.cell? ⟨w.heap.size,1,none⟩=some (.slice a ps.length cap):=(hb.cell (p:=⟨w.heap.size,1,none⟩) (by simp)).trans (by simp);have B1:Hid (Below w.heap.size w w1):=Z9 (((ba _ _)).trans (hb.mono (by simp)));clear hb;go_wp2_with (go_at_call 181;refine (Zy _ _ _ _).mono ?_;rintro e w' ⟨rfl,rfl⟩)
  go_ret;exact ⟨rfl,uh B1⟩
 rw [P8 hr hn (Zn (by omega) (by simp only;omega))];obtain ⟨k,rfl⟩:=Int.eq_ofNat_of_zero_le (show 0<=pace by omega);have hk:k<ps.length:=by omega
 rw [Zz];simp only;generalize hpk:Z7 ps k=p;have Hpk:=Z9 hpk;clear hpk;obtain ⟨f,c⟩:=p;simp only;have Hn:=Z9 hn;go_enter Tryz.func307,Tryz.ntmps307;go_wp2_with fail;refine ck (YO b ((uh Hv).below ((ba _ _)))) fun w1 hb=> ?_;have x1:w1.cell? ⟨w.heap.size,1,none⟩=some (.slice a ps.length cap):=(hb.cell (p:=⟨w.heap.size,1,none⟩) (by simp)).trans (by simp);have B1:Hid (Below w.heap.size w w1):=Z9 (((ba _ _)).trans (hb.mono (by simp)));have hz1:w.heap.size+1<=w1.heap.size:=by have:=hb.size;simpa using this
 clear hb;have hv1:=(uh Hv).below (uh B1);obtain ⟨a',cap',he,_,_,hrow⟩:=hv1;cases he
 rcases hrow with h0 | ⟨bk,off,rfl,hbw,hcl⟩
 ·rw [h0] at hk;simp at hk
 obtain ⟨c0,c1⟩:=hcl k hk;clear hcl;rw [uh Hpk] at c0 c1;simp only at c0 c1;go_wp2_with (go_at_call 181;refine (Zy _ _ _ _).mono ?_;rintro e w' ⟨rfl,rfl⟩)
 refine ck (LU c work f _) fun w2 hb2=> ?_;have Hb2:=Z9 hb2;clear hb2;go_wp2_with fail;go_ret;exact ⟨rfl,(uh B1).trans (((Z1 _ _).alloc (uh B1).size _).trans ((uh Hb2).mono (by simp;omega)))⟩
theorem ND  {ps:List Z4} (b pace work:Int) (h:IsPaces w v ps) :
  Calls Tryz.prog 286 #[.agg #[.int .i64 b,v],.int .i64 pace,.int .i64 work] w fun e w'=>e= .returned (.int .i64 (Xi (b,ps) pace work))/\Below w.heap.size w w':=by
 have Hv:=Z9 h;obtain ⟨a,cap,rfl,hc,hm,hrow⟩:=h;clear hrow;have hl:(ps.length:Int)<=9223372036854775807:=by omega
 cases hr:Ze (b,ps)
 ·rw [Rh hr]
  go_enter Tryz.func286,Tryz.ntmps286;go_wp2_with fail;refine ck (YA b ((uh Hv).below ((ba _ _)))) fun w1 hb=> ?_;have B1:Hid (Below w.heap.size w w1):=Z9 (((ba _ _)).trans (hb.mono (by simp)));clear hb;go_wp2_with fail;go_ret;exact ⟨rfl,uh B1⟩
 cases hn:inB work 0 1000000
 ·rw [Ri hn]
  go_enter Tryz.func286,Tryz.ntmps286;go_wp2_with fail;refine ck (YA b ((uh Hv).below ((ba _ _)))) fun w1 hb=> ?_;have B1:Hid (Below w.heap.size w w1):=Z9 (((ba _ _)).trans (hb.mono (by simp)));clear hb;go_wp2_with (go_at_call 171;refine (Un _ _).mono ?_;rintro e w' ⟨rfl,rfl⟩)
  go_ret;exact ⟨rfl,uh B1⟩
 cases hp:inB pace 0 ((ps.length:Int)-1)
 ·rw [TK hp]
  go_enter Tryz.func286,Tryz.ntmps286;go_wp2_with fail;refine ck (YA b ((uh Hv).below ((ba _ _)))) fun w1 hb=> ?_;have x1:w1.cell? ⟨w.heap.size,1,none⟩=some (.slice a ps.length cap):=(hb.cell (p:=⟨w.heap.size,1,none⟩) (by simp)).trans (by simp);have B1:Hid (Below w.heap.size w w1):=Z9 (((ba _ _)).trans (hb.mono (by simp)));clear hb;go_wp2_with (first | (go_at_call 171;refine (Un _ _).mono ?_;rintro e w' ⟨rfl,rfl⟩) | (go_at_call 59;refine (ZT _ _ _ _).mono ?_;rintro e w' ⟨rfl,rfl⟩))
  go_ret;exact ⟨rfl,uh B1⟩
 rw [P8 hr hn hp];have hpp:=ZO hp;obtain ⟨hp0,hp1⟩:=hpp;obtain ⟨k,rfl⟩:=Int.eq_ofNat_of_zero_le hp0;have hk:k<ps.length:=by omega
 rw [Zz];simp only;generalize hpk:Z7 ps k=p;have Hpk:=Z9 hpk;clear hpk;obtain ⟨f,c⟩:=p;simp only;go_enter Tryz.func286,Tryz.ntmps286;go_wp2_with fail;refine ck (YA b ((uh Hv).below ((ba _ _)))) fun w1 hb=> ?_;have x1:w1.cell? ⟨w.heap.size,1,none⟩=some (.slice a ps.length cap):=(hb.cell (p:=⟨w.heap.size,1,none⟩) (by simp)).trans (by simp);have B1:Hid (Below w.heap.size w w1):=Z9 (((ba _ _)).trans (hb.mono (by simp)));clear hb;have hv1:=(uh Hv).below (uh B1);obtain ⟨a',cap',he,_,_,hrow⟩:=hv1;cases he
 rcases hrow with h0 | ⟨bk,off,rfl,hbw,hcl⟩
 ·rw [h0] at hk;simp at hk
 obtain ⟨c0,c1⟩:=hcl k hk;clear hcl;rw [uh Hpk] at c0 c1;simp only at c0 c1;go_wp2_with (first | (go_at_call 171;refine (Un _ _).mono ?_;rintro e w' ⟨rfl,rfl⟩) | (go_at_call 59;refine (ZT _ _ _ _).mono ?_;rintro e w' ⟨rfl,rfl⟩))
 go_quiet (exact Yg (ML _ _ _ _));go_wp2_with fail;go_ret;exact ⟨rfl,Xc (uh B1) _⟩
theorem Pt  {ps:List Z4} (b need work:Int) (h:IsPaces w v ps) :
  Calls Tryz.prog 295 #[.agg #[.int .i64 b,v],.int .i64 need,.int .i64 work] w fun e w'=>e= .returned (.int .i64 (OJ (b,ps) need work))/\Below w.heap.size w w':=by
 have Hv:=Z9 h;obtain ⟨a,cap,rfl,hc,hm,hrow⟩:=h;clear hrow;have k0:=ZW (w:=w.alloc (.cells #[.int .i64 b,.slice a ps.length cap] 112)) (a:=⟨w.heap.size,0,none⟩) (v:= .int .i64 b) (by simp);have k1:=ZW (w:=w.alloc (.cells #[.int .i64 b,.slice a ps.length cap] 112)) (a:=⟨w.heap.size,1,none⟩) (v:= .slice a ps.length cap) (by simp);have Ha:Hid (IsPaces (w.alloc (.cells #[.int .i64 b,.slice a ps.length cap] 112)) (.slice a ps.length cap) ps):=Z9 ((uh Hv).below ((ba _ _)));go_enter Tryz.func295,Tryz.ntmps295;go_wp2_with fail;refine wq ?_
 repeat (go_big_quiet_step (first | exact ZY (Nt b need ((uh Ha).below (Z0 _ _ _))) | exact ZY (Nn b _ work ((uh Ha).below (Z0 _ _ _)))))
 refine wpQuiet_nil ?_;intro _ hw';obtain ⟨⟨dq,osq⟩,hw''⟩:=hw';subst hw'';go_wp2_with fail;go_ret;exact ⟨rfl,((ba _ _)).trans ((Z0 _ _ _).mono (by simp))⟩
theorem PQ  {ps:List Z4} (b need work:Int) (h:IsPaces w v ps) :
  Calls Tryz.prog 265 #[.agg #[.int .i64 b,v],.int .i64 need,.int .i64 work] w fun e w'=>e= .returned (.int .i64 (OJ (b,ps) need work))/\Below w.heap.size w w':=by
 have Hv:=Z9 h;obtain ⟨a,cap,rfl,hc,hm,hrow⟩:=h;clear hrow;have k0:=ZW (w:=w.alloc (.cells #[.int .i64 b,.slice a ps.length cap] 112)) (a:=⟨w.heap.size,0,none⟩) (v:= .int .i64 b) (by simp);have k1:=ZW (w:=w.alloc (.cells #[.int .i64 b,.slice a ps.length cap] 112)) (a:=⟨w.heap.size,1,none⟩) (v:= .slice a ps.length cap) (by simp);have Ha:Hid (IsPaces (w.alloc (.cells #[.int .i64 b,.slice a ps.length cap] 112)) (.slice a ps.length cap) ps):=Z9 ((uh Hv).below ((ba _ _)));go_enter Tryz.func265,Tryz.ntmps265;go_wp2_with fail;refine wq ?_
 repeat (go_big_quiet_step (first | exact ZY (Se b need ((uh Ha).below (Z0 _ _ _))) | exact ZY (ND b _ work ((uh Ha).below (Z0 _ _ _)))))
 refine wpQuiet_nil ?_;intro _ hw';obtain ⟨⟨dq,osq⟩,hw''⟩:=hw';subst hw'';go_wp2_with fail;go_ret;exact ⟨rfl,((ba _ _)).trans ((Z0 _ _ _).mono (by simp))⟩
end Go.Proofs.YtamgfpdahadnfaaGreatDoor
