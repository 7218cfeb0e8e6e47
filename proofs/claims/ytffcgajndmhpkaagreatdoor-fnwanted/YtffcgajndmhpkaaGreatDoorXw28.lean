/- Part 28 of what the proof rests on. No condition but those that a theorem names. -/
import Derived.Test.YtffcgajndmhpkaaGreatDoorXw27
set_option maxHeartbeats 8000000
set_option maxRecDepth 100000
namespace Go.Proofs.YtffcgajndmhpkaaGreatDoor
open Go.ChangeShapes Go.WideShapes Go.ChangeAt Go.RowKit Go.Sort
set_option linter.unusedVariables false
set_option linter.unusedSimpArgs false
set_option maxRecDepth 100000
variable {w w' w0 w1 w2 w3 w₀ wr W W' X A B C : World} {v v0 v1 v2 v3 v4 u u0 u1 u2 u3 u4 : Value} {m : Z4}
theorem IE {b:Nat} {e:Z6} {t:List Z6} (h:atV m.smiths b m.smiths.length=e::t):Yk m b={ m with smiths:=ZM (m.smiths.set e.2.toNat (stS (Z8 m.smiths e.2.toNat) 3)) t,desks:=m.desks.set b ((Z8 m.desks b).1,e.2,ZL (Z8 m.desks b).2.2 e.1) }:=by
 rw [Pa h,Eh h]
theorem Gu {n₀:Nat}  {qs:List (Z2 × Value)} {b:Nat} (hf:FullSmy n₀ w v0 v1 v2 v3 v4 m qs) (hL:Loose m) (hb:b<m.desks.length) :
  Calls Tryz.prog 153 #[.agg #[v0,v1,v2,v3,v4,.int .i64 m.now],.int .i64 (b:Int)] w fun e w'=>e= .returned (.tuple #[])/\FullSmy n₀ w' v0 v1 v2 v3 v4 (Yk m b) qs/\Two v2.ownBlock v3.ownBlock w w':=by
 have h:=hf.smy
 obtain ⟨a0,p0,a1,p1,a2,p2,a3,p3,a4,p4,rfl,rfl,rfl,rfl,rfl,_,_,_,_,_,_,_,_,_,_⟩:=h.five
 have hl12:=Zk hL
 have heig:=hL.sane.eight
 obtain ⟨g3,hga,hg3,hg3w,_,_⟩:=RecAt.view ZG (by omega) hf.desks rfl (by omega)
 cases hga
 have L2:Hid (∀ i,(Value.slice a2 m.smiths.length p2).ownBlock=some i->i<w.heap.size):=Z9 (fun i e=>(RecAt.lt hf.smiths e).2)
 have HQ:=Z9 (I2 hL (b:Int) m.smiths.length (Nat.le_refl _))
 have HN:Hid (atV m.smiths (b:Int) m.smiths.length=[]->Yk m b={ m with desks:=m.desks.set b ((Z8 m.desks b).1,-1,(Z8 m.desks b).2.2) }):=Z9 (fun h=>MO h)
 have HC:Hid (∀ e t,atV m.smiths (b:Int) m.smiths.length=e::t->Yk m b={ m with smiths:=ZM (m.smiths.set e.2.toNat (stS (Z8 m.smiths e.2.toNat) 3)) t,desks:=m.desks.set b ((Z8 m.desks b).1,e.2,ZL (Z8 m.desks b).2.2 e.1) }):=Z9 (fun e t h=>IE h)
 have Hm:Hid (∀ x ∈ atV m.smiths (b:Int) m.smiths.length,∃ j:Nat,j<m.smiths.length/\x.2=(j:Int)):=Z9 (fun x hx=>by
  obtain ⟨j,hj,_,_,rfl⟩:=(Yt m.smiths (b:Int) x m.smiths.length).1 hx
  exact ⟨j,hj,rfl⟩)
 have Hql:=Z9 (TD m.smiths (b:Int) m.smiths.length)
 have HF:=Z9 hf
 have HL:=Z9 hL
 have hb1:(b:Int)<(m.desks.length:Int):=by omega
 clear h hf hL hg3
 go_enter Tryz.func153,Tryz.ntmps153
 go_upto_region 1 with fail
 have hba:Below w.heap.size w (w.alloc (.cells (S6 a0 p0 a1 p1 a2 p2 (some ⟨g3,0,none⟩) p3 a4 p4 m) 32)):=ba _ _
 have kb:Hid (Blk (w.alloc (.cells (S6 a0 p0 a1 p1 a2 p2 (some ⟨g3,0,none⟩) p3 a4 p4 m) 32)) w.heap.size 32 (S6 a0 p0 a1 p1 a2 p2 (some ⟨g3,0,none⟩) p3 a4 p4 m)):=Z9 (Blk.new _ _ _)
 replace HF:=Z9 ((uh HF).below hba)
 have Tw:Hid (Two (Value.slice a2 m.smiths.length p2).ownBlock (some g3) w (w.alloc (.cells (S6 a0 p0 a1 p1 a2 p2 (some ⟨g3,0,none⟩) p3 a4 p4 m) 32))):=Z9 (Two.of_below hba)
 have hgW:g3<(w.alloc (.cells (S6 a0 p0 a1 p1 a2 p2 (some ⟨g3,0,none⟩) p3 a4 p4 m) 32)).heap.size:=Nat.lt_of_lt_of_le hg3w hba.size
 have hRW:w.heap.size<(w.alloc (.cells (S6 a0 p0 a1 p1 a2 p2 (some ⟨g3,0,none⟩) p3 a4 p4 m) 32)).heap.size:=(uh kb).lt
 clear hba
 generalize w.alloc (.cells (S6 a0 p0 a1 p1 a2 p2 (some ⟨g3,0,none⟩) p3 a4 p4 m) 32)=W at *
 have H2:Hid ((Value.slice a2 m.smiths.length p2).ownBlock ≠ some w.heap.size):=Z9 (fun e=>by have:=uh L2 _ e;omega)
 have H3:Hid (some g3 ≠ some w.heap.size):=Z9 (fun e=>by cases e;omega)
 have Low2:Hid (∀ i,(Value.slice a2 m.smiths.length p2).ownBlock=some i->i<W.heap.size):=Z9 (fun i e=>by have:=uh L2 i e;omega)
 obtain ⟨c0,c1,c2,c3,c4,c5⟩:=(uh kb).c6
 go_wp2_with fail
 refine (Km (b:Int) (uh HF).smy (uh HL)).mono ?_
 rintro e w1 ⟨v',rfl,he,hb⟩
 clear c0 c1 c2 c3 c4 c5
 generalize atV m.smiths (b:Int) m.smiths.length=q at *
 obtain ⟨qa,qc,rfl⟩:=EntsAt.shape he
 have HE:=Z9 he
 replace HF:=Z9 ((uh HF).below hb)
 replace kb:=bl kb hb
 replace Tw:=Z9 ((uh Tw).trans (Two.of_below hb))
 have hgw1:g3<w1.heap.size:=Nat.lt_of_lt_of_le hgW hb.size
 have hw1:=hb.size
 clear he hb
 go_wp2_with fail
 refine ck (Ps (uh HE).paces) fun w2 hb=> ?_
 replace HE:=Z9 ((uh HE).later hb)
 replace HF:=Z9 ((uh HF).below hb)
 replace kb:=bl kb hb
 replace Tw:=Z9 ((uh Tw).trans (Two.of_below hb))
 have hgw2:g3<w2.heap.size:=Nat.lt_of_lt_of_le hgw1 hb.size
 have hw2:W.heap.size<=w2.heap.size:=Nat.le_trans hw1 hb.size
 clear hb hw1 hgw1
 obtain ⟨⟨op,wh,mk⟩,hrk⟩:∃ d,Z8 m.desks b=d:=⟨_,rfl⟩
 rw [hrk] at HN HC
 simp only at HN HC
 have Hrk:=Z9 hrk
 clear hrk
 have Hset:Hid (∀ d,Z8 (m.desks.set b d) b=d):=Z9 (fun d=>by rw [ZK hb,if_pos rfl])
 cases q with
 | nil=>
  have hfv:TH []=((0,0),false):=Sq rfl
  rw [hfv]
  clear HC hfv
  go_upto_region 4 with fail
  have hba:Below w2.heap.size w2 (w2.alloc (.cells #[.int .i64 0,.int .i64 0] 151)):=ba _ _
  replace HF:=Z9 ((uh HF).below hba)
  replace kb:=bl kb hba
  replace Tw:=Z9 ((uh Tw).trans (Two.of_below hba))
  clear hba
  generalize w2.alloc (.cells #[.int .i64 0,.int .i64 0] 151)=X at *
  obtain ⟨_,hga,_,_,hc3,hz3⟩:=RecAt.view ZG (by omega) (uh HF).desks rfl (by omega)
  cases hga
  have d1:=hc3 b hb 1 _ rfl
  rw [uh Hrk] at d1
  have f1:=hz3 (b*3+1)
  have c3:=(uh kb).cell (i:=3) (v:= .slice (some ⟨g3,0,none⟩) m.desks.length p3) rfl
  have hput:=(uh HF).putD rfl (j:=b) (i:=1) hb (by omega) (.int .i64 (-1)) (op,-1,mk) (by rw [uh Hrk];rfl)
  have HP:=Z9 hput
  clear hput hc3 hz3
  go_wp2_with fail
  refine bodyPost_ret (results_none rfl _ _ _) rfl ?_
  exact ⟨rfl,by rw [uh HN (by first | rfl | trivial)];exact uh HP,(uh Tw).trans (Two.of_set X (.inr rfl) _ _)⟩
 | cons e t=>
  have hfv:TH (e::t)=(e,true):=NY (uh HQ) (by simp)
  obtain ⟨i0,hi0,hie⟩:=uh Hm e (by simp)
  obtain ⟨hd0,ei⟩:=e
  simp only at hie
  subst hie
  rw [hfv]
  have hcons:=uh HC (hd0,(i0:Int)) t rfl
  simp only [show ((i0:Int)).toNat=i0 by simp] at hcons
  have Hcons:=Z9 hcons
  have hi1:(i0:Int)<(m.smiths.length:Int):=by omega
  have htl:t.length<=12:=by have:=uh Hql;simp at this;omega
  have Hmt:Hid (∀ x ∈ t,∃ j:Nat,j<m.smiths.length/\x.2=(j:Int)):=Z9 (fun x hx=>uh Hm x (List.mem_cons_of_mem _ hx))
  clear HN HC hfv hcons Hm HQ Hql
  obtain ⟨n1,hn1⟩:∃ n,n=((hd0,(i0:Int))::t).length:=⟨_,rfl⟩
  rw [<-hn1] at HE
  rw [<-hn1]
  clear hn1
  dsimp only
  go_upto_region 5 with fail
  have hba:Below w2.heap.size w2 (w2.alloc (.cells #[.int .i64 hd0,.int .i64 (i0:Int)] 151)):=ba _ _
  have ke:Hid (Blk (w2.alloc (.cells #[.int .i64 hd0,.int .i64 (i0:Int)] 151)) w2.heap.size 151 #[.int .i64 hd0,.int .i64 (i0:Int)]):=Z9 (Blk.new _ _ _)
  replace HE:=Z9 ((uh HE).later hba)
  replace HF:=Z9 ((uh HF).below hba)
  replace kb:=bl kb hba
  replace Tw:=Z9 ((uh Tw).trans (Two.of_below hba))
  have hgX:w2.heap.size<(w2.alloc (.cells #[.int .i64 hd0,.int .i64 (i0:Int)] 151)).heap.size:=(uh ke).lt
  clear hba
  generalize w2.alloc (.cells #[.int .i64 hd0,.int .i64 (i0:Int)] 151)=X at *
  obtain ⟨g2,hga,_,_,hc2,hz2⟩:=RecAt.view ZT (by omega) (uh HF).smiths rfl (by omega)
  cases hga
  have hg2W:=uh Low2 g2 rfl
  have hn23:g2 ≠ g3:=fun e=>(uh HF).a23 g2 rfl (by rw [e];rfl)
  have s0:=hc2 i0 hi0 0 _ rfl
  have f0:=hz2 (i0*11)
  have hput:=(uh HF).putS rfl (j:=i0) (i:=0) hi0 (by omega) (.int .i64 3) (stS (Z8 m.smiths i0) 3) rfl
  simp only [Nat.add_zero] at s0 hput
  have HF1:=Z9 hput
  have c2:=(uh kb).cell (i:=2) (v:= .slice (some ⟨g2,0,none⟩) m.smiths.length p2) rfl
  have e1:=(uh ke).cell (i:=1) (v:= .int .i64 (i0:Int)) rfl
  clear hput hc2 hz2
  have ht:Two (some g2) (some g3) X (X.setCell ⟨g2,i0*11,none⟩ (.int .i64 3)):=Two.of_set X (.inl rfl) _ _
  have h2R:(some g2:Option Nat) ≠ some w.heap.size:=uh H2
  have h3R:(some g3:Option Nat) ≠ some w.heap.size:=uh H3
  have h2E:(some g2:Option Nat) ≠ some w2.heap.size:=fun e=>by cases e;omega
  have h3E:(some g3:Option Nat) ≠ some w2.heap.size:=fun e=>by cases e;omega
  replace kb:=Z9 ((uh kb).two ht h2R h3R)
  replace ke:=Z9 ((uh ke).two ht h2E h3E)
  replace HE:=Z9 (Two.ents (uh HE) ht (fun i e=>by cases e;omega) (fun i e=>by cases e;omega))
  have Tw1:Hid (Two (some g2) (some g3) w (X.setCell ⟨g2,i0*11,none⟩ (.int .i64 3))):=Z9 ((uh Tw).trans ht)
  clear ht Tw HF
  go_upto_region 6 with fail
  clear s0 f0 c2 e1
  generalize X.setCell ⟨g2,i0*11,none⟩ (.int .i64 3)=X1 at *
  obtain ⟨ss,hss⟩:∃ q,m.smiths.set i0 (stS (Z8 m.smiths i0) 3)=q:=⟨_,rfl⟩
  have hsl:ss.length=m.smiths.length:=by rw [<-hss];simp
  rw [hss] at Hcons HF1
  clear hss
  obtain ⟨_,hga,_,_,hc3,hz3⟩:=RecAt.view ZG (by omega) (uh HF1).desks rfl (by show 0<m.desks.length;omega)
  cases hga
  have d1:=hc3 b hb 1 _ rfl
  have hrk2:Z8 ({ m with smiths:=ss } : Z4).desks b=(op,wh,mk):=uh Hrk
  rw [hrk2] at d1
  have f1:=hz3 (b*3+1)
  have c3:=(uh kb).cell (i:=3) (v:= .slice (some ⟨g3,0,none⟩) m.desks.length p3) rfl
  have e1:=(uh ke).cell (i:=1) (v:= .int .i64 (i0:Int)) rfl
  have hput:=(uh HF1).putD rfl (j:=b) (i:=1) hb (by omega) (.int .i64 (i0:Int)) (op,(i0:Int),mk) (by rw [hrk2];rfl)
  have HF2:=Z9 hput
  clear hput hc3 hz3 hrk2
  have ht:Two (some g2) (some g3) X1 (X1.setCell ⟨g3,b*3+1,none⟩ (.int .i64 (i0:Int))):=Two.of_set X1 (.inr rfl) _ _
  replace kb:=Z9 ((uh kb).two ht h2R h3R)
  replace ke:=Z9 ((uh ke).two ht h2E h3E)
  replace HE:=Z9 (Two.ents (uh HE) ht (fun i e=>by cases e;omega) (fun i e=>by cases e;omega))
  have Tw2:Hid (Two (some g2) (some g3) w (X1.setCell ⟨g3,b*3+1,none⟩ (.int .i64 (i0:Int)))):=Z9 ((uh Tw1).trans ht)
  clear ht Tw1 HF1
  go_upto_region 7 with fail
  clear d1 f1 c3 e1
  generalize X1.setCell ⟨g3,b*3+1,none⟩ (.int .i64 (i0:Int))=X2 at *
  have hD1:(m.desks.set b (op,(i0:Int),mk)).length=m.desks.length:=by simp
  obtain ⟨_,hga,_,_,hc3,hz3⟩:=RecAt.view ZG (by omega) (uh HF2).desks hD1.symm (by show 0<(m.desks.set b _).length;omega)
  cases hga
  have hrk2:Z8 ({ m with smiths:=ss,desks:=m.desks.set b (op,(i0:Int),mk) } : Z4).desks b=(op,(i0:Int),mk):=uh Hset _
  have d2:=hc3 b (by show b<(m.desks.set b _).length;omega) 2 _ rfl
  rw [hrk2] at d2
  simp only at d2
  have f2:=hz3 (b*3+2)
  have c3:=(uh kb).cell (i:=3) (v:= .slice (some ⟨g3,0,none⟩) m.desks.length p3) rfl
  have e0:=(uh ke).cell (i:=0) (v:= .int .i64 hd0) rfl
  have hput:=(uh HF2).putD hD1.symm (j:=b) (i:=2) (by show b<(m.desks.set b _).length;omega) (by omega) (.int .i64 (ZL mk hd0)) (op,(i0:Int),(ZL mk hd0)) (by rw [hrk2];rfl)
  simp only [List.set_set] at hput
  clear hc3 hz3 hrk2
  refine ZS (S:=fun w'=>w'.cell? ⟨w.heap.size,3,none⟩=some (.slice (some ⟨g3,0,none⟩) m.desks.length p3)/\w'.cell? ⟨g3,b*3+2,none⟩=some (.int .i64 mk)/\w'.cell? ⟨w2.heap.size,0,none⟩=some (.int .i64 hd0)/\w'.frozen? ⟨g3,b*3+2,none⟩=false) (by kernel_rfl) (List.cons_ne_nil _ _) (by kernel_rfl) ⟨c3,d2,e0,f2⟩ (fun hHeld=> ?_)
  simp only [List.dropLast_cons_cons,List.dropLast_singleton,List.length_cons,List.length_nil,Nat.zero_add,Nat.reduceAdd]
  have hbd:Below X2.heap.size X2 X2.drew:=(Below.refl _ _).drew
  (refine tq 0 ?_;(try simp only [Act.put,sA,sZ,sS]))
  (refine tq 1 ?_;(try simp only [Act.put,sA,sZ,sS]))
  (refine tq 2 ?_;(try simp only [Act.put,sA,sZ,sS]))
  (refine tq 3 ?_;(try simp only [Act.put,sA,sZ,sS]))
  (refine tq 4 ?_;(try simp only [Act.put,sA,sZ,sS]))
  (refine tq 5 ?_;(try simp only [Act.put,sA,sZ,sS]))
  (refine tq 6 ?_;(try simp only [Act.put,sA,sZ,sS]))
  (refine tq 7 ?_;(try simp only [Act.put,sA,sZ,sS]))
  (refine tq 8 ?_;(try simp only [Act.put,sA,sZ,sS]))
  (refine tq 9 ?_;(try simp only [Act.put,sA,sZ,sS]))
  (refine tq 10 ?_;(try simp only [Act.put,sA,sZ,sS]))
  refine rd 11 rfl (fun K hK=> ?_)
  go_simp
  refine (Oc mk hd0 _).mono ?_
  rintro e9 w9 ⟨rfl,hb9'⟩
  have hb9:Below X2.heap.size X2 w9:=hbd.trans hb9'
  clear hb9' hbd
  replace kb:=Z9 ((uh kb).below hb9 (uh kb).lt)
  replace ke:=Z9 ((uh ke).below hb9 (uh ke).lt)
  replace HE:=Z9 ((uh HE).later hb9)
  replace Tw2:=Z9 ((uh Tw2).trans (Two.of_below hb9))
  have HF3:Hid (FullSmy n₀ w9 (.slice a0 m.rooms.length p0) (.slice a1 m.guilds.length p1) (.slice (some ⟨g2,0,none⟩) m.smiths.length p2) (.slice (some ⟨g3,0,none⟩) m.desks.length p3) (.slice a4 m.paces.length p4) { m with smiths:=ss,desks:=m.desks.set b (op,(i0:Int),mk) } qs):=Z9 ((uh HF2).below hb9)
  clear hput
  obtain ⟨_,hga,_,_,hc3,hz3⟩:=RecAt.view ZG (by omega) (uh HF3).desks hD1.symm (by show 0<(m.desks.set b _).length;omega)
  cases hga
  have hrk2:Z8 ({ m with smiths:=ss,desks:=m.desks.set b (op,(i0:Int),mk) } : Z4).desks b=(op,(i0:Int),mk):=uh Hset _
  have d3:=hc3 b (by show b<(m.desks.set b _).length;omega) 2 _ rfl
  rw [hrk2] at d3
  simp only at d3
  have f3:=hz3 (b*3+2)
  have hput:=(uh HF3).putD hD1.symm (j:=b) (i:=2) (by show b<(m.desks.set b _).length;omega) (by omega) (.int .i64 (ZL mk hd0)) (op,(i0:Int),(ZL mk hd0)) (by rw [hrk2];rfl)
  simp only [List.set_set] at hput
  have HF4:=Z9 hput
  clear hput hc3 hz3 hrk2
  refine hK.out _ _ ⟨(uh kb).cell (i:=3) rfl,d3,(uh ke).cell (i:=0) rfl,f3⟩ (fun hHeld=> ?_)
  clear hK K c3 e0 d2 f2 hb9
  (try simp only [Act.put,sA,sZ,sS])
  (refine tq 12 ?_;(try simp only [Act.put,sA,sZ,sS]))
  (refine tq 13 ?_;(try simp only [Act.put,sA,sZ,sS]))
  refine wpAnyH_done (by kernel_rfl) ?_ _
  refine ZH rfl rfl ?_
  go_simp
  clear hHeld d3 f3
  have ht:Two (some g2) (some g3) w9 (w9.setCell ⟨g3,b*3+2,none⟩ (.int .i64 (ZL mk hd0))):=Two.of_set w9 (.inr rfl) _ _
  replace kb:=Z9 ((uh kb).two ht h2R h3R)
  replace HE:=Z9 (Two.ents (uh HE) ht (fun i e=>by cases e;omega) (fun i e=>by cases e;omega))
  have Tw4:Hid (Two (some g2) (some g3) w (w9.setCell ⟨g3,b*3+2,none⟩ (.int .i64 (ZL mk hd0)))):=Z9 ((uh Tw2).trans ht)
  clear ht Tw2 HF3 HF2 ke
  generalize w9.setCell ⟨g3,b*3+2,none⟩ (.int .i64 (ZL mk hd0))=X4 at *
  obtain ⟨ds,hds⟩:∃ q,m.desks.set b (op,(i0:Int),(ZL mk hd0))=q:=⟨_,rfl⟩
  rw [hds] at Hcons HF4
  clear hds hD1
  have h2X:g2<X4.heap.size:=by have h9:=(uh HF4).smiths;exact (RecAt.lt h9 rfl).2
  have h3X:g3<X4.heap.size:=by have h9:=(uh HF4).desks;exact (RecAt.lt h9 rfl).2
  go_wp2_with fail
  refine (Ny (uh HE).paces (by omega)).mono ?_
  rintro e w5 ⟨v5,rfl,he5,hb5⟩
  obtain ⟨ya,yc,rfl⟩:=EntsAt.shape he5
  have HE5:=Z9 he5
  have hX4:w.heap.size<X4.heap.size:=(uh kb).lt
  replace kb:=Z9 ((uh kb).below hb5 (uh kb).lt)
  replace HF4:=Z9 ((uh HF4).below hb5)
  replace Tw4:=Z9 ((uh Tw4).trans (Two.of_below hb5))
  clear he5 hb5 HE
  go_wp2_with fail
  go_loopw [54] (fun i wi=> ∃ j:Nat,j<=t.length/\i= .int .i64 j/\FullSmy n₀ wi (.slice a0 m.rooms.length p0) (.slice a1 m.guilds.length p1) (.slice (some ⟨g2,0,none⟩) m.smiths.length p2) (.slice (some ⟨g3,0,none⟩) m.desks.length p3) (.slice a4 m.paces.length p4) { m with smiths:=ZM ss (t.take j),desks:=ds } qs/\Two (some g2) (some g3) w5 wi) (fun i _=>t.length-(intOf i).toNat)
  case atStart=>exact ⟨0,Nat.zero_le _,rfl,by simpa [ZM] using uh HF4,Two.refl _ _ _⟩
  case round=>
   obtain ⟨j,hj,rfl,hf3,htw3⟩:=hrel
   have HF5:=Z9 hf3
   have Tw5:=Z9 htw3
   have K5:=Z9 ((uh kb).two htw3 h2R h3R)
   have HE6:=Z9 (Two.ents (uh HE5) htw3 (fun i e=>by cases e;exact h2X) (fun i e=>by cases e;exact h3X))
   have hzr:=htw3.size
   clear hf3 htw3
   by_cases hjl:j<t.length
   ·obtain ⟨_,_,hqe,_,_,hr⟩:=EntsAt.paces (uh HE6)
    cases hqe
    rcases hr with e0 | ⟨eb,eo,rfl,hbw,hcl⟩
    ·rw [e0] at hjl;simp at hjl
    obtain ⟨d0,d1⟩:=hcl j hjl
    obtain ⟨i2,hi2,hie⟩:=uh Hmt _ (XM hjl)
    rw [hie] at d1
    have Htk:Hid (ZM ss (t.take (j+1))=(ZM ss (t.take j)).set i2 (stS (Z8 (ZM ss (t.take j)) i2) 2)):=Z9 (by rw [KG hjl,RG,hie];simp)
    obtain ⟨hh,hhh⟩:∃ q,(Z7 t j).1=q:=⟨_,rfl⟩
    rw [hhh] at d0
    have hjl1:(j:Int)<(t.length:Int):=by omega
    clear hcl hie hhh
    go_upto_region 11 with fail
    clear d0 d1
    obtain ⟨Y,hY,hba,ke⟩:=YO wr 151 #[.int .i64 hh,.int .i64 (i2:Int)]
    replace K5:=bl K5 hba
    replace HF5:=Z9 ((uh HF5).below hba)
    replace Tw5:=Z9 ((uh Tw5).trans (Two.of_below hba))
    clear hba
    rw [hY]
    clear hY
    have hwl:(ZM ss (t.take j)).length=m.smiths.length:=by rw [Ye,hsl]
    obtain ⟨_,hga,_,_,hc2,hz2⟩:=RecAt.view ZT (by omega) (uh HF5).smiths hwl.symm (by show 0<(ZM ss (t.take j)).length;omega)
    cases hga
    have s0:=hc2 i2 (by show i2<(ZM ss (t.take j)).length;omega) 0 _ rfl
    have f0:=hz2 (i2*11)
    have hput:=(uh HF5).putS hwl.symm (j:=i2) (i:=0) (by show i2<(ZM ss (t.take j)).length;omega) (by omega) (.int .i64 2) (stS (Z8 (ZM ss (t.take j)) i2) 2) rfl
    simp only [Nat.add_zero] at s0 hput
    have HF6:=Z9 hput
    have c2:=(uh K5).cell (i:=2) (v:= .slice (some ⟨g2,0,none⟩) m.smiths.length p2) rfl
    have e1:=(uh ke).cell (i:=1) (v:= .int .i64 (i2:Int)) rfl
    have hi3:(i2:Int)<(m.smiths.length:Int):=by omega
    clear hput hc2 hz2 hwl
    go_wp2_with fail
    go_roundw
    case rel=>exact ⟨j+1,by omega,by go_num,by rw [uh Htk];exact uh HF6,(uh Tw5).trans (Two.of_set _ (.inl rfl) _ _)⟩
    case measure=>exact ms
   ·obtain rfl:j=t.length:=by omega
    rw [List.take_length] at HF5
    go_wp2_with fail
    go_end0
    exact ⟨rfl,by rw [uh Hcons];exact uh HF5,(uh Tw4).trans (uh Tw5)⟩
theorem Of (w:World) (v0 v1 v2 v3 v4:Value) (m:Z4) (h:Smy w v0 v1 v2 v3 v4 m) :
  Calls Tryz.prog 96 #[.agg #[v0,v1,v2,v3,v4,.int .i64 m.now]] w fun e w'=> ∃ u0 u1 u2 u3 u4 rs,e= .returned (.agg #[u0,u1,u2,u3,u4,.int .i64 (Zz m).now])/\FullSmy w.heap.size w' u0 u1 u2 u3 u4 (Zz m) rs/\Below w.heap.size w w':=by
 obtain ⟨M,hM⟩:∃ x,Zz m=x:=⟨_,rfl⟩
 rw [hM]
 have HM:=Z9 hM
 clear hM
 have Hv0:=Z9 h
 obtain ⟨a0,p0,a1,p1,a2,p2,a3,p3,a4,p4,rfl,rfl,rfl,rfl,rfl,_,_,_,_,_,_,_,_,_,_⟩:=h.five
 clear h
 obtain ⟨ok,hok⟩:∃ q,Y0 m=q:=⟨_,rfl⟩
 have Hok:=Z9 hok
 have Hok2:Hid (WI m=ok):=Z9 (by rw [RT];exact hok)
 clear hok
 go_enter Tryz.func96,Tryz.ntmps96
 go_wp2_with fail
 obtain ⟨W,hW,kb,kr,BB⟩:=YS w 32 (S6 a0 p0 a1 p1 a2 p2 a3 p3 a4 p4 m) 32 E6
 have Hv:=Z9 ((uh Hv0).below (uh BB))
 rw [hW]
 clear hW
 refine (SC (uh Hv)).mono ?_
 rw [uh Hok2]
 rintro e w1 ⟨rfl,hb⟩
 replace Hv:=Z9 ((uh Hv).below hb)
 replace kb:=bl kb hb
 replace kr:=bl kr hb
 replace BB:=bt BB hb
 clear hb
 cases ok
 ·
  obtain rfl:M=YJ:=by rw [<-uh HM];unfold Zz;rw [uh Hok];rfl
  obtain ⟨o0,o1,o2,o3,o4,o5⟩:=(uh kr).c6
  obtain ⟨f0,f1,f2,f3,f4,f5⟩:=(uh kr).f6
  go_wp2_with fail
  refine bodyPost_ret (v:= .agg E6) (by simp [results,Tryz.results96,go_sem, *]) rfl ⟨_,_,_,_,_,[],rfl,Y1 _ _,?_⟩
  iterate 6 (refine Below.setCell ?_ (by show _<=w.heap.size+1;omega) _)
  exact uh BB
 obtain rfl:M=ZX m:=by rw [<-uh HM];unfold Zz;rw [uh Hok];rfl
 have hlo:=S7 (uh Hok)
 have HLo:=Z9 hlo
 have HFew:=Z9 (XJ hlo)
 clear hlo
 obtain ⟨c0,c1,c2,c3,c4,c5⟩:=(uh kb).c6
 go_wp2_with fail
 clear c0 c1 c2 c3 c4 c5
 have hWs:w.heap.size+2<=w1.heap.size:=by have:=(uh kr).lt;omega
 refine (Wg (uh Hv) (uh HFew)).mono ?_
 rintro e w2 ⟨y0,y1,y2,y3,y4,oq,rfl,ho,hb⟩
 have k9:=ho.smy
 obtain ⟨b0,q0,b1,q1,b2,q2,b3,q3,b4,q4,rfl,rfl,rfl,rfl,rfl,_,_,_,_,_,_,_,_,_,_⟩:=k9.five
 replace Hv:=Z9 ((uh Hv).below hb)
 replace kb:=bl kb hb
 replace kr:=bl kr hb
 replace BB:=bt BB hb
 have HO:=Z9 (ho.mono hWs)
 have LO:Hid (∀ k,WW (.slice b0 m.rooms.length q0) (.slice b1 m.guilds.length q1) (.slice b2 m.smiths.length q2) (.slice b3 m.desks.length q3) (.slice b4 m.paces.length q4) oq k->w.heap.size+2<=k/\k<w2.heap.size):=Z9 (fun k e=>(uh HO).own e)
 have hsz9:=hb.size
 clear ho hb k9
 go_upto_region 4 with fail
 obtain ⟨W2,hW2,hb,ko⟩:=YO w2 32 (S6 b0 q0 b1 q1 b2 q2 b3 q3 b4 q4 m)
 replace Hv:=Z9 ((uh Hv).below hb)
 replace kb:=bl kb hb
 replace kr:=bl kr hb
 replace BB:=bt BB hb
 replace HO:=Z9 ((uh HO).below hb)
 have hob:w.heap.size+2<=w2.heap.size:=Nat.le_trans hWs hsz9
 clear hb hsz9 hWs
 rw [hW2]
 clear hW2
 generalize w2.heap.size=ob at *
 have x3:=(uh ko).cell (i:=3) (v:= .slice b3 m.desks.length q3) rfl
 go_wp2_with fail
 clear x3
 go_loopw [4,14] (fun u i wr=> ∃ k:Nat,k<=m.desks.length/\i= .int .i64 k/\FullSmy (w.heap.size+2) wr (.slice b0 m.rooms.length q0) (.slice b1 m.guilds.length q1) (.slice b2 m.smiths.length q2) (.slice b3 m.desks.length q3) (.slice b4 m.paces.length q4) (Zs m k) oq/\Two (Value.slice b2 m.smiths.length q2).ownBlock (Value.slice b3 m.desks.length q3).ownBlock W2 wr) (fun _ i _=>m.desks.length-(intOf i).toNat)
 case atStart=>exact ⟨0,Nat.zero_le _,rfl,uh HO,Two.refl _ _ _⟩
 case round=>
  obtain ⟨k,hk,rfl,hf1,htw⟩:=hrel
  have H2:(Value.slice b2 m.smiths.length q2).ownBlock ≠ some ob:=fun e=>by have:=(uh LO _ (.inr (.inr (.inr (.inl e))))).2;omega
  have H3:(Value.slice b3 m.desks.length q3).ownBlock ≠ some ob:=fun e=>by have:=(uh LO _ (.inr (.inr (.inr (.inr (.inl e)))))).2;omega
  have ko1:=Z9 ((uh ko).two htw H2 H3)
  have HF1:=Z9 hf1
  have Tw:=Z9 htw
  clear hf1 htw H2 H3
  have hnow:(Zs m k).now=m.now:=(ZQ m k).2.2.2.1
  have hdl:(Zs m k).desks.length=m.desks.length:=(ZQ m k).2.2.2.2.2
  by_cases hlt:k<m.desks.length
  ·have hlt1:(k:Int)<(m.desks.length:Int):=by omega
   have hc:=Gu (b:=k) (uh HF1) (KK (uh HLo) k hk) (by omega)
   rw [hnow] at hc
   have Hc:=Z9 hc
   clear hc hnow hdl
   obtain ⟨x0,x1,x2,x3,x4,x5⟩:=(uh ko1).c6
   go_wp2_with fail
   clear x0 x1 x2 x3 x4 x5
   refine (uh Hc).mono ?_
   rintro e w5 ⟨rfl,hf5,ht5⟩
   have HF5:=Z9 hf5
   have T5:=Z9 ((uh Tw).trans ht5)
   clear hf5 ht5
   go_wp2_with fail
   go_roundw
   case rel=>exact ⟨k+1,by omega,by go_num,uh HF5,uh T5⟩
   case measure=>exact ms
  ·
   obtain rfl:k=m.desks.length:=by omega
   replace kr:=Z9 ((uh kr).two (uh Tw) (fun e=>by have:=(uh LO _ (.inr (.inr (.inr (.inl e))))).1;omega) (fun e=>by have:=(uh LO _ (.inr (.inr (.inr (.inr (.inl e)))))).1;omega))
   replace BB:=Z9 ((uh BB).trans ((uh Tw).below (uh BB).size (fun k e=>by have:=(uh LO k (.inr (.inr (.inr (.inl e))))).1;omega) (fun k e=>by have:=(uh LO k (.inr (.inr (.inr (.inr (.inl e)))))).1;omega)))
   obtain ⟨x0,x1,x2,x3,x4,x5⟩:=(uh ko1).c6
   obtain ⟨o0,o1,o2,o3,o4,o5⟩:=(uh kr).c6
   obtain ⟨f0,f1,f2,f3,f4,f5⟩:=(uh kr).f6
   have Hnow:Hid ((ZX m).now=m.now):=Z9 hnow
   clear hnow hdl
   go_wp2_with fail
   refine bodyPost_ret (v:= .agg (S6 b0 q0 b1 q1 b2 q2 b3 q3 b4 q4 m)) (by simp [results,Tryz.results96,go_sem, *]) rfl ⟨_,_,_,_,_,oq,by rw [uh Hnow],?_,?_⟩
   ·iterate 6 (refine FullSmy.set_off ?_ (fun k e=>by have:=(uh LO k e).1;omega) _ _)
    exact (uh HF1).mono (by omega)
   ·iterate 6 (refine Below.setCell ?_ (by show _<=w.heap.size+1;omega) _)
    exact uh BB
open Go.ChangeShapes Go.WideShapes Go.ChangeAt Go.RowKit Go.Sort Go.Shelf
set_option maxRecDepth 100000
theorem Ly {R:Nat}  {qs:List (Z2 × Value)} {q:Int->Addr} (K:Nx w W R v0 v1 v2 v3 v4 m qs) (he:Errs w q) (hm:ZP m=true) (room pace:Int) {cb cd:Nat} (hc:Blk W cb 2 #[.int .i64 room]) (hd:Blk W cd 2 #[.int .i64 pace]):Calls Tryz.prog 56 #[.pointer (some ⟨R,0,none⟩),.pointer (some ⟨cb,0,none⟩),.pointer (some ⟨cd,0,none⟩)] W fun e W'=>Chg w R q (Xb m room pace) (Xl m room pace) e W':=by
 have HC:=Z9 (GH K he hm room pace)
 have c0:=hc.cell (i:=0) (v:= .int .i64 room) rfl
 have c1:=hd.cell (i:=0) (v:= .int .i64 pace) rfl
 clear hc hd K
 go_enter Tryz.func56,Tryz.ntmps56
 go_wp2_with fail
 refine (uh HC).mono ?_
 rintro e w1 ⟨hb,h9⟩
 clear c0 c1
 rcases h9 with ⟨hc0,rfl,hx⟩ | ⟨hc0,rfl⟩
 ·go_wp2_with fail
  go_ret
  exact ⟨hb,.inl ⟨hc0,rfl,hx⟩⟩
 ·go_wp2_with fail
  go_ret
  exact ⟨hb,.inr ⟨hc0,rfl⟩⟩
theorem Nu  {q:Int->Addr} (h:Smy w v0 v1 v2 v3 v4 m) (he:Errs w q) (room pace:Int) {cb cd:Nat} (hc:Blk w cb 2 #[.int .i64 room]) (hd:Blk w cd 2 #[.int .i64 pace]):Calls Tryz.prog 35 #[.agg #[v0,v1,v2,v3,v4,.int .i64 m.now],.func (Fn.func 56) #[] #[.pointer (some ⟨cb,0,none⟩),.pointer (some ⟨cd,0,none⟩)]] w fun e w'=>Tr w q m (Xb m room pace) (Xl m room pace) e w':=by
 obtain ⟨ok,hok⟩:∃ x,ZP m=x:=⟨_,rfl⟩
 have Hok:=Z9 hok
 clear hok
 have HE:=Z9 he
 have HC:=Z9 hc
 have HD:=Z9 hd
 have Hlow:Hid (0<w.heap.size):=Z9 (World.block_lt_of_cell? _ _ he.c3)
 clear he hc hd
 obtain ⟨a0,p0,a1,p1,a2,p2,a3,p3,a4,p4,rfl,rfl,rfl,rfl,rfl,K⟩:=Bx.new h
 clear h
 replace K:=K.alloc (.cells E6 32)
 have kr:Hid (Blk ((w.alloc (.cells (S6 a0 p0 a1 p1 a2 p2 a3 p3 a4 p4 m) 32)).alloc (.cells E6 32)) (w.heap.size+1) 32 E6):=Z9 (by
  have k:=Blk.new (w.alloc (.cells (S6 a0 p0 a1 p1 a2 p2 a3 p3 a4 p4 m) 32)) 32 E6
  rw [World.size_alloc] at k
  exact k)
 replace HC:=Z9 ((uh HC).below K.bb (uh HC).lt)
 replace HD:=Z9 ((uh HD).below K.bb (uh HD).lt)
 replace HE:=Z9 ((uh HE).below K.bb)
 go_enter Tryz.func35,Tryz.ntmps35
 go_wp2_with fail
 generalize ((w.alloc (.cells (S6 a0 p0 a1 p1 a2 p2 a3 p3 a4 p4 m) 32)).alloc (.cells E6 32))=W1 at *
 refine ck (SP _ _ _ _ _ _ _ _ (uh Hok) K.smy) fun w1 hb=> ?_
 replace K:=K.next hb
 replace kr:=bl kr hb
 replace HC:=bl HC hb
 replace HD:=bl HD hb
 replace HE:=Z9 ((uh HE).below hb)
 clear hb
 cases ok
 ·
  have x1:=(uh HE).c3
  obtain ⟨o0,o1,o2,o3,o4,o5⟩:=(uh kr).c6
  obtain ⟨f0,f1,f2,f3,f4,f5⟩:=(uh kr).f6
  go_wp2_with fail
  go_region
  all_goals (try go_wp2_with fail)
  all_goals (refine bodyPost_ret (v:= .tuple #[.agg E6,Xv (q 3)]) (by simp [results,Tryz.results35,go_sem, *]) rfl ⟨?_,.inl ⟨uh Hok,rfl⟩⟩)
  all_goals (refine Below.drew ?_)
  all_goals (iterate 6 (refine Below.setCell ?_ (by show _<=w.heap.size+1;omega) _))
  all_goals (exact K.bb)
 have HFew:=Z9 (XJ (ZY (uh Hok)))
 obtain ⟨c0,c1,c2,c3,c4,c5⟩:=K.cells
 go_wp2_with fail
 have hw1:w.heap.size+2<=w1.heap.size:=by have:=(uh kr).lt;omega
 refine (Wg K.smy (uh HFew)).mono ?_
 rintro e w2 ⟨u0,u1,u2,u3,u4,rs,rfl,hf,hb⟩
 clear c0 c1 c2 c3 c4 c5
 obtain ⟨b0,r0,b1,r1,b2,r2,b3,r3,b4,r4,rfl,rfl,rfl,rfl,rfl⟩:=Ui hf
 have N1:Nx w1 (w2.alloc (.cells (S6 b0 r0 b1 r1 b2 r2 b3 r3 b4 r4 m) 32)) w2.heap.size (.slice b0 m.rooms.length r0) (.slice b1 m.guilds.length r1) (.slice b2 m.smiths.length r2) (.slice b3 m.desks.length r3) (.slice b4 m.paces.length r4) m rs:=by
  have hba:Below w2.heap.size w2 (w2.alloc (.cells (S6 b0 r0 b1 r1 b2 r2 b3 r3 b4 r4 m) 32)):=ba _ _
  exact ⟨hf.below hba,Blk.new _ _ _,fun k e=>by have:=(hf.own e).2;omega,hb.trans (hba.mono hb.size),hb.size⟩
 have HN:=Z9 N1
 clear N1 hf hb
 go_upto_region 4 with fail
 generalize w2.alloc (.cells (S6 b0 r0 b1 r1 b2 r2 b3 r3 b4 r4 m) 32)=W3 at *
 generalize w2.heap.size=R at *
 go_wp2_with fail
 refine (Ly (uh HN) (uh HE) (uh Hok) room pace ((uh HC).below (uh HN).bb (uh HC).lt) ((uh HD).below (uh HN).bb (uh HD).lt)).mono ?_
 rintro e w4 ⟨hb4,h9⟩
 have hKs:=K.smy.below hb4
 have hKb:=K.blk.below hb4 K.blk.lt
 have hrb:=(uh kr).below hb4 (uh kr).lt
 have hbb:=K.bb.trans (hb4.mono K.bb.size)
 have K4:Bx w w4 w.heap.size a0 p0 a1 p1 a2 p2 a3 p3 a4 p4 m:=⟨hKs,hKb,hbb⟩
 clear K
 have K:=K4
 replace kr:=Z9 hrb
 clear K4 hKs hKb hrb hbb
 rcases h9 with ⟨hc0,rfl,v0,v1,v2,v3,v4,rs4,N4⟩ | ⟨hc0,rfl⟩
 ·
  obtain ⟨d0,s0,d1,s1,d2,s2,d3,s3,d4,s4,rfl,rfl,rfl,rfl,rfl⟩:=Ui N4.full
  have HN4:=Z9 N4
  obtain ⟨c0,c1,c2,c3,c4,c5⟩:=N4.cells
  clear N4 HN
  go_wp2_with fail
  refine (Of _ _ _ _ _ _ _ (uh HN4).full.smy).mono ?_
  rintro e w5 ⟨u0,u1,u2,u3,u4,rs5,rfl,hf,hb⟩
  clear c0 c1 c2 c3 c4 c5
  obtain ⟨e0,g0,e1,g1,e2,g2,e3,g3,e4,g4,rfl,rfl,rfl,rfl,rfl⟩:=Ui hf
  have hsz:w.heap.size+2<=w4.heap.size:=by have:=(uh kr).lt;omega
  have HF:=Z9 (hf.mono (n₁:=w.heap.size+2) hsz)
  replace K:=K.next hb
  replace kr:=bl kr hb
  clear hb hf
  obtain ⟨o0,o1,o2,o3,o4,o5⟩:=(uh kr).c6
  obtain ⟨f0,f1,f2,f3,f4,f5⟩:=(uh kr).f6
  go_wp2_with fail
  refine bodyPost_ret (v:= .tuple #[.agg #[.slice e0 (Zz (Xb m room pace)).rooms.length g0,.slice e1 (Zz (Xb m room pace)).guilds.length g1,.slice e2 (Zz (Xb m room pace)).smiths.length g2,.slice e3 (Zz (Xb m room pace)).desks.length g3,.slice e4 (Zz (Xb m room pace)).paces.length g4,.int .i64 (Zz (Xb m room pace)).now],.nilIface]) (by simp [results,Tryz.results35,go_sem, *]) rfl ⟨?_,.inr (.inl ⟨uh Hok,hc0,e0,g0,e1,g1,e2,g2,e3,g3,e4,g4,rs5,rfl,?_⟩)⟩
  ·iterate 6 (refine Below.setCell ?_ (by show _<=w.heap.size+1;omega) _)
   exact K.bb
  ·refine FullSmy.mono (n₀:=w.heap.size+2) ?_ (by omega)
   iterate 6 (refine FullSmy.set_off ?_ (fun k e=>by have:=((uh HF).own e).1;omega) _ _)
   exact uh HF
 ·
  clear HN
  obtain ⟨c0,c1,c2,c3,c4,c5⟩:=K.cells
  go_wp2_with fail
  refine (Wg K.smy (uh HFew)).mono ?_
  rintro e w5 ⟨u0,u1,u2,u3,u4,rs5,rfl,hf,hb⟩
  clear c0 c1 c2 c3 c4 c5
  obtain ⟨e0,g0,e1,g1,e2,g2,e3,g3,e4,g4,rfl,rfl,rfl,rfl,rfl⟩:=Ui hf
  have hsz:w.heap.size+2<=w4.heap.size:=by have:=(uh kr).lt;omega
  have hba:Below w5.heap.size w5 (w5.alloc (.cells #[.slice e0 m.rooms.length g0,.slice e1 m.guilds.length g1,.slice e2 m.smiths.length g2,.slice e3 m.desks.length g3,.slice e4 m.paces.length g4,.int .i64 m.now,Xv (q (Xl m room pace))] 126)):=ba _ _
  have kp:Hid (Blk (w5.alloc (.cells #[.slice e0 m.rooms.length g0,.slice e1 m.guilds.length g1,.slice e2 m.smiths.length g2,.slice e3 m.desks.length g3,.slice e4 m.paces.length g4,.int .i64 m.now,Xv (q (Xl m room pace))] 126)) w5.heap.size 126 #[.slice e0 m.rooms.length g0,.slice e1 m.guilds.length g1,.slice e2 m.smiths.length g2,.slice e3 m.desks.length g3,.slice e4 m.paces.length g4,.int .i64 m.now,Xv (q (Xl m room pace))]):=Z9 (Blk.new _ _ _)
  have HF:=Z9 ((hf.mono (n₁:=w.heap.size+2) hsz).below hba)
  have h5:w.heap.size+2<=w5.heap.size:=Nat.le_trans hsz hb.size
  replace K:=(K.next hb).next hba
  replace kr:=bl (bl kr hb) hba
  clear hb hf hba
  obtain ⟨o0,o1,o2,o3,o4,o5⟩:=(uh kr).c6
  obtain ⟨f0,f1,f2,f3,f4,f5⟩:=(uh kr).f6
  go_wp2_with fail
  refine bodyPost_ret (v:= .tuple #[.agg E6,QJ w5.heap.size]) (by simp [results,Tryz.results35,go_sem, *]) rfl ⟨?_,.inr (.inr ⟨uh Hok,hc0,w5.heap.size,e0,g0,e1,g1,e2,g2,e3,g3,e4,g4,rs5,rfl,?_,?_⟩)⟩
  ·iterate 6 (refine Below.setCell ?_ (by show _<=w.heap.size+1;omega) _)
   exact K.bb
  ·iterate 6 (refine Blk.other ?_ (by show w5.heap.size ≠ w.heap.size+1;omega) _)
   exact uh kp
  ·refine FullSmy.mono (n₀:=w.heap.size+2) ?_ (by omega)
   iterate 6 (refine FullSmy.set_off ?_ (fun k e=>by have:=((uh HF).own e).1;omega) _ _)
   exact uh HF
theorem Pu  {q:Int->Addr} (room pace:Int) (he:Errs w q) (h:Smy w v0 v1 v2 v3 v4 m):Calls Tryz.prog 19 #[.agg #[v0,v1,v2,v3,v4,.int .i64 m.now],.int .i64 room,.int .i64 pace] w fun e w'=>TC w.heap.size (Yf m room pace).1 (Yf m room pace).2 e w'/\Below w.heap.size w w':=by
 have HE:=Z9 he
 clear he
 obtain ⟨a0,p0,a1,p1,a2,p2,a3,p3,a4,p4,rfl,rfl,rfl,rfl,rfl,K⟩:=Bx.new h
 clear h
 replace K:=((K.alloc (.cells #[.int .i64 room] 2)).alloc (.cells #[.int .i64 pace] 2)).alloc (.cells E6 32)
 have kr:Hid (Blk ((((w.alloc (.cells (S6 a0 p0 a1 p1 a2 p2 a3 p3 a4 p4 m) 32)).alloc (.cells #[.int .i64 room] 2)).alloc (.cells #[.int .i64 pace] 2)).alloc (.cells E6 32)) (w.heap.size+1+1+1) 32 E6):=Z9 (by
  have k:=Blk.new (((w.alloc (.cells (S6 a0 p0 a1 p1 a2 p2 a3 p3 a4 p4 m) 32)).alloc (.cells #[.int .i64 room] 2)).alloc (.cells #[.int .i64 pace] 2)) 32 E6
  rw [World.size_alloc,World.size_alloc,World.size_alloc] at k
  exact k)
 have kc:Hid (Blk ((((w.alloc (.cells (S6 a0 p0 a1 p1 a2 p2 a3 p3 a4 p4 m) 32)).alloc (.cells #[.int .i64 room] 2)).alloc (.cells #[.int .i64 pace] 2)).alloc (.cells E6 32)) (w.heap.size+1) 2 #[.int .i64 room]):=Z9 (by
  have k:=Blk.new (w.alloc (.cells (S6 a0 p0 a1 p1 a2 p2 a3 p3 a4 p4 m) 32)) 2 #[.int .i64 room]
  rw [World.size_alloc] at k
  exact (k.alloc _).alloc _)
 have kd:Hid (Blk ((((w.alloc (.cells (S6 a0 p0 a1 p1 a2 p2 a3 p3 a4 p4 m) 32)).alloc (.cells #[.int .i64 room] 2)).alloc (.cells #[.int .i64 pace] 2)).alloc (.cells E6 32)) (w.heap.size+1+1) 2 #[.int .i64 pace]):=Z9 (by
  have k:=Blk.new ((w.alloc (.cells (S6 a0 p0 a1 p1 a2 p2 a3 p3 a4 p4 m) 32)).alloc (.cells #[.int .i64 room] 2)) 2 #[.int .i64 pace]
  rw [World.size_alloc,World.size_alloc] at k
  exact k.alloc _)
 replace HE:=Z9 ((uh HE).below K.bb)
 have hsz:((((w.alloc (.cells (S6 a0 p0 a1 p1 a2 p2 a3 p3 a4 p4 m) 32)).alloc (.cells #[.int .i64 room] 2)).alloc (.cells #[.int .i64 pace] 2)).alloc (.cells E6 32)).heap.size=w.heap.size+1+1+1+1:=by simp
 obtain ⟨X9,hX9⟩:∃ x,PQ m (Xb m room pace) (Xl m room pace)=x:=⟨_,rfl⟩
 rw [De,hX9]
 have HX9:=Z9 hX9
 clear hX9
 go_enter Tryz.func19,Tryz.ntmps19
 go_upto_region 1 with fail
 generalize ((((w.alloc (.cells (S6 a0 p0 a1 p1 a2 p2 a3 p3 a4 p4 m) 32)).alloc (.cells #[.int .i64 room] 2)).alloc (.cells #[.int .i64 pace] 2)).alloc (.cells E6 32))=W1 at *
 obtain ⟨c0,c1,c2,c3,c4,c5⟩:=K.cells
 go_wp2_with fail
 refine (Nu K.smy (uh HE) room pace (uh kc) (uh kd)).mono ?_
 rintro e w2 ⟨hb,h9⟩
 replace K:=K.next hb
 replace kr:=bl kr hb
 replace HE:=Z9 ((uh HE).below hb)
 clear c0 c1 c2 c3 c4 c5 kc kd
 rcases h9 with ⟨hm,rfl⟩ | ⟨hm,hc0,b0,r0,b1,r1,b2,r2,b3,r3,b4,r4,rs,rfl,hf⟩ | ⟨hm,hc0,p,b0,r0,b1,r1,b2,r2,b3,r3,b4,r4,rs,rfl,kp,hf⟩
 ·
  have hX0:=Z9 ((uh HX9).symm.trans (Jk hm _ _))
  clear hb
  go_wp2_with fail
  refine ck (Fq (uh HE)) fun w3 hb=> ?_
  replace K:=K.next hb
  replace kr:=bl kr hb
  clear hb
  obtain ⟨o0,o1,o2,o3,o4,o5⟩:=(uh kr).c6
  obtain ⟨f0,f1,f2,f3,f4,f5⟩:=(uh kr).f6
  go_wp2_with fail
  refine bodyPost_ret (v:= .tuple #[.agg E6,.int .i64 3]) (by simp [results,Tryz.results19,go_sem, *]) rfl ⟨by rw [uh hX0];exact ⟨_,_,_,_,_,[],rfl,Y1 _ _⟩,?_⟩
  iterate 6 (refine Below.setCell ?_ (by show _<=w.heap.size+1+1+1;omega) _)
  exact K.bb
 ·
  have hX0:Hid (X9=(Zz (Xb m room pace),0)):=Z9 (by rw [<-uh HX9,hc0];exact Jl hm _)
  have HF:=Z9 (hf.mono (n₁:=w.heap.size+1+1+1+1) (by omega))
  clear hf hb HX9
  generalize Zz (Xb m room pace)=Y at *
  go_wp2_with fail
  refine Ef.mono ?_
  rintro e w3 ⟨rfl,hb⟩
  replace K:=K.next hb
  replace kr:=bl kr hb
  replace HF:=Z9 ((uh HF).below hb)
  clear hb
  obtain ⟨o0,o1,o2,o3,o4,o5⟩:=(uh kr).c6
  obtain ⟨f0,f1,f2,f3,f4,f5⟩:=(uh kr).f6
  go_wp2_with fail
  refine bodyPost_ret (v:= .tuple #[.agg (S6 b0 r0 b1 r1 b2 r2 b3 r3 b4 r4 Y),.int .i64 0]) (by simp [results,Tryz.results19,go_sem, *]) rfl ⟨?_,?_⟩
  ·rw [uh hX0]
   refine ⟨_,_,_,_,_,rs,rfl,?_⟩
   refine FullSmy.mono (n₀:=w.heap.size+1+1+1+1) ?_ (by omega)
   iterate 6 (refine FullSmy.set_off ?_ (fun k e=>by have:=((uh HF).own e).1;omega) _ _)
   exact uh HF
  ·iterate 6 (refine Below.setCell ?_ (by show _<=w.heap.size+1+1+1;omega) _)
   exact K.bb
 ·
  have hcn:(Xl m room pace) ≠ 0:=by omega
  have hX0:=Z9 ((uh HX9).symm.trans (Lx hm _ hcn))
  have HF:=Z9 (hf.mono (n₁:=w.heap.size+1+1+1+1) (by omega))
  have Hkp:=Z9 kp
  clear hf hb kp hcn HX9
  generalize Xl m room pace=cd at *
  go_wp2_with fail
  refine ck (Fs (uh HE) hc0 (uh Hkp)) fun w3 hb=> ?_
  replace K:=K.next hb
  replace kr:=bl kr hb
  replace HF:=Z9 ((uh HF).below hb)
  clear hb Hkp
  obtain ⟨o0,o1,o2,o3,o4,o5⟩:=(uh kr).c6
  obtain ⟨f0,f1,f2,f3,f4,f5⟩:=(uh kr).f6
  go_wp2_with fail
  refine bodyPost_ret (v:= .tuple #[.agg (S6 b0 r0 b1 r1 b2 r2 b3 r3 b4 r4 m),.int .i64 cd]) (by simp [results,Tryz.results19,go_sem, *]) rfl ⟨?_,?_⟩
  ·rw [uh hX0]
   refine ⟨_,_,_,_,_,rs,rfl,?_⟩
   refine FullSmy.mono (n₀:=w.heap.size+1+1+1+1) ?_ (by omega)
   iterate 6 (refine FullSmy.set_off ?_ (fun k e=>by have:=((uh HF).own e).1;omega) _ _)
   exact uh HF
  ·iterate 6 (refine Below.setCell ?_ (by show _<=w.heap.size+1+1+1;omega) _)
   exact K.bb
end Go.Proofs.YtffcgajndmhpkaaGreatDoor
